/- slices.EqualFunc and slices.Equal at the lists of a capture. -/
import Derived.Test.YtlimkckomdipkaaEq
namespace Go.Proofs.Ytlimkckomdipkaa
open Go.RowKit

theorem Byt.alloc2 {w : World} {B : Nat} {A : Option Addr} {bs : List Nat} (h : Byt w B A bs) (hB : B ≤ w.heap.size) (o1 o2 : Obj) : Byt ((w.alloc o1).alloc o2) ((w.alloc o1).alloc o2).heap.size A bs :=
  ((h.alloc hB o1).alloc (by rw [alloc_size]; omega) o2).more (by rw [alloc_size, alloc_size]; omega)
theorem below_alloc2 {w a w1 : World} {B : Nat} {o1 o2 : Obj} (h : Below B a w) (hB : B ≤ w.heap.size) (hb : Below ((w.alloc o1).alloc o2).heap.size ((w.alloc o1).alloc o2) w1) : Below B a w1 :=
  ((h.alloc hB o1).alloc (by rw [alloc_size]; omega) o2).trans (hb.mono (by rw [alloc_size, alloc_size]; omega))
theorem take_eq_succ {α : Type} {xs ys : List α} {k : Nat} (h1 : k < xs.length) (h2 : k < ys.length) (h : xs.take k = ys.take k) (he : xs[k] = ys[k]) : xs.take (k + 1) = ys.take (k + 1) := by
  rw [List.take_succ_eq_append_getElem h1, List.take_succ_eq_append_getElem h2, h, he]
theorem ne_of_at {α : Type} {xs ys : List α} {k : Nat} (h1 : k < xs.length) (h2 : k < ys.length) (he : ¬ xs[k] = ys[k]) : ¬ xs = ys := by
  intro e; subst e; exact he rfl

set_option maxRecDepth 100000 in
set_option maxHeartbeats 4000000 in
theorem namesq_any {w : World} {A1 A2 : Option Addr} {c1 c2 : Nat} {xs ys : List Nam} (h1 : Els 2 NamE w w.heap.size A1 xs) (h2 : Els 2 NamE w w.heap.size A2 ys) (l1 : xs.length ≤ 140737488355328) :
    Calls Try.prog 46 #[.slice A1 xs.length c1, .slice A2 ys.length c2, .func (.func 47) #[] #[]] w fun e w' => e = .returned (.bool (eqB xs ys)) ∧ Below w.heap.size w w' := by
  by_cases hlen : xs.length = ys.length
  rotate_left
  · have HR : Hid (eqB xs ys = false) := Lib.hid (eqB_false (fun e => hlen (by rw [e])))
    have hne : ((xs.length : Int) != (ys.length : Int)) = true := by rw [bne_iff_ne]; omega
    clear hlen
    go_enter Try.func46, Try.ntmps46
    go_wp2
    go_ret
    exact ⟨ret_bool HR.out.symm, Below.refl _ _⟩
  obtain ⟨B, hB⟩ : ∃ B, w.heap.size = B := ⟨_, rfl⟩
  have HB := Lib.hid hB
  obtain ⟨n, hn⟩ : ∃ n, ys.length = n := ⟨_, rfl⟩
  have HL1 := Lib.hid (hlen.trans hn)
  have HL2 := Lib.hid hn
  have H1 := Lib.hid h1
  have H2 := Lib.hid h2
  rw [hlen, hn]
  rw [hB] at H1 H2 ⊢
  rw [hlen, hn] at l1
  clear hB hn hlen h1 h2
  go_enter Try.func46, Try.ntmps46
  go_wp2
  go_loopw [17] (fun i wr => ∃ k : Nat, i = .int .i64 k ∧ k ≤ n ∧ Hid (xs.take k = ys.take k) ∧ Hid (Below B w wr)) (fun i _ => n - (intOf i).toNat)
  case atStart => exact ⟨0, rfl, Nat.zero_le _, Lib.hid (by simp), Lib.hid (Below.refl _ _)⟩
  case round =>
    obtain ⟨k, rfl, hk, HE, HW⟩ := hrel
    have hBw : B ≤ wr.heap.size := by have := HW.out.size; rw [HB.out] at this; exact this
    by_cases hlt : k < n
    · have hk1 : k < xs.length := by rw [HL1.out]; exact hlt
      have hk2 : k < ys.length := by rw [HL2.out]; exact hlt
      obtain ⟨b1, o1, hA1, hb1, vs1, hl1, ⟨D1, d1, rfl, hbyc1, hbig1⟩, hcx⟩ := (H1.out.keep namK HW.out (Nat.le_refl _)).row k hk1
      obtain ⟨b2, o2, hA2, hb2, vs2, hl2, ⟨D2, d2, rfl, hbyc2, hbig2⟩, hcy⟩ := (H2.out.keep namK HW.out (Nat.le_refl _)).row k hk2
      have x0 : wr.cell? ⟨b1, o1 + k * 2, none⟩ = _ := hcx 0 _ rfl
      have y0 : wr.cell? ⟨b2, o2 + k * 2, none⟩ = _ := hcy 0 _ rfl
      have x1 := hcx 1 _ rfl
      have y1 := hcy 1 _ rfl
      subst hA1
      subst hA2
      have lb1 : b1 < wr.heap.size := by omega
      have lb2 : b2 < wr.heap.size := by omega
      clear hcx hcy
      cases hq : eqB xs[k] ys[k] with
      | false =>
        have HR : Hid (eqB xs ys = false) := Lib.hid (eqB_false (ne_of_at hk1 hk2 (fun e => by rw [eqB_true e] at hq; cases hq)))
        have HQ := Lib.hid hq
        clear hq
        go_wp2_with fail
        refine (nameq_any (hbyc1.byt.alloc2 hBw _ _) (hbyc2.byt.alloc2 hBw _ _)).mono ?_
        rintro e w1 ⟨rfl, hB1⟩
        rw [HQ.out]
        have HW1 := Lib.hid (below_alloc2 HW.out hBw hB1)
        clear hB1
        go_wp2
        go_ret
        exact ⟨ret_bool HR.out.symm, HW1.out⟩
      | true =>
        have HE2 : Hid (xs.take (k + 1) = ys.take (k + 1)) := Lib.hid (take_eq_succ hk1 hk2 HE.out (eqB_iff.1 hq))
        have HQ := Lib.hid hq
        clear hq
        go_wp2_with fail
        refine (nameq_any (hbyc1.byt.alloc2 hBw _ _) (hbyc2.byt.alloc2 hBw _ _)).mono ?_
        rintro e w1 ⟨rfl, hB1⟩
        rw [HQ.out]
        have HW1 := Lib.hid (below_alloc2 HW.out hBw hB1)
        clear hB1
        go_wp2
        go_roundw
        case rel => exact ⟨k + 1, by go_num, by omega, HE2, HW1⟩
        case measure => simp [intOf]; omega
    · have hkn : k = n := by omega
      have HR : Hid (eqB xs ys = true) := Lib.hid (eqB_true (by
        have := HE.out
        rw [List.take_of_length_le (by rw [HL1.out, hkn]; exact Nat.le_refl _), List.take_of_length_le (by rw [HL2.out, hkn]; exact Nat.le_refl _)] at this
        exact this))
      go_wp2
      go_ret
      exact ⟨ret_bool HR.out.symm, HW.out⟩

set_option maxRecDepth 100000 in
set_option maxHeartbeats 4000000 in
theorem secsq_any {w : World} {A1 A2 : Option Addr} {c1 c2 : Nat} {xs ys : List Sec} (h1 : Els 2 SecE w w.heap.size A1 xs) (h2 : Els 2 SecE w w.heap.size A2 ys) (l1 : xs.length ≤ 140737488355328) :
    Calls Try.prog 48 #[.slice A1 xs.length c1, .slice A2 ys.length c2, .func (.func 49) #[] #[]] w fun e w' => e = .returned (.bool (eqB xs ys)) ∧ Below w.heap.size w w' := by
  by_cases hlen : xs.length = ys.length
  rotate_left
  · have HR : Hid (eqB xs ys = false) := Lib.hid (eqB_false (fun e => hlen (by rw [e])))
    have hne : ((xs.length : Int) != (ys.length : Int)) = true := by rw [bne_iff_ne]; omega
    clear hlen
    go_enter Try.func48, Try.ntmps48
    go_wp2
    go_ret
    exact ⟨ret_bool HR.out.symm, Below.refl _ _⟩
  obtain ⟨B, hB⟩ : ∃ B, w.heap.size = B := ⟨_, rfl⟩
  have HB := Lib.hid hB
  obtain ⟨n, hn⟩ : ∃ n, ys.length = n := ⟨_, rfl⟩
  have HL1 := Lib.hid (hlen.trans hn)
  have HL2 := Lib.hid hn
  have H1 := Lib.hid h1
  have H2 := Lib.hid h2
  rw [hlen, hn]
  rw [hB] at H1 H2 ⊢
  rw [hlen, hn] at l1
  clear hB hn hlen h1 h2
  go_enter Try.func48, Try.ntmps48
  go_wp2
  go_loopw [17] (fun i wr => ∃ k : Nat, i = .int .i64 k ∧ k ≤ n ∧ Hid (xs.take k = ys.take k) ∧ Hid (Below B w wr)) (fun i _ => n - (intOf i).toNat)
  case atStart => exact ⟨0, rfl, Nat.zero_le _, Lib.hid (by simp), Lib.hid (Below.refl _ _)⟩
  case round =>
    obtain ⟨k, rfl, hk, HE, HW⟩ := hrel
    have hBw : B ≤ wr.heap.size := by have := HW.out.size; rw [HB.out] at this; exact this
    by_cases hlt : k < n
    · have hk1 : k < xs.length := by rw [HL1.out]; exact hlt
      have hk2 : k < ys.length := by rw [HL2.out]; exact hlt
      obtain ⟨b1, o1, hA1, hb1, vs1, hl1, ⟨D1, d1, rfl, hbyc1, hbig1⟩, hcx⟩ := (H1.out.keep secK HW.out (Nat.le_refl _)).row k hk1
      obtain ⟨b2, o2, hA2, hb2, vs2, hl2, ⟨D2, d2, rfl, hbyc2, hbig2⟩, hcy⟩ := (H2.out.keep secK HW.out (Nat.le_refl _)).row k hk2
      have x0 : wr.cell? ⟨b1, o1 + k * 2, none⟩ = _ := hcx 0 _ rfl
      have y0 : wr.cell? ⟨b2, o2 + k * 2, none⟩ = _ := hcy 0 _ rfl
      have x1 := hcx 1 _ rfl
      have y1 := hcy 1 _ rfl
      subst hA1
      subst hA2
      have lb1 : b1 < wr.heap.size := by omega
      have lb2 : b2 < wr.heap.size := by omega
      clear hcx hcy
      cases hq : eqB xs[k] ys[k] with
      | false =>
        have HR : Hid (eqB xs ys = false) := Lib.hid (eqB_false (ne_of_at hk1 hk2 (fun e => by rw [eqB_true e] at hq; cases hq)))
        have HQ := Lib.hid hq
        clear hq
        go_wp2_with fail
        refine (seceq_any (hbyc1.byt.alloc2 hBw _ _) (hbyc2.byt.alloc2 hBw _ _)).mono ?_
        rintro e w1 ⟨rfl, hB1⟩
        rw [HQ.out]
        have HW1 := Lib.hid (below_alloc2 HW.out hBw hB1)
        clear hB1
        go_wp2
        go_ret
        exact ⟨ret_bool HR.out.symm, HW1.out⟩
      | true =>
        have HE2 : Hid (xs.take (k + 1) = ys.take (k + 1)) := Lib.hid (take_eq_succ hk1 hk2 HE.out (eqB_iff.1 hq))
        have HQ := Lib.hid hq
        clear hq
        go_wp2_with fail
        refine (seceq_any (hbyc1.byt.alloc2 hBw _ _) (hbyc2.byt.alloc2 hBw _ _)).mono ?_
        rintro e w1 ⟨rfl, hB1⟩
        rw [HQ.out]
        have HW1 := Lib.hid (below_alloc2 HW.out hBw hB1)
        clear hB1
        go_wp2
        go_roundw
        case rel => exact ⟨k + 1, by go_num, by omega, HE2, HW1⟩
        case measure => simp [intOf]; omega
    · have hkn : k = n := by omega
      have HR : Hid (eqB xs ys = true) := Lib.hid (eqB_true (by
        have := HE.out
        rw [List.take_of_length_le (by rw [HL1.out, hkn]; exact Nat.le_refl _), List.take_of_length_le (by rw [HL2.out, hkn]; exact Nat.le_refl _)] at this
        exact this))
      go_wp2
      go_ret
      exact ⟨ret_bool HR.out.symm, HW.out⟩

set_option maxRecDepth 100000 in
set_option maxHeartbeats 4000000 in
theorem pktsq_any {w : World} {A1 A2 : Option Addr} {c1 c2 : Nat} {xs ys : List Pkt} (h1 : Els 5 PktE w w.heap.size A1 xs) (h2 : Els 5 PktE w w.heap.size A2 ys) (l1 : xs.length ≤ 140737488355328) :
    Calls Try.prog 50 #[.slice A1 xs.length c1, .slice A2 ys.length c2, .func (.func 51) #[] #[]] w fun e w' => e = .returned (.bool (eqB xs ys)) ∧ Below w.heap.size w w' := by
  by_cases hlen : xs.length = ys.length
  rotate_left
  · have HR : Hid (eqB xs ys = false) := Lib.hid (eqB_false (fun e => hlen (by rw [e])))
    have hne : ((xs.length : Int) != (ys.length : Int)) = true := by rw [bne_iff_ne]; omega
    clear hlen
    go_enter Try.func50, Try.ntmps50
    go_wp2
    go_ret
    exact ⟨ret_bool HR.out.symm, Below.refl _ _⟩
  obtain ⟨B, hB⟩ : ∃ B, w.heap.size = B := ⟨_, rfl⟩
  have HB := Lib.hid hB
  obtain ⟨n, hn⟩ : ∃ n, ys.length = n := ⟨_, rfl⟩
  have HL1 := Lib.hid (hlen.trans hn)
  have HL2 := Lib.hid hn
  have H1 := Lib.hid h1
  have H2 := Lib.hid h2
  rw [hlen, hn]
  rw [hB] at H1 H2 ⊢
  rw [hlen, hn] at l1
  clear hB hn hlen h1 h2
  go_enter Try.func50, Try.ntmps50
  go_wp2
  go_loopw [17] (fun i wr => ∃ k : Nat, i = .int .i64 k ∧ k ≤ n ∧ Hid (xs.take k = ys.take k) ∧ Hid (Below B w wr)) (fun i _ => n - (intOf i).toNat)
  case atStart => exact ⟨0, rfl, Nat.zero_le _, Lib.hid (by simp), Lib.hid (Below.refl _ _)⟩
  case round =>
    obtain ⟨k, rfl, hk, HE, HW⟩ := hrel
    have hBw : B ≤ wr.heap.size := by have := HW.out.size; rw [HB.out] at this; exact this
    by_cases hlt : k < n
    · have hk1 : k < xs.length := by rw [HL1.out]; exact hlt
      have hk2 : k < ys.length := by rw [HL2.out]; exact hlt
      obtain ⟨b1, o1, hA1, hb1, vs1, hl1, ⟨D1, d1, rfl, hbyc1, hbig1, _, _, _⟩, hcx⟩ := (H1.out.keep pktK HW.out (Nat.le_refl _)).row k hk1
      obtain ⟨b2, o2, hA2, hb2, vs2, hl2, ⟨D2, d2, rfl, hbyc2, hbig2, _, _, _⟩, hcy⟩ := (H2.out.keep pktK HW.out (Nat.le_refl _)).row k hk2
      have x0 : wr.cell? ⟨b1, o1 + k * 5, none⟩ = _ := hcx 0 _ rfl
      have y0 : wr.cell? ⟨b2, o2 + k * 5, none⟩ = _ := hcy 0 _ rfl
      have x1 := hcx 1 _ rfl
      have y1 := hcy 1 _ rfl
      have x2 := hcx 2 _ rfl
      have y2 := hcy 2 _ rfl
      have x3 := hcx 3 _ rfl
      have y3 := hcy 3 _ rfl
      have x4 := hcx 4 _ rfl
      have y4 := hcy 4 _ rfl
      subst hA1
      subst hA2
      have lb1 : b1 < wr.heap.size := by omega
      have lb2 : b2 < wr.heap.size := by omega
      clear hcx hcy
      cases hq : eqB xs[k] ys[k] with
      | false =>
        have HR : Hid (eqB xs ys = false) := Lib.hid (eqB_false (ne_of_at hk1 hk2 (fun e => by rw [eqB_true e] at hq; cases hq)))
        have HQ := Lib.hid hq
        clear hq
        go_wp2_with fail
        refine (pkteq_any (hbyc1.byt.alloc2 hBw _ _) (hbyc2.byt.alloc2 hBw _ _)).mono ?_
        rintro e w1 ⟨rfl, hB1⟩
        rw [HQ.out]
        have HW1 := Lib.hid (below_alloc2 HW.out hBw hB1)
        clear hB1
        go_wp2
        go_ret
        exact ⟨ret_bool HR.out.symm, HW1.out⟩
      | true =>
        have HE2 : Hid (xs.take (k + 1) = ys.take (k + 1)) := Lib.hid (take_eq_succ hk1 hk2 HE.out (eqB_iff.1 hq))
        have HQ := Lib.hid hq
        clear hq
        go_wp2_with fail
        refine (pkteq_any (hbyc1.byt.alloc2 hBw _ _) (hbyc2.byt.alloc2 hBw _ _)).mono ?_
        rintro e w1 ⟨rfl, hB1⟩
        rw [HQ.out]
        have HW1 := Lib.hid (below_alloc2 HW.out hBw hB1)
        clear hB1
        go_wp2
        go_roundw
        case rel => exact ⟨k + 1, by go_num, by omega, HE2, HW1⟩
        case measure => simp [intOf]; omega
    · have hkn : k = n := by omega
      have HR : Hid (eqB xs ys = true) := Lib.hid (eqB_true (by
        have := HE.out
        rw [List.take_of_length_le (by rw [HL1.out, hkn]; exact Nat.le_refl _), List.take_of_length_le (by rw [HL2.out, hkn]; exact Nat.le_refl _)] at this
        exact this))
      go_wp2
      go_ret
      exact ⟨ret_bool HR.out.symm, HW.out⟩
end Go.Proofs.Ytlimkckomdipkaa
/- slices.Equal at faces. -/
namespace Go.Proofs.Ytlimkckomdipkaa
open Go.RowKit
abbrev facL (f : Fac) : Array Value := #[.string f.name, .int .i64 f.link, .int .i64 f.snap]
set_option maxRecDepth 20000 in
theorem neq_fac (f g : Fac) (w : World) : Sem.run Try.prog (binOp .neq 54 (.agg (facL f)) (.agg (facL g))) w = .ok (.bool (!eqB f g)) w := by
  have u3 := Try.underlying3
  have u9 := Try.underlying9
  have a3 := Try.isAgg3
  have a9 := Try.isAgg9
  have z3 := Try.sizeOf3
  have z9 := Try.sizeOf9
  have hS : Try.prog.underlying 54 = some (.struct (Try.prog.fieldsOf 54)) := by kernel_rfl
  have hp : Try.prog.stoodInHeld 54 = false := by kernel_rfl
  rw [run_neq_struct, show (10000 : Nat) = 9999 + 1 from rfl, run_equalIn_agg w 9999 54 _ _ hS hp]
  simp only [Program.fieldsOf, Try.underlying54]
  go_simp
  by_cases h1 : f.name = g.name
  rotate_left
  · have h1' : ¬ f.name.toList = g.name.toList := beq_eq_false_iff_ne.1 (str_ne h1)
    rw [eqB_false (fun e => h1 (by rw [e]))]; simp [h1']
  by_cases h2 : f.link = g.link
  rotate_left
  · rw [eqB_false (fun e => h2 (by rw [e])), h1]; simp [h2]
  by_cases h3 : f.snap = g.snap
  rotate_left
  · rw [eqB_false (fun e => h3 (by rw [e])), h1]; simp [h2, h3]
  rw [eqB_true (by cases f; cases g; simp only at h1 h2 h3; rw [h1, h2, h3]), h1]
  simp [h2, h3]
theorem grd_fac (f g : Fac) (a b : Operand) (w : World) : (eqGuard .neq 54 a b (.agg (facL f)) (.agg (facL g))).run Try.prog w = .ok () w :=
  run_eqGuard_agg w .neq 54 a b _ _ (by kernel_rfl)

set_option maxRecDepth 100000 in
set_option maxHeartbeats 4000000 in
theorem facsq_any {w : World} {A1 A2 : Option Addr} {c1 c2 : Nat} {xs ys : List Fac} (h1 : Els 3 FacE w w.heap.size A1 xs) (h2 : Els 3 FacE w w.heap.size A2 ys) (l1 : xs.length ≤ 140737488355328) :
    Calls Try.prog 45 #[.slice A1 xs.length c1, .slice A2 ys.length c2] w fun e w' => e = .returned (.bool (eqB xs ys)) ∧ Below w.heap.size w w' := by
  by_cases hlen : xs.length = ys.length
  rotate_left
  · have HR : Hid (eqB xs ys = false) := Lib.hid (eqB_false (fun e => hlen (by rw [e])))
    have hne : ((xs.length : Int) != (ys.length : Int)) = true := by rw [bne_iff_ne]; omega
    clear hlen
    go_enter Try.func45, Try.ntmps45
    go_wp2
    go_ret
    exact ⟨ret_bool HR.out.symm, Below.refl _ _⟩
  obtain ⟨B, hB⟩ : ∃ B, w.heap.size = B := ⟨_, rfl⟩
  have HB := Lib.hid hB
  obtain ⟨n, hn⟩ : ∃ n, ys.length = n := ⟨_, rfl⟩
  have HL1 := Lib.hid (hlen.trans hn)
  have HL2 := Lib.hid hn
  have H1 := Lib.hid h1
  have H2 := Lib.hid h2
  rw [hlen, hn]
  rw [hB] at H1 H2 ⊢
  rw [hlen, hn] at l1
  clear hB hn hlen h1 h2
  go_enter Try.func45, Try.ntmps45
  go_wp2
  go_loopw [5, 13] (fun _ i wr => ∃ k : Nat, i = .int .i64 k ∧ k ≤ n ∧ Hid (xs.take k = ys.take k) ∧ Hid (Below B w wr)) (fun _ i _ => n - (intOf i).toNat)
  case atStart => exact ⟨0, rfl, Nat.zero_le _, Lib.hid (by simp), Lib.hid (Below.refl _ _)⟩
  case round =>
    obtain ⟨k, rfl, hk, HE, HW⟩ := hrel
    by_cases hlt : k < n
    · have hk1 : k < xs.length := by rw [HL1.out]; exact hlt
      have hk2 : k < ys.length := by rw [HL2.out]; exact hlt
      obtain ⟨b1, o1, hA1, hb1, vs1, hl1, ⟨rfl, _, _, _⟩, hcx⟩ := (H1.out.keep facK HW.out (Nat.le_refl _)).row k hk1
      obtain ⟨b2, o2, hA2, hb2, vs2, hl2, ⟨rfl, _, _, _⟩, hcy⟩ := (H2.out.keep facK HW.out (Nat.le_refl _)).row k hk2
      have x0 : wr.cell? ⟨b1, o1 + k * 3, none⟩ = _ := hcx 0 _ rfl
      have y0 : wr.cell? ⟨b2, o2 + k * 3, none⟩ = _ := hcy 0 _ rfl
      have x1 := hcx 1 _ rfl
      have y1 := hcy 1 _ rfl
      have x2 := hcx 2 _ rfl
      have y2 := hcy 2 _ rfl
      have hnq := fun w => neq_fac xs[k] ys[k] w
      have hgd := fun a b w => grd_fac xs[k] ys[k] a b w
      unfold facL at hnq hgd
      subst hA1
      subst hA2
      clear hcx hcy
      cases hq : eqB xs[k] ys[k] with
      | false =>
        have HR : Hid (eqB xs ys = false) := Lib.hid (by
          refine eqB_false (fun e => ?_)
          have : xs[k] = ys[k] := by simp only [e]
          rw [eqB_true this] at hq; cases hq)
        rw [hq] at hnq
        clear hq
        go_wp2
        go_quiet (fail)
        go_wp2
        go_ret
        exact ⟨ret_bool HR.out.symm, below_drewN HW.out _⟩
      | true =>
        have HE2 : Hid (xs.take (k + 1) = ys.take (k + 1)) := Lib.hid (by
          rw [List.take_succ_eq_append_getElem hk1, List.take_succ_eq_append_getElem hk2, HE.out, eqB_iff.1 hq])
        rw [hq] at hnq
        clear hq
        go_wp2
        go_quiet (fail)
        go_wp2
        go_roundw
        case rel => exact ⟨k + 1, by go_num, by omega, HE2, Lib.hid (below_drewN HW.out _)⟩
        case measure => simp [intOf]; omega
    · have hkn : k = n := by omega
      have HR : Hid (eqB xs ys = true) := Lib.hid (eqB_true (by
        have := HE.out
        rw [List.take_of_length_le (by rw [HL1.out, hkn]; exact Nat.le_refl _), List.take_of_length_le (by rw [HL2.out, hkn]; exact Nat.le_refl _)] at this
        exact this))
      go_wp2
      go_ret
      exact ⟨ret_bool HR.out.symm, HW.out⟩
end Go.Proofs.Ytlimkckomdipkaa
/- Same: the program's. -/
namespace Go.Proofs.Ytlimkckomdipkaa
open Go.RowKit

/-- The world in which Same asks: both captures boxed. -/
abbrev box2 (w : World) (v1 v2 : Value) : World := (w.alloc (.cells v1.cells 27)).alloc (.cells v2.cells 27)
theorem below_box2 (w : World) (v1 v2 : Value) : Below w.heap.size w (box2 w v1 v2) := ((Below.refl _ _).alloc (Nat.le_refl _) _).alloc (by rw [alloc_size]; omega) _
theorem size_box2 (w : World) (v1 v2 : Value) : (box2 w v1 v2).heap.size = w.heap.size + 2 := by rw [alloc_size, alloc_size]

set_option maxRecDepth 100000 in
set_option maxHeartbeats 8000000 in
theorem same_any {w : World} {p q : Pl} {c d : Cap} (hc : CapM w w.heap.size p c) (hd : CapM w w.heap.size q d) :
    Calls Try.prog 21 #[capV p c, capV q d] w fun e w' => e = .returned (.bool (eqB c d)) ∧ Below w.heap.size w w' := by
  have lf : c.faces.length ≤ 140737488355328 := by have := hc.lf; omega
  have ln : c.names.length ≤ 140737488355328 := by have := hc.ln; omega
  have ls : c.secs.length ≤ 140737488355328 := by have := hc.ls; omega
  have lp : c.pkts.length ≤ 140737488355328 := by have := hc.lp; omega
  have HC := Lib.hid (fun (w1 : World) (hb : Below w.heap.size w w1) => hc.keep hb hb.size)
  have HD := Lib.hid (fun (w1 : World) (hb : Below w.heap.size w w1) => hd.keep hb hb.size)
  clear hc hd
  by_cases hnote : c.note = d.note
  rotate_left
  · have HR : Hid (eqB c d = false) := Lib.hid (eqB_false (fun e => hnote (by rw [e])))
    have hne := str_ne hnote
    clear hnote
    go_enter Try.func21, Try.ntmps21
    go_wp2
    go_ret
    exact ⟨ret_bool HR.out.symm, ((Below.refl _ _).alloc (Nat.le_refl _) _).alloc (by rw [alloc_size]; omega) _⟩
  have EN := Lib.hid hnote
  rw [capV, hnote]
  clear hnote
  have HW0 := Lib.hid (below_box2 w (.agg #[.string d.note, .slice p.pf c.faces.length p.cf, .slice p.pn c.names.length p.cn, .slice p.ps c.secs.length p.cs, .slice p.pp c.pkts.length p.cp]) (capV q d))
  cases h1 : eqB c.faces d.faces with
  | false =>
    have HR : Hid (eqB c d = false) := Lib.hid (eqB_false (fun e => by rw [e, eqB_true rfl] at h1; cases h1))
    have H1 := Lib.hid h1
    clear h1
    go_enter Try.func21, Try.ntmps21
    go_wp2_with fail
    refine (facsq_any (HC.out _ HW0.out).faces (HD.out _ HW0.out).faces lf).mono ?_
    rintro e w1 ⟨rfl, hB1⟩
    rw [H1.out]
    have HW1 := Lib.hid (HW0.out.trans (hB1.mono HW0.out.size))
    have HX1 := Lib.hid hB1
    obtain ⟨hc1, hf1⟩ := bcell hB1
    clear hB1
    go_wp2
    go_ret
    exact ⟨ret_bool HR.out.symm, HW1.out⟩
  | true =>
    have H1 := Lib.hid h1
    clear h1
    cases h2 : eqB c.names d.names with
    | false =>
      have HR : Hid (eqB c d = false) := Lib.hid (eqB_false (fun e => by rw [e, eqB_true rfl] at h2; cases h2))
      have H2 := Lib.hid h2
      clear h2
      go_enter Try.func21, Try.ntmps21
      go_wp2_with fail
      refine (facsq_any (HC.out _ HW0.out).faces (HD.out _ HW0.out).faces lf).mono ?_
      rintro e w1 ⟨rfl, hB1⟩
      rw [H1.out]
      have HW1 := Lib.hid (HW0.out.trans (hB1.mono HW0.out.size))
      have HX1 := Lib.hid hB1
      obtain ⟨hc1, hf1⟩ := bcell hB1
      clear hB1
      go_wp2_with fail
      refine (namesq_any (HC.out _ HW1.out).names (HD.out _ HW1.out).names ln).mono ?_
      rintro e w2 ⟨rfl, hB2⟩
      rw [H2.out]
      have HW2 := Lib.hid (HW1.out.trans (hB2.mono HW1.out.size))
      have HX2 := Lib.hid (HX1.out.trans (hB2.mono HX1.out.size))
      clear hc1 hf1
      obtain ⟨hc2, hf2⟩ := bcell HX2.out
      clear hB2
      go_wp2
      go_ret
      exact ⟨ret_bool HR.out.symm, HW2.out⟩
    | true =>
      have H2 := Lib.hid h2
      clear h2
      cases h3 : eqB c.secs d.secs with
      | false =>
        have HR : Hid (eqB c d = false) := Lib.hid (eqB_false (fun e => by rw [e, eqB_true rfl] at h3; cases h3))
        have H3 := Lib.hid h3
        clear h3
        go_enter Try.func21, Try.ntmps21
        go_wp2_with fail
        refine (facsq_any (HC.out _ HW0.out).faces (HD.out _ HW0.out).faces lf).mono ?_
        rintro e w1 ⟨rfl, hB1⟩
        rw [H1.out]
        have HW1 := Lib.hid (HW0.out.trans (hB1.mono HW0.out.size))
        have HX1 := Lib.hid hB1
        obtain ⟨hc1, hf1⟩ := bcell hB1
        clear hB1
        go_wp2_with fail
        refine (namesq_any (HC.out _ HW1.out).names (HD.out _ HW1.out).names ln).mono ?_
        rintro e w2 ⟨rfl, hB2⟩
        rw [H2.out]
        have HW2 := Lib.hid (HW1.out.trans (hB2.mono HW1.out.size))
        have HX2 := Lib.hid (HX1.out.trans (hB2.mono HX1.out.size))
        clear hc1 hf1
        obtain ⟨hc2, hf2⟩ := bcell HX2.out
        clear hB2
        go_wp2_with fail
        refine (secsq_any (HC.out _ HW2.out).secs (HD.out _ HW2.out).secs ls).mono ?_
        rintro e w3 ⟨rfl, hB3⟩
        rw [H3.out]
        have HW3 := Lib.hid (HW2.out.trans (hB3.mono HW2.out.size))
        have HX3 := Lib.hid (HX2.out.trans (hB3.mono HX2.out.size))
        clear hc2 hf2
        obtain ⟨hc3, hf3⟩ := bcell HX3.out
        clear hB3
        go_wp2
        go_ret
        exact ⟨ret_bool HR.out.symm, HW3.out⟩
      | true =>
        have H3 := Lib.hid h3
        clear h3
        cases h4 : eqB c.pkts d.pkts with
        | false =>
          have HR : Hid (eqB c d = false) := Lib.hid (eqB_false (fun e => by rw [e, eqB_true rfl] at h4; cases h4))
          have H4 := Lib.hid h4
          clear h4
          go_enter Try.func21, Try.ntmps21
          go_wp2_with fail
          refine (facsq_any (HC.out _ HW0.out).faces (HD.out _ HW0.out).faces lf).mono ?_
          rintro e w1 ⟨rfl, hB1⟩
          rw [H1.out]
          have HW1 := Lib.hid (HW0.out.trans (hB1.mono HW0.out.size))
          have HX1 := Lib.hid hB1
          obtain ⟨hc1, hf1⟩ := bcell hB1
          clear hB1
          go_wp2_with fail
          refine (namesq_any (HC.out _ HW1.out).names (HD.out _ HW1.out).names ln).mono ?_
          rintro e w2 ⟨rfl, hB2⟩
          rw [H2.out]
          have HW2 := Lib.hid (HW1.out.trans (hB2.mono HW1.out.size))
          have HX2 := Lib.hid (HX1.out.trans (hB2.mono HX1.out.size))
          clear hc1 hf1
          obtain ⟨hc2, hf2⟩ := bcell HX2.out
          clear hB2
          go_wp2_with fail
          refine (secsq_any (HC.out _ HW2.out).secs (HD.out _ HW2.out).secs ls).mono ?_
          rintro e w3 ⟨rfl, hB3⟩
          rw [H3.out]
          have HW3 := Lib.hid (HW2.out.trans (hB3.mono HW2.out.size))
          have HX3 := Lib.hid (HX2.out.trans (hB3.mono HX2.out.size))
          clear hc2 hf2
          obtain ⟨hc3, hf3⟩ := bcell HX3.out
          clear hB3
          go_wp2_with fail
          refine (pktsq_any (HC.out _ HW3.out).pkts (HD.out _ HW3.out).pkts lp).mono ?_
          rintro e w4 ⟨rfl, hB4⟩
          rw [H4.out]
          have HW4 := Lib.hid (HW3.out.trans (hB4.mono HW3.out.size))
          have HX4 := Lib.hid (HX3.out.trans (hB4.mono HX3.out.size))
          clear hc3 hf3
          obtain ⟨hc4, hf4⟩ := bcell HX4.out
          clear hB4
          go_wp2
          go_ret
          exact ⟨ret_bool HR.out.symm, HW4.out⟩
        | true =>
          have H4 := Lib.hid h4
          clear h4
          have HR : Hid (eqB c d = true) := Lib.hid (eqB_true (by
            have a0 := EN.out
            have a1 := eqB_iff.1 H1.out
            have a2 := eqB_iff.1 H2.out
            have a3 := eqB_iff.1 H3.out
            have a4 := eqB_iff.1 H4.out
            cases c; cases d; simp only at a0 a1 a2 a3 a4; rw [a0, a1, a2, a3, a4]))
          go_enter Try.func21, Try.ntmps21
          go_wp2_with fail
          refine (facsq_any (HC.out _ HW0.out).faces (HD.out _ HW0.out).faces lf).mono ?_
          rintro e w1 ⟨rfl, hB1⟩
          rw [H1.out]
          have HW1 := Lib.hid (HW0.out.trans (hB1.mono HW0.out.size))
          have HX1 := Lib.hid hB1
          obtain ⟨hc1, hf1⟩ := bcell hB1
          clear hB1
          go_wp2_with fail
          refine (namesq_any (HC.out _ HW1.out).names (HD.out _ HW1.out).names ln).mono ?_
          rintro e w2 ⟨rfl, hB2⟩
          rw [H2.out]
          have HW2 := Lib.hid (HW1.out.trans (hB2.mono HW1.out.size))
          have HX2 := Lib.hid (HX1.out.trans (hB2.mono HX1.out.size))
          clear hc1 hf1
          obtain ⟨hc2, hf2⟩ := bcell HX2.out
          clear hB2
          go_wp2_with fail
          refine (secsq_any (HC.out _ HW2.out).secs (HD.out _ HW2.out).secs ls).mono ?_
          rintro e w3 ⟨rfl, hB3⟩
          rw [H3.out]
          have HW3 := Lib.hid (HW2.out.trans (hB3.mono HW2.out.size))
          have HX3 := Lib.hid (HX2.out.trans (hB3.mono HX2.out.size))
          clear hc2 hf2
          obtain ⟨hc3, hf3⟩ := bcell HX3.out
          clear hB3
          go_wp2_with fail
          refine (pktsq_any (HC.out _ HW3.out).pkts (HD.out _ HW3.out).pkts lp).mono ?_
          rintro e w4 ⟨rfl, hB4⟩
          rw [H4.out]
          have HW4 := Lib.hid (HW3.out.trans (hB4.mono HW3.out.size))
          have HX4 := Lib.hid (HX3.out.trans (hB4.mono HX3.out.size))
          clear hc3 hf3
          obtain ⟨hc4, hf4⟩ := bcell HX4.out
          clear hB4
          go_wp2
          go_ret
          exact ⟨ret_bool HR.out.symm, HW4.out⟩
end Go.Proofs.Ytlimkckomdipkaa
