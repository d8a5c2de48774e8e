/- slices.EqualFunc and slices.Equal at the lists of a capture. -/
import Derived.Test.YtlimkckomdipkaaEq
namespace Go.Proofs.Ytlimkckomdipkaa
open Go.RowKit

theorem Byt.alloc2 {w : World} {B : Nat} {A : Option Addr} {bs : List Nat} (h : Byt w B A bs) (hB : B ≤ w.heap.size) (o1 o2 : Obj) : Byt ((w.alloc o1).alloc o2) ((w.alloc o1).alloc o2).heap.size A bs :=
  ((h.alloc hB o1).alloc (by rw [alloc_size]; omega) o2).more (by rw [alloc_size, alloc_size]; omega)
theorem below_alloc2 {w a w1 : World} {B : Nat} {o1 o2 : Obj} (h : Below B a w) (hB : B ≤ w.heap.size) (hb : Below ((w.alloc o1).alloc o2).heap.size ((w.alloc o1).alloc o2) w1) : Below B a w1 :=
  ((h.alloc hB o1).alloc (by rw [alloc_size]; omega) o2).trans (hb.mono (by rw [alloc_size, alloc_size]; omega))
theorem take_eq_succ {α : Type} {xs ys : List α} {k : Nat} (h1 : k < xs.length) (h2 : k < ys.length) (h : xs.take k = ys.take k) (he : xs[k] = ys[k]) : xs.take (k + 1) = ys.take (k + 1) := by
  rw [List.take_succ_eq_append_getElem h1, List.take_succ_eq_append_getElem h2, h, he]
theorem ne_of_at {α : Type} {xs ys : List α} {k : Nat} (h1 : k < xs.length) (h2 : k < ys.length) (he : ¬ xs[k] = ys[k]) : ¬ xs = ys := by
  intro e; subst e; exact he rfl

set_option maxRecDepth 100000 in
set_option maxHeartbeats 4000000 in
theorem namesq_any {w : World} {A1 A2 : Option Addr} {c1 c2 : Nat} {xs ys : List Nam} (h1 : Els 2 NamE w w.heap.size A1 xs) (h2 : Els 2 NamE w w.heap.size A2 ys) (l1 : xs.length ≤ 140737488355328) :
    Calls Try.prog 46 #[.slice A1 xs.length c1, .slice A2 ys.length c2, .func (.func 47) #[] #[]] w fun e w' => e = .returned (.bool (eqB xs ys)) ∧ Below w.heap.size w w' := by
  by_cases hlen : xs.length = ys.length
  rotate_left
  · have HR : Hid (eqB xs ys = false) := Lib.hid (eqB_false (fun e => hlen (by rw [e])))
    have hne : ((xs.length : Int) != (ys.length : Int)) = true := by rw [bne_iff_ne]; omega
    clear hlen
    go_enter Try.func46, Try.ntmps46
    go_wp2
    go_ret
    exact ⟨ret_bool HR.out.symm, Below.refl _ _⟩
  obtain ⟨B, hB⟩ : ∃ B, w.heap.size = B := ⟨_, rfl⟩
  have HB := Lib.hid hB
  obtain ⟨n, hn⟩ : ∃ n, ys.length = n := ⟨_, rfl⟩
  have HL1 := Lib.hid (hlen.trans hn)
  have HL2 := Lib.hid hn
  have H1 := Lib.hid h1
  have H2 := Lib.hid h2
  rw [hlen, hn]
  rw [hB] at H1 H2 ⊢
  rw [hlen, hn] at l1
  clear hB hn hlen h1 h2
  go_enter Try.func46, Try.ntmps46
  go_wp2
  go_loopw [17] (fun i wr => ∃ k : Nat, i = .int .i64 k ∧ k ≤ n ∧ Hid (xs.take k = ys.take k) ∧ Hid (Below B w wr)) (fun i _ => n - (intOf i).toNat)
  case atStart => exact ⟨0, rfl, Nat.zero_le _, Lib.hid (by simp), Lib.hid (Below.refl _ _)⟩
  case round =>
    obtain ⟨k, rfl, hk, HE, HW⟩ := hrel
    have hBw : B ≤ wr.heap.size := by have := HW.out.size; rw [HB.out] at this; exact this
    by_cases hlt : k < n
    · have hk1 : k < xs.length := by rw [HL1.out]; exact hlt
      have hk2 : k < ys.length := by rw [HL2.out]; exact hlt
      obtain ⟨b1, o1, hA1, hb1, vs1, hl1, ⟨D1, d1, rfl, hbyc1, hbig1⟩, hcx⟩ := (H1.out.keep namK HW.out (Nat.le_refl _)).row k hk1
      obtain ⟨b2, o2, hA2, hb2, vs2, hl2, ⟨D2, d2, rfl, hbyc2, hbig2⟩, hcy⟩ := (H2.out.keep namK HW.out (Nat.le_refl _)).row k hk2
      have x0 : wr.cell? ⟨b1, o1 + k * 2, none⟩ = _ := hcx 0 _ rfl
      have y0 : wr.cell? ⟨b2, o2 + k * 2, none⟩ = _ := hcy 0 _ rfl
      have x1 := hcx 1 _ rfl
      have y1 := hcy 1 _ rfl
      subst hA1
      subst hA2
      have lb1 : b1 < wr.heap.size := by omega
      have lb2 : b2 < wr.heap.size := by omega
      clear hcx hcy
      cases hq : eqB xs[k] ys[k] with
      | false =>
        have HR : Hid (eqB xs ys = false) := Lib.hid (eqB_false (ne_of_at hk1 hk2 (fun e => by rw [eqB_true e] at hq; cases hq)))
        have HQ := Lib.hid hq
        clear hq
        go_wp2_with fail
        refine (nameq_any (hbyc1.byt.alloc2 hBw _ _) (hbyc2.byt.alloc2 hBw _ _)).mono ?_
        rintro e w1 ⟨rfl, hB1⟩
        rw [HQ.out]
        have HW1 := Lib.hid (below_alloc2 HW.out hBw hB1)
        clear hB1
        go_wp2
        go_ret
        exact ⟨ret_bool HR.out.symm, HW1.out⟩
      | true =>
        have HE2 : Hid (xs.take (k + 1) = ys.take (k + 1)) := Lib.hid (take_eq_succ hk1 hk2 HE.out (eqB_iff.1 hq))
        have HQ := Lib.hid hq
        clear hq
        go_wp2_with fail
        refine (nameq_any (hbyc1.byt.alloc2 hBw _ _) (hbyc2.byt.alloc2 hBw _ _)).mono ?_
        rintro e w1 ⟨rfl, hB1⟩
        rw [HQ.out]
        have HW1 := Lib.hid (below_alloc2 HW.out hBw hB1)
        clear hB1
        go_wp2
        go_roundw
        case rel => exact ⟨k + 1, by go_num, by omega, HE2, HW1⟩
        case measure => simp [intOf]; omega
    · have hkn : k = n := by omega
      have HR : Hid (eqB xs ys = true) := Lib.hid (eqB_true (by
        have := HE.out
        rw [List.take_of_length_le (by rw [HL1.out, hkn]; exact Nat.le_refl _), List.take_of_length_le (by rw [HL2.out, hkn]; exact Nat.le_refl _)] at this
        exact this))
      go_wp2
      go_ret
      exact ⟨ret_bool HR.out.symm, HW.out⟩

set_option maxRecDepth 100000 in
set_option maxHeartbeats 4000000 in
theorem secsq_any {w : World} {A1 A2 : Option Addr} {c1 c2 : Nat} {xs ys : List Sec} (h1 : Els 2 SecE w w.heap.size A1 xs) (h2 : Els 2 SecE w w.heap.size A2 ys) (l1 : xs.length ≤ 140737488355328) :
    Calls Try.prog 48 #[.slice A1 xs.length c1, .slice A2 ys.length c2, .func (.func 49) #[] #[]] w fun e w' => e = .returned (.bool (eqB xs ys)) ∧ Below w.heap.size w w' := by
  by_cases hlen : xs.length = ys.length
  rotate_left
  · have HR : Hid (eqB xs ys = false) := Lib.hid (eqB_false (fun e => hlen (by rw [e])))
    have hne : ((xs.length : Int) != (ys.length : Int)) = true := by rw [bne_iff_ne]; omega
    clear hlen
    go_enter Try.func48, Try.ntmps48
    go_wp2
    go_ret
    exact ⟨ret_bool HR.out.symm, Below.refl _ _⟩
  obtain ⟨B, hB⟩ : ∃ B, w.heap.size = B := ⟨_, rfl⟩
  have HB := Lib.hid hB
  obtain ⟨n, hn⟩ : ∃ n, ys.length = n := ⟨_, rfl⟩
  have HL1 := Lib.hid (hlen.trans hn)
  have HL2 := Lib.hid hn
  have H1 := Lib.hid h1
  have H2 := Lib.hid h2
  rw [hlen, hn]
  rw [hB] at H1 H2 ⊢
  rw [hlen, hn] at l1
  clear hB hn hlen h1 h2
  go_enter Try.func48, Try.ntmps48
  go_wp2
  go_loopw [17] (fun i wr => ∃ k : Nat, i = .int .i64 k ∧ k ≤ n ∧ Hid (xs.take k = ys.take k) ∧ Hid (Below B w wr)) (fun i _ => n - (intOf i).toNat)
  case atStart => exact ⟨0, rfl, Nat.zero_le _, Lib.hid (by simp), Lib.hid (Below.refl _ _)⟩
  case round =>
    obtain ⟨k, rfl, hk, HE, HW⟩ := hrel
    have hBw : B ≤ wr.heap.size := by have := HW.out.size; rw [HB.out] at this; exact this
    by_cases hlt : k < n
    · have hk1 : k < xs.length := by rw [HL1.out]; exact hlt
      have hk2 : k < ys.length := by rw [HL2.out]; exact hlt
      obtain ⟨b1, o1, hA1, hb1, vs1, hl1, ⟨D1, d1, rfl, hbyc1, hbig1⟩, hcx⟩ := (H1.out.keep secK HW.out (Nat.le_refl _)).row k hk1
      obtain ⟨b2, o2, hA2, hb2, vs2, hl2, ⟨D2, d2, rfl, hbyc2, hbig2⟩, hcy⟩ := (H2.out.keep secK HW.out (Nat.le_refl _)).row k hk2
      have x0 : wr.cell? ⟨b1, o1 + k * 2, none⟩ = _ := hcx 0 _ rfl
      have y0 : wr.cell? ⟨b2, o2 + k * 2, none⟩ = _ := hcy 0 _ rfl
      have x1 := hcx 1 _ rfl
      have y1 := hcy 1 _ rfl
      subst hA1
      subst hA2
      have lb1 : b1 < wr.heap.size := by omega
      have lb2 : b2 < wr.heap.size := by omega
      clear hcx hcy
      cases hq : eqB xs[k] ys[k] with
      | false =>
        have HR : Hid (eqB xs ys = false) := Lib.hid (eqB_false (ne_of_at hk1 hk2 (fun e => by rw [eqB_true e] at hq; cases hq)))
        have HQ := Lib.hid hq
        clear hq
        go_wp2_with fail
        refine (seceq_any (hbyc1.byt.alloc2 hBw _ _) (hbyc2.byt.alloc2 hBw _ _)).mono ?_
        rintro e w1 ⟨rfl, hB1⟩
        rw [HQ.out]
        have HW1 := Lib.hid (below_alloc2 HW.out hBw hB1)
        clear hB1
        go_wp2
        go_ret
        exact ⟨ret_bool HR.out.symm, HW1.out⟩
      | true =>
        have HE2 : Hid (xs.take (k + 1) = ys.take (k + 1)) := Lib.hid (take_eq_succ hk1 hk2 HE.out (eqB_iff.1 hq))
        have HQ := Lib.hid hq
        clear hq
        go_wp2_with fail
        refine (seceq_any (hbyc1.byt.alloc2 hBw _ _) (hbyc2.byt.alloc2 hBw _ _)).mono ?_
        rintro e w1 ⟨rfl, hB1⟩
        rw [HQ.out]
        have HW1 := Lib.hid (below_alloc2 HW.out hBw hB1)
        clear hB1
        go_wp2
        go_roundw
        case rel => exact ⟨k + 1, by go_num, by omega, HE2, HW1⟩
        case measure => simp [intOf]; omega
    · have hkn : k = n := by omega
      have HR : Hid (eqB xs ys = true) := Lib.hid (eqB_true (by
        have := HE.out
        rw [List.take_of_length_le (by rw [HL1.out, hkn]; exact Nat.le_refl _), List.take_of_length_le (by rw [HL2.out, hkn]; exact Nat.le_refl _)] at this
        exact this))
      go_wp2
      go_ret
      exact ⟨ret_bool HR.out.symm, HW.out⟩

set_option maxRecDepth 100000 in
set_option maxHeartbeats 4000000 in
theorem pktsq_any {w : World} {A1 A2 : Option Addr} {c1 c2 : Nat} {xs ys : List Pkt} (h1 : Els 5 PktE w w.heap.size A1 xs) (h2 : Els 5 PktE w w.heap.size A2 ys) (l1 : xs.length ≤ 140737488355328) :
    Calls Try.prog 50 #[.slice A1 xs.length c1, .slice A2 ys.length c2, .func (.func 51) #[] #[]] w fun e w' => e = .returned (.bool (eqB xs ys)) ∧ Below w.heap.size w w' := by
  by_cases hlen : xs.length = ys.length
  rotate_left
  · have HR : Hid (eqB xs ys = false) := Lib.hid (eqB_false (fun e => hlen (by rw [e])))
    have hne : ((xs.length : Int) != (ys.length : Int)) = true := by rw [bne_iff_ne]; omega
    clear hlen
    go_enter Try.func50, Try.ntmps50
    go_wp2
    go_ret
    exact ⟨ret_bool HR.out.symm, Below.refl _ _⟩
  obtain ⟨B, hB⟩ : ∃ B, w.heap.size = B := ⟨_, rfl⟩
  have HB := Lib.hid hB
  obtain ⟨n, hn⟩ : ∃ n, ys.length = n := ⟨_, rfl⟩
  have HL1 := Lib.hid (hlen.trans hn)
  have HL2 := Lib.hid hn
  have H1 := Lib.hid h1
  have H2 := Lib.hid h2
  rw [hlen, hn]
  rw [hB] at H1 H2 ⊢
  rw [hlen, hn] at l1
  clear hB hn hlen h1 h2
  go_enter Try.func50, Try.ntmps50
  go_wp2
  go_loopw [17] (fun i wr => ∃ k : Nat, i = .int .i64 k ∧ k ≤ n ∧ Hid (xs.take k = ys.take k) ∧ Hid (Below B w wr)) (fun i _ => n - (intOf i).toNat)
  case atStart => exact ⟨0, rfl, Nat.zero_le _, Lib.hid (by simp), Lib.hid (Below.refl _ _)⟩
  case round =>
    obtain ⟨k, rfl, hk, HE, HW⟩ := hrel
    have hBw : B ≤ wr.heap.size := by have := HW.out.size; rw [HB.out] at this; exact this
    by_cases hlt : k < n
    · have hk1 : k < xs.length := by rw [HL1.out]; exact hlt
      have hk2 : k < ys.length := by rw [HL2.out]; exact hlt
      obtain ⟨b1, o1, hA1, hb1, vs1, hl1, ⟨D1, d1, rfl, hbyc1, hbig1, _, _, _⟩, hcx⟩ := (H1.out.keep pktK HW.out (Nat.le_refl _)).row k hk1
      obtain ⟨b2, o2, hA2, hb2, vs2, hl2, ⟨D2, d2, rfl, hbyc2, hbig2, _, _, _⟩, hcy⟩ := (H2.out.keep pktK HW.out (Nat.le_refl _)).row k hk2
      have x0 : wr.cell? ⟨b1, o1 + k * 5, none⟩ = _ := hcx 0 _ rfl
      have y0 : wr.cell? ⟨b2, o2 + k * 5, none⟩ = _ := hcy 0 _ rfl
      have x1 := hcx 1 _ rfl
      have y1 := hcy 1 _ rfl
      have x2 := hcx 2 _ rfl
      have y2 := hcy 2 _ rfl
      have x3 := hcx 3 _ rfl
      have y3 := hcy 3 _ rfl
      have x4 := hcx 4 _ rfl
      have y4 := hcy 4 _ rfl
      subst hA1
      subst hA2
      have lb1 : b1 < wr.heap.size := by omega
      have lb2 : b2 < wr.heap.size := by omega
      clear hcx hcy
      cases hq : eqB xs[k] ys[k] with
      | false =>
        have HR : Hid (eqB xs ys = false) := Lib.hid (eqB_false (ne_of_at hk1 hk2 (fun e => by rw [eqB_true e] at hq; cases hq)))
        have HQ := Lib.hid hq
        clear hq
        go_wp2_with fail
        refine (pkteq_any (hbyc1.byt.alloc2 hBw _ _) (hbyc2.byt.alloc2 hBw _ _)).mono ?_
        rintro e w1 ⟨rfl, hB1⟩
        rw [HQ.out]
        have HW1 := Lib.hid (below_alloc2 HW.out hBw hB1)
        clear hB1
        go_wp2
        go_ret
        exact ⟨ret_bool HR.out.symm, HW1.out⟩
      | true =>
        have HE2 : Hid (xs.take (k + 1) = ys.take (k + 1)) := Lib.hid (take_eq_succ hk1 hk2 HE.out (eqB_iff.1 hq))
        have HQ := Lib.hid hq
        clear hq
        go_wp2_with fail
        refine (pkteq_any (hbyc1.byt.alloc2 hBw _ _) (hbyc2.byt.alloc2 hBw _ _)).mono ?_
        rintro e w1 ⟨rfl, hB1⟩
        rw [HQ.out]
        have HW1 := Lib.hid (below_alloc2 HW.out hBw hB1)
        clear hB1
        go_wp2
        go_roundw
        case rel => exact ⟨k + 1, by go_num, by omega, HE2, HW1⟩
        case measure => simp [intOf]; omega
    · have hkn : k = n := by omega
      have HR : Hid (eqB xs ys = true) := Lib.hid (eqB_true (by
        have := HE.out
        rw [List.take_of_length_le (by rw [HL1.out, hkn]; exact Nat.le_refl _), List.take_of_length_le (by rw [HL2.out, hkn]; exact Nat.le_refl _)] at this
        exact this))
      go_wp2
      go_ret
      exact ⟨ret_bool HR.out.symm, HW.out⟩
end Go.Proofs.Ytlimkckomdipkaa
