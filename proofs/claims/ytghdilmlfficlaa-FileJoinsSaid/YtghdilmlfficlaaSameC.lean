/- slices.EqualFunc at the lists of a capture. -/
import Derived.Test.YtghdilmlfficlaaSameH
import Derived.Test.YtghdilmlfficlaaWith
import Derived.Test.YtghdilmlfficlaaS16
namespace Go.Proofs.Ytghdilmlfficlaa
open Go.RowKit

set_option maxRecDepth 100000 in
set_option maxHeartbeats 4000000 in
theorem namesq_any {w : World} {A1 A2 : Option Addr} {c1 c2 : Nat} {xs ys : List Nam} (h1 : Els 2 NamE w w.heap.size A1 xs) (h2 : Els 2 NamE w w.heap.size A2 ys) (l1 : xs.length ≤ 140737488355328) :
    Calls Try.prog 111 #[.slice A1 xs.length c1, .slice A2 ys.length c2, .func (.func 112) #[] #[]] w fun e w' => e = .returned (.bool (eqB xs ys)) ∧ Below w.heap.size w w' := by
  by_cases hlen : xs.length = ys.length
  rotate_left
  · have HR : Hid (eqB xs ys = false) := Lib.hid (eqB_false (fun e => hlen (by rw [e])))
    have hne : ((xs.length : Int) != (ys.length : Int)) = true := by rw [bne_iff_ne]; omega
    clear hlen
    go_enter Try.func111, Try.ntmps111
    go_wp2
    go_ret
    exact ⟨ret_bool HR.out.symm, Below.refl _ _⟩
  obtain ⟨B, hB⟩ : ∃ B, w.heap.size = B := ⟨_, rfl⟩
  have HB := Lib.hid hB
  obtain ⟨n, hn⟩ : ∃ n, ys.length = n := ⟨_, rfl⟩
  have HL1 := Lib.hid (hlen.trans hn)
  have HL2 := Lib.hid hn
  have H1 := Lib.hid h1
  have H2 := Lib.hid h2
  rw [hlen, hn]
  rw [hB] at H1 H2 ⊢
  rw [hlen, hn] at l1
  clear hB hn hlen h1 h2
  go_enter Try.func111, Try.ntmps111
  go_wp2
  go_loopw [17] (fun i wr => ∃ k : Nat, i = .int .i64 k ∧ k ≤ n ∧ Hid (xs.take k = ys.take k) ∧ Hid (Below B w wr)) (fun i _ => n - (intOf i).toNat)
  case atStart => exact ⟨0, rfl, Nat.zero_le _, Lib.hid (by simp), Lib.hid (Below.refl _ _)⟩
  case round =>
    obtain ⟨k, rfl, hk, HE, HW⟩ := hrel
    have hBw : B ≤ wr.heap.size := by have := HW.out.size; rw [HB.out] at this; exact this
    by_cases hlt : k < n
    · have hk1 : k < xs.length := by rw [HL1.out]; exact hlt
      have hk2 : k < ys.length := by rw [HL2.out]; exact hlt
      obtain ⟨b1, o1, hA1, hb1, vs1, hl1, ⟨D1, d1, rfl, hbyc1, hbig1⟩, hcx⟩ := (H1.out.keep namK HW.out (Nat.le_refl _)).row k hk1
      obtain ⟨b2, o2, hA2, hb2, vs2, hl2, ⟨D2, d2, rfl, hbyc2, hbig2⟩, hcy⟩ := (H2.out.keep namK HW.out (Nat.le_refl _)).row k hk2
      have x0 : wr.cell? ⟨b1, o1 + k * 2, none⟩ = _ := hcx 0 _ rfl
      have y0 : wr.cell? ⟨b2, o2 + k * 2, none⟩ = _ := hcy 0 _ rfl
      have x1 := hcx 1 _ rfl
      have y1 := hcy 1 _ rfl
      subst hA1
      subst hA2
      have lb1 : b1 < wr.heap.size := by omega
      have lb2 : b2 < wr.heap.size := by omega
      clear hcx hcy
      cases hq : eqB xs[k] ys[k] with
      | false =>
        have HR : Hid (eqB xs ys = false) := Lib.hid (eqB_false (ne_of_at hk1 hk2 (fun e => by rw [eqB_true e] at hq; cases hq)))
        have HQ := Lib.hid hq
        clear hq
        go_wp2_with fail
        refine (nameq_any (hbyc1.byt.alloc2 hBw _ _) (hbyc2.byt.alloc2 hBw _ _)).mono ?_
        rintro e w1 ⟨rfl, hB1⟩
        rw [HQ.out]
        have HW1 := Lib.hid (below_alloc2 HW.out hBw hB1)
        clear hB1
        go_wp2
        go_ret
        exact ⟨ret_bool HR.out.symm, HW1.out⟩
      | true =>
        have HE2 : Hid (xs.take (k + 1) = ys.take (k + 1)) := Lib.hid (take_eq_succ hk1 hk2 HE.out (eqB_iff.1 hq))
        have HQ := Lib.hid hq
        clear hq
        go_wp2_with fail
        refine (nameq_any (hbyc1.byt.alloc2 hBw _ _) (hbyc2.byt.alloc2 hBw _ _)).mono ?_
        rintro e w1 ⟨rfl, hB1⟩
        rw [HQ.out]
        have HW1 := Lib.hid (below_alloc2 HW.out hBw hB1)
        clear hB1
        go_wp2
        go_roundw
        case rel => exact ⟨k + 1, by go_num, by omega, HE2, HW1⟩
        case measure => simp [intOf]; omega
    · have hkn : k = n := by omega
      have HR : Hid (eqB xs ys = true) := Lib.hid (eqB_true (by
        have := HE.out
        rw [List.take_of_length_le (by rw [HL1.out, hkn]; exact Nat.le_refl _), List.take_of_length_le (by rw [HL2.out, hkn]; exact Nat.le_refl _)] at this
        exact this))
      go_wp2
      go_ret
      exact ⟨ret_bool HR.out.symm, HW.out⟩

set_option maxRecDepth 100000 in
set_option maxHeartbeats 4000000 in
theorem secsq_any {w : World} {A1 A2 : Option Addr} {c1 c2 : Nat} {xs ys : List Sec} (h1 : Els 2 SecE w w.heap.size A1 xs) (h2 : Els 2 SecE w w.heap.size A2 ys) (l1 : xs.length ≤ 140737488355328) :
    Calls Try.prog 113 #[.slice A1 xs.length c1, .slice A2 ys.length c2, .func (.func 114) #[] #[]] w fun e w' => e = .returned (.bool (eqB xs ys)) ∧ Below w.heap.size w w' := by
  by_cases hlen : xs.length = ys.length
  rotate_left
  · have HR : Hid (eqB xs ys = false) := Lib.hid (eqB_false (fun e => hlen (by rw [e])))
    have hne : ((xs.length : Int) != (ys.length : Int)) = true := by rw [bne_iff_ne]; omega
    clear hlen
    go_enter Try.func113, Try.ntmps113
    go_wp2
    go_ret
    exact ⟨ret_bool HR.out.symm, Below.refl _ _⟩
  obtain ⟨B, hB⟩ : ∃ B, w.heap.size = B := ⟨_, rfl⟩
  have HB := Lib.hid hB
  obtain ⟨n, hn⟩ : ∃ n, ys.length = n := ⟨_, rfl⟩
  have HL1 := Lib.hid (hlen.trans hn)
  have HL2 := Lib.hid hn
  have H1 := Lib.hid h1
  have H2 := Lib.hid h2
  rw [hlen, hn]
  rw [hB] at H1 H2 ⊢
  rw [hlen, hn] at l1
  clear hB hn hlen h1 h2
  go_enter Try.func113, Try.ntmps113
  go_wp2
  go_loopw [17] (fun i wr => ∃ k : Nat, i = .int .i64 k ∧ k ≤ n ∧ Hid (xs.take k = ys.take k) ∧ Hid (Below B w wr)) (fun i _ => n - (intOf i).toNat)
  case atStart => exact ⟨0, rfl, Nat.zero_le _, Lib.hid (by simp), Lib.hid (Below.refl _ _)⟩
  case round =>
    obtain ⟨k, rfl, hk, HE, HW⟩ := hrel
    have hBw : B ≤ wr.heap.size := by have := HW.out.size; rw [HB.out] at this; exact this
    by_cases hlt : k < n
    · have hk1 : k < xs.length := by rw [HL1.out]; exact hlt
      have hk2 : k < ys.length := by rw [HL2.out]; exact hlt
      obtain ⟨b1, o1, hA1, hb1, vs1, hl1, ⟨D1, d1, rfl, hbyc1, hbig1⟩, hcx⟩ := (H1.out.keep secK HW.out (Nat.le_refl _)).row k hk1
      obtain ⟨b2, o2, hA2, hb2, vs2, hl2, ⟨D2, d2, rfl, hbyc2, hbig2⟩, hcy⟩ := (H2.out.keep secK HW.out (Nat.le_refl _)).row k hk2
      have x0 : wr.cell? ⟨b1, o1 + k * 2, none⟩ = _ := hcx 0 _ rfl
      have y0 : wr.cell? ⟨b2, o2 + k * 2, none⟩ = _ := hcy 0 _ rfl
      have x1 := hcx 1 _ rfl
      have y1 := hcy 1 _ rfl
      subst hA1
      subst hA2
      have lb1 : b1 < wr.heap.size := by omega
      have lb2 : b2 < wr.heap.size := by omega
      clear hcx hcy
      cases hq : eqB xs[k] ys[k] with
      | false =>
        have HR : Hid (eqB xs ys = false) := Lib.hid (eqB_false (ne_of_at hk1 hk2 (fun e => by rw [eqB_true e] at hq; cases hq)))
        have HQ := Lib.hid hq
        clear hq
        go_wp2_with fail
        refine (seceq_any (hbyc1.byt.alloc2 hBw _ _) (hbyc2.byt.alloc2 hBw _ _)).mono ?_
        rintro e w1 ⟨rfl, hB1⟩
        rw [HQ.out]
        have HW1 := Lib.hid (below_alloc2 HW.out hBw hB1)
        clear hB1
        go_wp2
        go_ret
        exact ⟨ret_bool HR.out.symm, HW1.out⟩
      | true =>
        have HE2 : Hid (xs.take (k + 1) = ys.take (k + 1)) := Lib.hid (take_eq_succ hk1 hk2 HE.out (eqB_iff.1 hq))
        have HQ := Lib.hid hq
        clear hq
        go_wp2_with fail
        refine (seceq_any (hbyc1.byt.alloc2 hBw _ _) (hbyc2.byt.alloc2 hBw _ _)).mono ?_
        rintro e w1 ⟨rfl, hB1⟩
        rw [HQ.out]
        have HW1 := Lib.hid (below_alloc2 HW.out hBw hB1)
        clear hB1
        go_wp2
        go_roundw
        case rel => exact ⟨k + 1, by go_num, by omega, HE2, HW1⟩
        case measure => simp [intOf]; omega
    · have hkn : k = n := by omega
      have HR : Hid (eqB xs ys = true) := Lib.hid (eqB_true (by
        have := HE.out
        rw [List.take_of_length_le (by rw [HL1.out, hkn]; exact Nat.le_refl _), List.take_of_length_le (by rw [HL2.out, hkn]; exact Nat.le_refl _)] at this
        exact this))
      go_wp2
      go_ret
      exact ⟨ret_bool HR.out.symm, HW.out⟩

set_option maxRecDepth 100000 in
set_option maxHeartbeats 4000000 in
theorem pktsq_any {w : World} {A1 A2 : Option Addr} {c1 c2 : Nat} {xs ys : List Pkt} (h1 : Els 5 PktE w w.heap.size A1 xs) (h2 : Els 5 PktE w w.heap.size A2 ys) (l1 : xs.length ≤ 140737488355328) :
    Calls Try.prog 115 #[.slice A1 xs.length c1, .slice A2 ys.length c2, .func (.func 116) #[] #[]] w fun e w' => e = .returned (.bool (eqB xs ys)) ∧ Below w.heap.size w w' := by
  by_cases hlen : xs.length = ys.length
  rotate_left
  · have HR : Hid (eqB xs ys = false) := Lib.hid (eqB_false (fun e => hlen (by rw [e])))
    have hne : ((xs.length : Int) != (ys.length : Int)) = true := by rw [bne_iff_ne]; omega
    clear hlen
    go_enter Try.func115, Try.ntmps115
    go_wp2
    go_ret
    exact ⟨ret_bool HR.out.symm, Below.refl _ _⟩
  obtain ⟨B, hB⟩ : ∃ B, w.heap.size = B := ⟨_, rfl⟩
  have HB := Lib.hid hB
  obtain ⟨n, hn⟩ : ∃ n, ys.length = n := ⟨_, rfl⟩
  have HL1 := Lib.hid (hlen.trans hn)
  have HL2 := Lib.hid hn
  have H1 := Lib.hid h1
  have H2 := Lib.hid h2
  rw [hlen, hn]
  rw [hB] at H1 H2 ⊢
  rw [hlen, hn] at l1
  clear hB hn hlen h1 h2
  go_enter Try.func115, Try.ntmps115
  go_wp2
  go_loopw [17] (fun i wr => ∃ k : Nat, i = .int .i64 k ∧ k ≤ n ∧ Hid (xs.take k = ys.take k) ∧ Hid (Below B w wr)) (fun i _ => n - (intOf i).toNat)
  case atStart => exact ⟨0, rfl, Nat.zero_le _, Lib.hid (by simp), Lib.hid (Below.refl _ _)⟩
  case round =>
    obtain ⟨k, rfl, hk, HE, HW⟩ := hrel
    have hBw : B ≤ wr.heap.size := by have := HW.out.size; rw [HB.out] at this; exact this
    by_cases hlt : k < n
    · have hk1 : k < xs.length := by rw [HL1.out]; exact hlt
      have hk2 : k < ys.length := by rw [HL2.out]; exact hlt
      obtain ⟨b1, o1, hA1, hb1, vs1, hl1, ⟨D1, d1, rfl, hbyc1, hbig1, _, _, _⟩, hcx⟩ := (H1.out.keep pktK HW.out (Nat.le_refl _)).row k hk1
      obtain ⟨b2, o2, hA2, hb2, vs2, hl2, ⟨D2, d2, rfl, hbyc2, hbig2, _, _, _⟩, hcy⟩ := (H2.out.keep pktK HW.out (Nat.le_refl _)).row k hk2
      have x0 : wr.cell? ⟨b1, o1 + k * 5, none⟩ = _ := hcx 0 _ rfl
      have y0 : wr.cell? ⟨b2, o2 + k * 5, none⟩ = _ := hcy 0 _ rfl
      have x1 := hcx 1 _ rfl
      have y1 := hcy 1 _ rfl
      have x2 := hcx 2 _ rfl
      have y2 := hcy 2 _ rfl
      have x3 := hcx 3 _ rfl
      have y3 := hcy 3 _ rfl
      have x4 := hcx 4 _ rfl
      have y4 := hcy 4 _ rfl
      subst hA1
      subst hA2
      have lb1 : b1 < wr.heap.size := by omega
      have lb2 : b2 < wr.heap.size := by omega
      clear hcx hcy
      cases hq : eqB xs[k] ys[k] with
      | false =>
        have HR : Hid (eqB xs ys = false) := Lib.hid (eqB_false (ne_of_at hk1 hk2 (fun e => by rw [eqB_true e] at hq; cases hq)))
        have HQ := Lib.hid hq
        clear hq
        go_wp2_with fail
        refine (pkteq_any (hbyc1.byt.alloc2 hBw _ _) (hbyc2.byt.alloc2 hBw _ _)).mono ?_
        rintro e w1 ⟨rfl, hB1⟩
        rw [HQ.out]
        have HW1 := Lib.hid (below_alloc2 HW.out hBw hB1)
        clear hB1
        go_wp2
        go_ret
        exact ⟨ret_bool HR.out.symm, HW1.out⟩
      | true =>
        have HE2 : Hid (xs.take (k + 1) = ys.take (k + 1)) := Lib.hid (take_eq_succ hk1 hk2 HE.out (eqB_iff.1 hq))
        have HQ := Lib.hid hq
        clear hq
        go_wp2_with fail
        refine (pkteq_any (hbyc1.byt.alloc2 hBw _ _) (hbyc2.byt.alloc2 hBw _ _)).mono ?_
        rintro e w1 ⟨rfl, hB1⟩
        rw [HQ.out]
        have HW1 := Lib.hid (below_alloc2 HW.out hBw hB1)
        clear hB1
        go_wp2
        go_roundw
        case rel => exact ⟨k + 1, by go_num, by omega, HE2, HW1⟩
        case measure => simp [intOf]; omega
    · have hkn : k = n := by omega
      have HR : Hid (eqB xs ys = true) := Lib.hid (eqB_true (by
        have := HE.out
        rw [List.take_of_length_le (by rw [HL1.out, hkn]; exact Nat.le_refl _), List.take_of_length_le (by rw [HL2.out, hkn]; exact Nat.le_refl _)] at this
        exact this))
      go_wp2
      go_ret
      exact ⟨ret_bool HR.out.symm, HW.out⟩
end Go.Proofs.Ytghdilmlfficlaa
/- slices.Equal at faces. -/
namespace Go.Proofs.Ytghdilmlfficlaa
open Go.RowKit

set_option maxRecDepth 100000 in
set_option maxHeartbeats 4000000 in
theorem facsq_any {w : World} {A1 A2 : Option Addr} {c1 c2 : Nat} {xs ys : List Fac} (h1 : Els 3 FacE w w.heap.size A1 xs) (h2 : Els 3 FacE w w.heap.size A2 ys) (l1 : xs.length ≤ 140737488355328) :
    Calls Try.prog 110 #[.slice A1 xs.length c1, .slice A2 ys.length c2] w fun e w' => e = .returned (.bool (eqB xs ys)) ∧ Below w.heap.size w w' := by
  by_cases hlen : xs.length = ys.length
  rotate_left
  · have HR : Hid (eqB xs ys = false) := Lib.hid (eqB_false (fun e => hlen (by rw [e])))
    have hne : ((xs.length : Int) != (ys.length : Int)) = true := by rw [bne_iff_ne]; omega
    clear hlen
    go_enter Try.func110, Try.ntmps110
    go_wp2
    go_ret
    exact ⟨ret_bool HR.out.symm, Below.refl _ _⟩
  obtain ⟨B, hB⟩ : ∃ B, w.heap.size = B := ⟨_, rfl⟩
  have HB := Lib.hid hB
  obtain ⟨n, hn⟩ : ∃ n, ys.length = n := ⟨_, rfl⟩
  have HL1 := Lib.hid (hlen.trans hn)
  have HL2 := Lib.hid hn
  have H1 := Lib.hid h1
  have H2 := Lib.hid h2
  rw [hlen, hn]
  rw [hB] at H1 H2 ⊢
  rw [hlen, hn] at l1
  clear hB hn hlen h1 h2
  go_enter Try.func110, Try.ntmps110
  go_wp2
  go_loopw [5, 13] (fun _ i wr => ∃ k : Nat, i = .int .i64 k ∧ k ≤ n ∧ Hid (xs.take k = ys.take k) ∧ Hid (Below B w wr)) (fun _ i _ => n - (intOf i).toNat)
  case atStart => exact ⟨0, rfl, Nat.zero_le _, Lib.hid (by simp), Lib.hid (Below.refl _ _)⟩
  case round =>
    obtain ⟨k, rfl, hk, HE, HW⟩ := hrel
    by_cases hlt : k < n
    · have hk1 : k < xs.length := by rw [HL1.out]; exact hlt
      have hk2 : k < ys.length := by rw [HL2.out]; exact hlt
      obtain ⟨b1, o1, hA1, hb1, vs1, hl1, ⟨rfl, _, _, _⟩, hcx⟩ := (H1.out.keep facK HW.out (Nat.le_refl _)).row k hk1
      obtain ⟨b2, o2, hA2, hb2, vs2, hl2, ⟨rfl, _, _, _⟩, hcy⟩ := (H2.out.keep facK HW.out (Nat.le_refl _)).row k hk2
      have x0 : wr.cell? ⟨b1, o1 + k * 3, none⟩ = _ := hcx 0 _ rfl
      have y0 : wr.cell? ⟨b2, o2 + k * 3, none⟩ = _ := hcy 0 _ rfl
      have x1 := hcx 1 _ rfl
      have y1 := hcy 1 _ rfl
      have x2 := hcx 2 _ rfl
      have y2 := hcy 2 _ rfl
      have hnq := fun w => neq_fac xs[k] ys[k] w
      have hgd := fun a b w => grd_fac xs[k] ys[k] a b w
      unfold facL at hnq hgd
      subst hA1
      subst hA2
      clear hcx hcy
      cases hq : eqB xs[k] ys[k] with
      | false =>
        have HR : Hid (eqB xs ys = false) := Lib.hid (by
          refine eqB_false (fun e => ?_)
          have : xs[k] = ys[k] := by simp only [e]
          rw [eqB_true this] at hq; cases hq)
        rw [hq] at hnq
        clear hq
        go_wp2
        go_quiet (fail)
        go_wp2
        go_ret
        exact ⟨ret_bool HR.out.symm, below_drewN HW.out _⟩
      | true =>
        have HE2 : Hid (xs.take (k + 1) = ys.take (k + 1)) := Lib.hid (by
          rw [List.take_succ_eq_append_getElem hk1, List.take_succ_eq_append_getElem hk2, HE.out, eqB_iff.1 hq])
        rw [hq] at hnq
        clear hq
        go_wp2
        go_quiet (fail)
        go_wp2
        go_roundw
        case rel => exact ⟨k + 1, by go_num, by omega, HE2, Lib.hid (below_drewN HW.out _)⟩
        case measure => simp [intOf]; omega
    · have hkn : k = n := by omega
      have HR : Hid (eqB xs ys = true) := Lib.hid (eqB_true (by
        have := HE.out
        rw [List.take_of_length_le (by rw [HL1.out, hkn]; exact Nat.le_refl _), List.take_of_length_le (by rw [HL2.out, hkn]; exact Nat.le_refl _)] at this
        exact this))
      go_wp2
      go_ret
      exact ⟨ret_bool HR.out.symm, HW.out⟩
end Go.Proofs.Ytghdilmlfficlaa
/- Same: the program's. -/
namespace Go.Proofs.Ytghdilmlfficlaa
open Go.RowKit

set_option maxRecDepth 100000 in
set_option maxHeartbeats 8000000 in
theorem same_any {w : World} {p q : Pl} {c d : Cap} (hc : CapM w w.heap.size p c) (hd : CapM w w.heap.size q d) :
    Calls Try.prog 74 #[capV p c, capV q d] w fun e w' => e = .returned (.bool (eqB c d)) ∧ Below w.heap.size w w' := by
  obtain ⟨B, hB⟩ : ∃ B, w.heap.size = B := ⟨_, rfl⟩
  obtain ⟨w0, e0, s0, g0, b0, k0⟩ := w_box hB #[.string c.note, .slice p.pf c.faces.length p.cf, .slice p.pn c.names.length p.cn, .slice p.ps c.secs.length p.cs, .slice p.pp c.pkts.length p.cp] 31
  obtain ⟨w1, e1, s1, g1, b1, k1⟩ := w_box s0 #[.string d.note, .slice q.pf d.faces.length q.cf, .slice q.pn d.names.length q.cn, .slice q.ps d.secs.length q.cs, .slice q.pp d.pkts.length q.cp] 31
  have lf : c.faces.length ≤ 140737488355328 := by have := hc.lf; omega
  have ln : c.names.length ≤ 140737488355328 := by have := hc.ln; omega
  have ls : c.secs.length ≤ 140737488355328 := by have := hc.ls; omega
  have lp : c.pkts.length ≤ 140737488355328 := by have := hc.lp; omega
  have HC : Hid (∀ W, Below B w W → CapM W W.heap.size p c) := Lib.hid (fun W hb => hc.keep (by rw [hB]; exact hb) hb.size)
  have HD : Hid (∀ W, Below B w W → CapM W W.heap.size q d) := Lib.hid (fun W hb => hd.keep (by rw [hB]; exact hb) hb.size)
  have HW1 : Hid (Blk w1 B 31 #[.string c.note, .slice p.pf c.faces.length p.cf, .slice p.pn c.names.length p.cn, .slice p.ps c.secs.length p.cs, .slice p.pp c.pkts.length p.cp] ∧ Blk w1 (B + 1) 31 #[.string d.note, .slice q.pf d.faces.length q.cf, .slice q.pn d.names.length q.cn, .slice q.ps d.secs.length q.cs, .slice q.pp d.pkts.length q.cp] ∧ Below B w w1) := Lib.hid ⟨k1 _ _ _ g0, g1, b0.trans (b1.mono (by omega))⟩
  have HE0 := Lib.hid e0
  have HE1 := Lib.hid e1
  have n0 : w1.cell? ⟨B, 0, none⟩ = some (.string c.note) := HW1.out.1.cell 0
  have n1 : w1.cell? ⟨B + 1, 0, none⟩ = some (.string d.note) := HW1.out.2.1.cell 0
  clear e0 e1 s0 s1 g0 g1 b0 b1 k0 k1 hc hd
  rw [hB]
  unfold capV
  by_cases hnote : c.note = d.note
  rotate_left
  · have HR : Hid (eqB c d = false) := Lib.hid (eqB_false (fun e => hnote (by rw [e])))
    have hne := str_ne hnote
    clear hnote
    go_enter Try.func74, Try.ntmps74
    go_wp2_with fail
    rw [HE0.out, HE1.out]
    go_ret
    exact ⟨ret_bool HR.out.symm, HW1.out.2.2⟩
  have EN := Lib.hid hnote
  rw [hnote] at n0 HW1 HE0 ⊢
  clear hnote
  cases h0 : eqB c.faces d.faces with
  | false =>
    have HR : Hid (eqB c d = false) := Lib.hid (eqB_false (fun e => by rw [e, eqB_true rfl] at h0; cases h0))
    have X0 := Lib.hid h0
    clear h0 EN
    go_enter Try.func74, Try.ntmps74
    have r00 : w1.cell? ⟨B, 1, none⟩ = some (.slice p.pf c.faces.length p.cf) := HW1.out.1.cell 1
    have r10 : w1.cell? ⟨B + 1, 1, none⟩ = some (.slice q.pf d.faces.length q.cf) := HW1.out.2.1.cell 1
    have HC0 := Lib.hid (facsq_any (w := w1) (c1 := p.cf) (c2 := q.cf) (HC.out _ HW1.out.2.2).faces (HD.out _ HW1.out.2.2).faces lf)
    go_wp2_with fail
    rw [HE0.out, HE1.out]
    rw [X0.out] at HC0
    with_reducible refine HC0.out.mono ?_
    rintro e w2 ⟨rfl, hb2⟩
    have HW2 : Hid (Blk w2 B 31 #[.string d.note, .slice p.pf c.faces.length p.cf, .slice p.pn c.names.length p.cn, .slice p.ps c.secs.length p.cs, .slice p.pp c.pkts.length p.cp] ∧ Blk w2 (B + 1) 31 #[.string d.note, .slice q.pf d.faces.length q.cf, .slice q.pn d.names.length q.cn, .slice q.ps d.secs.length q.cs, .slice q.pp d.pkts.length q.cp] ∧ Below B w w2) := Lib.hid ⟨HW1.out.1.below hb2 HW1.out.1.lt, HW1.out.2.1.below hb2 HW1.out.2.1.lt, HW1.out.2.2.trans (hb2.mono (by have := HW1.out.1.lt; omega))⟩
    clear hb2 HC0 r00 r10
    go_wp2
    go_ret
    exact ⟨ret_bool HR.out.symm, HW2.out.2.2⟩
  | true =>
    have X0 := Lib.hid h0
    clear h0
    cases h1 : eqB c.names d.names with
    | false =>
      have HR : Hid (eqB c d = false) := Lib.hid (eqB_false (fun e => by rw [e, eqB_true rfl] at h1; cases h1))
      have X1 := Lib.hid h1
      clear h1 EN
      go_enter Try.func74, Try.ntmps74
      have r00 : w1.cell? ⟨B, 1, none⟩ = some (.slice p.pf c.faces.length p.cf) := HW1.out.1.cell 1
      have r10 : w1.cell? ⟨B + 1, 1, none⟩ = some (.slice q.pf d.faces.length q.cf) := HW1.out.2.1.cell 1
      have HC0 := Lib.hid (facsq_any (w := w1) (c1 := p.cf) (c2 := q.cf) (HC.out _ HW1.out.2.2).faces (HD.out _ HW1.out.2.2).faces lf)
      go_wp2_with fail
      rw [HE0.out, HE1.out]
      rw [X0.out] at HC0
      with_reducible refine HC0.out.mono ?_
      rintro e w2 ⟨rfl, hb2⟩
      have HW2 : Hid (Blk w2 B 31 #[.string d.note, .slice p.pf c.faces.length p.cf, .slice p.pn c.names.length p.cn, .slice p.ps c.secs.length p.cs, .slice p.pp c.pkts.length p.cp] ∧ Blk w2 (B + 1) 31 #[.string d.note, .slice q.pf d.faces.length q.cf, .slice q.pn d.names.length q.cn, .slice q.ps d.secs.length q.cs, .slice q.pp d.pkts.length q.cp] ∧ Below B w w2) := Lib.hid ⟨HW1.out.1.below hb2 HW1.out.1.lt, HW1.out.2.1.below hb2 HW1.out.2.1.lt, HW1.out.2.2.trans (hb2.mono (by have := HW1.out.1.lt; omega))⟩
      clear hb2 HC0 r00 r10
      have r01 : w2.cell? ⟨B, 2, none⟩ = some (.slice p.pn c.names.length p.cn) := HW2.out.1.cell 2
      have r11 : w2.cell? ⟨B + 1, 2, none⟩ = some (.slice q.pn d.names.length q.cn) := HW2.out.2.1.cell 2
      have HC1 := Lib.hid (namesq_any (w := w2) (c1 := p.cn) (c2 := q.cn) (HC.out _ HW2.out.2.2).names (HD.out _ HW2.out.2.2).names ln)
      go_wp2_with fail
      rw [X1.out] at HC1
      with_reducible refine HC1.out.mono ?_
      rintro e w3 ⟨rfl, hb3⟩
      have HW3 : Hid (Blk w3 B 31 #[.string d.note, .slice p.pf c.faces.length p.cf, .slice p.pn c.names.length p.cn, .slice p.ps c.secs.length p.cs, .slice p.pp c.pkts.length p.cp] ∧ Blk w3 (B + 1) 31 #[.string d.note, .slice q.pf d.faces.length q.cf, .slice q.pn d.names.length q.cn, .slice q.ps d.secs.length q.cs, .slice q.pp d.pkts.length q.cp] ∧ Below B w w3) := Lib.hid ⟨HW2.out.1.below hb3 HW2.out.1.lt, HW2.out.2.1.below hb3 HW2.out.2.1.lt, HW2.out.2.2.trans (hb3.mono (by have := HW2.out.1.lt; omega))⟩
      clear hb3 HC1 r01 r11
      go_wp2
      go_ret
      exact ⟨ret_bool HR.out.symm, HW3.out.2.2⟩
    | true =>
      have X1 := Lib.hid h1
      clear h1
      cases h2 : eqB c.secs d.secs with
      | false =>
        have HR : Hid (eqB c d = false) := Lib.hid (eqB_false (fun e => by rw [e, eqB_true rfl] at h2; cases h2))
        have X2 := Lib.hid h2
        clear h2 EN
        go_enter Try.func74, Try.ntmps74
        have r00 : w1.cell? ⟨B, 1, none⟩ = some (.slice p.pf c.faces.length p.cf) := HW1.out.1.cell 1
        have r10 : w1.cell? ⟨B + 1, 1, none⟩ = some (.slice q.pf d.faces.length q.cf) := HW1.out.2.1.cell 1
        have HC0 := Lib.hid (facsq_any (w := w1) (c1 := p.cf) (c2 := q.cf) (HC.out _ HW1.out.2.2).faces (HD.out _ HW1.out.2.2).faces lf)
        go_wp2_with fail
        rw [HE0.out, HE1.out]
        rw [X0.out] at HC0
        with_reducible refine HC0.out.mono ?_
        rintro e w2 ⟨rfl, hb2⟩
        have HW2 : Hid (Blk w2 B 31 #[.string d.note, .slice p.pf c.faces.length p.cf, .slice p.pn c.names.length p.cn, .slice p.ps c.secs.length p.cs, .slice p.pp c.pkts.length p.cp] ∧ Blk w2 (B + 1) 31 #[.string d.note, .slice q.pf d.faces.length q.cf, .slice q.pn d.names.length q.cn, .slice q.ps d.secs.length q.cs, .slice q.pp d.pkts.length q.cp] ∧ Below B w w2) := Lib.hid ⟨HW1.out.1.below hb2 HW1.out.1.lt, HW1.out.2.1.below hb2 HW1.out.2.1.lt, HW1.out.2.2.trans (hb2.mono (by have := HW1.out.1.lt; omega))⟩
        clear hb2 HC0 r00 r10
        have r01 : w2.cell? ⟨B, 2, none⟩ = some (.slice p.pn c.names.length p.cn) := HW2.out.1.cell 2
        have r11 : w2.cell? ⟨B + 1, 2, none⟩ = some (.slice q.pn d.names.length q.cn) := HW2.out.2.1.cell 2
        have HC1 := Lib.hid (namesq_any (w := w2) (c1 := p.cn) (c2 := q.cn) (HC.out _ HW2.out.2.2).names (HD.out _ HW2.out.2.2).names ln)
        go_wp2_with fail
        rw [X1.out] at HC1
        with_reducible refine HC1.out.mono ?_
        rintro e w3 ⟨rfl, hb3⟩
        have HW3 : Hid (Blk w3 B 31 #[.string d.note, .slice p.pf c.faces.length p.cf, .slice p.pn c.names.length p.cn, .slice p.ps c.secs.length p.cs, .slice p.pp c.pkts.length p.cp] ∧ Blk w3 (B + 1) 31 #[.string d.note, .slice q.pf d.faces.length q.cf, .slice q.pn d.names.length q.cn, .slice q.ps d.secs.length q.cs, .slice q.pp d.pkts.length q.cp] ∧ Below B w w3) := Lib.hid ⟨HW2.out.1.below hb3 HW2.out.1.lt, HW2.out.2.1.below hb3 HW2.out.2.1.lt, HW2.out.2.2.trans (hb3.mono (by have := HW2.out.1.lt; omega))⟩
        clear hb3 HC1 r01 r11
        have r02 : w3.cell? ⟨B, 3, none⟩ = some (.slice p.ps c.secs.length p.cs) := HW3.out.1.cell 3
        have r12 : w3.cell? ⟨B + 1, 3, none⟩ = some (.slice q.ps d.secs.length q.cs) := HW3.out.2.1.cell 3
        have HC2 := Lib.hid (secsq_any (w := w3) (c1 := p.cs) (c2 := q.cs) (HC.out _ HW3.out.2.2).secs (HD.out _ HW3.out.2.2).secs ls)
        go_wp2_with fail
        rw [X2.out] at HC2
        with_reducible refine HC2.out.mono ?_
        rintro e w4 ⟨rfl, hb4⟩
        have HW4 : Hid (Blk w4 B 31 #[.string d.note, .slice p.pf c.faces.length p.cf, .slice p.pn c.names.length p.cn, .slice p.ps c.secs.length p.cs, .slice p.pp c.pkts.length p.cp] ∧ Blk w4 (B + 1) 31 #[.string d.note, .slice q.pf d.faces.length q.cf, .slice q.pn d.names.length q.cn, .slice q.ps d.secs.length q.cs, .slice q.pp d.pkts.length q.cp] ∧ Below B w w4) := Lib.hid ⟨HW3.out.1.below hb4 HW3.out.1.lt, HW3.out.2.1.below hb4 HW3.out.2.1.lt, HW3.out.2.2.trans (hb4.mono (by have := HW3.out.1.lt; omega))⟩
        clear hb4 HC2 r02 r12
        go_wp2
        go_ret
        exact ⟨ret_bool HR.out.symm, HW4.out.2.2⟩
      | true =>
        have X2 := Lib.hid h2
        clear h2
        cases h3 : eqB c.pkts d.pkts with
        | false =>
          have HR : Hid (eqB c d = false) := Lib.hid (eqB_false (fun e => by rw [e, eqB_true rfl] at h3; cases h3))
          have X3 := Lib.hid h3
          clear h3 EN
          go_enter Try.func74, Try.ntmps74
          have r00 : w1.cell? ⟨B, 1, none⟩ = some (.slice p.pf c.faces.length p.cf) := HW1.out.1.cell 1
          have r10 : w1.cell? ⟨B + 1, 1, none⟩ = some (.slice q.pf d.faces.length q.cf) := HW1.out.2.1.cell 1
          have HC0 := Lib.hid (facsq_any (w := w1) (c1 := p.cf) (c2 := q.cf) (HC.out _ HW1.out.2.2).faces (HD.out _ HW1.out.2.2).faces lf)
          go_wp2_with fail
          rw [HE0.out, HE1.out]
          rw [X0.out] at HC0
          with_reducible refine HC0.out.mono ?_
          rintro e w2 ⟨rfl, hb2⟩
          have HW2 : Hid (Blk w2 B 31 #[.string d.note, .slice p.pf c.faces.length p.cf, .slice p.pn c.names.length p.cn, .slice p.ps c.secs.length p.cs, .slice p.pp c.pkts.length p.cp] ∧ Blk w2 (B + 1) 31 #[.string d.note, .slice q.pf d.faces.length q.cf, .slice q.pn d.names.length q.cn, .slice q.ps d.secs.length q.cs, .slice q.pp d.pkts.length q.cp] ∧ Below B w w2) := Lib.hid ⟨HW1.out.1.below hb2 HW1.out.1.lt, HW1.out.2.1.below hb2 HW1.out.2.1.lt, HW1.out.2.2.trans (hb2.mono (by have := HW1.out.1.lt; omega))⟩
          clear hb2 HC0 r00 r10
          have r01 : w2.cell? ⟨B, 2, none⟩ = some (.slice p.pn c.names.length p.cn) := HW2.out.1.cell 2
          have r11 : w2.cell? ⟨B + 1, 2, none⟩ = some (.slice q.pn d.names.length q.cn) := HW2.out.2.1.cell 2
          have HC1 := Lib.hid (namesq_any (w := w2) (c1 := p.cn) (c2 := q.cn) (HC.out _ HW2.out.2.2).names (HD.out _ HW2.out.2.2).names ln)
          go_wp2_with fail
          rw [X1.out] at HC1
          with_reducible refine HC1.out.mono ?_
          rintro e w3 ⟨rfl, hb3⟩
          have HW3 : Hid (Blk w3 B 31 #[.string d.note, .slice p.pf c.faces.length p.cf, .slice p.pn c.names.length p.cn, .slice p.ps c.secs.length p.cs, .slice p.pp c.pkts.length p.cp] ∧ Blk w3 (B + 1) 31 #[.string d.note, .slice q.pf d.faces.length q.cf, .slice q.pn d.names.length q.cn, .slice q.ps d.secs.length q.cs, .slice q.pp d.pkts.length q.cp] ∧ Below B w w3) := Lib.hid ⟨HW2.out.1.below hb3 HW2.out.1.lt, HW2.out.2.1.below hb3 HW2.out.2.1.lt, HW2.out.2.2.trans (hb3.mono (by have := HW2.out.1.lt; omega))⟩
          clear hb3 HC1 r01 r11
          have r02 : w3.cell? ⟨B, 3, none⟩ = some (.slice p.ps c.secs.length p.cs) := HW3.out.1.cell 3
          have r12 : w3.cell? ⟨B + 1, 3, none⟩ = some (.slice q.ps d.secs.length q.cs) := HW3.out.2.1.cell 3
          have HC2 := Lib.hid (secsq_any (w := w3) (c1 := p.cs) (c2 := q.cs) (HC.out _ HW3.out.2.2).secs (HD.out _ HW3.out.2.2).secs ls)
          go_wp2_with fail
          rw [X2.out] at HC2
          with_reducible refine HC2.out.mono ?_
          rintro e w4 ⟨rfl, hb4⟩
          have HW4 : Hid (Blk w4 B 31 #[.string d.note, .slice p.pf c.faces.length p.cf, .slice p.pn c.names.length p.cn, .slice p.ps c.secs.length p.cs, .slice p.pp c.pkts.length p.cp] ∧ Blk w4 (B + 1) 31 #[.string d.note, .slice q.pf d.faces.length q.cf, .slice q.pn d.names.length q.cn, .slice q.ps d.secs.length q.cs, .slice q.pp d.pkts.length q.cp] ∧ Below B w w4) := Lib.hid ⟨HW3.out.1.below hb4 HW3.out.1.lt, HW3.out.2.1.below hb4 HW3.out.2.1.lt, HW3.out.2.2.trans (hb4.mono (by have := HW3.out.1.lt; omega))⟩
          clear hb4 HC2 r02 r12
          have r03 : w4.cell? ⟨B, 4, none⟩ = some (.slice p.pp c.pkts.length p.cp) := HW4.out.1.cell 4
          have r13 : w4.cell? ⟨B + 1, 4, none⟩ = some (.slice q.pp d.pkts.length q.cp) := HW4.out.2.1.cell 4
          have HC3 := Lib.hid (pktsq_any (w := w4) (c1 := p.cp) (c2 := q.cp) (HC.out _ HW4.out.2.2).pkts (HD.out _ HW4.out.2.2).pkts lp)
          go_wp2_with fail
          rw [X3.out] at HC3
          with_reducible refine HC3.out.mono ?_
          rintro e w5 ⟨rfl, hb5⟩
          have HW5 : Hid (Blk w5 B 31 #[.string d.note, .slice p.pf c.faces.length p.cf, .slice p.pn c.names.length p.cn, .slice p.ps c.secs.length p.cs, .slice p.pp c.pkts.length p.cp] ∧ Blk w5 (B + 1) 31 #[.string d.note, .slice q.pf d.faces.length q.cf, .slice q.pn d.names.length q.cn, .slice q.ps d.secs.length q.cs, .slice q.pp d.pkts.length q.cp] ∧ Below B w w5) := Lib.hid ⟨HW4.out.1.below hb5 HW4.out.1.lt, HW4.out.2.1.below hb5 HW4.out.2.1.lt, HW4.out.2.2.trans (hb5.mono (by have := HW4.out.1.lt; omega))⟩
          clear hb5 HC3 r03 r13
          go_wp2
          go_ret
          exact ⟨ret_bool HR.out.symm, HW5.out.2.2⟩
        | true =>
          have X3 := Lib.hid h3
          clear h3
          have HR : Hid (eqB c d = true) := Lib.hid (eqB_true (cap_ext EN.out (eqB_iff.1 X0.out) (eqB_iff.1 X1.out) (eqB_iff.1 X2.out) (eqB_iff.1 X3.out)))
          clear EN
          go_enter Try.func74, Try.ntmps74
          have r00 : w1.cell? ⟨B, 1, none⟩ = some (.slice p.pf c.faces.length p.cf) := HW1.out.1.cell 1
          have r10 : w1.cell? ⟨B + 1, 1, none⟩ = some (.slice q.pf d.faces.length q.cf) := HW1.out.2.1.cell 1
          have HC0 := Lib.hid (facsq_any (w := w1) (c1 := p.cf) (c2 := q.cf) (HC.out _ HW1.out.2.2).faces (HD.out _ HW1.out.2.2).faces lf)
          go_wp2_with fail
          rw [HE0.out, HE1.out]
          rw [X0.out] at HC0
          with_reducible refine HC0.out.mono ?_
          rintro e w2 ⟨rfl, hb2⟩
          have HW2 : Hid (Blk w2 B 31 #[.string d.note, .slice p.pf c.faces.length p.cf, .slice p.pn c.names.length p.cn, .slice p.ps c.secs.length p.cs, .slice p.pp c.pkts.length p.cp] ∧ Blk w2 (B + 1) 31 #[.string d.note, .slice q.pf d.faces.length q.cf, .slice q.pn d.names.length q.cn, .slice q.ps d.secs.length q.cs, .slice q.pp d.pkts.length q.cp] ∧ Below B w w2) := Lib.hid ⟨HW1.out.1.below hb2 HW1.out.1.lt, HW1.out.2.1.below hb2 HW1.out.2.1.lt, HW1.out.2.2.trans (hb2.mono (by have := HW1.out.1.lt; omega))⟩
          clear hb2 HC0 r00 r10
          have r01 : w2.cell? ⟨B, 2, none⟩ = some (.slice p.pn c.names.length p.cn) := HW2.out.1.cell 2
          have r11 : w2.cell? ⟨B + 1, 2, none⟩ = some (.slice q.pn d.names.length q.cn) := HW2.out.2.1.cell 2
          have HC1 := Lib.hid (namesq_any (w := w2) (c1 := p.cn) (c2 := q.cn) (HC.out _ HW2.out.2.2).names (HD.out _ HW2.out.2.2).names ln)
          go_wp2_with fail
          rw [X1.out] at HC1
          with_reducible refine HC1.out.mono ?_
          rintro e w3 ⟨rfl, hb3⟩
          have HW3 : Hid (Blk w3 B 31 #[.string d.note, .slice p.pf c.faces.length p.cf, .slice p.pn c.names.length p.cn, .slice p.ps c.secs.length p.cs, .slice p.pp c.pkts.length p.cp] ∧ Blk w3 (B + 1) 31 #[.string d.note, .slice q.pf d.faces.length q.cf, .slice q.pn d.names.length q.cn, .slice q.ps d.secs.length q.cs, .slice q.pp d.pkts.length q.cp] ∧ Below B w w3) := Lib.hid ⟨HW2.out.1.below hb3 HW2.out.1.lt, HW2.out.2.1.below hb3 HW2.out.2.1.lt, HW2.out.2.2.trans (hb3.mono (by have := HW2.out.1.lt; omega))⟩
          clear hb3 HC1 r01 r11
          have r02 : w3.cell? ⟨B, 3, none⟩ = some (.slice p.ps c.secs.length p.cs) := HW3.out.1.cell 3
          have r12 : w3.cell? ⟨B + 1, 3, none⟩ = some (.slice q.ps d.secs.length q.cs) := HW3.out.2.1.cell 3
          have HC2 := Lib.hid (secsq_any (w := w3) (c1 := p.cs) (c2 := q.cs) (HC.out _ HW3.out.2.2).secs (HD.out _ HW3.out.2.2).secs ls)
          go_wp2_with fail
          rw [X2.out] at HC2
          with_reducible refine HC2.out.mono ?_
          rintro e w4 ⟨rfl, hb4⟩
          have HW4 : Hid (Blk w4 B 31 #[.string d.note, .slice p.pf c.faces.length p.cf, .slice p.pn c.names.length p.cn, .slice p.ps c.secs.length p.cs, .slice p.pp c.pkts.length p.cp] ∧ Blk w4 (B + 1) 31 #[.string d.note, .slice q.pf d.faces.length q.cf, .slice q.pn d.names.length q.cn, .slice q.ps d.secs.length q.cs, .slice q.pp d.pkts.length q.cp] ∧ Below B w w4) := Lib.hid ⟨HW3.out.1.below hb4 HW3.out.1.lt, HW3.out.2.1.below hb4 HW3.out.2.1.lt, HW3.out.2.2.trans (hb4.mono (by have := HW3.out.1.lt; omega))⟩
          clear hb4 HC2 r02 r12
          have r03 : w4.cell? ⟨B, 4, none⟩ = some (.slice p.pp c.pkts.length p.cp) := HW4.out.1.cell 4
          have r13 : w4.cell? ⟨B + 1, 4, none⟩ = some (.slice q.pp d.pkts.length q.cp) := HW4.out.2.1.cell 4
          have HC3 := Lib.hid (pktsq_any (w := w4) (c1 := p.cp) (c2 := q.cp) (HC.out _ HW4.out.2.2).pkts (HD.out _ HW4.out.2.2).pkts lp)
          go_wp2_with fail
          rw [X3.out] at HC3
          with_reducible refine HC3.out.mono ?_
          rintro e w5 ⟨rfl, hb5⟩
          have HW5 : Hid (Blk w5 B 31 #[.string d.note, .slice p.pf c.faces.length p.cf, .slice p.pn c.names.length p.cn, .slice p.ps c.secs.length p.cs, .slice p.pp c.pkts.length p.cp] ∧ Blk w5 (B + 1) 31 #[.string d.note, .slice q.pf d.faces.length q.cf, .slice q.pn d.names.length q.cn, .slice q.ps d.secs.length q.cs, .slice q.pp d.pkts.length q.cp] ∧ Below B w w5) := Lib.hid ⟨HW4.out.1.below hb5 HW4.out.1.lt, HW4.out.2.1.below hb5 HW4.out.2.1.lt, HW4.out.2.2.trans (hb5.mono (by have := HW4.out.1.lt; omega))⟩
          clear hb5 HC3 r03 r13
          go_wp2
          go_ret
          exact ⟨ret_bool HR.out.symm, HW5.out.2.2⟩
end Go.Proofs.Ytghdilmlfficlaa
