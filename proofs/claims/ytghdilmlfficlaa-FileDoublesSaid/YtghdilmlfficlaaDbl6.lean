/- The reference's Doubles, whatever it is given. -/
import Derived.Test.YtghdilmlfficlaaDbl5
namespace Go.Proofs.Ytghdilmlfficlaa
open Go.RowKit

set_option maxRecDepth 100000 in
set_option maxHeartbeats 8000000 in
theorem rdoubles_err {w : World} {p : Pl} {c : Cap} {W n : Int} (hm : CapM w w.heap.size p c) (h1 : ¬ errV c = 0) :
    Calls Try.prog 31 #[capV p c, .int .i64 W, .int .i64 n] w (DblP w ([], errV c)) := by
  obtain ⟨B, hB⟩ : ∃ B, w.heap.size = B := ⟨_, rfl⟩
  obtain ⟨w1, e0, s1, g0, hb, k0⟩ := k_box hB (capV p c).cells 31
  have HV := Lib.hid (rvald_any (hm.keep (by rw [hB]; exact hb) (by rw [s1]; omega) : CapM w1 w1.heap.size p c))
  have HB1 := Lib.hid hb
  have HBS := Lib.hid hB
  have HE0 := Lib.hid e0
  obtain ⟨E, hE⟩ : ∃ E, errV c = E := ⟨_, rfl⟩
  rw [hE] at HV h1 ⊢
  have hne : (E != 0) = true := by rw [bne_iff_ne]; exact h1
  clear hE h1
  have hcells : (capV p c).cells = #[.string c.note, .slice p.pf c.faces.length p.cf, .slice p.pn c.names.length p.cn, .slice p.ps c.secs.length p.cs, .slice p.pp c.pkts.length p.cp] := rfl
  rw [hcells] at HE0
  clear hcells e0 g0 hb k0 hm
  unfold capV at HV ⊢
  go_enter Try.func31, Try.ntmps31
  go_wp2_with fail
  rw [HE0.out]
  with_reducible refine HV.out.mono ?_
  rintro e v1 ⟨rfl, hb1⟩
  have HW1 : Hid (Below B w v1) := Lib.hid (HB1.out.trans (hb1.mono (by rw [s1]; omega)))
  clear HE0 HV hb1 HB1 s1 hB
  go_wp2
  go_ret2
  exact dblP_nil (by rw [HBS.out]; exact HW1.out)

set_option maxRecDepth 100000 in
set_option maxHeartbeats 8000000 in
theorem rdoubles_arg {w : World} {p : Pl} {c : Cap} {W n : Int} (hm : CapM w w.heap.size p c) (h1 : errV c = 0) (h2 : W < 1 ∨ 100 < W ∨ isT n = false) :
    Calls Try.prog 31 #[capV p c, .int .i64 W, .int .i64 n] w (DblP w ([], 1)) := by
  obtain ⟨B, hB⟩ : ∃ B, w.heap.size = B := ⟨_, rfl⟩
  obtain ⟨w1, e0, s1, g0, hb, k0⟩ := k_box hB (capV p c).cells 31
  have HV := Lib.hid (rvald_any (hm.keep (by rw [hB]; exact hb) (by rw [s1]; omega) : CapM w1 w1.heap.size p c))
  have HB1 := Lib.hid hb
  have HBS := Lib.hid hB
  have HE0 := Lib.hid e0
  rw [h1] at HV
  have hcells : (capV p c).cells = #[.string c.note, .slice p.pf c.faces.length p.cf, .slice p.pn c.names.length p.cn, .slice p.ps c.secs.length p.cs, .slice p.pp c.pkts.length p.cp] := rfl
  rw [hcells] at HE0
  clear hcells e0 g0 hb k0 hm
  unfold capV at HV ⊢
  rcases (by
    rcases Int.lt_or_le W 1 with h | h
    · exact Or.inl h
    · rcases Int.lt_or_le 100 W with h' | h'
      · exact Or.inr (Or.inl ⟨h, h'⟩)
      · rcases h2 with h3 | h3 | h3
        · omega
        · omega
        · exact Or.inr (Or.inr ⟨h, h', h3⟩) : W < 1 ∨ (1 ≤ W ∧ 100 < W) ∨ (1 ≤ W ∧ W ≤ 100 ∧ isT n = false)) with h3 | ⟨h3, h4⟩ | ⟨h3, h4, h5⟩
  · have hd1 : decide (W < 1) = true := decide_eq_true h3
    clear h2 h1
    go_enter Try.func31, Try.ntmps31
    go_wp2_with fail
    rw [HE0.out]
    with_reducible refine HV.out.mono ?_
    rintro e v1 ⟨rfl, hb1⟩
    have HW1 : Hid (Below B w v1) := Lib.hid (HB1.out.trans (hb1.mono (by rw [s1]; omega)))
    clear HE0 HV hb1 HB1 s1 hB
    go_wp2
    go_ret2
    exact dblP_nil (by rw [HBS.out]; exact HW1.out)
  · have hd1 : decide (W < 1) = false := decide_eq_false (by omega)
    have hd2 : decide (100 < W) = true := decide_eq_true h4
    clear h2 h1
    go_enter Try.func31, Try.ntmps31
    go_wp2_with fail
    rw [HE0.out]
    with_reducible refine HV.out.mono ?_
    rintro e v1 ⟨rfl, hb1⟩
    have HW1 : Hid (Below B w v1) := Lib.hid (HB1.out.trans (hb1.mono (by rw [s1]; omega)))
    clear HE0 HV hb1 HB1 s1 hB
    go_wp2
    go_ret2
    exact dblP_nil (by rw [HBS.out]; exact HW1.out)
  · have hd1 : decide (W < 1) = false := decide_eq_false (by omega)
    have hd2 : decide (100 < W) = false := decide_eq_false (by omega)
    clear h2 h1
    go_enter Try.func31, Try.ntmps31
    go_wp2_with fail
    rw [HE0.out]
    with_reducible refine HV.out.mono ?_
    rintro e v1 ⟨rfl, hb1⟩
    have HW1 : Hid (Below B w v1) := Lib.hid (HB1.out.trans (hb1.mono (by rw [s1]; omega)))
    have HT := Lib.hid (risT_any n v1)
    rw [h5] at HT
    have HSZ : Hid (B ≤ v1.heap.size) := Lib.hid (by have := hb1.size; omega)
    clear HE0 HV hb1 HB1 s1 hB h5
    go_wp2_with fail
    with_reducible refine HT.out.mono ?_
    rintro e v2 ⟨rfl, hb2⟩
    have HW2 : Hid (Below B w v2) := Lib.hid (HW1.out.trans (hb2.mono HSZ.out))
    clear hb2 HW1 HT
    go_wp2
    go_ret2
    exact dblP_nil (by rw [HBS.out]; exact HW2.out)

theorem rdoubles_all {w : World} {p : Pl} {c : Cap} {W n : Int} (hm : CapM w w.heap.size p c) :
    Calls Try.prog 31 #[capV p c, .int .i64 W, .int .i64 n] w (DblP w (dblA c W n)) := by
  by_cases h1 : errV c = 0
  · by_cases h2 : W < 1 ∨ 100 < W ∨ isT n = false
    · have e : dblA c W n = ([], 1) := by unfold dblA; rw [if_pos h1, if_pos h2]
      rw [e]
      exact rdoubles_arg hm h1 h2
    · have e : dblA c W n = (dbls n W.toNat c.pkts c.pkts.length, 0) := by unfold dblA; rw [if_pos h1, if_neg h2]
      rw [e]
      have ht : isT n = true := by
        cases h : isT n with
        | true => rfl
        | false => exact absurd (Or.inr (Or.inr h)) h2
      have hw : W = (W.toNat : Int) := by omega
      have h := rdoubles_any (m := W.toNat) hm h1 (by omega) (by omega) ht
      rw [← hw] at h
      exact h
  · have e : dblA c W n = ([], errV c) := by unfold dblA; rw [if_neg h1]
    rw [e]
    exact rdoubles_err hm h1
end Go.Proofs.Ytghdilmlfficlaa
