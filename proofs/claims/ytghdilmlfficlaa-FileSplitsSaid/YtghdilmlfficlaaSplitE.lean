/- Split: the program's, whatever it is given. -/
import Derived.Test.YtghdilmlfficlaaSplit
namespace Go.Proofs.Ytghdilmlfficlaa
open Go.RowKit

set_option maxRecDepth 100000 in
set_option maxHeartbeats 8000000 in
theorem split_err {w : World} {p : Pl} {c : Cap} {kind n : Int} (hm : CapM w w.heap.size p c) (h1 : ¬ errV c = 0) :
    Calls Try.prog 23 #[capV p c, .int .i64 kind, .int .i64 n] w fun e w' => e = .returned (.tuple #[.slice none 0 0, .int .i64 (errV c)]) ∧ Below w.heap.size w w' := by
  obtain ⟨pf, cf, pn, cn, ps, cs, pp, cp⟩ := p
  obtain ⟨B, hB⟩ : ∃ B, w.heap.size = B := ⟨_, rfl⟩
  obtain ⟨w0, e0, s0, g0, b0, k0⟩ := w_box hB #[.string c.note, .slice pf c.faces.length cf, .slice pn c.names.length cn, .slice ps c.secs.length cs, .slice pp c.pkts.length cp] 31
  have HV := Lib.hid (vald_any (hm.keep (by rw [hB]; exact b0) (by rw [s0]; omega) : CapM w0 w0.heap.size _ c))
  have HB0 := Lib.hid b0
  have HS0 := Lib.hid s0
  have HE0 := Lib.hid e0
  obtain ⟨E, hE⟩ : ∃ E, errV c = E := ⟨_, rfl⟩
  rw [hE] at HV h1 ⊢
  have hne : (E != 0) = true := by rw [bne_iff_ne]; exact h1
  clear e0 s0 g0 b0 k0 hm hE h1
  rw [hB]
  unfold capV at HV ⊢
  go_enter Try.func23, Try.ntmps23
  go_wp2_with fail
  rw [HE0.out]
  with_reducible refine HV.out.mono ?_
  rintro e v1 ⟨rfl, hb1⟩
  have HW1 : Hid (Below B w v1) := Lib.hid (HB0.out.trans (hb1.mono (by rw [HS0.out]; omega)))
  clear HE0 HV hb1 HB0 HS0 hB
  go_wp2
  go_ret2
  exact ⟨rfl, HW1.out⟩

set_option maxRecDepth 100000 in
set_option maxHeartbeats 8000000 in
theorem split_arg {w : World} {p : Pl} {c : Cap} {kind n : Int} (hm : CapM w w.heap.size p c) (h1 : errV c = 0) (h2 : argB kind n = true) :
    Calls Try.prog 23 #[capV p c, .int .i64 kind, .int .i64 n] w fun e w' => e = .returned (.tuple #[.slice none 0 0, .int .i64 1]) ∧ Below w.heap.size w w' := by
  obtain ⟨pf, cf, pn, cn, ps, cs, pp, cp⟩ := p
  obtain ⟨B, hB⟩ : ∃ B, w.heap.size = B := ⟨_, rfl⟩
  obtain ⟨w0, e0, s0, g0, b0, k0⟩ := w_box hB #[.string c.note, .slice pf c.faces.length cf, .slice pn c.names.length cn, .slice ps c.secs.length cs, .slice pp c.pkts.length cp] 31
  have HV := Lib.hid (vald_any (hm.keep (by rw [hB]; exact b0) (by rw [s0]; omega) : CapM w0 w0.heap.size _ c))
  have HB0 := Lib.hid b0
  have HS0 := Lib.hid s0
  have HE0 := Lib.hid e0
  rw [h1] at HV
  have h3 := of_decide_eq_true h2
  clear e0 s0 g0 b0 k0 hm h1 h2
  rw [hB]
  unfold capV at HV ⊢
  rcases (by omega : kind < 0 ∨ (0 ≤ kind ∧ 2 < kind) ∨ (0 ≤ kind ∧ kind ≤ 2 ∧ n < 1)) with h4 | ⟨h4, h5⟩ | ⟨h4, h5, h6⟩
  · have d1 : decide (kind < 0) = true := decide_eq_true h4
    clear h3
    go_enter Try.func23, Try.ntmps23
    go_wp2_with fail
    rw [HE0.out]
    with_reducible refine HV.out.mono ?_
    rintro e v1 ⟨rfl, hb1⟩
    have HW1 : Hid (Below B w v1) := Lib.hid (HB0.out.trans (hb1.mono (by rw [HS0.out]; omega)))
    clear HE0 HV hb1 HB0 HS0 hB
    go_wp2
    go_ret2
    exact ⟨rfl, HW1.out⟩
  · have d1 : decide (kind < 0) = false := decide_eq_false (by omega)
    have d2 : decide (2 < kind) = true := decide_eq_true h5
    clear h3
    go_enter Try.func23, Try.ntmps23
    go_wp2_with fail
    rw [HE0.out]
    with_reducible refine HV.out.mono ?_
    rintro e v1 ⟨rfl, hb1⟩
    have HW1 : Hid (Below B w v1) := Lib.hid (HB0.out.trans (hb1.mono (by rw [HS0.out]; omega)))
    clear HE0 HV hb1 HB0 HS0 hB
    go_wp2
    go_ret2
    exact ⟨rfl, HW1.out⟩
  · have d1 : decide (kind < 0) = false := decide_eq_false (by omega)
    have d2 : decide (2 < kind) = false := decide_eq_false (by omega)
    have d3 : decide (n < 1) = true := decide_eq_true h6
    clear h3
    go_enter Try.func23, Try.ntmps23
    go_wp2_with fail
    rw [HE0.out]
    with_reducible refine HV.out.mono ?_
    rintro e v1 ⟨rfl, hb1⟩
    have HW1 : Hid (Below B w v1) := Lib.hid (HB0.out.trans (hb1.mono (by rw [HS0.out]; omega)))
    clear HE0 HV hb1 HB0 HS0 hB
    go_wp2
    go_ret2
    exact ⟨rfl, HW1.out⟩

theorem split_any {w : World} {p : Pl} {c : Cap} {kind n : Int} (hm : CapM w w.heap.size p c) (hn : n ≤ 9223372036854775807) :
    Calls Try.prog 23 #[capV p c, .int .i64 kind, .int .i64 n] w fun e w' => ∃ A c', e = .returned (.tuple #[.slice A (spR c kind n).length c', .int .i64 (spE c kind n)]) ∧ Els 5 CapE w' w'.heap.size A (spR c kind n) ∧ Below w.heap.size w w' := by
  by_cases h1 : errV c = 0
  · cases h2 : argB kind n with
    | true =>
      have e1 : spR c kind n = [] := by unfold spR; rw [if_pos h1, h2]; rfl
      have e2 : spE c kind n = 1 := by unfold spE; rw [if_pos h1, h2]; rfl
      rw [e1, e2]
      refine (split_arg hm h1 h2).mono ?_
      rintro e w' ⟨rfl, hb⟩
      exact ⟨none, 0, rfl, els_nil, hb⟩
    | false =>
      have e1 : spR c kind n = splitC c kind n := by unfold spR; rw [if_pos h1, h2]; rfl
      have e2 : spE c kind n = 0 := by unfold spE; rw [if_pos h1, h2]; rfl
      rw [e1, e2]
      exact split_ok hm h1 h2 hn
  · have e1 : spR c kind n = [] := by unfold spR; rw [if_neg h1]
    have e2 : spE c kind n = errV c := by unfold spE; rw [if_neg h1]
    rw [e1, e2]
    refine (split_err hm h1).mono ?_
    rintro e w' ⟨rfl, hb⟩
    exact ⟨none, 0, rfl, els_nil, hb⟩
end Go.Proofs.Ytghdilmlfficlaa
