/- Validate: the reference's. -/
import Derived.Test.YtghdilmlfficlaaVald
import Derived.Test.YtghdilmlfficlaaRight
namespace Go.Proofs.Ytghdilmlfficlaa
open Go.RowKit

set_option maxRecDepth 100000 in
set_option maxHeartbeats 4000000 in
theorem rvald_any {w : World} {p : Pl} {c : Cap} (hm : CapM w w.heap.size p c) :
    Calls Try.prog 58 #[capV p c] w fun e w' => e = .returned (.int .i64 (errV c)) ∧ Below w.heap.size w w' := by
  have HV := Lib.hid (right_any (boxed hm (.cells (capV p c).cells 31)))
  have lf : c.faces.length ≤ 140737488355328 := by have := hm.lf; omega
  have ln : c.names.length ≤ 140737488355328 := by have := hm.ln; omega
  have ls : c.secs.length ≤ 140737488355328 := by have := hm.ls; omega
  have lp : c.pkts.length ≤ 140737488355328 := by have := hm.lp; omega
  clear hm
  have big : ∀ (_ : hugeB c = true), errV c = 3 := fun h => by unfold errV; rw [h]; rfl
  have BIG := Lib.hid big
  clear big
  by_cases h1 : (4 : Int) < c.faces.length
  · have HR : Hid (errV c = 3) := Lib.hid (BIG.out (decide_eq_true (by omega)))
    clear HV
    go_enter Try.func58, Try.ntmps58
    go_wp2
    go_ret
    exact ⟨ret_int HR.out.symm, (Below.refl _ _).alloc (Nat.le_refl _) _⟩
  by_cases h2 : (60 : Int) < c.names.length
  · have HR : Hid (errV c = 3) := Lib.hid (BIG.out (decide_eq_true (by omega)))
    clear HV
    go_enter Try.func58, Try.ntmps58
    go_wp2
    go_ret
    exact ⟨ret_int HR.out.symm, (Below.refl _ _).alloc (Nat.le_refl _) _⟩
  by_cases h3 : (60 : Int) < c.secs.length
  · have HR : Hid (errV c = 3) := Lib.hid (BIG.out (decide_eq_true (by omega)))
    clear HV
    go_enter Try.func58, Try.ntmps58
    go_wp2
    go_ret
    exact ⟨ret_int HR.out.symm, (Below.refl _ _).alloc (Nat.le_refl _) _⟩
  by_cases h4 : (100 : Int) < c.pkts.length
  · have HR : Hid (errV c = 3) := Lib.hid (BIG.out (decide_eq_true (by omega)))
    clear HV
    go_enter Try.func58, Try.ntmps58
    go_wp2
    go_ret
    exact ⟨ret_int HR.out.symm, (Below.refl _ _).alloc (Nat.le_refl _) _⟩
  have hh : hugeB c = false := decide_eq_false (by omega)
  cases h5 : capB c with
  | false =>
    have HR : Hid (errV c = 1) := Lib.hid (by unfold errV; rw [hh, h5]; rfl)
    have H5 := Lib.hid h5
    clear h5 hh
    go_enter Try.func58, Try.ntmps58
    go_wp2_with fail
    refine HV.out.mono ?_
    rintro e w' ⟨rfl, hB⟩
    rw [H5.out]
    have HB := Lib.hid (below_boxed hB)
    clear hB
    go_wp2
    go_ret
    exact ⟨ret_int HR.out.symm, HB.out⟩
  | true =>
    have HR : Hid (errV c = 0) := Lib.hid (by unfold errV; rw [hh, h5]; rfl)
    have H5 := Lib.hid h5
    clear h5 hh
    go_enter Try.func58, Try.ntmps58
    go_wp2_with fail
    refine HV.out.mono ?_
    rintro e w' ⟨rfl, hB⟩
    rw [H5.out]
    have HB := Lib.hid (below_boxed hB)
    clear hB
    go_wp2
    go_ret
    exact ⟨ret_int HR.out.symm, HB.out⟩
end Go.Proofs.Ytghdilmlfficlaa
