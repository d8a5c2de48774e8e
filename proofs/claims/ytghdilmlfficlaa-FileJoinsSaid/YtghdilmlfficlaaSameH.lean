/- What sameness of rows wants. -/
import Derived.Test.YtghdilmlfficlaaEq
namespace Go.Proofs.Ytghdilmlfficlaa
open Go.RowKit

theorem Byt.alloc2 {w : World} {B : Nat} {A : Option Addr} {bs : List Nat} (h : Byt w B A bs) (hB : B ≤ w.heap.size) (o1 o2 : Obj) : Byt ((w.alloc o1).alloc o2) ((w.alloc o1).alloc o2).heap.size A bs :=
  ((h.alloc hB o1).alloc (by rw [alloc_size]; omega) o2).more (by rw [alloc_size, alloc_size]; omega)
theorem below_alloc2 {w a w1 : World} {B : Nat} {o1 o2 : Obj} (h : Below B a w) (hB : B ≤ w.heap.size) (hb : Below ((w.alloc o1).alloc o2).heap.size ((w.alloc o1).alloc o2) w1) : Below B a w1 :=
  ((h.alloc hB o1).alloc (by rw [alloc_size]; omega) o2).trans (hb.mono (by rw [alloc_size, alloc_size]; omega))
theorem take_eq_succ {α : Type} {xs ys : List α} {k : Nat} (h1 : k < xs.length) (h2 : k < ys.length) (h : xs.take k = ys.take k) (he : xs[k] = ys[k]) : xs.take (k + 1) = ys.take (k + 1) := by
  rw [List.take_succ_eq_append_getElem h1, List.take_succ_eq_append_getElem h2, h, he]
theorem ne_of_at {α : Type} {xs ys : List α} {k : Nat} (h1 : k < xs.length) (h2 : k < ys.length) (he : ¬ xs[k] = ys[k]) : ¬ xs = ys := by
  intro e; subst e; exact he rfl

abbrev facL (f : Fac) : Array Value := #[.string f.name, .int .i64 f.link, .int .i64 f.snap]
set_option maxRecDepth 20000 in
theorem neq_fac (f g : Fac) (w : World) : Sem.run Try.prog (binOp .neq 79 (.agg (facL f)) (.agg (facL g))) w = .ok (.bool (!eqB f g)) w := by
  have u3 := Try.underlying3
  have u9 := Try.underlying9
  have a3 := Try.isAgg3
  have a9 := Try.isAgg9
  have z3 := Try.sizeOf3
  have z9 := Try.sizeOf9
  have hS : Try.prog.underlying 79 = some (.struct (Try.prog.fieldsOf 79)) := by kernel_rfl
  have hp : Try.prog.stoodInHeld 79 = false := by kernel_rfl
  rw [run_neq_struct, show (10000 : Nat) = 9999 + 1 from rfl, run_equalIn_agg w 9999 79 _ _ hS hp]
  simp only [Program.fieldsOf, Try.underlying79]
  go_simp
  by_cases h1 : f.name = g.name
  rotate_left
  · have h1' : ¬ f.name.toList = g.name.toList := beq_eq_false_iff_ne.1 (str_ne h1)
    rw [eqB_false (fun e => h1 (by rw [e]))]; simp [h1']
  by_cases h2 : f.link = g.link
  rotate_left
  · rw [eqB_false (fun e => h2 (by rw [e])), h1]; simp [h2]
  by_cases h3 : f.snap = g.snap
  rotate_left
  · rw [eqB_false (fun e => h3 (by rw [e])), h1]; simp [h2, h3]
  rw [eqB_true (by cases f; cases g; simp only at h1 h2 h3; rw [h1, h2, h3]), h1]
  simp [h2, h3]
theorem grd_fac (f g : Fac) (a b : Operand) (w : World) : (eqGuard .neq 79 a b (.agg (facL f)) (.agg (facL g))).run Try.prog w = .ok () w :=
  run_eqGuard_agg w .neq 79 a b _ _ (by kernel_rfl)

end Go.Proofs.Ytghdilmlfficlaa
