/- Opening a slice of bytes, with what a nil one has. -/
import Derived.Test.YtbgkkaecpmgnoaaDoorFrameB
namespace Go.Proofs.YtbgkkaecpmgnoaaDoor
open Go.ChangeShapes Go.WideShapes Go.ChangeAt Go.WideMaps Go.WideElems Go.RowKit

theorem open_bytes_nil {H : Type} {enc : TypeId × Value → H} {W : World} {r : Reach} {base : Nat} {v : Value} {d : DataW H} {p : List MemPlace}
    (hv : Value.okWide Tryd.prog W r base 22 v) (hd : DataW.Trod enc Tryd.prog W 0 (fun _ => true) true 22 v d p) :
    ∃ (A : Option Addr) (bs : List Nat) (c : Nat), v = .slice A bs.length c ∧ bs.length ≤ c ∧ (A = none → c = 0) ∧ Byt W W.heap.size A bs := by
  obtain ⟨A, bs, c, rfl, hc, _, hm⟩ := open_bytes hv hd
  refine ⟨A, bs, c, rfl, hc, fun hA => ?_, hm⟩
  subst hA
  obtain ⟨fuel, hf⟩ := hd
  rcases open_ints Tryd.underlying22 Tryd.underlying5 (by kernel_rfl) hf with ⟨hcs, _⟩ | ⟨a, len', cap', zs, hcs, _⟩
  · simp [Value.cells] at hcs
    exact hcs.2
  · simp [Value.cells] at hcs
end Go.Proofs.YtbgkkaecpmgnoaaDoor
