/- The law BitsMended for all bytes. -/
import Derived.Test.YtbgkkaecpmgnoaaDoorMended
namespace Go.Proofs.YtbgkkaecpmgnoaaDoor
open Go.RowKit
variable {w : World} {A : Option Addr} {bs : List Nat}

set_option maxHeartbeats 1000000 in
theorem mended_law (c : Nat) (hm : Byt w w.heap.size A bs) (p v : Int) (hT : Tab w) (h0 : 0 < w.heap.size) :
    Calls Tryd.prog 10 #[.slice A bs.length c, .int .i64 p, .int .i64 v] w fun e w' => e = .returned (.bool true) ∧ Below w.heap.size w w' := by
  by_cases hl : bs.length ≤ 20000
  · by_cases hl2 : 2 ≤ bs.length
    · exact mended_walk c hm hl hl2 p v hT h0
    · have HT := Lib.hid hT
      clear hT hm
      go_enter Tryd.func10, Tryd.ntmps10
      go_wp2_with fail
      refine (known_any _ HT.out h0).mono ?_; rintro e w' ⟨rfl, hB⟩
      go_wp2
      go_ret
      exact ⟨rfl, hB⟩
  · have HT := Lib.hid hT
    clear hT hm
    go_enter Tryd.func10, Tryd.ntmps10
    go_wp2_with fail
    refine (known_any _ HT.out h0).mono ?_; rintro e w' ⟨rfl, hB⟩
    go_wp2
    go_ret
    exact ⟨rfl, hB⟩
end Go.Proofs.YtbgkkaecpmgnoaaDoor
