/- The law BitsChecks, walked. -/
import Derived.Test.YtbgkkaecpmgnoaaDoorKnown
namespace Go.Proofs.YtbgkkaecpmgnoaaDoor
open Go.RowKit
variable {w : World} {A : Option Addr} {bs : List Nat}

set_option maxHeartbeats 1000000 in
theorem checks_law (c : Nat) (hm : Byt w w.heap.size A bs) (hT : Tab w) (h0 : 0 < w.heap.size) :
    Calls Tryd.prog 8 #[.slice A bs.length c] w fun e w' => e = .returned (.bool true) ∧ Below w.heap.size w w' := by
  have HT := Lib.hid hT
  clear hT
  by_cases hl : bs.length ≤ 20000
  · have H1 := Lib.hid (sum_any (c := c) hm hl)
    have H2 := Lib.hid (rsum_any (c := c) hm hl)
    have H3 := Lib.hid (crc_any (c := c) HT.out hm hl)
    have H4 := Lib.hid (rcrc_any (c := c) hm hl)
    have H5 := Lib.hid (adler_any (c := c) hm hl)
    have H6 := Lib.hid (radler_any (c := c) hm hl)
    clear hm
    go_enter Tryd.func8, Tryd.ntmps8
    go_wp2_with fail
    refine H1.out.mono ?_; rintro e w' ⟨rfl, rfl⟩
    go_wp2_with fail
    refine H2.out.mono ?_; rintro e w' ⟨rfl, rfl⟩
    go_wp2_with fail
    refine H3.out.mono ?_; rintro e w' ⟨rfl, rfl⟩
    go_wp2_with fail
    refine H4.out.mono ?_; rintro e w' ⟨rfl, rfl⟩
    go_wp2_with fail
    refine H5.out.mono ?_; rintro e w' ⟨rfl, rfl⟩
    go_wp2_with fail
    refine H6.out.mono ?_; rintro e w' ⟨rfl, rfl⟩
    go_wp2_with fail
    refine (known_any _ HT.out h0).mono ?_; rintro e w' ⟨rfl, hB⟩
    go_wp2
    go_ret
    exact ⟨rfl, hB⟩
  · go_enter Tryd.func8, Tryd.ntmps8
    go_wp2_with fail
    refine (known_any _ HT.out h0).mono ?_; rintro e w' ⟨rfl, hB⟩
    go_wp2
    go_ret
    exact ⟨rfl, hB⟩
end Go.Proofs.YtbgkkaecpmgnoaaDoor
