/- The law BitsBytes, walked. -/
import Derived.Test.YtbgkkaecpmgnoaaDoorBytes2
namespace Go.Proofs.YtbgkkaecpmgnoaaDoor
open Go.RowKit
variable {w : World} {A : Option Addr} {bs : List Nat}

set_option maxHeartbeats 2000000 in
theorem bytes_law (c : Nat) (hm : Byt w w.heap.size A bs) (hc : bs.length ≤ c) (p n : Int) (hT : Tab w) (h0 : 0 < w.heap.size) :
    Calls Tryd.prog 7 #[.slice A bs.length c, .int .i64 p, .int .i64 n] w fun e w' => e = .returned (.bool true) ∧ Below w.heap.size w w' := by
  have HT := Lib.hid hT
  clear hT
  by_cases hl : bs.length ≤ 20000
  · by_cases h1 : p < 0 ∨ n < 0
    · have H1 := Lib.hid (bytes_arg (w := w) (A := A) (bs := bs) (c := c) p n h1)
      have H2 := Lib.hid (rbytes_arg (w := w) (A := A) (bs := bs) (c := c) p n h1)
      have HS := Lib.hid (same_any (c1 := 0) (c2 := 0) (Byt.nil w 0 none) (Byt.nil w 0 none) rfl)
      clear hm h1
      go_enter Tryd.func7, Tryd.ntmps7
      go_wp2_with fail
      refine H1.out.mono ?_; rintro e w' ⟨rfl, rfl⟩
      go_wp2_with fail
      refine H2.out.mono ?_; rintro e w' ⟨rfl, rfl⟩
      go_wp2_with fail
      refine HS.out.mono ?_; rintro e w' ⟨rfl, rfl⟩
      go_wp2_with fail
      refine (known_any _ HT.out h0).mono ?_; rintro e w' ⟨rfl, hB⟩
      go_wp2
      go_ret
      exact ⟨rfl, hB⟩
    · by_cases h2 : 8 * (bs.length : Int) < p + 8 * n
      · have H1 := Lib.hid (bytes_none (w := w) (A := A) (c := c) bs.length hl p n (by omega) (by omega) h2)
        have H2 := Lib.hid (rbytes_none (w := w) (A := A) (c := c) bs.length hl p n (by omega) (by omega) h2)
        have HS := Lib.hid (same_any (c1 := 0) (c2 := 0) (Byt.nil w 0 none) (Byt.nil w 0 none) rfl)
        clear hm h1 h2
        go_enter Tryd.func7, Tryd.ntmps7
        go_wp2_with fail
        refine H1.out.mono ?_; rintro e w' ⟨rfl, rfl⟩
        go_wp2_with fail
        refine H2.out.mono ?_; rintro e w' ⟨rfl, rfl⟩
        go_wp2_with fail
        refine HS.out.mono ?_; rintro e w' ⟨rfl, rfl⟩
        go_wp2_with fail
        refine (known_any _ HT.out h0).mono ?_; rintro e w' ⟨rfl, hB⟩
        go_wp2
        go_ret
        exact ⟨rfl, hB⟩
      · obtain ⟨p', rfl⟩ := Int.eq_ofNat_of_zero_le (show 0 ≤ p by omega)
        obtain ⟨n', rfl⟩ := Int.eq_ofNat_of_zero_le (show 0 ≤ n by omega)
        have hpn : p' + 8 * n' ≤ 8 * bs.length := by omega
        have H1 : Calls Tryd.prog 20 #[.slice A bs.length c, .int .i64 (p' : Nat), .int .i64 (n' : Nat)] w fun e w' => ∃ A2 c2, e = .returned (.tuple #[.slice A2 n' c2, .int .i64 0]) ∧ Hid (Byt w' w'.heap.size A2 (outB bs p' n')) ∧ Below w.heap.size w w' := by
          by_cases hn0 : n' = 0
          · subst hn0
            refine (bytes_zero (w := w) (A := A) (c := c) bs.length hl p' (by omega)).mono ?_
            rintro e w' ⟨A2, c2, rfl, hb⟩
            exact ⟨A2, c2, rfl, Byt.nil _ _ _, hb⟩
          · by_cases h8 : p' % 8 = 0
            · exact bytes_whole hm hl hc p' n' (by omega) hpn h8
            · exact bytes_shift hm hl hc p' n' (by omega) hpn (by omega)
        have HH1 := Lib.hid H1
        have HM := Lib.hid hm
        clear H1 hm h1 h2
        go_enter Tryd.func7, Tryd.ntmps7
        go_wp2_with fail
        refine HH1.out.mono ?_; rintro e w1 ⟨A1, c1, rfl, hb1, hB1⟩
        have hz1 := hB1.size
        have HH2 := Lib.hid (rbytes_ok (c := c) ((HM.out.below hB1).more hz1) hl p' n' hpn)
        have HB1 := Lib.hid hB1
        clear hB1
        go_wp2_with fail
        refine HH2.out.mono ?_; rintro e w2 ⟨A2, c2, rfl, hb2, hB2⟩
        have hz2 := hB2.size
        have HS := Lib.hid (same_any (c1 := c1) (c2 := c2) (hb1.out.below hB2) hb2.out rfl)
        have HBB := Lib.hid (HB1.out.trans (hB2.mono hz1))
        clear hb1 hb2 hB2
        rw [outB_len] at HS
        go_wp2_with fail
        refine HS.out.mono ?_; rintro e w' ⟨rfl, rfl⟩
        go_wp2_with fail
        refine (known_any _ (HT.out.below HBB.out h0) (by omega)).mono ?_; rintro e w' ⟨rfl, hB⟩
        go_wp2
        go_ret
        exact ⟨rfl, HBB.out.trans (hB.mono (by omega))⟩
  · go_enter Tryd.func7, Tryd.ntmps7
    go_wp2_with fail
    refine (known_any _ HT.out h0).mono ?_; rintro e w' ⟨rfl, hB⟩
    go_wp2
    go_ret
    exact ⟨rfl, hB⟩
end Go.Proofs.YtbgkkaecpmgnoaaDoor
