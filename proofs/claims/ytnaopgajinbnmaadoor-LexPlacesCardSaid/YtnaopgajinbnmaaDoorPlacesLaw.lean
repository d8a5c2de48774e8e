/- The law of places. -/
import Derived.Test.YtnaopgajinbnmaaDoorAddr
namespace Go.Proofs.YtnaopgajinbnmaaDoor
open Go.RowKit

set_option maxRecDepth 100000 in
set_option maxHeartbeats 8000000 in
theorem places_law (s : ByteArray) (a n : Int) (hs : s.size ≤ 140737488355328) (ha : -9223372036854775808 ≤ a ∧ a ≤ 9223372036854775807) (hn : -9223372036854775808 ≤ n ∧ n ≤ 9223372036854775807) {w : World} (hL : Laid w) :
    Calls Tryd.prog 5 #[.string s, .int .i64 a, .int .i64 n] w fun e w' => e = .returned (.bool true) ∧ Below w.heap.size w w' := by
  have HL := Lib.hid hL
  by_cases h1 : 48000 < s.size
  · have hd : decide (48000 < (s.size : Int)) = true := decide_eq_true (by omega)
    have hK := known_any hL
    clear hL
    go_enter Tryd.func5, Tryd.ntmps5
    go_wp2_with (go_at_call 7; refine hK.mono ?_; rintro e w' ⟨rfl, hb⟩)
    go_ret
    exact ⟨rfl, hb⟩
  · have hd : decide (48000 < (s.size : Int)) = false := decide_eq_false (by omega)
    have c1 := line_any s a w (by omega) ha
    have c2 := rline_any s a w (by omega) ha
    obtain ⟨⟨l1, l2, l3⟩, hl⟩ : ∃ r, lineR s a = r := ⟨_, rfl⟩
    rw [hl] at c1 c2
    have c3 := addr_any n hn hL
    obtain ⟨⟨t, l4⟩, ht⟩ : ∃ r, addrR n = r := ⟨_, rfl⟩
    rw [ht] at c3
    obtain ⟨T, hT⟩ : ∃ T : ByteArray, ⟨t.toArray⟩ = T := ⟨_, rfl⟩
    have c4 := fun (w : World) (hL : Laid w) => raddr_any n hn hL
    rw [ht] at c4
    obtain ⟨N, hN⟩ : ∃ N, numS n = N := ⟨_, rfl⟩
    have c5 := fun (w : World) (hL : Laid w) => number_any n hn hL
    have c6 := fun (w : World) (hL : Laid w) => rnumber_any n hn hL
    rw [hN] at c5 c6
    have c3' : Calls Tryd.prog 17 #[.int .i64 n] w fun e w' => e = .returned (.tuple #[.string T, .int .i64 l4]) ∧ Below w.heap.size w w' := hT ▸ c3
    have c4' : ∀ w, Laid w → Calls Tryd.prog 18 #[.int .i64 n] w fun e w' => e = .returned (.tuple #[.string T, .int .i64 l4]) ∧ Below w.heap.size w w' := hT ▸ c4
    clear hL hl ht hT hN h1 c3 c4
    go_enter Tryd.func5, Tryd.ntmps5
    go_wp2_with (first | (go_at_call 15; refine c1.mono ?_; rintro e w' ⟨rfl, hw⟩; rw [hw]; clear hw) | (go_at_call 16; refine c2.mono ?_; rintro e w' ⟨rfl, hw⟩; rw [← hw]; clear hw))
    go_wp2_with (go_at_call 17; refine c3'.mono ?_)
    rintro e w1 ⟨rfl, hb1⟩
    have hL1 := HL.out.below hb1
    go_wp2_with (go_at_call 18; refine (c4' _ hL1).mono ?_)
    rintro e w2 ⟨rfl, hb2⟩
    have hL2 := hL1.below hb2
    go_wp2_with (go_at_call 19; refine (c5 _ hL2).mono ?_)
    rintro e w3 ⟨rfl, hb3⟩
    have hL3 := hL2.below hb3
    go_wp2_with (go_at_call 20; refine (c6 _ hL3).mono ?_)
    rintro e w4 ⟨rfl, hb4⟩
    have hL4 := hL3.below hb4
    have hK := known_any hL4
    go_wp2_with (go_at_call 7; refine hK.mono ?_)
    rintro e w5 ⟨rfl, hb5⟩
    go_wp2
    go_ret
    have t1 := Nat.le_trans hb1.size hb2.size
    have t2 := Nat.le_trans t1 hb3.size
    have t3 := Nat.le_trans t2 hb4.size
    exact ⟨rfl, hb1.trans ((hb2.mono hb1.size).trans ((hb3.mono t1).trans ((hb4.mono t2).trans (hb5.mono t3))))⟩
end Go.Proofs.YtnaopgajinbnmaaDoor
