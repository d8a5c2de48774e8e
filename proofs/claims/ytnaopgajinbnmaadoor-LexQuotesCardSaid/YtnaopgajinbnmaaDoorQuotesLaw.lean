/- The law of quotes. -/
import Derived.Test.YtnaopgajinbnmaaDoorQuote
import Derived.Test.YtnaopgajinbnmaaDoorWords
import Derived.Test.YtnaopgajinbnmaaDoorKnown
namespace Go.Proofs.YtnaopgajinbnmaaDoor
open Go.RowKit

theorem below3 {w w1 w2 w3 : World} (h1 : Below w.heap.size w w1) (h2 : Below w1.heap.size w1 w2) (h3 : Below w2.heap.size w2 w3) : Below w.heap.size w w3 :=
  h1.trans ((h2.mono h1.size).trans (h3.mono (Nat.le_trans h1.size h2.size)))

set_option maxRecDepth 100000 in
set_option maxHeartbeats 8000000 in
theorem quotes_law (s : ByteArray) (hs : s.size ≤ 140737488355328) {w : World} (hL : Laid w) :
    Calls Tryd.prog 4 #[.string s] w fun e w' => e = .returned (.bool true) ∧ Below w.heap.size w w' := by
  have HL := Lib.hid hL
  by_cases h1 : 48000 < s.size
  · have hd : decide (48000 < (s.size : Int)) = true := decide_eq_true (by omega)
    have hK := known_any hL
    clear hL h1
    go_enter Tryd.func4, Tryd.ntmps4
    go_wp2_with (go_at_call 7; refine hK.mono ?_; rintro e w' ⟨rfl, hb⟩)
    go_ret
    exact ⟨rfl, hb⟩
  · have hd : decide (48000 < (s.size : Int)) = false := decide_eq_false (by omega)
    have c3 := fun (w : World) (hL : Laid w) => isWord_any s (by omega) hL
    have c4 := fun (w : World) => risWord_any s (by omega) w
    obtain ⟨r, hr⟩ : ∃ r, wordR (bl s) = r := ⟨_, rfl⟩
    rw [hr] at c4
    have c3' : ∀ w, Laid w → Calls Tryd.prog 13 #[.string s] w fun e w' => e = .returned (.bool r) ∧ w = w' := hr ▸ c3
    clear hr c3
    by_cases h2 : 200 < s.size
    · have c1 := quote_large s h2 w
      have c2 := fun w => rquote_large s h2 w
      clear hL h1 h2
      go_enter Tryd.func4, Tryd.ntmps4
      go_wp2_with (go_at_call 11; refine c1.mono ?_)
      rintro e w1 ⟨rfl, hb1⟩
      have hL1 := HL.out.below hb1
      go_wp2_with (go_at_call 12; refine (c2 _).mono ?_)
      rintro e w2 ⟨rfl, hb2⟩
      have hL2 := hL1.below hb2
      have c5 := c3' _ hL2
      have c6 := c4 w2
      go_wp2_with (first | (go_at_call 13; refine c5.mono ?_; rintro e w' ⟨rfl, rfl⟩) | (go_at_call 14; refine c6.mono ?_; rintro e w' ⟨rfl, rfl⟩))
      have hK := known_any hL2
      go_wp2_with (go_at_call 7; refine hK.mono ?_)
      rintro e w3 ⟨rfl, hb3⟩
      go_wp2
      go_ret
      exact ⟨rfl, below3 hb1 hb2 hb3⟩
    · have h200 : s.size ≤ 200 := by omega
      obtain ⟨Q, hQ⟩ : ∃ Q : ByteArray, ⟨(quoteL (bl s)).toArray⟩ = Q := ⟨_, rfl⟩
      have hlx : lexR (bl Q) = ([⟨2, 0, 0, bl s⟩], 1, 0) := by
        rw [← hQ]
        show lexR (quoteL (bl s)).toArray.toList = _
        rw [List.toList_toArray]
        exact quote_lex (bl s) (by rw [bl_len]; exact h200)
      have c1 := quote_small s h200 w
      have c2 := fun w => rquote_small s h200 w
      rw [hQ] at c1
      have c2' : ∀ w, Calls Tryd.prog 12 #[.string s] w fun e w' => e = .returned (.tuple #[.string Q, .int .i64 0]) ∧ Below w.heap.size w w' := hQ ▸ c2
      have hX := fun (w : World) (hL : Laid w) => lex_any Q w hL
      rw [hlx] at hX
      have hss : (⟨(bl s).toArray⟩ : ByteArray) = s := bl_ext (by simp [bl])
      clear hL h1 h2 hQ hlx c2 h200
      go_enter Tryd.func4, Tryd.ntmps4
      go_wp2_with (go_at_call 11; refine c1.mono ?_)
      rintro e w1 ⟨rfl, hb1⟩
      have hL1 := HL.out.below hb1
      go_wp2_with (go_at_call 12; refine (c2' _).mono ?_)
      rintro e w2 ⟨rfl, hb2⟩
      have hL2 := hL1.below hb2
      have c5 := c3' _ hL2
      have c6 := c4 w2
      go_wp2_with (first | (go_at_call 13; refine c5.mono ?_; rintro e w' ⟨rfl, rfl⟩) | (go_at_call 14; refine c6.mono ?_; rintro e w' ⟨rfl, rfl⟩))
      go_wp2_with (go_at_call 8; refine (hX _ hL2).mono ?_)
      rintro e w3 ⟨v, rfl, hrow, hb3⟩
      have hL3 := hL2.below hb3
      obtain ⟨A, cp, rfl, hA⟩ := own_form hrow
      cases A with
      | none => exact absurd (hA rfl) Nat.one_ne_zero
      | some a =>
        obtain ⟨g, o, rr⟩ := a
        have hg : o = 0 ∧ rr = none := by
          rcases hrow.2 with ⟨h, _⟩ | ⟨g', cap, cur, h, _⟩
          · cases h
          · injection h with h _ _; injection h with h; injection h with h1 h2 h3; exact ⟨h2, h3⟩
        obtain ⟨rfl, rfl⟩ := hg
        have hr2 : w3.ownsRow w2.heap.size 32 4 (.slice (some ⟨g, 0, none⟩) 1 cp) 1 _ := hrow
        have q0 : w3.cell? ⟨g, 0, none⟩ = some (.int .i64 2) := hr2.cellAt 0 (by decide)
        have q1 : w3.cell? ⟨g, 3, none⟩ = some (.string ⟨(bl s).toArray⟩) := hr2.cellAt 3 (by decide)
        rw [hss] at q1
        have hB3 := below3 hb1 hb2 hb3
        have hs3 := Nat.le_refl w3.heap.size
        have hK := known_any hL3
        clear hrow hr2 hA
        go_wp2_with (go_at_call 7; refine hK.mono ?_)
        rintro e w4 ⟨rfl, hb4⟩
        go_wp2
        go_ret
        exact ⟨rfl, hB3.trans (hb4.mono hB3.size)⟩
end Go.Proofs.YtnaopgajinbnmaaDoor
