/- The law of tokens. -/
import Derived.Test.YtnaopgajinbnmaaDoorRefCut
import Derived.Test.YtnaopgajinbnmaaDoorJoinsLaw
namespace Go.Proofs.YtnaopgajinbnmaaDoor
open Go.RowKit

theorem lexR_cut (l : List UInt8) (h : l.length ≤ 6000) : lexR l = if (cutR l).2.2 = 0 ∧ 2000 < (cutR l).2.1 then ([], 0, 3) else cutR l := by
  unfold lexR cutR
  rw [if_neg (by omega)]
  cases hl : lexL l with
  | mk ts e =>
    cases e with
    | some p => simp
    | none => simp

set_option maxRecDepth 100000 in
set_option maxHeartbeats 4000000 in
theorem rlex_any (s : ByteArray) (hz : s.size ≤ 140737488355328) (w : World) : Calls Tryd.prog 9 #[.string s] w (LexPost (lexR (bl s)) w) := by
  by_cases h6 : 6000 < s.size
  · have hF : lexR (bl s) = ([], 0, 3) := by unfold lexR; rw [if_pos (by rw [bl_len]; exact h6)]
    rw [hF]
    have hd : decide (6000 < (s.size : Int)) = true := decide_eq_true (by omega)
    clear hF h6
    go_enter Tryd.func9, Tryd.ntmps9
    go_wp2
    go_ret3
    exact ⟨_, rfl, World.ownsRow_nil _ _ _ _, Below.refl _ _⟩
  · have hd : decide (6000 < (s.size : Int)) = false := decide_eq_false (by omega)
    have hF := lexR_cut (bl s) (by rw [bl_len]; omega)
    have hC := rcut_any s (by omega) w
    obtain ⟨⟨ts, n, e⟩, hX⟩ : ∃ X, cutR (bl s) = X := ⟨_, rfl⟩
    rw [hX] at hF hC
    simp only at hF
    have HF := Lib.hid hF
    clear hF hX h6
    go_enter Tryd.func9, Tryd.ntmps9
    go_wp2_with (go_at_call 23; refine hC.mono ?_)
    rintro e w1 ⟨v, rfl, hrow, hb⟩
    have HR := Lib.hid (And.intro hrow hb)
    obtain ⟨A, cp, rfl, -⟩ := own_form hrow
    clear hrow hb
    by_cases h0 : e = 0
    · subst h0
      by_cases h2 : 2000 < n
      · have hd2 : decide (2000 < (n : Int)) = true := decide_eq_true (by omega)
        rw [if_pos ⟨rfl, h2⟩] at HF
        clear h2
        go_wp2
        go_ret3
        rw [HF.out]
        exact ⟨_, rfl, World.ownsRow_nil _ _ _ _, HR.out.2⟩
      · have hd2 : decide (2000 < (n : Int)) = false := decide_eq_false (by omega)
        rw [if_neg (fun h => h2 h.2)] at HF
        clear h2
        go_wp2
        go_ret3
        rw [HF.out]
        exact ⟨_, rfl, HR.out.1, HR.out.2⟩
    · have e0 : ((e : Int) == 0) = false := by simp; omega
      rw [if_neg (fun h => h0 h.1)] at HF
      clear h0
      go_wp2
      go_ret3
      rw [HF.out]
      exact ⟨_, rfl, HR.out.1, HR.out.2⟩

set_option maxRecDepth 100000 in
set_option maxHeartbeats 4000000 in
theorem tokens_any (xs : List Tok) (A C : Option Addr) (c1 c2 : Nat) (hx : xs.length ≤ 1048576) {w : World} (hA : TokAt w A xs) (hC : TokAt w C xs) :
    Calls Tryd.prog 10 #[.slice A xs.length c1, .slice C xs.length c2] w fun e w' => e = .returned (.bool true) ∧ Below w.heap.size w w' := by
  obtain ⟨n, hn⟩ : ∃ n, xs.length = n := ⟨_, rfl⟩
  have HN := Lib.hid hn
  rw [hn] at hx ⊢
  clear hn
  go_enter Tryd.func10, Tryd.ntmps10
  go_wp2
  go_loopw [5] (fun i wr => ∃ k : Nat, i = .int .i64 k ∧ k ≤ n ∧ Hid (Below w.heap.size w wr)) (fun i _ => n - (intOf i).toNat)
  case atStart => exact ⟨0, rfl, Nat.zero_le _, Lib.hid (Below.refl _ _)⟩
  case round =>
    obtain ⟨k, rfl, hk, HW⟩ := hrel
    by_cases hlt : k < n
    · have hkx : k < xs.length := by rw [HN.out]; exact hlt
      obtain ⟨b, o, rfl, hbl, hc⟩ := hA.below HW.out (by omega)
      obtain ⟨b', o', rfl, hbl', hc'⟩ := hC.below HW.out (by omega)
      obtain ⟨p0, p1, p2, p3⟩ := hc k hkx
      obtain ⟨r0, r1, r2, r3⟩ := hc' k hkx
      generalize xs[k] = x at p0 p1 p2 p3 r0 r1 r2 r3
      obtain ⟨xk, xn, xa, xt⟩ := x
      have hd : decide ((k : Int) < (n : Int)) = true := decide_eq_true (by omega)
      have h3 : (k : Int) < (n : Int) := by omega
      clear hc hc' hA hC
      go_wp2
      go_quiet (fail)
      go_wp2
      exact ⟨⟨k + 1, by go_num, by omega, Lib.hid (below_drewN HW.out _)⟩, by simp [intOf]; omega⟩
    · obtain rfl : k = n := by omega
      clear hlt
      go_wp2
      go_ret
      exact ⟨rfl, HW.out⟩

set_option maxRecDepth 100000 in
set_option maxHeartbeats 8000000 in
theorem tells_law (s : ByteArray) (hs : s.size ≤ 140737488355328) {w : World} (hL : Laid w) :
    Calls Tryd.prog 3 #[.string s] w fun e w' => e = .returned (.bool true) ∧ Below w.heap.size w w' := by
  have HL := Lib.hid hL
  by_cases h1 : 48000 < s.size
  · have hd : decide (48000 < (s.size : Int)) = true := decide_eq_true (by omega)
    have hK := known_any hL
    clear hL h1
    go_enter Tryd.func3, Tryd.ntmps3
    go_wp2_with (go_at_call 7; refine hK.mono ?_; rintro e w' ⟨rfl, hb⟩)
    go_ret
    exact ⟨rfl, hb⟩
  · have hd : decide (48000 < (s.size : Int)) = false := decide_eq_false (by omega)
    have c1 := lex_any s w hL
    have c2 := fun w => rlex_any s hs w
    have hlen : (lexR (bl s)).1.length ≤ 2000 := by
      rcases lexR_cases (bl s) with ⟨ts, _, _, h, e⟩ | ⟨n, e, h, _⟩
      · rw [e]; exact h
      · rw [h]; simp
    obtain ⟨⟨ts, n, e⟩, hX⟩ : ∃ X, lexR (bl s) = X := ⟨_, rfl⟩
    rw [hX] at c1 c2 hlen
    simp only at hlen
    clear hL h1 hX
    go_enter Tryd.func3, Tryd.ntmps3
    go_wp2_with (go_at_call 8; refine c1.mono ?_)
    rintro e1 w1 ⟨v, rfl, hrow, hb1⟩
    obtain ⟨A, cp, rfl, -⟩ := own_form hrow
    have hT1 := (tokAt_own hrow).1
    have hL1 := HL.out.below hb1
    clear hrow
    go_wp2_with (go_at_call 9; refine (c2 _).mono ?_)
    rintro e2 w2 ⟨v, rfl, hrow, hb2⟩
    obtain ⟨C, cp2, rfl, -⟩ := own_form hrow
    have hT2 := (tokAt_own hrow).1
    have hL2 := hL1.below hb2
    have hK := tokens_any ts A C cp cp2 (by omega) (hT1.below hb2) hT2
    clear hrow
    go_wp2_with (go_at_call 10; refine hK.mono ?_)
    rintro e3 w3 ⟨rfl, hb3⟩
    have hK2 := known_any (hL2.below hb3)
    go_wp2_with (go_at_call 7; refine hK2.mono ?_)
    rintro e4 w4 ⟨rfl, hb4⟩
    go_wp2
    go_ret
    have t1 := Nat.le_trans hb1.size hb2.size
    have t2 := Nat.le_trans t1 hb3.size
    exact ⟨rfl, hb1.trans ((hb2.mono hb1.size).trans ((hb3.mono t1).trans (hb4.mono t2)))⟩
end Go.Proofs.YtnaopgajinbnmaaDoor
