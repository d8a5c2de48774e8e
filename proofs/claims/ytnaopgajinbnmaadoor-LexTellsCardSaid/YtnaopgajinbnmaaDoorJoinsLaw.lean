/- The law of joined sources. -/
import Derived.Test.YtnaopgajinbnmaaDoorSame
import Derived.Test.YtnaopgajinbnmaaDoorMath3
import Derived.Test.YtnaopgajinbnmaaDoorAddr
namespace Go.Proofs.YtnaopgajinbnmaaDoor
open Go.RowKit

theorem lexR_cases (l : List UInt8) : (∃ ts, lexL l = (ts, none) ∧ l.length ≤ 6000 ∧ ts.length ≤ 2000 ∧ lexR l = (ts, ts.length, 0)) ∨ (∃ n e, lexR l = ([], n, e) ∧ (e = 2 ∨ e = 3)) := by
  unfold lexR
  by_cases h1 : 6000 < l.length
  · exact .inr ⟨0, 3, by rw [if_pos h1], .inr rfl⟩
  · rw [if_neg h1]
    cases hl : lexL l with
    | mk ts e =>
      cases e with
      | some p => exact .inr ⟨p, 2, rfl, .inl rfl⟩
      | none =>
        by_cases h2 : 2000 < ts.length
        · exact .inr ⟨0, 3, by simp [h2], .inr rfl⟩
        · exact .inl ⟨ts, rfl, by omega, by omega, by simp [h2]⟩
theorem sameT_shift (d : Nat) (x : Tok) : sameT (shiftT d x) x = true := by simp [sameT, shiftT]
theorem sameL_shift (d : Nat) : ∀ (a : List Tok), sameL (a.map (shiftT d)) a = true
  | [] => rfl
  | x :: r => by rw [List.map_cons, sameL, sameT_shift, sameL_shift d r]; rfl
theorem joined (a b : List UInt8) (ts us : List Tok) (ha : lexL a = (ts, none)) (hb : lexL b = (us, none)) :
    lexR (a ++ 10 :: b) = (ts ++ us.map (shiftT (a.length + 1)), ts.length + us.length, 0) ∨ lexR (a ++ 10 :: b) = ([], 0, 3) := by
  unfold lexR
  by_cases h1 : 6000 < (a ++ 10 :: b).length
  · exact .inr (by rw [if_pos h1])
  · rw [if_neg h1, lexL_app a b ts us ha hb]
    by_cases h2 : 2000 < (ts ++ us.map (shiftT (a.length + 1))).length
    · exact .inr (by simp only [h2, if_true])
    · exact .inl (by simp only [h2, if_false]; simp)

theorem tokAt_left {w : World} {A : Option Addr} {ts vs : List Tok} (h : TokAt w A (ts ++ vs)) : TokAt w A ts := fun h0 => by
  obtain ⟨b, o, e, hb, hc⟩ := h (by rw [List.length_append]; omega)
  refine ⟨b, o, e, hb, fun i hi => ?_⟩
  have := hc i (by rw [List.length_append]; omega)
  rw [List.getElem_append_left hi] at this
  exact this
theorem tokAt_right {w : World} {g o : Nat} {ts vs : List Tok} (h : TokAt w (some ⟨g, o, none⟩) (ts ++ vs)) : TokAt w (some ⟨g, o + ts.length * 4, none⟩) vs := fun h0 => by
  obtain ⟨b, o', e, hb, hc⟩ := h (by rw [List.length_append]; omega)
  injection e with e
  injection e with e1 e2 _
  subst e1; subst e2
  refine ⟨_, _, rfl, hb, fun i hi => ?_⟩
  have := hc (ts.length + i) (by rw [List.length_append]; omega)
  rw [List.getElem_append_right (by omega)] at this
  simp only [Nat.add_sub_cancel_left] at this
  rw [show o + (ts.length + i) * 4 = o + ts.length * 4 + i * 4 by omega] at this
  exact this

set_option maxRecDepth 100000 in
set_option maxHeartbeats 16000000 in
theorem joins_law (a b : ByteArray) (ha : a.size ≤ 140737488355328) (hb : b.size ≤ 140737488355328) {w : World} (hL : Laid w) :
    Calls Tryd.prog 6 #[.string a, .string b] w fun e w' => e = .returned (.bool true) ∧ Below w.heap.size w w' := by
  have HL := Lib.hid hL
  by_cases hbig : 48000 < a.size + b.size
  · have hd : decide (48000 < (a.size : Int) + (b.size : Int)) = true := decide_eq_true (by omega)
    have hK := known_any hL
    clear hL hbig
    go_enter Tryd.func6, Tryd.ntmps6
    go_wp2_with (go_at_call 7; refine hK.mono ?_)
    rintro e w1 ⟨rfl, hb1⟩
    go_wp2
    go_ret
    exact ⟨rfl, hb1⟩
  · have hd : decide (48000 < (a.size : Int) + (b.size : Int)) = false := decide_eq_false (by omega)
    have c1 := lex_any a w hL
    have c2 := fun (w : World) (hL : Laid w) => lex_any b w hL
    rcases lexR_cases (bl a) with ⟨ts, hts, hal, htl, hra⟩ | ⟨n, e, hra, he⟩
    · rcases lexR_cases (bl b) with ⟨us, hus, hbl, hul, hrb⟩ | ⟨n, e, hrb, he⟩
      · rw [hra] at c1
        have hsa : a.size ≤ 6000 := by rw [← bl_len]; exact hal
        have hsb : b.size ≤ 6000 := by rw [← bl_len]; exact hbl
        have hbl3 : bl (a ++ ⟨#[10]⟩ ++ b) = bl a ++ 10 :: bl b := by unfold bl; simp
        have c3 := fun (w : World) (hL : Laid w) => lex_any (a ++ ⟨#[10]⟩ ++ b) w hL
        rw [hbl3] at c3
        have hj := joined (bl a) (bl b) ts us hts hus
        clear hra hL hts hus hal hbl hbl3
        go_enter Tryd.func6, Tryd.ntmps6
        go_wp2_with (go_at_call 8; refine c1.mono ?_)
        rintro e1 w1 ⟨v, rfl, hrow, hb1⟩
        have hL1 := HL.out.below hb1
        have c2' := c2 _ hL1
        rw [hrb] at c2'
        clear hrb
        go_wp2_with (go_at_call 8; refine c2'.mono ?_)
        rintro e3 w2 ⟨v2, rfl, hrow2, hb2⟩
        have hL2 := hL1.below hb2
        have c3' := c3 _ hL2
        obtain ⟨tn, htn⟩ : ∃ n, ts.length = n := ⟨_, rfl⟩
        obtain ⟨un, hun⟩ : ∃ n, us.length = n := ⟨_, rfl⟩
        rcases hj with hj | hj
        · rw [hj] at c3'
          clear hj c3 c2 c1
          obtain ⟨vs, hvs⟩ : ∃ vs, us.map (shiftT ((bl a).length + 1)) = vs := ⟨_, rfl⟩
          have hvl : vs.length = un := by rw [← hvs, List.length_map, hun]
          have hsv : sameL vs us = true := by rw [← hvs]; exact sameL_shift _ _
          have hsu := sameL_refl ts
          rw [hvs, htn, hun] at c3'
          have c4 : Calls Tryd.prog 8 #[.string (a ++ ⟨#[10]⟩ ++ b)] w2 fun e w' => ∃ v, e = .returned (.tuple #[v, .int .i64 (tn + un : Nat), .int .i64 0]) ∧ w'.ownsRow w2.heap.size 32 4 v (ts ++ vs).length ((ts ++ vs).flatMap cellsT) ∧ Below w2.heap.size w2 w' := c3'
          clear hvs c3'
          go_wp2_with (go_at_call 8; refine c4.mono ?_)
          rintro e5 w3 ⟨v3, rfl, hrow3', hb3⟩
          obtain ⟨A1, cp1, rfl, -⟩ := own_form hrow
          obtain ⟨A2, cp2, rfl, -⟩ := own_form hrow2
          obtain ⟨A3, cp3, rfl, -⟩ := own_form hrow3'
          have t1 := ((tokAt_own hrow).1.below hb2).below hb3
          have t2 := ((tokAt_own hrow2).1).below hb3
          obtain ⟨t3, -, hc3, hA3⟩ := tokAt_own hrow3'
          have hln : (ts ++ vs).length = tn + un := by rw [List.length_append, htn, hvl]
          rw [hln] at hc3 ⊢
          have hL3 := hL2.below hb3
          rcases hA3 with rfl | ⟨g, rfl⟩
          · have h0 : tn + un = 0 := by
              rcases hrow3'.2 with ⟨h, h2⟩ | ⟨g', cap, cur, h, _⟩
              · rw [← hln]; exact h2
              · injection h with h _ _; cases h
            have hc0 : cp3 = 0 := by
              rcases hrow3'.2 with ⟨h, h2⟩ | ⟨g', cap, cur, h, _⟩
              · injection h with _ _ h
              · injection h with h _ _; cases h
            have htn0 : tn = 0 := by omega
            have hun0 : un = 0 := by omega
            subst hc0
            have S1 := same_any ts ts none A1 0 cp1 (by omega) (by omega) (fun h => by omega) t1
            have S2 := fun (w4 : World) (hb4 : Below w3.heap.size w3 w4) => same_any vs us none A2 0 cp2 (by omega) (by omega) (fun h => by omega) (t2.below hb4)
            rw [htn, hsu, htn0] at S1
            rw [hvl, hsv, hun, hun0] at S2
            subst htn0
            subst hun0
            have hts0 : ts = [] := List.length_eq_zero_iff.1 htn
            have hus0 : us = [] := List.length_eq_zero_iff.1 hun
            clear t1 t2 hln t3 hrow hrow2 hrow3' htn hun hvl hc3 c4 c2' h0 htl hul hsv hsu
            subst hts0
            subst hus0
            go_wp2_with (go_at_call 21; refine S1.mono ?_)
            rintro e6 w4 ⟨rfl, hb4⟩
            have hL4 := hL3.below hb4
            go_wp2_with (go_at_call 21; refine (S2 _ hb4).mono ?_)
            rintro e7 w5 ⟨rfl, hb5⟩
            have hK := known_any (hL4.below hb5)
            go_wp2_with (go_at_call 7; refine hK.mono ?_)
            rintro e8 w6 ⟨rfl, hb6⟩
            go_wp2
            go_ret
            have x2 := Nat.le_trans hb1.size hb2.size
            have x3 := Nat.le_trans x2 hb3.size
            have x4 := Nat.le_trans x3 hb4.size
            have x5 := Nat.le_trans x4 hb5.size
            exact ⟨rfl, hb1.trans ((hb2.mono hb1.size).trans ((hb3.mono x2).trans ((hb4.mono x3).trans ((hb5.mono x4).trans (hb6.mono x5)))))⟩
          · have u1 := tokAt_left t3
            have u2 := tokAt_right t3
            rw [htn] at u2
            have S1 := same_any ts ts (some ⟨g, 0, none⟩) A1 cp3 cp1 (by omega) (by omega) u1 t1
            rw [htn, hsu] at S1
            have htu : tn + un ≤ cp3 ∨ tn + un = 0 := by
              rcases Nat.eq_zero_or_pos (tn + un) with h | h
              · exact .inr h
              · exact .inl (hc3 h)
            have hcp : tn + un ≤ cp3 := by
              rcases hrow3'.2 with ⟨h, _⟩ | ⟨g', cap, cur, h, _, _, h2, _⟩
              · cases h
              · injection h with _ _ h; rw [h, ← hln]; exact h2
            clear htu hc3
            go_wp2_with (go_at_call 21; refine S1.mono ?_)
            rintro e6 w4 ⟨rfl, hb4⟩
            have hL4 := hL3.below hb4
            have hfin : ∀ w5 w6, Below w4.heap.size w4 w5 → Below w5.heap.size w5 w6 → Below w.heap.size w w6 := fun w5 w6 hb5 hb6 => by
              have x2 := Nat.le_trans hb1.size hb2.size
              have x3 := Nat.le_trans x2 hb3.size
              have x4 := Nat.le_trans x3 hb4.size
              have x5 := Nat.le_trans x4 hb5.size
              exact hb1.trans ((hb2.mono hb1.size).trans ((hb3.mono x2).trans ((hb4.mono x3).trans ((hb5.mono x4).trans (hb6.mono x5)))))
            have S2 : ∀ o c, (un = 0 ∨ o = 0 + tn * 4) → Calls Tryd.prog 21 #[.slice (some ⟨g, o, none⟩) un c, .slice A2 un cp2] w4 fun e w' => e = .returned (.bool true) ∧ Below w4.heap.size w4 w' := fun o c ho => by
              have u3 : TokAt w4 (some ⟨g, o, none⟩) vs := by
                rcases ho with h | h
                · intro h0; omega
                · rw [h]; exact u2.below hb4
              have := same_any vs us (some ⟨g, o, none⟩) A2 c cp2 (by omega) (by omega) u3 (t2.below hb4)
              rwa [hvl, hsv, hun] at this
            clear u2 t2 u1 t1 t3 S1
            go_wp2_with fail
            · refine (S2 _ _ (by first | (left; omega) | (right; omega))).mono ?_
              rintro e7 w5 ⟨rfl, hb5⟩
              have hK := known_any (hL4.below hb5)
              go_wp2_with (go_at_call 7; refine hK.mono ?_)
              rintro e8 w6 ⟨rfl, hb6⟩
              go_wp2
              go_ret
              exact ⟨rfl, hfin _ _ hb5 hb6⟩
            · refine (S2 _ _ (by first | (left; omega) | (right; omega))).mono ?_
              rintro e7 w5 ⟨rfl, hb5⟩
              have hK := known_any (hL4.below hb5)
              go_wp2_with (go_at_call 7; refine hK.mono ?_)
              rintro e8 w6 ⟨rfl, hb6⟩
              go_wp2
              go_ret
              exact ⟨rfl, hfin _ _ hb5 hb6⟩
        · rw [hj] at c3'
          clear hj c3 c2 c1
          go_wp2_with (go_at_call 8; refine c3'.mono ?_)
          rintro e5 w3 ⟨v3, rfl, hrow3, hb3⟩
          have hK := known_any (hL2.below hb3)
          go_wp2_with (go_at_call 7; refine hK.mono ?_)
          rintro e4 w4 ⟨rfl, hb4⟩
          go_wp2
          go_ret
          exact ⟨rfl, hb1.trans ((hb2.mono hb1.size).trans ((hb3.mono (Nat.le_trans hb1.size hb2.size)).trans (hb4.mono (Nat.le_trans (Nat.le_trans hb1.size hb2.size) hb3.size))))⟩
      · rw [hra] at c1
        clear hra hL
        have hne : ((e : Int) != 0) = true := by rcases he with rfl | rfl <;> rfl
        clear he
        go_enter Tryd.func6, Tryd.ntmps6
        go_wp2_with (go_at_call 8; refine c1.mono ?_)
        rintro e1 w1 ⟨v, rfl, hrow, hb1⟩
        have hL1 := HL.out.below hb1
        have c2' := c2 _ hL1
        rw [hrb] at c2'
        go_wp2_with (go_at_call 8; refine c2'.mono ?_)
        rintro e3 w2 ⟨v2, rfl, hrow2, hb2⟩
        have hL2 := hL1.below hb2
        have hK := known_any hL2
        go_wp2_with (go_at_call 7; refine hK.mono ?_)
        rintro e4 w3 ⟨rfl, hb3⟩
        go_wp2
        go_ret
        exact ⟨rfl, hb1.trans ((hb2.mono hb1.size).trans (hb3.mono (Nat.le_trans hb1.size hb2.size)))⟩
    · rw [hra] at c1
      clear hra hL
      go_enter Tryd.func6, Tryd.ntmps6
      go_wp2_with (go_at_call 8; refine c1.mono ?_)
      rintro e1 w1 ⟨v, rfl, hrow, hb1⟩
      have hL1 := HL.out.below hb1
      obtain ⟨n2, e2, ts2, hr2⟩ : ∃ n2 e2 ts2, lexR (bl b) = (ts2, n2, e2) := ⟨_, _, _, rfl⟩
      have c2' := c2 _ hL1
      rw [hr2] at c2'
      go_wp2_with (go_at_call 8; refine c2'.mono ?_)
      rintro e3 w2 ⟨v2, rfl, hrow2, hb2⟩
      have hL2 := hL1.below hb2
      have hK := known_any hL2
      have hne : ((e : Int) != 0) = true := by rcases he with rfl | rfl <;> rfl
      clear he
      go_wp2_with (go_at_call 7; refine hK.mono ?_)
      rintro e4 w3 ⟨rfl, hb3⟩
      go_wp2
      go_ret
      exact ⟨rfl, hb1.trans ((hb2.mono hb1.size).trans (hb3.mono (Nat.le_trans hb1.size hb2.size)))⟩
end Go.Proofs.YtnaopgajinbnmaaDoor
