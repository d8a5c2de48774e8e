/- tokenOf: the token at the begin. -/
import Derived.Test.YtnaopgajinbnmaaGreatDoorTxt
namespace Go.Proofs.YtnaopgajinbnmaaGreatDoor
open Go.RowKit

abbrev tokV (t : Tok) : Value := tokB t.kind t.num t.at_ ⟨t.text.toArray⟩
/-- What is told of a token, or of what is none. -/
def TokE (r : Option (Tok × Nat)) (e : Ending) : Prop := match r with
  | some (t, n) => e = .returned (.tuple #[tokV t, .int .i64 (n : Nat), .bool true])
  | none => ∃ (k n a : Int) (s : ByteArray) (m : Int), e = .returned (.tuple #[.agg (tokC k n a s), .int .i64 m, .bool false])
theorem tokE_none {r : Option (Tok × Nat)} {k n a m : Int} {s : ByteArray} (h : r = none) : TokE r (.returned (.tuple #[.agg (tokC k n a s), .int .i64 m, .bool false])) := by subst h; exact ⟨k, n, a, s, m, rfl⟩
theorem tokE_some {r : Option (Tok × Nat)} {t : Tok} {n : Nat} (h : r = some (t, n)) : TokE r (.returned (.tuple #[tokV t, .int .i64 (n : Nat), .bool true])) := by subst h; rfl
theorem sub_take (s : ByteArray) (n : Nat) : s.extract 0 n = ⟨((bl s).take n).toArray⟩ := bl_ext (by rw [bl_to]; simp [bl])

def numT : Option Nat × Nat → Option (Tok × Nat)
  | (none, _) => none
  | (some v, n) => some (⟨1, v, 0, []⟩, n)
def txtT : Option (List UInt8 × Nat) → Option (Tok × Nat)
  | none => none
  | some (t, m) => if t.length ≤ 200 then some (⟨2, 0, 0, t⟩, m + 1) else none

set_option maxRecDepth 100000 in
set_option maxHeartbeats 16000000 in
theorem tokenOf_any (s : ByteArray) (h0 : 0 < s.size) (hz : s.size ≤ 1048576) {w : World} (hL : Laid w) :
    Calls Tryz.prog 28 #[.string s] w fun e w' => TokE (tokL 0 (bl s)) e ∧ Below w.heap.size w w' := by
  obtain ⟨W1, hW1⟩ : ∃ W, w.alloc (.cells #[.int .i64 0, .int .i64 0, .int .i64 0, .string ⟨#[]⟩] 32) = W := ⟨_, rfl⟩
  have hb1 : Below w.heap.size w W1 := hW1 ▸ (Below.refl _ w).alloc (Nat.le_refl _) _
  have hy : Blk W1 w.heap.size 32 #[.int .i64 0, .int .i64 0, .int .i64 0, .string ⟨#[]⟩] := hW1 ▸ Blk.new _ _ _
  have hL1 : Laid W1 := hL.below hb1
  have HL1 := Lib.hid hL1
  have HB1 := Lib.hid hb1
  have HY := Lib.hid hy
  have hlt := hy.lt
  have hs1 := hb1.size
  clear hL hb1 hy hL1
  obtain ⟨B, hB⟩ : ∃ B, w.heap.size = B := ⟨_, rfl⟩
  rw [hB] at HB1 HY hlt hs1 ⊢
  have HA := bl_at s 0 h0
  rw [List.drop_zero] at HA
  obtain ⟨r, hr⟩ : ∃ r, (bl s).drop (0 + 1) = r := ⟨_, rfl⟩
  rw [hr] at HA
  have hrl : r.length + 1 = s.size := by rw [← hr, List.length_drop, bl_len]; omega
  have hc1 : Calls Tryz.prog 37 #[.int .u8 (s[0].toNat : Int), .int .u8 96] W1 fun e w' => e = .returned (.bool (isB 96 s[0])) ∧ W1 = w' := is_any HL1.out.tab s[0] 96 (by decide)
  have hc2 : Calls Tryz.prog 37 #[.int .u8 (s[0].toNat : Int), .int .u8 16] W1 fun e w' => e = .returned (.bool (isB 16 s[0])) ∧ W1 = w' := is_any HL1.out.tab s[0] 16 (by decide)
  have hc3 : Calls Tryz.prog 37 #[.int .u8 (s[0].toNat : Int), .int .u8 4] W1 fun e w' => e = .returned (.bool (isB 4 s[0])) ∧ W1 = w' := is_any HL1.out.tab s[0] 4 (by decide)
  have hc4 : Calls Tryz.prog 37 #[.int .u8 (s[0].toNat : Int), .int .u8 8] W1 fun e w' => e = .returned (.bool (isB 8 s[0])) ∧ W1 = w' := is_any HL1.out.tab s[0] 8 (by decide)
  rw [isB_letter] at hc1
  rw [isB_digit] at hc2
  rw [isB_quote] at hc3
  cases h1 : letterB s[0] with
  | true =>
    rw [h1] at hc1
    have hV := wordOf_any s hz HL1.out.tab
    obtain ⟨n, hn⟩ : ∃ n, wordL (bl s) = n := ⟨_, rfl⟩
    have hF : tokL 0 (bl s) = if n ≤ 16 then some (⟨0, 0, 0, (bl s).take n⟩, n) else none := by
      unfold tokL; rw [HA]; simp only [h1, if_true]; rw [← HA, hn]
    have HF := Lib.hid hF
    rw [hn] at hV
    clear hF hn h1 HA hr hc2 hc3 hc4
    go_enter Tryz.func28, Tryz.ntmps28
    go_wp2_with (first | (go_at_call 37; with_reducible refine hc1.mono ?_; rintro e w' ⟨rfl, rfl⟩))
    go_wp2_with (go_at_call 38; refine hV.mono ?_)
    rintro e w2 ⟨rfl, hb2⟩
    have hy2 := HY.out.below hb2 hlt
    obtain ⟨z0, z1, z2, z3, q0, q1, q2, q3⟩ := tok_facts hy2
    by_cases h16 : n ≤ 16
    · rw [show decide (n ≤ 16) = true from decide_eq_true h16]
      obtain ⟨y0, y1, y2, y3, -⟩ := tok_facts (tokPut_blk hy2 (.int .i64 0) (.int .i64 0) (.int .i64 0) (.string (s.extract 0 n)))
      have hb3 := tokPut_below (HB1.out.trans (hb2.mono hs1)) (Nat.le_refl _) (.int .i64 0) (.int .i64 0) (.int .i64 0) (.string (s.extract 0 n))
      unfold tokPut at y0 y1 y2 y3 hb3
      go_wp2
      refine bodyPost_ret (v := .tuple #[.agg (tokC 0 0 0 (s.extract 0 n)), .int .i64 (n : Nat), .bool true]) (by simp [results, Tryz.results28, go_sem, y0, y1, y2, y3]) rfl ⟨by rw [HF.out, if_pos h16]; show _ = _; rw [sub_take]; rfl, hb3⟩
    · rw [show decide (n ≤ 16) = false from decide_eq_false h16]
      obtain ⟨y0, y1, y2, y3, -⟩ := tok_facts (tokPut_blk hy2 (.int .i64 0) (.int .i64 0) (.int .i64 0) (.string (s.extract 0 n)))
      have hb3 := tokPut_below (HB1.out.trans (hb2.mono hs1)) (Nat.le_refl _) (.int .i64 0) (.int .i64 0) (.int .i64 0) (.string (s.extract 0 n))
      unfold tokPut at y0 y1 y2 y3 hb3
      go_wp2
      refine bodyPost_ret (v := .tuple #[.agg (tokC 0 0 0 (s.extract 0 n)), .int .i64 (n : Nat), .bool false]) (by simp [results, Tryz.results28, go_sem, y0, y1, y2, y3]) rfl ⟨tokE_none (by rw [HF.out, if_neg h16]), hb3⟩
  | false =>
    rw [h1] at hc1
    cases h2 : digitB s[0] with
    | true =>
      rw [h2] at hc2
      have hV := numberOf_any s hz HL1.out
      obtain ⟨v, n, hn⟩ : ∃ v n, numL (bl s) = (v, n) := ⟨_, _, rfl⟩
      have hF : tokL 0 (bl s) = numT (v, n) := by
        unfold tokL; rw [HA]; simp only [h1, h2, if_true, Bool.false_eq_true, if_false]; rw [← HA, hn]; cases v <;> rfl
      have HF := Lib.hid hF
      rw [hn] at hV
      clear hF hn h1 h2 HA hr hc3 hc4
      go_enter Tryz.func28, Tryz.ntmps28
      go_wp2_with (first | (go_at_call 37; with_reducible refine hc1.mono ?_; rintro e w' ⟨rfl, rfl⟩) | (go_at_call 37; with_reducible refine hc2.mono ?_; rintro e w' ⟨rfl, rfl⟩))
      go_wp2_with (go_at_call 39; refine hV.mono ?_)
      rintro e w2 ⟨rfl, hb2⟩
      have hy2 := HY.out.below hb2 hlt
      obtain ⟨z0, z1, z2, z3, q0, q1, q2, q3⟩ := tok_facts hy2
      cases v with
      | none =>
        obtain ⟨y0, y1, y2, y3, -⟩ := tok_facts (tokPut_blk hy2 (.int .i64 1) (.int .i64 0) (.int .i64 0) (.string ⟨#[]⟩))
        have hb3 := tokPut_below (HB1.out.trans (hb2.mono hs1)) (Nat.le_refl _) (.int .i64 1) (.int .i64 0) (.int .i64 0) (.string ⟨#[]⟩)
        unfold tokPut at y0 y1 y2 y3 hb3
        go_wp2
        refine bodyPost_ret (v := .tuple #[.agg (tokC 1 0 0 ⟨#[]⟩), .int .i64 (n : Nat), .bool false]) (by simp [results, Tryz.results28, go_sem, y0, y1, y2, y3]) rfl ⟨tokE_none HF.out, hb3⟩
      | some v =>
        obtain ⟨y0, y1, y2, y3, -⟩ := tok_facts (tokPut_blk hy2 (.int .i64 1) (.int .i64 (v : Nat)) (.int .i64 0) (.string ⟨#[]⟩))
        have hb3 := tokPut_below (HB1.out.trans (hb2.mono hs1)) (Nat.le_refl _) (.int .i64 1) (.int .i64 (v : Nat)) (.int .i64 0) (.string ⟨#[]⟩)
        unfold tokPut at y0 y1 y2 y3 hb3
        go_wp2
        refine bodyPost_ret (v := .tuple #[.agg (tokC 1 v 0 ⟨#[]⟩), .int .i64 (n : Nat), .bool true]) (by simp [results, Tryz.results28, go_sem, y0, y1, y2, y3]) rfl ⟨tokE_some (t := ⟨1, v, 0, []⟩) HF.out, hb3⟩
    | false =>
      rw [h2] at hc2
      by_cases h3 : s[0].toNat = 34
      · rw [show (s[0].toNat == 34) = true by rw [h3]; rfl] at hc3
        have hV := textOf_any s h0 hz HL1.out
        rw [show (bl s).drop 1 = r from hr] at hV
        obtain ⟨x, hx⟩ : ∃ x, textGo s.size r = x := ⟨_, rfl⟩
        have hF : tokL 0 (bl s) = txtT x := by
          unfold tokL; rw [HA]; simp only [h1, h2, h3, if_true, Bool.false_eq_true, if_false]; rw [hrl, hx]; cases x <;> rfl
        have HF := Lib.hid hF
        rw [hx] at hV
        clear hF hx h1 h2 h3 HA hr hc4 hrl
        go_enter Tryz.func28, Tryz.ntmps28
        go_wp2_with (first | (go_at_call 37; with_reducible refine hc1.mono ?_; rintro e w' ⟨rfl, rfl⟩) | (go_at_call 37; with_reducible refine hc2.mono ?_; rintro e w' ⟨rfl, rfl⟩) | (go_at_call 37; with_reducible refine hc3.mono ?_; rintro e w' ⟨rfl, rfl⟩))
        go_wp2_with (go_at_call 40; refine hV.mono ?_)
        rintro e w2 ⟨rfl, hb2⟩
        have hy2 := HY.out.below hb2 hlt
        obtain ⟨z0, z1, z2, z3, q0, q1, q2, q3⟩ := tok_facts hy2
        cases x with
        | none =>
          obtain ⟨y0, y1, y2, y3, -⟩ := tok_facts (tokPut_blk hy2 (.int .i64 0) (.int .i64 0) (.int .i64 0) (.string ⟨#[]⟩))
          have hb3 := tokPut_below (HB1.out.trans (hb2.mono hs1)) (Nat.le_refl _) (.int .i64 0) (.int .i64 0) (.int .i64 0) (.string ⟨#[]⟩)
          unfold tokPut at y0 y1 y2 y3 hb3
          go_wp2
          refine bodyPost_ret (v := .tuple #[.agg (tokC 0 0 0 ⟨#[]⟩), .int .i64 0, .bool false]) (by simp [results, Tryz.results28, go_sem, y0, y1, y2, y3]) rfl ⟨tokE_none HF.out, hb3⟩
        | some x =>
          obtain ⟨t, m⟩ := x
          by_cases h200 : t.length ≤ 200
          · have hd2 : decide (t.length ≤ 200) = true := decide_eq_true h200
            simp only [hd2]
            obtain ⟨y0, y1, y2, y3, -⟩ := tok_facts (tokPut_blk hy2 (.int .i64 2) (.int .i64 0) (.int .i64 0) (.string ⟨t.toArray⟩))
            have hb3 := tokPut_below (HB1.out.trans (hb2.mono hs1)) (Nat.le_refl _) (.int .i64 2) (.int .i64 0) (.int .i64 0) (.string ⟨t.toArray⟩)
            unfold tokPut at y0 y1 y2 y3 hb3
            go_wp2
            refine bodyPost_ret (v := .tuple #[.agg (tokC 2 0 0 ⟨t.toArray⟩), .int .i64 (m + 1 : Nat), .bool true]) (by simp [results, Tryz.results28, go_sem, y0, y1, y2, y3]) rfl ⟨tokE_some (t := ⟨2, 0, 0, t⟩) (by rw [HF.out]; show (if t.length ≤ 200 then _ else _) = _; rw [if_pos h200]), hb3⟩
          · have hd2 : decide (t.length ≤ 200) = false := decide_eq_false h200
            simp only [hd2]
            obtain ⟨y0, y1, y2, y3, -⟩ := tok_facts (tokPut_blk hy2 (.int .i64 2) (.int .i64 0) (.int .i64 0) (.string ⟨t.toArray⟩))
            have hb3 := tokPut_below (HB1.out.trans (hb2.mono hs1)) (Nat.le_refl _) (.int .i64 2) (.int .i64 0) (.int .i64 0) (.string ⟨t.toArray⟩)
            unfold tokPut at y0 y1 y2 y3 hb3
            go_wp2
            refine bodyPost_ret (v := .tuple #[.agg (tokC 2 0 0 ⟨t.toArray⟩), .int .i64 (m + 1 : Nat), .bool false]) (by simp [results, Tryz.results28, go_sem, y0, y1, y2, y3]) rfl ⟨tokE_none (by rw [HF.out]; show (if t.length ≤ 200 then _ else _) = _; rw [if_neg h200]), hb3⟩
      · rw [show (s[0].toNat == 34) = false by simpa using h3] at hc3
        cases h4 : isB 8 s[0] with
        | true =>
          rw [h4] at hc4
          have hV := sign_any (w := W1) s h0 hz
          obtain ⟨n, hn⟩ : ∃ n, signL (bl s) = n := ⟨_, rfl⟩
          have hnl : n ≤ s.size := by
            rw [← hn]; unfold signL; split
            · rename_i ht
              unfold two at ht
              rw [HA] at ht
              match r, hrl, ht with
              | [], _, ht => simp at ht
              | d :: r, hrl, _ => simp at hrl; omega
            · omega
          have hF : tokL 0 (bl s) = some (⟨3, 0, 0, (bl s).take n⟩, n) := by
            unfold tokL; rw [HA]; simp only [h1, h2, h3, h4, if_true, Bool.false_eq_true, if_false]; rw [← HA, hn]
          have HF := Lib.hid hF
          rw [hn] at hV
          clear hF hn h1 h2 h3 h4 HA hr hrl
          have hb2 := Below.refl W1.heap.size W1
          have hy2 := HY.out
          obtain ⟨z0, z1, z2, z3, q0, q1, q2, q3⟩ := tok_facts hy2
          obtain ⟨y0, y1, y2, y3, -⟩ := tok_facts (tokPut_blk hy2 (.int .i64 3) (.int .i64 0) (.int .i64 0) (.string (s.extract 0 n)))
          have hb3 := tokPut_below (HB1.out) (Nat.le_refl _) (.int .i64 3) (.int .i64 0) (.int .i64 0) (.string (s.extract 0 n))
          unfold tokPut at y0 y1 y2 y3 hb3
          go_enter Tryz.func28, Tryz.ntmps28
          go_wp2_with (first | (go_at_call 37; with_reducible refine hc1.mono ?_; rintro e w' ⟨rfl, rfl⟩) | (go_at_call 37; with_reducible refine hc2.mono ?_; rintro e w' ⟨rfl, rfl⟩) | (go_at_call 37; with_reducible refine hc3.mono ?_; rintro e w' ⟨rfl, rfl⟩) | (go_at_call 37; with_reducible refine hc4.mono ?_; rintro e w' ⟨rfl, rfl⟩) | (go_at_call 41; refine hV.mono ?_; rintro e w' ⟨rfl, rfl⟩))
          refine bodyPost_ret (v := .tuple #[.agg (tokC 3 0 0 (s.extract 0 n)), .int .i64 (n : Nat), .bool true]) (by simp [results, Tryz.results28, go_sem, y0, y1, y2, y3]) rfl ⟨by rw [HF.out]; show _ = _; rw [sub_take]; rfl, hb3⟩
        | false =>
          rw [h4] at hc4
          have hF : tokL 0 (bl s) = none := by
            unfold tokL; rw [HA]; simp only [h1, h2, h3, h4, Bool.false_eq_true, if_false]
          have HF := Lib.hid hF
          clear hF h1 h2 h3 h4 HA hr hrl
          have hy2 := HY.out
          obtain ⟨z0, z1, z2, z3, q0, q1, q2, q3⟩ := tok_facts hy2
          obtain ⟨y0, y1, y2, y3, -⟩ := tok_facts (tokPut_blk hy2 (.int .i64 0) (.int .i64 0) (.int .i64 0) (.string ⟨#[]⟩))
          have hb3 := tokPut_below (HB1.out) (Nat.le_refl _) (.int .i64 0) (.int .i64 0) (.int .i64 0) (.string ⟨#[]⟩)
          unfold tokPut at y0 y1 y2 y3 hb3
          go_enter Tryz.func28, Tryz.ntmps28
          go_wp2_with (first | (go_at_call 37; with_reducible refine hc1.mono ?_; rintro e w' ⟨rfl, rfl⟩) | (go_at_call 37; with_reducible refine hc2.mono ?_; rintro e w' ⟨rfl, rfl⟩) | (go_at_call 37; with_reducible refine hc3.mono ?_; rintro e w' ⟨rfl, rfl⟩) | (go_at_call 37; with_reducible refine hc4.mono ?_; rintro e w' ⟨rfl, rfl⟩))
          refine bodyPost_ret (v := .tuple #[.agg (tokC 0 0 0 ⟨#[]⟩), .int .i64 0, .bool false]) (by simp [results, Tryz.results28, go_sem, y0, y1, y2, y3]) rfl ⟨tokE_none HF.out, hb3⟩
end Go.Proofs.YtnaopgajinbnmaaGreatDoor
