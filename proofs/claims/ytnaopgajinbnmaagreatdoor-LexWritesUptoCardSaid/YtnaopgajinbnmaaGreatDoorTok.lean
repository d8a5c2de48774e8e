/- wordOf, numberOf, escaped, byteOf. -/
import Derived.Test.YtnaopgajinbnmaaGreatDoorMem
namespace Go.Proofs.YtnaopgajinbnmaaGreatDoor
open Go.RowKit

/-- A token as the program holds it. -/
abbrev tokB (k n a : Nat) (s : ByteArray) : Value := .agg #[.int .i64 (k : Int), .int .i64 (n : Int), .int .i64 (a : Int), .string s]

set_option maxRecDepth 100000 in
set_option maxHeartbeats 4000000 in
theorem wordOf_any (s : ByteArray) (hz : s.size ≤ 1048576) {w : World} (hT : Tab w) :
    Calls Tryz.prog 38 #[.string s] w fun e w' => e = .returned (.tuple #[tokB 0 0 0 (s.extract 0 (wordL (bl s))), .int .i64 (wordL (bl s) : Nat), .bool (decide (wordL (bl s) ≤ 16))]) ∧ Below w.heap.size w w' := by
  obtain ⟨n, hn⟩ : ∃ n, wordL (bl s) = n := ⟨_, rfl⟩
  have hnl : n ≤ s.size := by
    rw [← hn, ← bl_len]; unfold wordL; split
    · exact dotS_le _ _
    · omega
  have hlt : Tab (w.alloc (.cells #[.int .i64 0, .int .i64 0, .int .i64 0, .string ⟨#[]⟩] 32)) := hT.alloc _
  have hW := wordSize_any hlt s hz
  rw [hn] at hW ⊢
  clear hn
  go_enter Tryz.func38, Tryz.ntmps38
  go_wp2_with (go_at_call 50; refine hW.mono ?_; rintro e w' ⟨rfl, rfl⟩)
  obtain ⟨W, hW1⟩ : ∃ W, w.alloc (.cells #[.int .i64 0, .int .i64 0, .int .i64 0, .string (s.extract 0 n)] 32) = W := ⟨_, rfl⟩
  have hb : Below w.heap.size w W := hW1 ▸ (Below.refl _ w).alloc (Nat.le_refl _) _
  have hy : Blk W w.heap.size 32 #[.int .i64 0, .int .i64 0, .int .i64 0, .string (s.extract 0 n)] := hW1 ▸ Blk.new _ _ _
  obtain ⟨y0, y1, y2, y3, -⟩ := tok_facts hy
  rw [hW1]
  refine bodyPost_ret (v := .tuple #[tokB 0 0 0 (s.extract 0 n), .int .i64 (n : Nat), .bool (decide (n ≤ 16))]) (by simp [results, Tryz.results38, go_sem, y0, y1, y2, y3]; omega) rfl ⟨rfl, hb⟩

/-- What a text with a number at its begin is read as. -/
abbrev numV (r : Option Nat × Nat) : Value := .tuple #[tokB 1 (r.1.getD 0) 0 ⟨#[]⟩, .int .i64 (r.2 : Nat), .bool r.1.isSome]

theorem hexHead_eq (l : List UInt8) : Lib.hasPrefix l [48, 120] = hexHead l := by
  match l with
  | [] => rfl
  | [c] => simp [Lib.hasPrefix, hexHead, List.isPrefixOf]
  | c :: d :: r =>
    have key : ∀ (c : UInt8) (n : Nat) (hn : n < 256), (c.toNat == n) = (UInt8.ofNat n == c) := fun c n hn => by
      rw [Bool.eq_iff_iff, beq_iff_eq, beq_iff_eq]
      constructor
      · intro h; rw [← h]; simp
      · intro h; rw [← h]; simp; omega
    simp [Lib.hasPrefix, hexHead, key]
    simp [List.isPrefixOf]

set_option maxRecDepth 100000 in
set_option maxHeartbeats 4000000 in
theorem numberOf_any (s : ByteArray) (hz : s.size ≤ 1048576) {w : World} (hL : Laid w) :
    Calls Tryz.prog 39 #[.string s] w fun e w' => e = .returned (numV (numL (bl s))) ∧ Below w.heap.size w w' := by
  obtain ⟨W1, hW1⟩ : ∃ W, w.alloc (.cells #[.int .i64 0, .int .i64 0, .int .i64 0, .string ⟨#[]⟩] 32) = W := ⟨_, rfl⟩
  have hb1 : Below w.heap.size w W1 := hW1 ▸ (Below.refl _ w).alloc (Nat.le_refl _) _
  have hs1 : W1.heap.size = w.heap.size + 1 := by rw [← hW1]; simp
  have hL1 : Laid W1 := hL.below hb1
  have hy : Blk W1 w.heap.size 32 #[.int .i64 0, .int .i64 0, .int .i64 0, .string ⟨#[]⟩] := hW1 ▸ Blk.new _ _ _
  have HP := fun w => Tryz.strings_CutPrefix s ⟨#[48, 120]⟩ w
  have hp : Lib.hasPrefix s.data.toList (ByteArray.mk #[48, 120]).data.toList = hexHead (bl s) := hexHead_eq _
  rw [hp] at HP
  cases hh : hexHead (bl s) with
  | true =>
    have ht : (⟨(Lib.trimPrefix s.data.toList (ByteArray.mk #[48, 120]).data.toList).toArray⟩ : ByteArray) = s.extract 2 s.size := bl_ext (by
      rw [bl_from]; unfold Lib.trimPrefix; rw [hp, hh]; simp [bl])
    rw [hh, ht] at HP
    clear ht
    have h2 : 2 ≤ s.size := by
      rw [← bl_len]
      match hl : bl s, hh with
      | c :: d :: r, _ => simp
      | [c], hh => simp [hexHead] at hh
      | [], hh => simp [hexHead] at hh
    obtain ⟨n, hn⟩ : ∃ n, runL hexB ((bl s).drop 2) = n := ⟨_, rfl⟩
    have hnl : n ≤ s.size - 2 := by have := runL_le hexB ((bl s).drop 2); rw [hn, List.length_drop, bl_len] at this; exact this
    have hR := run_any hL1.tab (s.extract 2 s.size) 48 (by decide) (by simp; omega)
    rw [isB48, bl_from, hn] at hR
    have hV := fun (w2 : World) (hL2 : Laid w2) => value_any (.inr (.inr (.inl ⟨rfl, rfl, rfl, rfl⟩))) ((s.extract 2 s.size).extract 0 n) (by simp; omega) hL2
    have hbt : bl ((s.extract 2 s.size).extract 0 n) = ((bl s).drop 2).take n := by rw [bl_to, bl_from]
    rw [hbt] at hV
    have hF : numL (bl s) = (valP 16 281474976710656 (((bl s).drop 2).take n), n + 2) := by unfold numL; rw [if_pos hh, hn]
    rw [hF]
    obtain ⟨r, hr⟩ : ∃ r, valP 16 281474976710656 (((bl s).drop 2).take n) = r := ⟨_, rfl⟩
    rw [hr] at hV ⊢
    clear hF hbt hn hh hp hr
    go_enter Tryz.func39, Tryz.ntmps39
    go_wp2_with (first | (go_at_call 51; refine (HP _).mono ?_; rintro e w' ⟨rfl, hw⟩; rw [hw]; clear hw) | (go_at_call 34; refine hR.mono ?_; rintro e w' ⟨rfl, rfl⟩))
    go_wp2_with (go_at_call 52; refine (hV _ hL1).mono ?_)
    rintro e w2 ⟨rfl, hb2⟩
    have hy2 : Blk w2 w.heap.size 32 #[.int .i64 0, .int .i64 0, .int .i64 0, .string ⟨#[]⟩] := hy.below hb2 hy.lt
    obtain ⟨z0, z1, z2, z3, q0, q1, q2, q3⟩ := tok_facts hy2
    clear hW1
    go_wp2
    obtain ⟨y0, y1, y2, y3, -⟩ := tok_facts (tokPut_blk hy2 (.int .i64 1) (.int .i64 (r.getD 0 : Nat)) (.int .i64 0) (.string ⟨#[]⟩))
    have hb3 := tokPut_below (hb1.trans (hb2.mono hb1.size)) (Nat.le_refl _) (.int .i64 1) (.int .i64 (r.getD 0 : Nat)) (.int .i64 0) (.string ⟨#[]⟩)
    unfold tokPut at y0 y1 y2 y3 hb3
    exact bodyPost_ret (v := numV (r, n + 2)) (by simp [results, Tryz.results39, go_sem, y0, y1, y2, y3, numV]; omega) rfl ⟨rfl, hb3⟩
  | false =>
    have ht : (⟨(Lib.trimPrefix s.data.toList (ByteArray.mk #[48, 120]).data.toList).toArray⟩ : ByteArray) = s := bl_ext (by
      unfold Lib.trimPrefix; rw [hp, hh]; simp [bl])
    rw [hh, ht] at HP
    clear ht
    obtain ⟨n, hn⟩ : ∃ n, dotS digitB (bl s) = n := ⟨_, rfl⟩
    have hnl : n ≤ s.size := by have := dotS_le digitB (bl s); rw [hn, bl_len] at this; exact this
    have hR := dotted_any hL1.tab s 16 (by decide) hz
    rw [isB16, hn] at hR
    have hV := fun (w2 : World) (hL2 : Laid w2) => decimal_any (s.extract 0 n) (by simp; omega) hL2
    rw [bl_to] at hV
    have hF : numL (bl s) = (decimalL ((bl s).take n), n) := by unfold numL; rw [if_neg (by rw [hh]; decide), hn]
    rw [hF]
    obtain ⟨r, hr⟩ : ∃ r, decimalL ((bl s).take n) = r := ⟨_, rfl⟩
    rw [hr] at hV ⊢
    clear hF hn hh hp hr
    go_enter Tryz.func39, Tryz.ntmps39
    go_wp2_with (first | (go_at_call 51; refine (HP _).mono ?_; rintro e w' ⟨rfl, hw⟩; rw [hw]; clear hw) | (go_at_call 53; refine hR.mono ?_; rintro e w' ⟨rfl, rfl⟩))
    go_wp2_with (go_at_call 54; refine (hV _ hL1).mono ?_)
    rintro e w2 ⟨rfl, hb2⟩
    have hy2 : Blk w2 w.heap.size 32 #[.int .i64 0, .int .i64 0, .int .i64 0, .string ⟨#[]⟩] := hy.below hb2 hy.lt
    obtain ⟨z0, z1, z2, z3, q0, q1, q2, q3⟩ := tok_facts hy2
    clear hW1
    go_wp2
    obtain ⟨y0, y1, y2, y3, -⟩ := tok_facts (tokPut_blk hy2 (.int .i64 1) (.int .i64 (r.getD 0 : Nat)) (.int .i64 0) (.string ⟨#[]⟩))
    have hb3 := tokPut_below (hb1.trans (hb2.mono hb1.size)) (Nat.le_refl _) (.int .i64 1) (.int .i64 (r.getD 0 : Nat)) (.int .i64 0) (.string ⟨#[]⟩)
    unfold tokPut at y0 y1 y2 y3 hb3
    exact bodyPost_ret (v := numV (r, n)) (by simp [results, Tryz.results39, go_sem, y0, y1, y2, y3, numV]) rfl ⟨rfl, hb3⟩
end Go.Proofs.YtnaopgajinbnmaaGreatDoor
