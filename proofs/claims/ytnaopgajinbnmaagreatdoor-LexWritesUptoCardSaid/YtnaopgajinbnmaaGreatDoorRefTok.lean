/- The reference's tokens. -/
import Derived.Test.YtnaopgajinbnmaaGreatDoorRefNum
import Derived.Test.YtnaopgajinbnmaaGreatDoorSame
namespace Go.Proofs.YtnaopgajinbnmaaGreatDoor
open Go.RowKit

theorem rnum_any (s : ByteArray) (at_ : Nat) (h0 : at_ < s.size) (hz : s.size ≤ 1048576) (hdg : digitB s[at_] = true) (w : World) :
    Calls Tryz.prog 46 #[.string s, .int .i64 (at_ : Int)] w (RNum (numL ((bl s).drop at_)) at_ w) := by
  cases hh : hexHead ((bl s).drop at_) with
  | true => exact rnum_hex s at_ h0 hz hh w
  | false => exact rnum_dec s at_ h0 hz hh (by rw [hd_at s at_ h0]; exact hdg) w

/-- What the reference answers for a token. -/
def RTok (r : Option (Tok × Nat)) (at_ : Nat) (w : World) (e : Ending) (w' : World) : Prop :=
  ∃ (t : Tok) (n : Nat) (b : Bool), e = .returned (.tuple #[tokVV t, .int .i64 (n : Int), .bool b]) ∧ Below w.heap.size w w' ∧
    (b = true → ∃ m, r = some (t, m) ∧ n = at_ + m) ∧ (b = false → r = none)

theorem tok_word (s : ByteArray) (at_ : Nat) (h0 : at_ < s.size) (h : letterB s[at_] = true) :
    ∃ e, at_ + 1 + dotS wordB ((bl s).drop (at_ + 1)) = e ∧ at_ < e ∧ e ≤ s.size ∧
      tokL at_ ((bl s).drop at_) = if e - at_ ≤ 16 then some (⟨0, 0, at_, bl (s.extract at_ e)⟩, e - at_) else none := by
  have hle := dotS_le wordB ((bl s).drop (at_ + 1))
  rw [List.length_drop, bl_len] at hle
  refine ⟨_, rfl, by omega, by omega, ?_⟩
  rw [bl_extract, bl_at s at_ h0, tokL, if_pos h]
  have hw : wordL (s[at_] :: (bl s).drop (at_ + 1)) = at_ + 1 + dotS wordB ((bl s).drop (at_ + 1)) - at_ := by
    unfold wordL; rw [if_pos (show headIs letterB (s[at_] :: (bl s).drop (at_ + 1)) = true from h), dotS, wordB_of_letter h]; simp; omega
  rw [hw]

set_option maxRecDepth 100000 in
set_option maxHeartbeats 4000000 in
theorem rtok_word (s : ByteArray) (at_ : Nat) (h0 : at_ < s.size) (hz : s.size ≤ 1048576) (hc : letterB s[at_] = true) (w : World) :
    Calls Tryz.prog 33 #[.string s, .int .i64 (at_ : Int)] w (RTok (tokL at_ ((bl s).drop at_)) at_ w) := by
  obtain ⟨e, he, h1, h2, hT⟩ := tok_word s at_ h0 hc
  obtain ⟨W1, hW1⟩ : ∃ W, w.alloc (.cells #[.int .i64 0, .int .i64 0, .int .i64 0, .string ⟨#[]⟩] 32) = W := ⟨_, rfl⟩
  have hb1 : Below w.heap.size w W1 := hW1 ▸ (Below.refl _ w).alloc (Nat.le_refl _) _
  have hy : Blk W1 w.heap.size 32 #[.int .i64 0, .int .i64 0, .int .i64 0, .string ⟨#[]⟩] := hW1 ▸ Blk.new _ _ _
  have c1 := rletter_any s[at_] W1
  rw [hc] at c1
  have c2 := rword_any s at_ hz h0 W1
  rw [he] at c2
  have HT := Lib.hid hT
  have hd1 : decide ((at_ : Int) < (s.size : Int)) = true := decide_eq_true (by omega)
  obtain ⟨z0, z1, z2, z3, q0, q1, q2, q3⟩ := tok_facts hy
  obtain ⟨y0, y1, y2, y3, -⟩ := tok_facts (tokPut_blk hy (.int .i64 0) (.int .i64 0) (.int .i64 at_) (.string (s.extract at_ e)))
  have hb3 := tokPut_below hb1 (Nat.le_refl _) (.int .i64 0) (.int .i64 0) (.int .i64 at_) (.string (s.extract at_ e))
  unfold tokPut at y0 y1 y2 y3 hb3
  have HB3 := Lib.hid hb3
  have hi1 : (at_ : Int) ≤ (e : Int) := by omega
  have hi2 : (e : Int) ≤ (s.size : Int) := by omega
  clear hT he hc hb1 hb3
  go_enter Tryz.func33, Tryz.ntmps33
  go_wp2_with (first | (go_at_call 43; refine c1.mono ?_; rintro e w' ⟨rfl, rfl⟩) | (go_at_call 44; refine c2.mono ?_; rintro e w' ⟨rfl, rfl⟩))
  refine bodyPost_ret (v := .tuple #[tokVV ⟨0, 0, at_, bl (s.extract at_ e)⟩, .int .i64 e, .bool (decide (e - at_ ≤ 16))]) (by
    simp [results, Tryz.results33, go_sem, y0, y1, y2, y3]; exact ⟨rfl, by omega⟩) rfl ⟨_, _, _, rfl, HB3.out, fun h => ?_, fun h => ?_⟩
  · rw [HT.out, if_pos (of_decide_eq_true h)]; exact ⟨_, rfl, by omega⟩
  · rw [HT.out, if_neg (of_decide_eq_false h)]

theorem tok_num (s : ByteArray) (at_ : Nat) (h0 : at_ < s.size) (hl : letterB s[at_] = false) (h : digitB s[at_] = true) :
    tokL at_ ((bl s).drop at_) = match numL ((bl s).drop at_) with | (none, _) => none | (some v, n) => some (⟨1, v, at_, []⟩, n) := by
  rw [bl_at s at_ h0, tokL, hl, h]; rfl
theorem tok_text (s : ByteArray) (at_ : Nat) (h0 : at_ < s.size) (hl : letterB s[at_] = false) (hd : digitB s[at_] = false) (h : s[at_].toNat = 34) :
    tokL at_ ((bl s).drop at_) = match textGo (s.size - at_) ((bl s).drop (at_ + 1)) with | none => none | some (t, m) => if t.length ≤ 200 then some (⟨2, 0, at_, t⟩, m + 1) else none := by
  have hlen : ((bl s).drop (at_ + 1)).length + 1 = s.size - at_ := by rw [List.length_drop, bl_len]; omega
  rw [bl_at s at_ h0, tokL, hl, hd, if_pos h, hlen]; rfl
theorem tok_sign (s : ByteArray) (at_ : Nat) (h0 : at_ < s.size) (hl : letterB s[at_] = false) (hd : digitB s[at_] = false) (h : s[at_].toNat ≠ 34) :
    tokL at_ ((bl s).drop at_) = if isB 8 s[at_] then some (⟨3, 0, at_, sgF ((bl s).drop at_) 0⟩, signL ((bl s).drop at_)) else none := by
  rw [bl_at s at_ h0, tokL, hl, hd, if_neg h, sgF_tok]
  cases isB 8 s[at_] <;> rfl

set_option maxRecDepth 100000 in
set_option maxHeartbeats 4000000 in
theorem rtok_num (s : ByteArray) (at_ : Nat) (h0 : at_ < s.size) (hz : s.size ≤ 1048576) (hl : letterB s[at_] = false) (hc : digitB s[at_] = true) (w : World) :
    Calls Tryz.prog 33 #[.string s, .int .i64 (at_ : Int)] w (RTok (tokL at_ ((bl s).drop at_)) at_ w) := by
  have hT := tok_num s at_ h0 hl hc
  obtain ⟨W1, hW1⟩ : ∃ W, w.alloc (.cells #[.int .i64 0, .int .i64 0, .int .i64 0, .string ⟨#[]⟩] 32) = W := ⟨_, rfl⟩
  have hb1 : Below w.heap.size w W1 := hW1 ▸ (Below.refl _ w).alloc (Nat.le_refl _) _
  have hy : Blk W1 w.heap.size 32 #[.int .i64 0, .int .i64 0, .int .i64 0, .string ⟨#[]⟩] := hW1 ▸ Blk.new _ _ _
  have c1 := rletter_any s[at_] W1
  have c2 := rdigit_any s[at_] W1
  have c3 := rnum_any s at_ h0 hz hc W1
  rw [hl] at c1
  rw [hc] at c2
  have HT := Lib.hid hT
  have HY := Lib.hid hy
  have HB := Lib.hid hb1
  have hd1 : decide ((at_ : Int) < (s.size : Int)) = true := decide_eq_true (by omega)
  clear hT hc hl hb1 hy
  go_enter Tryz.func33, Tryz.ntmps33
  go_wp2_with (first | (go_at_call 43; refine c1.mono ?_; rintro e w' ⟨rfl, rfl⟩) | (go_at_call 45; refine c2.mono ?_; rintro e w' ⟨rfl, rfl⟩))
  go_wp2_with (go_at_call 46; refine c3.mono ?_)
  rintro e w2 ⟨v, n, b, rfl, hb2, ht, hf⟩
  have hy2 := HY.out.below hb2 HY.out.lt
  obtain ⟨z0, z1, z2, z3, q0, q1, q2, q3⟩ := tok_facts hy2
  obtain ⟨y0, y1, y2, y3, -⟩ := tok_facts (tokPut_blk hy2 (.int .i64 1) (.int .i64 v) (.int .i64 at_) (.string ⟨#[]⟩))
  have hb3 := tokPut_below (HB.out.trans (hb2.mono HB.out.size)) (Nat.le_refl _) (.int .i64 1) (.int .i64 v) (.int .i64 at_) (.string ⟨#[]⟩)
  unfold tokPut at y0 y1 y2 y3 hb3
  have HB3 := Lib.hid hb3
  have HTF := Lib.hid (And.intro ht hf)
  clear hW1 hb2 hb3 hy2 ht hf
  go_wp2
  refine bodyPost_ret (v := .tuple #[tokVV ⟨1, v, at_, []⟩, .int .i64 n, .bool b]) (by
    simp [results, Tryz.results33, go_sem, y0, y1, y2, y3]) rfl ⟨_, _, _, rfl, HB3.out, fun h => ?_, fun h => ?_⟩
  · obtain ⟨e1, e2⟩ := HTF.out.1 h
    rw [HT.out]
    generalize numL ((bl s).drop at_) = X at e1 e2
    obtain ⟨x, m⟩ := X
    simp only at e1 e2
    subst e1
    exact ⟨m, rfl, e2⟩
  · have e1 := HTF.out.2 h
    rw [HT.out]
    generalize numL ((bl s).drop at_) = X at e1
    obtain ⟨x, m⟩ := X
    simp only at e1
    subst e1; rfl

set_option maxRecDepth 100000 in
set_option maxHeartbeats 4000000 in
theorem rtok_text (s : ByteArray) (at_ : Nat) (h0 : at_ < s.size) (hz : s.size ≤ 1048576) (hl : letterB s[at_] = false) (hc : digitB s[at_] = false) (h34 : s[at_].toNat = 34) (w : World) :
    Calls Tryz.prog 33 #[.string s, .int .i64 (at_ : Int)] w (RTok (tokL at_ ((bl s).drop at_)) at_ w) := by
  have hT := tok_text s at_ h0 hl hc h34
  obtain ⟨W1, hW1⟩ : ∃ W, w.alloc (.cells #[.int .i64 0, .int .i64 0, .int .i64 0, .string ⟨#[]⟩] 32) = W := ⟨_, rfl⟩
  have hb1 : Below w.heap.size w W1 := hW1 ▸ (Below.refl _ w).alloc (Nat.le_refl _) _
  have hy : Blk W1 w.heap.size 32 #[.int .i64 0, .int .i64 0, .int .i64 0, .string ⟨#[]⟩] := hW1 ▸ Blk.new _ _ _
  have c1 := rletter_any s[at_] W1
  have c2 := rdigit_any s[at_] W1
  have c3 := rtext_any s at_ h0 hz W1
  rw [hl] at c1
  rw [hc] at c2
  have HT := Lib.hid hT
  have HY := Lib.hid hy
  have HB := Lib.hid hb1
  have hd1 : decide ((at_ : Int) < (s.size : Int)) = true := decide_eq_true (by omega)
  have e34 : ((s[at_].toNat : Int) == 34) = true := by simp [h34]
  clear hT hc hl hb1 hy h34
  go_enter Tryz.func33, Tryz.ntmps33
  go_wp2_with (first | (go_at_call 43; refine c1.mono ?_; rintro e w' ⟨rfl, rfl⟩) | (go_at_call 45; refine c2.mono ?_; rintro e w' ⟨rfl, rfl⟩))
  go_wp2_with (go_at_call 47; refine c3.mono ?_)
  rintro e w2 ⟨v, n, b, rfl, hb2, ht, hf⟩
  have hy2 := HY.out.below hb2 HY.out.lt
  obtain ⟨z0, z1, z2, z3, q0, q1, q2, q3⟩ := tok_facts hy2
  obtain ⟨y0, y1, y2, y3, -⟩ := tok_facts (tokPut_blk hy2 (.int .i64 2) (.int .i64 0) (.int .i64 at_) (.string v))
  have hb3 := tokPut_below (HB.out.trans (hb2.mono HB.out.size)) (Nat.le_refl _) (.int .i64 2) (.int .i64 0) (.int .i64 at_) (.string v)
  unfold tokPut at y0 y1 y2 y3 hb3
  have HB3 := Lib.hid hb3
  have HTF := Lib.hid (And.intro ht hf)
  clear hW1 hb2 hb3 hy2 ht hf
  go_wp2
  refine bodyPost_ret (v := .tuple #[tokVV ⟨2, 0, at_, bl v⟩, .int .i64 n, .bool b]) (by
    simp [results, Tryz.results33, go_sem, y0, y1, y2, y3]; rfl) rfl ⟨_, _, _, rfl, HB3.out, fun h => ?_, fun h => ?_⟩
  · obtain ⟨l, m, e1, e2, rfl, e4⟩ := HTF.out.1 h
    rw [HT.out, e1]
    exact ⟨m + 1, by simp only; rw [if_pos e2]; simp [bl], by omega⟩
  · have e1 := HTF.out.2 h
    rw [HT.out]
    cases hX : textGo (s.size - at_) ((bl s).drop (at_ + 1)) with
    | none => rfl
    | some X =>
      obtain ⟨l, m⟩ := X
      have := e1 l m hX
      simp only
      rw [if_neg (by omega)]

set_option maxRecDepth 100000 in
set_option maxHeartbeats 4000000 in
theorem rtok_sign (s : ByteArray) (at_ : Nat) (h0 : at_ < s.size) (hz : s.size ≤ 1048576) (hl : letterB s[at_] = false) (hc : digitB s[at_] = false) (h34 : s[at_].toNat ≠ 34) (w : World) :
    Calls Tryz.prog 33 #[.string s, .int .i64 (at_ : Int)] w (RTok (tokL at_ ((bl s).drop at_)) at_ w) := by
  have hT := tok_sign s at_ h0 hl hc h34
  have hF : sgF ((bl s).drop at_) 0 = if isB 8 s[at_] then ((bl s).drop at_).take (signL ((bl s).drop at_)) else [] := by rw [bl_at s at_ h0]; exact sgF_tok _ _
  have hsl : 1 ≤ signL ((bl s).drop at_) ∧ signL ((bl s).drop at_) ≤ ((bl s).drop at_).length := by
    rw [bl_at s at_ h0]
    unfold signL; split
    · rename_i ht
      match hq : (bl s).drop (at_ + 1), ht with
      | d :: r, _ => simp
      | [], ht => simp [two] at ht
    · simp
  obtain ⟨W1, hW1⟩ : ∃ W, w.alloc (.cells #[.int .i64 0, .int .i64 0, .int .i64 0, .string ⟨#[]⟩] 32) = W := ⟨_, rfl⟩
  have hb1 : Below w.heap.size w W1 := hW1 ▸ (Below.refl _ w).alloc (Nat.le_refl _) _
  have hy : Blk W1 w.heap.size 32 #[.int .i64 0, .int .i64 0, .int .i64 0, .string ⟨#[]⟩] := hW1 ▸ Blk.new _ _ _
  have c1 := rletter_any s[at_] W1
  have c2 := rdigit_any s[at_] W1
  have c3 := rsign_any s at_ hz (by omega) W1
  obtain ⟨T, hTT⟩ : ∃ T : ByteArray, ⟨(sgF ((bl s).drop at_) 0).toArray⟩ = T := ⟨_, rfl⟩
  have hTb : sgF ((bl s).drop at_) 0 = bl T := by rw [← hTT]; simp [bl]
  rw [hTT] at c3
  rw [hTb] at hT hF
  have hTs : T.size ≤ s.size := by
    have := congrArg List.length hF
    rw [bl_len] at this
    rw [this]; split
    · rw [List.length_take, List.length_drop, bl_len]; omega
    · simp
  have hTn : isB 8 s[at_] = true → T.size = signL ((bl s).drop at_) := fun h => by
    have := congrArg List.length hF
    rw [bl_len, h, if_pos rfl, List.length_take] at this
    omega
  have hne : (T.toList == (⟨#[]⟩ : ByteArray).toList) = !isB 8 s[at_] := by
    rw [Lib.toList_data, Lib.toList_data]
    show (bl T == []) = _
    cases hb : isB 8 s[at_] with
    | true =>
      have := hTn hb
      cases hbt : bl T with
      | nil =>
        have h : T.size = 0 := by rw [← bl_len, hbt]; rfl
        omega
      | cons c r => rfl
    | false => rw [hF, hb]; rfl
  rw [hl] at c1
  rw [hc] at c2
  have HT := Lib.hid hT
  have HTn := Lib.hid hTn
  have HY := Lib.hid hy
  have HB := Lib.hid hb1
  have hd1 : decide ((at_ : Int) < (s.size : Int)) = true := decide_eq_true (by omega)
  have e34 : ((s[at_].toNat : Int) == 34) = false := by simp; omega
  clear hT hc hl hb1 hy h34 hF hsl hTT hTb hTn
  generalize isB 8 s[at_] = bb at *
  have HNE : Hid (T.toList.isEmpty = !bb) := Lib.hid (by rw [← hne]; rw [Lib.toList_data, Lib.toList_data]; cases T.data.toList <;> rfl)
  go_enter Tryz.func33, Tryz.ntmps33
  go_wp2_with (first | (go_at_call 43; refine c1.mono ?_; rintro e w' ⟨rfl, rfl⟩) | (go_at_call 45; refine c2.mono ?_; rintro e w' ⟨rfl, rfl⟩))
  go_wp2_with (go_at_call 48; refine c3.mono ?_)
  rintro e w2 ⟨rfl, hb2⟩
  have hy2 := HY.out.below hb2 HY.out.lt
  obtain ⟨z0, z1, z2, z3, q0, q1, q2, q3⟩ := tok_facts hy2
  obtain ⟨y0, y1, y2, y3, -⟩ := tok_facts (tokPut_blk hy2 (.int .i64 3) (.int .i64 0) (.int .i64 at_) (.string T))
  have hb3 := tokPut_below (HB.out.trans (hb2.mono HB.out.size)) (Nat.le_refl _) (.int .i64 3) (.int .i64 0) (.int .i64 at_) (.string T)
  unfold tokPut at y0 y1 y2 y3 hb3
  have HB3 := Lib.hid hb3
  clear hW1 hb2 hb3 hy2
  go_wp2
  refine bodyPost_ret (v := .tuple #[tokVV ⟨3, 0, at_, bl T⟩, .int .i64 (at_ + T.size : Nat), .bool bb]) (by
    simp [results, Tryz.results33, go_sem, y0, y1, y2, y3]; exact ⟨rfl, HNE.out⟩) rfl ⟨_, _, _, rfl, HB3.out, fun h => ?_, fun h => ?_⟩
  · rw [HT.out, h, if_pos rfl]
    exact ⟨_, rfl, by rw [HTn.out h]⟩
  · rw [HT.out, h]; rfl
theorem rtok_any (s : ByteArray) (at_ : Nat) (h0 : at_ < s.size) (hz : s.size ≤ 1048576) (w : World) :
    Calls Tryz.prog 33 #[.string s, .int .i64 (at_ : Int)] w (RTok (tokL at_ ((bl s).drop at_)) at_ w) := by
  cases hl : letterB s[at_] with
  | true => exact rtok_word s at_ h0 hz hl w
  | false =>
    cases hd : digitB s[at_] with
    | true => exact rtok_num s at_ h0 hz hl hd w
    | false =>
      by_cases h34 : s[at_].toNat = 34
      · exact rtok_text s at_ h0 hz hl hd h34 w
      · exact rtok_sign s at_ h0 hz hl hd h34 w
end Go.Proofs.YtnaopgajinbnmaaGreatDoor
