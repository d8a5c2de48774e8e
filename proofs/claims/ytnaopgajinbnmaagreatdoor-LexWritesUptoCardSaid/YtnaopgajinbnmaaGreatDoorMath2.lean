/- Sizes of tokens; the tokens of a source, one after another. -/
import Derived.Test.YtnaopgajinbnmaaGreatDoorMath
namespace Go.Proofs.YtnaopgajinbnmaaGreatDoor

theorem byteL_size (l : List UInt8) : (byteL l).2 ≤ l.length := by
  unfold byteL
  match l with
  | [] => simp
  | [c] => simp; split <;> try split
           all_goals simp
  | [c, d] => simp; repeat' split
              all_goals simp
  | [c, d, a] => simp; repeat' split
                 all_goals simp
  | c :: d :: a :: b :: r => simp; repeat' split
                             all_goals simp; try omega
theorem textGo_size (k : Nat) : ∀ (l : List UInt8) (t : List UInt8) (m : Nat), textGo k l = some (t, m) → m ≤ l.length := by
  induction k with
  | zero => intro l t m h; simp [textGo] at h
  | succ k ih =>
    intro l t m h
    match l with
    | [] => simp [textGo] at h
    | c :: r =>
      rw [textGo] at h
      split at h
      · simp at h; simp; omega
      · have hb := byteL_size (c :: r)
        split at h
        · cases h
        · rename_i b n hbn
          rw [hbn] at hb
          split at h
          · cases h
          · rename_i t2 m2 h2
            have := ih _ _ _ h2
            simp only [Option.some.injEq, Prod.mk.injEq] at h
            rw [List.length_drop] at this
            simp at hb this ⊢
            omega
theorem wordB_of_letter {c : UInt8} (h : letterB c = true) : wordB c = true := by unfold wordB; rw [h]; rfl
theorem dotS_pos (p : UInt8 → Bool) (c : UInt8) (r : List UInt8) (h : p c = true) : 1 ≤ dotS p (c :: r) := by
  rw [dotS, h]; simp
theorem tokL_size (a : Nat) (l : List UInt8) (t : Tok) (n : Nat) (h : tokL a l = some (t, n)) : 1 ≤ n ∧ n ≤ l.length := by
  match l with
  | [] => simp [tokL] at h
  | c :: r =>
    rw [tokL] at h
    split at h
    · rename_i h1
      split at h
      · simp at h
        have e : wordL (c :: r) = dotS wordB (c :: r) := by unfold wordL; simp [headIs, h1]
        have := dotS_le wordB (c :: r)
        have := dotS_pos wordB c r (wordB_of_letter h1)
        omega
      · cases h
    · split at h
      · rename_i h1 h2
        unfold numL at h
        split at h
        · cases h
        · rename_i v n2 hn
          simp at h
          split at hn
          · rename_i hh
            simp at hn
            have := runL_le hexB ((c :: r).drop 2)
            match r, hh with
            | d :: r, _ => simp at this hn ⊢; omega
            | [], hh => simp [hexHead] at hh
          · simp at hn
            have := dotS_le digitB (c :: r)
            have := dotS_pos digitB c r h2
            omega
      · split at h
        · split at h
          · cases h
          · rename_i t2 m2 h2
            split at h
            · have := textGo_size _ _ _ _ h2
              simp at h ⊢; omega
            · cases h
        · split at h
          · simp at h
            have : 1 ≤ signL (c :: r) ∧ signL (c :: r) ≤ (c :: r).length := by
              unfold signL; split
              · rename_i ht
                match r, ht with
                | d :: r, _ => simp
                | [], ht => simp [two] at ht
              · simp
            omega
          · cases h
theorem tokL_at (a : Nat) (l : List UInt8) : tokL a l = (tokL 0 l).map (fun x => ({ x.1 with at_ := a }, x.2)) := by
  match l with
  | [] => rfl
  | c :: r =>
    rw [tokL, tokL]
    by_cases h1 : letterB c = true
    · simp only [h1, if_true]; split <;> rfl
    · by_cases h2 : digitB c = true
      · simp only [h1, h2, if_true, Bool.false_eq_true, if_false]
        generalize numL (c :: r) = x
        obtain ⟨v, n⟩ := x
        cases v <;> rfl
      · by_cases h3 : c.toNat = 34
        · simp only [h1, h2, h3, if_true, Bool.false_eq_true, if_false]
          generalize textGo (r.length + 1) r = x
          cases x with
          | none => rfl
          | some x => obtain ⟨t, m⟩ := x; simp only; split <;> rfl
        · by_cases h4 : isB 8 c = true
          · simp only [h1, h2, h3, h4, if_true, Bool.false_eq_true, if_false]; rfl
          · simp only [h1, h2, h3, h4, Bool.false_eq_true, if_false]; rfl
theorem lexQ_nil (k a : Nat) : lexQ k a [] = ([], none) := by cases k <;> rfl
theorem lexQ_bad (k a : Nat) (l : List UInt8) (hl : l ≠ []) (h : tokL a l = none) : lexQ (k + 1) a l = ([], some a) := by
  rw [lexQ, if_neg hl, h]
theorem lexQ_tok (k a : Nat) (l : List UInt8) (t : Tok) (n : Nat) (h : tokL a l = some (t, n)) :
    lexQ (k + 1) a l = (t :: (lexQ k (a + n + skipM false (l.drop n)) (l.drop (n + skipM false (l.drop n)))).1, (lexQ k (a + n + skipM false (l.drop n)) (l.drop (n + skipM false (l.drop n)))).2) := by
  have hl : l ≠ [] := by rintro rfl; simp [tokL] at h
  rw [lexQ, if_neg hl, h]
end Go.Proofs.YtnaopgajinbnmaaGreatDoor
