/- Numbers by sevens, read back: plain functions and facts. -/
import Derived.Test.YtghdilmlfficlaaS1SevMath
namespace Go.Proofs.Ytghdilmlfficlaa.S1
open Go.RowKit

/-- The parts of the bytes of a number by sevens: up to the first byte below 128. -/
def pin : List Nat → List Part
  | [] => []
  | x :: l => if 128 ≤ x then part x true :: pin l else [part x false]
theorem pin_more (x : Nat) (l : List Nat) (h : 128 ≤ x) : pin (x :: l) = part x true :: pin l := by rw [pin, if_pos h]
theorem pin_last (x : Nat) (l : List Nat) (h : ¬ 128 ≤ x) : pin (x :: l) = [part x false] := by rw [pin, if_neg h]
theorem pin_len (l : List Nat) : (pin l).length ≤ l.length := by
  induction l with
  | nil => simp [pin]
  | cons x l ih => by_cases h : 128 ≤ x
                   · rw [pin_more x l h]; simp; exact ih
                   · rw [pin_last x l h]; simp
/-- The number of parts. -/
def pv : List Part → Nat
  | [] => 0
  | x :: l => x.1.1 + 128 * pv l
theorem pv_snoc (l : List Part) (x : Part) : pv (l ++ [x]) = pv l + x.1.1 * 128 ^ l.length := by
  induction l with
  | nil => simp [pv]
  | cons y l ih =>
    simp only [List.cons_append, pv, ih, List.length_cons, Nat.pow_succ]
    rw [Nat.mul_add, ← Nat.add_assoc]
    congr 1
    rw [← Nat.mul_assoc, Nat.mul_comm 128, Nat.mul_assoc, Nat.mul_comm 128]
theorem pv_lt (l : List Part) : pv l < 128 ^ l.length := by
  induction l with
  | nil => simp [pv]
  | cons y l ih =>
    have := y.2
    simp only [pv, List.length_cons, Nat.pow_succ]
    omega
/-- Whether the last part ends the number. -/
def pend : List Part → Bool
  | [] => false
  | [x] => !x.1.2
  | _ :: y :: l => pend (y :: l)
theorem pend_snoc (l : List Part) (x : Part) : pend (l ++ [x]) = !x.1.2 := by
  induction l with
  | nil => rfl
  | cons y l ih =>
    cases l with
    | nil => rfl
    | cons z l => exact ih

/-- How many bytes a number has by sevens. -/
theorem prt_len_eq (k : Nat) : ∀ v, v < 128 ^ (k + 1) → (k = 0 ∨ 128 ^ k ≤ v) → (prt v).length = k + 1 := by
  induction k with
  | zero => intro v h _; rw [prt_last v (by omega)]; rfl
  | succ k ih =>
    intro v h hk
    have hk' : 128 ^ (k + 1) ≤ v := by omega
    have h1 : 1 ≤ 128 ^ k := Nat.pow_pos (by decide)
    have h128 : 127 < v := by rw [Nat.pow_succ] at hk'; omega
    rw [prt_more v h128, List.length_cons, ih (v / 128) (by rw [Nat.div_lt_iff_lt_mul (by decide)]; rw [Nat.pow_succ] at h; exact h)
      (by right; rw [Nat.le_div_iff_mul_le (by decide)]; rw [Nat.pow_succ] at hk'; exact hk')]

/-- The place where the bytes end a number: the first byte below 128 among the first seven. -/
structure Ends (bs : List Nat) (t : Nat) : Prop where
  lt : t < bs.length
  seven : t < 7
  more : ∀ i, i < t → 128 ≤ at8 bs i
  last : at8 bs t < 128
/-- No byte of the first seven ends a number. -/
def Never (bs : List Nat) : Prop := ∀ i, i < bs.length → i < 7 → 128 ≤ at8 bs i
theorem ends_or (bs : List Nat) : Never bs ∨ ∃ t, Ends bs t := by
  have key : ∀ k, (∀ i, i < k → i < bs.length → i < 7 → 128 ≤ at8 bs i) ∨ ∃ t, Ends bs t := by
    intro k
    induction k with
    | zero => left; intro i h; omega
    | succ k ih =>
      rcases ih with h | h
      · by_cases hk : k < bs.length ∧ k < 7
        · by_cases hx : at8 bs k < 128
          · exact Or.inr ⟨k, hk.1, hk.2, fun i hi => h i hi (by omega) (by omega), hx⟩
          · left
            intro i hi h1 h2
            by_cases e : i = k
            · subst e; omega
            · exact h i (by omega) h1 h2
        · left
          intro i hi h1 h2
          exact h i (by omega) h1 h2
      · exact Or.inr h
  rcases key 7 with h | h
  · exact Or.inl fun i h1 h2 => h i h2 h1 h2
  · exact Or.inr h
/-- The number of the first k bytes. -/
def uv (bs : List Nat) : Nat → Nat
  | 0 => 0
  | k + 1 => uv bs k + at8 bs k % 128 * 128 ^ k
theorem uv_lt (bs : List Nat) : ∀ k, uv bs k < 128 ^ k
  | 0 => by simp [uv]
  | k + 1 => by
    have h1 := uv_lt bs k
    have h2 : at8 bs k % 128 ≤ 127 := by omega
    have h3 : at8 bs k % 128 * 128 ^ k ≤ 127 * 128 ^ k := Nat.mul_le_mul_right _ h2
    simp only [uv, Nat.pow_succ]
    omega
theorem at8_cons (x : Nat) (l : List Nat) (k : Nat) : at8 (x :: l) (k + 1) = at8 l k := by simp [at8]
theorem uv_cons (x : Nat) (l : List Nat) : ∀ k, uv (x :: l) (k + 1) = x % 128 + 128 * uv l k
  | 0 => by simp [uv, at8]
  | k + 1 => by
    show uv (x :: l) (k + 1) + at8 (x :: l) (k + 1) % 128 * 128 ^ (k + 1) = _
    rw [uv_cons x l k, at8_cons]
    simp only [uv, Nat.pow_succ, Nat.mul_add]
    rw [Nat.add_assoc]
    congr 2
    rw [← Nat.mul_assoc, Nat.mul_comm 128]
/-- What Unseven gives of bytes that end a number at t. -/
def unsOk (bs : List Nat) (t : Nat) : Prop := uv bs (t + 1) < 281474976710656 ∧ (t = 0 ∨ 0 < at8 bs t)
theorem uns_len (bs : List Nat) (t : Nat) (he : Ends bs t) (h : uv bs (t + 1) < 281474976710656) : (prt (uv bs (t + 1))).length = t + 1 ↔ (t = 0 ∨ 0 < at8 bs t) := by
  have hlt := uv_lt bs (t + 1)
  have hl := he.last
  constructor
  · intro hp
    by_cases ht : t = 0
    · exact Or.inl ht
    · right
      rcases Nat.eq_zero_or_pos (at8 bs t) with h0 | h0
      · exfalso
        obtain ⟨s, rfl⟩ : ∃ s, t = s + 1 := ⟨t - 1, by omega⟩
        have e : uv bs (s + 1 + 1) = uv bs (s + 1) := by simp [uv, h0]
        have h2 := uv_lt bs (s + 1)
        have h3 := prt_len s (uv bs (s + 1)) h2
        rw [e] at hp
        omega
      · exact h0
  · intro ht
    refine prt_len_eq t _ hlt ?_
    rcases ht with ht | ht
    · exact Or.inl ht
    · right
      have : 128 ^ t ≤ at8 bs t % 128 * 128 ^ t := by
        rw [Nat.mod_eq_of_lt hl]
        exact Nat.le_mul_of_pos_left _ ht
      simp only [uv]
      omega
theorem pin_ends (bs : List Nat) : ∀ t, Ends bs t → (pin (bs.take 7)).length = t + 1 ∧ pv (pin (bs.take 7)) = uv bs (t + 1) ∧ pend (pin (bs.take 7)) = true := by
  have key : ∀ (m : Nat) (bs : List Nat) (t : Nat), t < bs.length → t < m → (∀ i, i < t → 128 ≤ at8 bs i) → at8 bs t < 128 → (pin (bs.take m)).length = t + 1 ∧ pv (pin (bs.take m)) = uv bs (t + 1) ∧ pend (pin (bs.take m)) = true := by
    intro m
    induction m with
    | zero => intro bs t _ h; omega
    | succ m ih =>
      intro bs t h1 h2 h3 h4
      cases bs with
      | nil => simp at h1
      | cons x l =>
        rw [List.take_succ_cons]
        cases t with
        | zero =>
          have hx : at8 (x :: l) 0 = x := by simp [at8]
          rw [hx] at h4
          rw [pin_last x _ (by omega)]
          simp [pv, uv, hx, pend]
        | succ t =>
          have hx : 128 ≤ x := by have := h3 0 (by omega); simpa [at8] using this
          obtain ⟨a, b, c⟩ := ih l t (by simpa using h1) (by omega) (fun i hi => by have := h3 (i + 1) (by omega); rwa [at8_cons] at this) (by rwa [at8_cons] at h4)
          rw [pin_more x _ hx]
          refine ⟨by rw [List.length_cons, a], by rw [uv_cons]; simp only [pv]; rw [b], ?_⟩
          cases hp : pin (l.take m) with
          | nil => rw [hp] at a; simp at a
          | cons y r => rw [hp] at c; exact c
  intro t h
  exact key 7 bs t h.lt h.seven h.more h.last
theorem pin_never (bs : List Nat) (h : Never bs) : pend (pin (bs.take 7)) = false := by
  have key : ∀ (m : Nat) (bs : List Nat), (∀ i, i < bs.length → i < m → 128 ≤ at8 bs i) → pend (pin (bs.take m)) = false := by
    intro m
    induction m with
    | zero => intro bs _; simp [pin, pend]
    | succ m ih =>
      intro bs h
      cases bs with
      | nil => simp [pin, pend]
      | cons x l =>
        have hx : 128 ≤ x := by have := h 0 (by simp) (by omega); simpa [at8] using this
        have hl := ih l (fun i h1 h2 => by have := h (i + 1) (by simpa using h1) (by omega); rwa [at8_cons] at this)
        rw [List.take_succ_cons, pin_more x _ hx]
        cases hp : pin (l.take m) with
        | nil => rfl
        | cons y r => rw [hp] at hl; exact hl
  exact key 7 bs h
/-- A number by sevens, and whatever behind it, ends where it ends, and is the number. -/
theorem svB_ends (b : List Nat) (n : Nat) : ∃ t, (svB n).length = t + 1 ∧ (∀ i, i < t → 128 ≤ at8 (svB n ++ b) i) ∧ at8 (svB n ++ b) t < 128 ∧ uv (svB n ++ b) (t + 1) = n ∧ (0 < n → 0 < at8 (svB n ++ b) t) := by
  induction n using Nat.strongRecOn with
  | ind n ih =>
    by_cases hm : 127 < n
    · obtain ⟨t, h1, h2, h3, h4, h5⟩ := ih (n / 128) (by omega)
      have e : svB n = (n % 128 + 128) :: svB (n / 128) := by unfold svB; rw [prt_more n hm]; rfl
      rw [e]
      refine ⟨t + 1, by rw [List.length_cons, h1], ?_, ?_, ?_, ?_⟩
      · intro i hi
        cases i with
        | zero => simp [at8]
        | succ i => rw [List.cons_append, at8_cons]; exact h2 i (by omega)
      · rw [List.cons_append, at8_cons]; exact h3
      · rw [List.cons_append, uv_cons, h4]; omega
      · intro _; rw [List.cons_append, at8_cons]; exact h5 (by omega)
    · have e : svB n = [n % 128] := by unfold svB; rw [prt_last n hm]; rfl
      rw [e]
      refine ⟨0, rfl, fun i hi => by omega, ?_, ?_, ?_⟩
      · simp [at8]; omega
      · simp [uv, at8]; omega
      · intro h; simp [at8]; omega
end Go.Proofs.Ytghdilmlfficlaa.S1
