/- The tokens of two sources, one on a line behind the other. -/
import Derived.Test.YtnaopgajinbnmaaGreatDoorMath2
namespace Go.Proofs.YtnaopgajinbnmaaGreatDoor

theorem runL_app (p : UInt8 → Bool) (hp : p 10 = false) (l b : List UInt8) : runL p (l ++ 10 :: b) = runL p l := by
  induction l with
  | nil => rw [List.nil_append, runL_cons, hp]; rfl
  | cons c l ih => rw [List.cons_append, runL_cons, runL_cons, ih]
theorem headIs_app (p : UInt8 → Bool) (hp : p 10 = false) (l b : List UInt8) : headIs p (l ++ 10 :: b) = headIs p l := by
  cases l with
  | nil => exact hp
  | cons c l => rfl
theorem dotS_app (p : UInt8 → Bool) (hp : p 10 = false) (l b : List UInt8) : dotS p (l ++ 10 :: b) = dotS p l := by
  induction l with
  | nil =>
    rw [List.nil_append]
    have h10 : ((10 : UInt8).toNat == 46) = false := rfl
    unfold dotS
    rw [hp, h10]; rfl
  | cons c l ih => rw [List.cons_append, dotS, dotS, ih, headIs_app p hp]
theorem skipM_app (b : List UInt8) : ∀ (l : List UInt8) (c : Bool), skipM c (l ++ 10 :: b) = if skipM c l = l.length then l.length + 1 + skipM false b else skipM c l := by
  intro l
  induction l with
  | nil =>
    intro c
    have h1 : blankB 10 = true := rfl
    have h2 : srcB 10 = true := rfl
    cases c <;> (rw [List.nil_append, skipM]; simp [h1, h2, skipM]; omega)
  | cons x l ih =>
    intro c
    have i1 := ih true
    have i2 := ih false
    have l1 := skipM_le true l
    have l2 := skipM_le false l
    cases c with
    | true =>
      rw [List.cons_append, skipM, skipM, i1, i2]
      by_cases hs : srcB x = true
      · by_cases h10 : (x.toNat == 10) = true
        · simp only [hs, h10, if_true, List.length_cons]
          split <;> split <;> omega
        · simp only [hs, h10, if_true, Bool.false_eq_true, if_false, List.length_cons]
          split <;> split <;> omega
      · simp only [hs, Bool.false_eq_true, if_false, List.length_cons]
        rw [if_neg (by omega)]
    | false =>
      rw [List.cons_append, skipM, skipM, i1, i2, headIs_app _ rfl]
      by_cases hb : blankB x = true
      · simp only [hb, if_true, List.length_cons]
        split <;> split <;> omega
      · by_cases h47 : (x.toNat == 47 && headIs (fun d => d.toNat == 47) l) = true
        · simp only [hb, h47, if_true, Bool.false_eq_true, if_false, List.length_cons]
          split <;> split <;> omega
        · simp only [hb, h47, Bool.false_eq_true, if_false, List.length_cons]
          rw [if_neg (by omega)]
theorem byteL_app (l y : List UInt8) (h : (byteL l).2 ≠ 0) : byteL (l ++ y) = byteL l := by
  match l with
  | [] => simp [byteL] at h
  | [c] =>
    unfold byteL at h ⊢
    by_cases h1 : c.toNat = 92
    · simp [h1] at h
    · simp [h1]
  | [c, d] =>
    unfold byteL at h ⊢
    by_cases h1 : c.toNat = 92
    · by_cases h2 : d.toNat = 34 ∨ d.toNat = 92
      · simp [h1, h2]
      · by_cases h3 : d.toNat = 110
        · simp [h1, h3]
        · simp [h1, h2, h3] at h
    · simp [h1]
  | [c, d, a] =>
    unfold byteL at h ⊢
    by_cases h1 : c.toNat = 92
    · by_cases h2 : d.toNat = 34 ∨ d.toNat = 92
      · simp [h1, h2]
      · by_cases h3 : d.toNat = 110
        · simp [h1, h3]
        · simp [h1, h2, h3] at h
    · simp [h1]
  | c :: d :: a :: b :: r =>
    unfold byteL
    simp only [List.cons_append]
theorem textGo_app (k : Nat) : ∀ (l y t : List UInt8) (m k' : Nat), k ≤ k' → textGo k l = some (t, m) → textGo k' (l ++ y) = some (t, m) := by
  induction k with
  | zero => intro l y t m k' _ h; simp [textGo] at h
  | succ k ih =>
    intro l y t m k' hk h
    obtain ⟨j, rfl⟩ : ∃ j, k' = j + 1 := ⟨k' - 1, by omega⟩
    match l with
    | [] => simp [textGo] at h
    | c :: r =>
      rw [textGo] at h
      rw [List.cons_append, textGo]
      split at h
      · rename_i h34; rw [if_pos h34]; exact h
      · rename_i h34
        rw [if_neg h34]
        cases hb : byteL (c :: r) with
        | mk b n =>
          rw [hb] at h
          cases n with
          | zero => simp at h
          | succ n =>
            have hn : (byteL (c :: r)).2 ≠ 0 := by rw [hb]; simp
            have ha := byteL_app (c :: r) y hn
            have hs := byteL_size (c :: r)
            rw [List.cons_append] at ha
            rw [ha, hb]
            rw [hb] at hs
            simp only at h ⊢
            cases ht : textGo k ((c :: r).drop (n + 1)) with
            | none => rw [ht] at h; cases h
            | some x =>
              obtain ⟨t2, m2⟩ := x
              rw [ht] at h
              have := ih _ y _ _ j (by omega) ht
              rw [← List.drop_append_of_le_length (by simpa using hs), List.cons_append] at this
              rw [this]
              exact h
theorem take_app (l y : List UInt8) (n : Nat) (h : n ≤ l.length) : (l ++ y).take n = l.take n := List.take_append_of_le_length h
theorem wordL_app (l b : List UInt8) : wordL (l ++ 10 :: b) = wordL l := by
  unfold wordL; rw [headIs_app _ rfl, dotS_app _ rfl]
theorem wordL_le (l : List UInt8) : wordL l ≤ l.length := by
  unfold wordL; split
  · exact dotS_le _ _
  · omega
theorem hexHead_app (l b : List UInt8) : hexHead (l ++ 10 :: b) = hexHead l := by
  match l with
  | [] => cases b <;> rfl
  | [c] => simp [hexHead]
  | c :: d :: r => rfl
theorem two_app (l b : List UInt8) : two (l ++ 10 :: b) = two l := by
  match l with
  | [] => cases b with
    | nil => rfl
    | cons x b => simp [two]
  | [c] => simp [two]
  | c :: d :: r => rfl
theorem numL_app (l b : List UInt8) (hl : l ≠ []) : numL (l ++ 10 :: b) = numL l := by
  unfold numL
  rw [hexHead_app]
  by_cases hh : hexHead l = true
  · rw [if_pos hh, if_pos hh]
    match l, hh with
    | c :: d :: r, _ =>
      simp only [List.cons_append, List.drop_succ_cons, List.drop_zero]
      rw [runL_app hexB rfl, take_app _ _ _ (runL_le _ _)]
  · rw [if_neg hh, if_neg hh, dotS_app _ rfl, take_app _ _ _ (dotS_le _ _)]
theorem tokL_app (a : Nat) (l b : List UInt8) (t : Tok) (n : Nat) (h : tokL a l = some (t, n)) : tokL a (l ++ 10 :: b) = some (t, n) := by
  match l with
  | [] => simp [tokL] at h
  | c :: r =>
    have hw := wordL_app (c :: r) b
    have hn := numL_app (c :: r) b (by simp)
    have ht := two_app (c :: r) b
    rw [List.cons_append] at hw hn ht
    rw [tokL] at h
    rw [List.cons_append, tokL, hw, hn]
    have hsg : signL (c :: (r ++ 10 :: b)) = signL (c :: r) := by unfold signL; rw [ht]
    rw [hsg]
    split at h
    · rename_i h1
      rw [if_pos h1]
      have := take_app (c :: r) (10 :: b) (wordL (c :: r)) (wordL_le _)
      rw [List.cons_append] at this
      rw [this]; exact h
    · rename_i h1
      rw [if_neg h1]
      split at h
      · rename_i h2; rw [if_pos h2]; exact h
      · rename_i h2
        rw [if_neg h2]
        split at h
        · rename_i h3
          rw [if_pos h3]
          cases hx : textGo (r.length + 1) r with
          | none => rw [hx] at h; cases h
          | some x =>
            obtain ⟨t2, m2⟩ := x
            rw [hx] at h
            rw [textGo_app _ _ _ _ _ _ (by simp) hx]
            exact h
        · rename_i h3
          rw [if_neg h3]
          split at h
          · rename_i h4
            rw [if_pos h4]
            have hle : signL (c :: r) ≤ (c :: r).length := by
              unfold signL; split
              · rename_i ht2
                match r, ht2 with
                | d :: r, _ => simp
                | [], ht2 => simp [two] at ht2
              · simp
            have := take_app (c :: r) (10 :: b) (signL (c :: r)) hle
            rw [List.cons_append] at this
            rw [this]; exact h
          · cases h

theorem lexQ_step (k a : Nat) (l : List UInt8) (t : Tok) (n : Nat) (h : tokL a l = some (t, n)) :
    lexQ (k + 1) a l = (t :: (lexS k false (a + n) (l.drop n)).1, (lexS k false (a + n) (l.drop n)).2) := by
  rw [lexQ_tok k a l t n h]
  unfold lexS
  rw [List.drop_drop]
theorem lexQ_fuel (m : Nat) : ∀ (k k' a : Nat) (l : List UInt8), l.length ≤ m → l.length < k → l.length < k' → lexQ k a l = lexQ k' a l := by
  induction m with
  | zero =>
    intro k k' a l hl _ _
    have : l = [] := List.length_eq_zero_iff.1 (by omega)
    subst this
    rw [lexQ_nil, lexQ_nil]
  | succ m ih =>
    intro k k' a l hl hk hk'
    obtain ⟨i, rfl⟩ : ∃ i, k = i + 1 := ⟨k - 1, by omega⟩
    obtain ⟨j, rfl⟩ : ∃ j, k' = j + 1 := ⟨k' - 1, by omega⟩
    by_cases hn : l = []
    · subst hn; rw [lexQ_nil, lexQ_nil]
    · cases ht : tokL a l with
      | none => rw [lexQ_bad _ _ _ hn ht, lexQ_bad _ _ _ hn ht]
      | some x =>
        obtain ⟨t, n⟩ := x
        have hs := tokL_size _ _ _ _ ht
        rw [lexQ_tok _ _ _ _ _ ht, lexQ_tok _ _ _ _ _ ht, ih i j _ _ (by rw [List.length_drop]; omega) (by rw [List.length_drop]; omega) (by rw [List.length_drop]; omega)]
def shiftT (d : Nat) (t : Tok) : Tok := { t with at_ := t.at_ + d }
theorem lexQ_shift (k : Nat) : ∀ (a d : Nat) (l : List UInt8), lexQ k (a + d) l = ((lexQ k a l).1.map (shiftT d), (lexQ k a l).2.map (· + d)) := by
  induction k with
  | zero => intro a d l; rfl
  | succ k ih =>
    intro a d l
    by_cases hn : l = []
    · subst hn; rw [lexQ_nil, lexQ_nil]; rfl
    · have h1 := tokL_at a l
      have h2 := tokL_at (a + d) l
      cases ht : tokL 0 l with
      | none =>
        rw [ht] at h1 h2
        rw [lexQ_bad _ _ _ hn h1, lexQ_bad _ _ _ hn h2]; rfl
      | some x =>
        obtain ⟨t, n⟩ := x
        rw [ht] at h1 h2
        have h1' : tokL a l = some ({ t with at_ := a }, n) := h1
        have h2' : tokL (a + d) l = some ({ t with at_ := a + d }, n) := h2
        rw [lexQ_tok _ _ _ _ _ h1', lexQ_tok _ _ _ _ _ h2']
        have := ih (a + n + skipM false (l.drop n)) d (l.drop (n + skipM false (l.drop n)))
        rw [show a + d + n + skipM false (l.drop n) = a + n + skipM false (l.drop n) + d by omega, this]
        rfl
theorem lexS_app (m : Nat) : ∀ (k K J at_ : Nat) (c : Bool) (l b : List UInt8) (ts : List Tok), l.length ≤ m → l.length < k → (l ++ 10 :: b).length < K → b.length < J → lexS k c at_ l = (ts, none) →
    lexS K c at_ (l ++ 10 :: b) = (ts ++ (lexS J false (at_ + l.length + 1) b).1, (lexS J false (at_ + l.length + 1) b).2) := by
  induction m with
  | zero =>
    intro k K J at_ c l b ts hl hk hK hJ h
    have : l = [] := List.length_eq_zero_iff.1 (by omega)
    subst this
    unfold lexS at h ⊢
    rw [List.drop_nil, lexQ_nil] at h
    cases h
    rw [skipM_app]
    have h0 : skipM c [] = 0 := by cases c <;> rfl
    simp only [h0, List.length_nil, if_true, List.nil_append]
    rw [show 0 + 1 + skipM false b = skipM false b + 1 by omega, List.drop_succ_cons, show at_ + (skipM false b + 1) = at_ + 0 + 1 + skipM false b by omega]
    have hd := List.length_drop (l := b) (i := skipM false b)
    simp at hK
    rw [lexQ_fuel (b.length) K J _ _ (by rw [hd]; omega) (by rw [hd]; omega) (by rw [hd]; omega)]
  | succ m ih =>
    intro k K J at_ c l b ts hl hk hK hJ h
    have hle := skipM_le c l
    by_cases hd : skipM c l = l.length
    · unfold lexS at h ⊢
      rw [hd, List.drop_length, lexQ_nil] at h
      cases h
      rw [skipM_app, if_pos hd]
      have e1 : (l ++ 10 :: b).drop (l.length + 1 + skipM false b) = b.drop (skipM false b) := by
        rw [List.drop_append, List.drop_eq_nil_of_le (by omega), List.nil_append, show l.length + 1 + skipM false b - l.length = skipM false b + 1 by omega, List.drop_succ_cons]
      rw [e1, show at_ + (l.length + 1 + skipM false b) = at_ + l.length + 1 + skipM false b by omega, List.nil_append]
      have hdl := List.length_drop (l := b) (i := skipM false b)
      simp at hK
      rw [lexQ_fuel (b.length) K J _ _ (by rw [hdl]; omega) (by rw [hdl]; omega) (by rw [hdl]; omega)]
    · unfold lexS at h
      obtain ⟨i, rfl⟩ : ∃ i, k = i + 1 := ⟨k - 1, by omega⟩
      have hne : l.drop (skipM c l) ≠ [] := by
        intro e
        have := congrArg List.length e
        rw [List.length_drop] at this; simp at this; omega
      cases ht : tokL (at_ + skipM c l) (l.drop (skipM c l)) with
      | none => rw [lexQ_bad _ _ _ hne ht] at h; cases h
      | some x =>
        obtain ⟨t, n⟩ := x
        have hs := tokL_size _ _ _ _ ht
        rw [List.length_drop] at hs
        rw [lexQ_step _ _ _ _ _ ht] at h
        obtain ⟨us, hus⟩ : ∃ us, (lexS i false (at_ + skipM c l + n) ((l.drop (skipM c l)).drop n)).1 = us := ⟨_, rfl⟩
        have h2 : lexS i false (at_ + skipM c l + n) ((l.drop (skipM c l)).drop n) = (us, none) := by
          have h3 : (lexS i false (at_ + skipM c l + n) ((l.drop (skipM c l)).drop n)).2 = none := congrArg Prod.snd h
          rw [← hus, ← h3]
        have hts : ts = t :: us := by
          have h3 : t :: (lexS i false (at_ + skipM c l + n) ((l.drop (skipM c l)).drop n)).1 = ts := congrArg Prod.fst h
          rw [← h3, hus]
        have hta := tokL_app _ _ b _ _ ht
        obtain ⟨j, rfl⟩ : ∃ j, K = j + 1 := ⟨K - 1, by simp at hK; omega⟩
        have hlen : ((l.drop (skipM c l)).drop n).length = l.length - skipM c l - n := by rw [List.length_drop, List.length_drop]
        have e2 : (l ++ 10 :: b).drop (skipM c l) = l.drop (skipM c l) ++ 10 :: b := List.drop_append_of_le_length (by omega)
        have e3 : (l.drop (skipM c l) ++ 10 :: b).drop n = (l.drop (skipM c l)).drop n ++ 10 :: b := List.drop_append_of_le_length (by rw [List.length_drop]; omega)
        have key := ih i j J (at_ + skipM c l + n) false _ b us (by rw [hlen]; omega) (by rw [hlen]; omega) (by rw [List.length_append, hlen]; simp at hK ⊢; omega) hJ h2
        unfold lexS at ⊢
        rw [skipM_app, if_neg hd, e2, lexQ_step _ _ _ _ _ hta, e3, key, hlen, hts]
        rw [show at_ + skipM c l + n + (l.length - skipM c l - n) + 1 = at_ + l.length + 1 by omega]
        rfl
theorem lexL_app (a b : List UInt8) (ts us : List Tok) (ha : lexL a = (ts, none)) (hb : lexL b = (us, none)) :
    lexL (a ++ 10 :: b) = (ts ++ us.map (shiftT (a.length + 1)), none) := by
  unfold lexL at ha hb ⊢
  rw [lexS_app a.length (a.length + 1) _ (b.length + 1) 0 false a b ts (Nat.le_refl _) (by omega) (by omega) (by omega) ha]
  have : lexS (b.length + 1) false (0 + a.length + 1) b = (us.map (shiftT (a.length + 1)), none) := by
    unfold lexS at hb ⊢
    rw [show 0 + a.length + 1 + skipM false b = 0 + skipM false b + (a.length + 1) by omega, lexQ_shift, hb]
    rfl
  rw [this]
end Go.Proofs.YtnaopgajinbnmaaGreatDoor
