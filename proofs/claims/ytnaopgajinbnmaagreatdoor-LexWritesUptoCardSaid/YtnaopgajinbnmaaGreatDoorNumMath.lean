/- Numbers as the reference reads them. -/
import Derived.Test.YtnaopgajinbnmaaGreatDoorRef
namespace Go.Proofs.YtnaopgajinbnmaaGreatDoor

def topN : Nat := 281474976710656
def capF (base : Nat) (n : Nat) (l : List UInt8) : Nat := l.foldl (fun n c => min (base * n + hexV c) 281474976710656) n
theorem capF_val (b : Nat) (hb : b = 10 ∨ b = 16) : ∀ (l : List UInt8) (n : Nat), capF b (min n 281474976710656) l = min (valF b n l) 281474976710656
  | [], n => rfl
  | c :: l, n => by
    have ih := capF_val b hb l (n * b + hexV c)
    unfold capF valF at *
    rw [List.foldl_cons, List.foldl_cons, ← ih]
    congr 1
    rcases hb with rfl | rfl <;> omega
theorem capF_zero (b : Nat) (hb : b = 10 ∨ b = 16) (l : List UInt8) : capF b 0 l = min (valF b 0 l) 281474976710656 := by
  have := capF_val b hb l 0
  rwa [show min 0 281474976710656 = 0 from rfl] at this
/-- Digits at the begin, the number so far: the number, and how many. -/
def numGo (b : Nat) (p : UInt8 → Bool) (n : Nat) (l : List UInt8) : Nat × Nat := (capF b n (l.take (runL p l)), runL p l)
theorem numGo_yes (b : Nat) (p : UInt8 → Bool) (n : Nat) (l : List UInt8) (h0 : p 0 = false) (h : p (hd l) = true) :
    numGo b p n l = ((numGo b p (min (b * n + hexV (hd l)) 281474976710656) (l.drop 1)).1, (numGo b p (min (b * n + hexV (hd l)) 281474976710656) (l.drop 1)).2 + 1) := by
  match l with
  | [] => rw [show hd [] = 0 from rfl, h0] at h; cases h
  | c :: r =>
    have hc : p c = true := h
    unfold numGo
    rw [runL_cons, hc]
    rfl
theorem numGo_no (b : Nat) (p : UInt8 → Bool) (n : Nat) (l : List UInt8) (h : p (hd l) = false) : numGo b p n l = (n, 0) := by
  match l with
  | [] => rfl
  | c :: r =>
    have hc : p c = false := h
    unfold numGo
    rw [runL_cons, hc]
    rfl
theorem numGo_le (b : Nat) (p : UInt8 → Bool) : ∀ (l : List UInt8) (n : Nat), n ≤ 281474976710656 → (numGo b p n l).1 ≤ 281474976710656 := by
  intro l n hn
  unfold numGo capF
  generalize l.take (runL p l) = q
  induction q generalizing n with
  | nil => exact hn
  | cons c q ih => rw [List.foldl_cons]; exact ih _ (Nat.min_le_right _ _)

theorem run_all (p : UInt8 → Bool) (l : List UInt8) : (l.take (runL p l)).all p = true := by
  induction l with
  | nil => rfl
  | cons c l ih =>
    rw [runL_cons]
    cases hc : p c with
    | true => simp only [if_true, List.take_succ_cons, List.all_cons, hc, Bool.true_and]; exact ih
    | false => rfl
theorem okHex : ∀ (l : List UInt8), l.all hexB = true → l.all (okDig 16) = true
  | [], _ => rfl
  | c :: l, h => by
    rw [List.all_cons, Bool.and_eq_true] at h
    have := all256 (fun c => !hexB c || okDig 16 c) (by decide +kernel) c
    rw [h.1] at this
    rw [List.all_cons, okHex l h.2, Bool.and_true]
    simpa using this
theorem okDec : ∀ (l : List UInt8), l.all digitB = true → l.all (okDig 10) = true
  | [], _ => rfl
  | c :: l, h => by
    rw [List.all_cons, Bool.and_eq_true] at h
    have := all256 (fun c => !digitB c || okDig 10 c) (by decide +kernel) c
    rw [h.1] at this
    rw [List.all_cons, okDec l h.2, Bool.and_true]
    simpa using this
/-- The hexadecimal number. -/
theorem num_hex (l : List UInt8) (h : hexHead l = true) (x : Nat × Nat) (hx : numGo 16 hexB 0 (l.drop 2) = x) :
    numL l = (if 0 < x.2 ∧ x.1 ≤ 281474976710655 then some x.1 else none, x.2 + 2) := by
  subst hx
  unfold numL numGo
  rw [if_pos h, capF_zero 16 (.inr rfl)]
  have ha := okHex _ (run_all hexB (l.drop 2))
  have hr := runL_le hexB (l.drop 2)
  generalize hr2 : runL hexB (l.drop 2) = r at *
  have hlen : ((l.drop 2).take r).length = r := by rw [List.length_take]; omega
  generalize (l.drop 2).take r = d at *
  unfold valP
  by_cases h0 : 0 < r
  · have hd0 : d ≠ [] := by rintro rfl; simp at hlen; omega
    by_cases hv : valF 16 0 d < 281474976710656
    · rw [if_pos ⟨hd0, ha, hv⟩, if_pos ⟨h0, by simp only; omega⟩]
      simp only; rw [Nat.min_eq_left (by omega)]
    · rw [if_neg (fun h => hv h.2.2), if_neg (fun h => by have := h.2; simp only at this; omega)]
  · have hd0 : d = [] := List.length_eq_zero_iff.1 (by omega)
    rw [if_neg (fun h => h.1 hd0), if_neg (fun h => h0 h.1)]

/-- The numbers between points at the begin, and how many bytes they take. -/
def decGo : Nat → List UInt8 → List Nat × Nat
  | 0, _ => ([], 0)
  | k + 1, l =>
    if (hd (l.drop (numGo 10 digitB 0 l).2)).toNat = 46 ∧ digitB (hd (l.drop ((numGo 10 digitB 0 l).2 + 1))) = true then
      ((numGo 10 digitB 0 l).1 :: (decGo k (l.drop ((numGo 10 digitB 0 l).2 + 1))).1, (numGo 10 digitB 0 l).2 + 1 + (decGo k (l.drop ((numGo 10 digitB 0 l).2 + 1))).2)
    else ([(numGo 10 digitB 0 l).1], (numGo 10 digitB 0 l).2)
theorem splitD_no : ∀ (x : List UInt8), x.all digitB = true → splitD x = [x]
  | [], _ => rfl
  | c :: x, h => by
    rw [List.all_cons, Bool.and_eq_true] at h
    have h46 : (c.toNat == 46) = false := by
      have := h.1; simp only [digitB] at this; simp at this ⊢; omega
    rw [splitD, h46, splitD_no x h.2]; rfl
theorem splitD_at : ∀ (x y : List UInt8), x.all digitB = true → splitD (x ++ 46 :: y) = x :: splitD y
  | [], y, _ => rfl
  | c :: x, y, h => by
    rw [List.all_cons, Bool.and_eq_true] at h
    have h46 : (c.toNat == 46) = false := by
      have := h.1; simp only [digitB] at this; simp at this ⊢; omega
    rw [List.cons_append, splitD, h46, splitD_at x y h.2]; rfl
theorem hd_drop_run (p : UInt8 → Bool) (l : List UInt8) (h0 : p 0 = false) : p (hd (l.drop (runL p l))) = false := by
  have := runL_stops p l
  cases hl : l.drop (runL p l) with
  | nil => exact h0
  | cons c r => rw [hl] at this; exact this
theorem runL_pos (p : UInt8 → Bool) (l : List UInt8) (h0 : p 0 = false) (h : p (hd l) = true) : 0 < runL p l := by
  match l with
  | [] => rw [show hd [] = 0 from rfl, h0] at h; cases h
  | c :: r => rw [runL_cons, if_pos (show p c = true from h)]; omega
/-- What the parts are. -/
theorem dec_parts : ∀ (k : Nat) (l : List UInt8), l.length < k → digitB (hd l) = true →
    (splitD (l.take (dotS digitB l))).map (fun p => min (valF 10 0 p) 281474976710656) = (decGo k l).1 ∧ (decGo k l).2 = dotS digitB l ∧
      (∀ p ∈ splitD (l.take (dotS digitB l)), p ≠ [] ∧ p.all digitB = true)
  | 0, l, h, _ => absurd h (Nat.not_lt_zero _)
  | k + 1, l, hk, hdl => by
    have hp := runL_pos digitB l rfl hdl
    have hle := runL_le digitB l
    have hall := run_all digitB l
    have hlt : (l.take (runL digitB l)).length = runL digitB l := by rw [List.length_take]; omega
    have hne : l.take (runL digitB l) ≠ [] := by
      intro e; rw [e] at hlt; simp at hlt; omega
    have hst := hd_drop_run digitB l rfl
    have hdr := dotS_run digitB l
    have hdh := dotS_hd digitB (l.drop (runL digitB l)) rfl
    have hsp : l.take (runL digitB l) ++ l.drop (runL digitB l) = l := List.take_append_drop _ _
    rw [hst, List.drop_drop, List.drop_drop] at hdh
    rw [decGo]
    have hg : numGo 10 digitB 0 l = (min (valF 10 0 (l.take (runL digitB l))) 281474976710656, runL digitB l) := by
      unfold numGo; rw [capF_zero 10 (.inl rfl)]
    rw [hg]
    simp only
    by_cases hc : (hd (l.drop (runL digitB l))).toNat = 46 ∧ digitB (hd (l.drop (runL digitB l + 1))) = true
    · rw [if_pos hc]
      rw [if_neg (by simp), if_pos hc] at hdh
      have h1 := dotS_hd digitB (l.drop (runL digitB l + 1)) rfl
      rw [if_pos hc.2, List.drop_drop, show runL digitB l + 1 + 1 = runL digitB l + 2 by omega] at h1
      have hl1 : (l.drop (runL digitB l + 1)).length < k := by rw [List.length_drop]; omega
      obtain ⟨i1, i2, i3⟩ := dec_parts k _ hl1 hc.2
      have hdd : dotS digitB l = runL digitB l + (dotS digitB (l.drop (runL digitB l + 1)) + 1) := by omega
      have hcons : l.drop (runL digitB l) = 46 :: l.drop (runL digitB l + 1) := by
        cases hq : l.drop (runL digitB l) with
        | nil => rw [hq] at hc; exact absurd hc.1 (by decide)
        | cons c q =>
          have h46 : c.toNat = 46 := by rw [hq] at hc; exact hc.1
          have : c = 46 := UInt8.toNat_inj.1 h46
          subst this
          rw [← List.drop_drop, hq]; rfl
      have htk : l.take (dotS digitB l) = l.take (runL digitB l) ++ 46 :: (l.drop (runL digitB l + 1)).take (dotS digitB (l.drop (runL digitB l + 1))) := by
        have e := List.take_append (l₁ := l.take (runL digitB l)) (l₂ := l.drop (runL digitB l)) (i := dotS digitB l)
        rw [hsp, hlt, List.take_of_length_le (l := l.take (runL digitB l)) (i := dotS digitB l) (by omega), hcons, show dotS digitB l - runL digitB l = dotS digitB (l.drop (runL digitB l + 1)) + 1 by omega, List.take_succ_cons] at e
        exact e
      rw [htk, splitD_at _ _ hall]
      refine ⟨by rw [List.map_cons, i1], by rw [i2]; omega, fun p hp => ?_⟩
      rcases List.mem_cons.1 hp with rfl | h
      · exact ⟨hne, hall⟩
      · exact i3 p h
    · rw [if_neg hc]
      rw [if_neg (by simp), if_neg hc] at hdh
      have hdd : dotS digitB l = runL digitB l := by omega
      rw [hdd, splitD_no _ hall]
      refine ⟨rfl, rfl, fun p hp => ?_⟩
      rw [List.mem_singleton] at hp; subst hp
      exact ⟨hne, hall⟩
/-- The address of parts. -/
def joinC : Nat → List Nat → Option Nat
  | n, [] => some n
  | n, v :: q => if 255 < v then none else joinC (256 * n + v) q
theorem valP_dec (top : Nat) (p : List UInt8) (h1 : p ≠ []) (h2 : p.all digitB = true) : valP 10 top p = if valF 10 0 p < top then some (valF 10 0 p) else none := by
  unfold valP
  by_cases h : valF 10 0 p < top
  · rw [if_pos ⟨h1, okDec p h2, h⟩, if_pos h]
  · rw [if_neg (fun x => h x.2.2), if_neg h]
theorem joinV_C : ∀ (ps : List (List UInt8)) (n : Nat), (∀ p ∈ ps, p ≠ [] ∧ p.all digitB = true) → joinV n ps = joinC n (ps.map fun p => min (valF 10 0 p) 281474976710656)
  | [], n, _ => rfl
  | p :: q, n, h => by
    obtain ⟨h1, h2⟩ := h p (by simp)
    rw [joinV, valP_dec 256 p h1 h2, List.map_cons, joinC]
    by_cases hv : valF 10 0 p < 256
    · rw [if_pos hv, if_neg (by omega)]
      simp only
      rw [joinV_C q _ (fun x hx => h x (by simp [hx])), Nat.min_eq_left (by omega), Nat.mul_comm]
    · rw [if_neg hv, if_pos (by omega)]
/-- The number of the parts. -/
def decR (ps : List Nat) : Option Nat := match ps with
  | [v] => if v ≤ 281474976710655 then some v else none
  | ps => if ps.length = 4 then joinC 0 ps else none
theorem decR_of (ps : List (List UInt8)) : (∀ p ∈ ps, p ≠ [] ∧ p.all digitB = true) →
    (match ps with | [p] => valP 10 281474976710656 p | ps => if ps.length = 4 then joinV 0 ps else none) = decR (ps.map fun p => min (valF 10 0 p) 281474976710656) := by
  intro h
  match ps with
  | [] => rfl
  | [p] =>
    obtain ⟨h1, h2⟩ := h p (by simp)
    simp only [List.map_cons, List.map_nil, decR]
    rw [valP_dec _ p h1 h2]
    by_cases hv : valF 10 0 p < 281474976710656
    · rw [if_pos hv, if_pos (by omega), Nat.min_eq_left (by omega)]
    · rw [if_neg hv, if_neg (by omega)]
  | p :: q :: r =>
    simp only [List.map_cons, decR]
    rw [joinV_C _ 0 h]
    simp
theorem num_dec (l : List UInt8) (h : hexHead l = false) (hd0 : digitB (hd l) = true) (k : Nat) (hk : l.length < k) (x : List Nat × Nat) (hx : decGo k l = x) :
    numL l = (decR x.1, x.2) := by
  subst hx
  obtain ⟨i1, i2, i3⟩ := dec_parts k l hk hd0
  unfold numL
  rw [if_neg (by rw [h]; decide), ← i1, i2, ← decR_of _ i3]
  rfl
end Go.Proofs.YtnaopgajinbnmaaGreatDoor
