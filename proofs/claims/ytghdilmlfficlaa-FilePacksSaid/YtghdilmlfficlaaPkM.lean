/- Packing: what packed bytes are unpacked to, and how many they are. -/
import Derived.Test.YtghdilmlfficlaaUnpack
namespace Go.Proofs.Ytghdilmlfficlaa
open Go.RowKit

/-- The parts for bytes that stand for themselves. -/
def plainB : Nat → List Nat → List Nat
  | 0, _ => []
  | n + 1, c => if c.length = 0 then [] else (min c.length 128 - 1) :: (c.take 128 ++ plainB n (c.drop 128))
theorem plainB_len : ∀ (n : Nat) (c : List Nat), c.length < n → (plainB n c).length = c.length + (c.length + 127) / 128
  | 0, c, h => by omega
  | n + 1, c, h => by
    rw [plainB]
    split
    · next h0 => rw [h0]; rfl
    · next h0 =>
      have ih := plainB_len n (c.drop 128) (by rw [List.length_drop]; omega)
      rw [List.length_cons, List.length_append, ih, List.length_take, List.length_drop]
      omega
theorem plainB_lt : ∀ (n : Nat) (c : List Nat), (∀ x ∈ c, x < 256) → ∀ x ∈ plainB n c, x < 256
  | 0, _, _ => by intro x hx; simp [plainB] at hx
  | n + 1, c, h => by
    intro x hx
    rw [plainB] at hx
    split at hx
    · cases hx
    · rcases List.mem_cons.1 hx with rfl | hx
      · omega
      · rcases List.mem_append.1 hx with hx | hx
        · exact h x (List.mem_of_mem_take hx)
        · exact plainB_lt n _ (fun y hy => h y (List.mem_of_mem_drop hy)) x hx
theorem plainB_fuel : ∀ (n m : Nat) (c : List Nat), c.length < n → c.length < m → plainB n c = plainB m c
  | 0, _, c, h, _ => by omega
  | _, 0, c, _, h => by omega
  | n + 1, m + 1, c, h1, h2 => by
    rw [plainB, plainB]
    split
    · rfl
    · rw [plainB_fuel n m (c.drop 128) (by rw [List.length_drop]; omega) (by rw [List.length_drop]; omega)]
/-- One more plain part. -/
theorem partU_plain {b rest : List Nat} {done n : Nat} (h0 : 0 < n) (h1 : n ≤ 128) (h2 : done + n ≤ b.length) :
    partU (b.take done) ((n - 1) :: ((b.drop done).take n ++ rest)) = some (b.take (done + n), n + 1) := by
  have e : at8 ((n - 1) :: ((b.drop done).take n ++ rest)) 0 = n - 1 := rfl
  have hl : ((b.drop done).take n).length = n := by rw [List.length_take, List.length_drop]; omega
  unfold partU
  rw [e, if_pos (by omega), if_pos (by rw [List.length_cons, List.length_append, hl]; omega)]
  rw [show n - 1 + 1 = n by omega, show n - 1 + 2 = n + 1 by omega]
  have e2 : (((n - 1) :: ((b.drop done).take n ++ rest)).drop 1).take n = (b.drop done).take n := by
    rw [List.drop_succ_cons, List.drop_zero, List.take_append_of_le_length (by omega), List.take_take, Nat.min_self]
  rw [e2, ← List.take_add]
theorem repU_take {b : List Nat} {at_ fr : Nat} (hf : fr < at_) : ∀ (n : Nat) (_ : at_ + n ≤ b.length) (_ : ∀ i, i < n → at8 b (fr + i) = at8 b (at_ + i)), repU (b.take at_) fr n = b.take (at_ + n)
  | 0, _, _ => rfl
  | n + 1, hl, he => by
    rw [repU, repU_take hf n (by omega) (fun i hi => he i (by omega))]
    have h1 : at8 (b.take (at_ + n)) (fr + n) = at8 b (fr + n) := by
      unfold at8; rw [List.getElem?_take_of_lt (by omega)]
    have h2 := he n (by omega)
    have hlt : at_ + n < b.length := by omega
    rw [h1, h2, at8_eq b (at_ + n) hlt, ← List.take_succ_eq_append_getElem hlt]; rfl
/-- A repeat. -/
theorem partU_rep {b rest : List Nat} {at_ fr n : Nat} (hf : fr < at_) (h4 : 4 ≤ n) (h130 : n ≤ 130) (hl : at_ + n ≤ b.length) (he : ∀ i, i < n → at8 b (fr + i) = at8 b (at_ + i)) :
    partU (b.take at_) ((n + 125) :: ((at_ - fr) / 256) :: ((at_ - fr) % 256) :: rest) = some (b.take (at_ + n), 3) := by
  have e0 : at8 ((n + 125) :: ((at_ - fr) / 256) :: ((at_ - fr) % 256) :: rest) 0 = n + 125 := rfl
  have e1 : at8 ((n + 125) :: ((at_ - fr) / 256) :: ((at_ - fr) % 256) :: rest) 1 = (at_ - fr) / 256 := rfl
  have e2 : at8 ((n + 125) :: ((at_ - fr) / 256) :: ((at_ - fr) % 256) :: rest) 2 = (at_ - fr) % 256 := rfl
  have hlt : (b.take at_).length = at_ := by rw [List.length_take]; omega
  unfold partU
  rw [e0, e1, e2, if_neg (by omega), if_neg (by simp only [List.length_cons]; omega), hlt, if_neg (by omega)]
  have e3 : at_ - ((at_ - fr) / 256 * 256 + (at_ - fr) % 256) = fr := by omega
  rw [e3, show n + 125 - 125 = n by omega, repU_take hf n hl he]

/-- The body unpacks to the first bytes, whatever follows. -/
def Dec (b body : List Nat) (done : Nat) : Prop := ∀ rest, runU ((body ++ rest).length + 1) b.length [] (body ++ rest) = runU (rest.length + 1) b.length (b.take done) rest
theorem Dec.zero (b : List Nat) : Dec b [] 0 := fun _ => rfl
theorem Dec.plain {b body : List Nat} {done : Nat} (h : Dec b body done) : ∀ (k : Nat) (m : Nat), m < k → done + m ≤ b.length → Dec b (body ++ plainB k ((b.drop done).take m)) (done + m)
  | 0, m, hm, _ => by omega
  | k + 1, m, hm, hl => by
    have hcl : ((b.drop done).take m).length = m := by rw [List.length_take, List.length_drop]; omega
    rw [plainB, hcl]
    by_cases h0 : m = 0
    · rw [if_pos h0, List.append_nil, h0]; exact h
    · rw [if_neg h0]
      have hn : 0 < min m 128 := by omega
      have e1 : ((b.drop done).take m).take 128 = (b.drop done).take (min m 128) := by rw [List.take_take, Nat.min_comm]
      have e2 : ((b.drop done).take m).drop 128 = (b.drop (done + min m 128)).take (m - min m 128) := by
        rw [List.drop_take, List.drop_drop]
        by_cases h128 : m ≤ 128
        · rw [show m - 128 = 0 by omega, show m - min m 128 = 0 by omega]; simp
        · rw [show min m 128 = 128 by omega]
      rw [e1, e2]
      have h1 : Dec b (body ++ (min m 128 - 1) :: (b.drop done).take (min m 128)) (done + min m 128) := by
        intro rest
        have := h ((min m 128 - 1) :: ((b.drop done).take (min m 128) ++ rest))
        rw [show (body ++ (min m 128 - 1) :: (b.drop done).take (min m 128)) ++ rest = body ++ ((min m 128 - 1) :: ((b.drop done).take (min m 128) ++ rest)) by simp, this]
        rw [runU_step (partU_plain hn (by omega) (by omega)) (by rw [List.length_take]; omega) (by simp)]
        have hd : ((min m 128 - 1) :: ((b.drop done).take (min m 128) ++ rest)).drop (min m 128 + 1) = rest := by
          rw [List.drop_succ_cons]
          have hcl2 : ((b.drop done).take (min m 128)).length = min m 128 := by rw [List.length_take, List.length_drop]; omega
          rw [List.drop_append_of_le_length (by omega), List.drop_eq_nil_of_le (by omega)]; rfl
        rw [hd]
      have h2 := Dec.plain h1 k (m - min m 128) (by omega) (by omega)
      rw [show done + min m 128 + (m - min m 128) = done + m by omega] at h2
      have e3 : body ++ (min m 128 - 1) :: ((b.drop done).take (min m 128) ++ plainB k ((b.drop (done + min m 128)).take (m - min m 128))) = body ++ (min m 128 - 1) :: (b.drop done).take (min m 128) ++ plainB k ((b.drop (done + min m 128)).take (m - min m 128)) := by simp
      rw [e3]
      exact h2
theorem Dec.rep {b body : List Nat} {at_ fr n : Nat} (h : Dec b body at_) (hf : fr < at_) (h4 : 4 ≤ n) (h130 : n ≤ 130) (hl : at_ + n ≤ b.length) (he : ∀ i, i < n → at8 b (fr + i) = at8 b (at_ + i)) :
    Dec b (body ++ [n + 125, (at_ - fr) / 256, (at_ - fr) % 256]) (at_ + n) := by
  intro rest
  have := h ((n + 125) :: ((at_ - fr) / 256) :: ((at_ - fr) % 256) :: rest)
  rw [show (body ++ [n + 125, (at_ - fr) / 256, (at_ - fr) % 256]) ++ rest = body ++ ((n + 125) :: ((at_ - fr) / 256) :: ((at_ - fr) % 256) :: rest) by simp, this]
  rw [runU_step (partU_rep hf h4 h130 hl he) (by rw [List.length_take]; omega) (by simp)]
  rfl
/-- How many bytes the body has at most. -/
def Few (body : List Nat) (done : Nat) : Prop := body.length ≤ done + done / 128
theorem Few.zero : Few [] 0 := by unfold Few; simp
theorem Few.rep {body : List Nat} {done m n : Nat} {c : List Nat} {x y z : Nat} (h : Few body done) (hc : c.length = m) (h4 : 4 ≤ n) (k : Nat) (hk : m < k) : Few (body ++ plainB k c ++ [x, y, z]) (done + m + n) := by
  unfold Few at *
  rw [List.length_append, List.length_append, plainB_len k c (by omega), hc]
  simp only [List.length_cons, List.length_nil]
  omega
theorem few_end {body c : List Nat} {done m k : Nat} (h : Few body done) (hc : c.length = m) (hk : m < k) : (body ++ plainB k c).length ≤ (done + m) + (done + m + 127) / 128 := by
  unfold Few at h
  rw [List.length_append, plainB_len k c (by omega), hc]
  omega
end Go.Proofs.Ytghdilmlfficlaa
