/- Numbers in bytes, as plain functions: bit by bit, by whole bytes, turned round. -/
import Derived.Test.YtghdilmlfficlaaS1Get
namespace Go.Proofs.Ytghdilmlfficlaa.S1
open Go.RowKit

/-- The bit at a place. -/
def nbit (bs : List Nat) (i : Nat) : Nat := at8 bs (i / 8) / 2 ^ (7 - i % 8) % 2
/-- The number of n bits from a place on. -/
def num (bs : List Nat) (p : Nat) : Nat → Nat
  | 0 => 0
  | n + 1 => 2 * num bs p n + nbit bs (p + n)
theorem nbit_lt (bs : List Nat) (i : Nat) : nbit bs i < 2 := Nat.mod_lt _ (by decide)
theorem num_lt (bs : List Nat) (p : Nat) : ∀ n, num bs p n < 2 ^ n
  | 0 => by simp [num]
  | n + 1 => by have := num_lt bs p n; have := nbit_lt bs (p + n); simp only [num, Nat.pow_succ]; omega
theorem num_add (bs : List Nat) (p n : Nat) : ∀ m, num bs p (n + m) = num bs p n * 2 ^ m + num bs (p + n) m
  | 0 => by simp [num]
  | m + 1 => by
    show 2 * num bs p (n + m) + nbit bs (p + (n + m)) = _
    rw [num_add bs p n m]
    simp only [num, Nat.pow_succ, Nat.add_assoc]
    have : num bs p n * (2 ^ m * 2) = 2 * (num bs p n * 2 ^ m) := by rw [← Nat.mul_assoc, Nat.mul_comm]
    omega
theorem nbit_byte (bs : List Nat) (k j : Nat) (h : j < 8) : nbit bs (8 * k + j) = at8 bs k / 2 ^ (7 - j) % 2 := by
  unfold nbit
  rw [show (8 * k + j) / 8 = k by omega, show (8 * k + j) % 8 = j by omega]
theorem num_byte (bs : List Nat) (hb : ∀ x ∈ bs, x < 256) (k : Nat) : num bs (8 * k) 8 = at8 bs k := by
  have hx := at8_lt hb k
  simp only [num]
  rw [nbit_byte bs k 0 (by decide), nbit_byte bs k 1 (by decide), nbit_byte bs k 2 (by decide), nbit_byte bs k 3 (by decide), nbit_byte bs k 4 (by decide), nbit_byte bs k 5 (by decide), nbit_byte bs k 6 (by decide), nbit_byte bs k 7 (by decide)]
  simp only [Nat.reducePow, Nat.reduceSub]
  omega
/-- The number of k whole bytes from byte q on. -/
def bev (bs : List Nat) (q : Nat) : Nat → Nat
  | 0 => 0
  | k + 1 => bev bs q k * 256 + at8 bs (q + k)
theorem bev_num (bs : List Nat) (hb : ∀ x ∈ bs, x < 256) (q : Nat) : ∀ k, bev bs q k = num bs (8 * q) (8 * k)
  | 0 => rfl
  | k + 1 => by
    rw [show 8 * (k + 1) = 8 * k + 8 by omega, num_add, show 8 * q + 8 * k = 8 * (q + k) by omega, num_byte bs hb, ← bev_num bs hb q k]
    rfl
theorem bev_lt (bs : List Nat) (hb : ∀ x ∈ bs, x < 256) (q k : Nat) : bev bs q k < 2 ^ (8 * k) := by rw [bev_num bs hb]; exact num_lt _ _ _
/-- A number that stands in whole bytes, between bits ahead and bits behind. -/
theorem num_cut (bs : List Nat) (hb : ∀ x ∈ bs, x < 256) (q k p n r : Nat) (h1 : 8 * q ≤ p) (h2 : 8 * q + 8 * k = p + n + r) :
    bev bs q k / 2 ^ r % 2 ^ n = num bs p n := by
  rw [bev_num bs hb]
  obtain ⟨a, rfl⟩ : ∃ a, p = 8 * q + a := ⟨p - 8 * q, by omega⟩
  rw [show 8 * k = a + n + r by omega, num_add, num_add]
  have l1 := num_lt bs (8 * q + (a + n)) r
  have l2 := num_lt bs (8 * q + a) n
  rw [Nat.mul_comm _ (2 ^ r), Nat.mul_add_div (Nat.two_pow_pos r), Nat.div_eq_of_lt l1, Nat.add_zero, Nat.mul_comm _ (2 ^ n), Nat.mul_add_mod, Nat.mod_eq_of_lt l2]

/-! ### Bytes turned round -/
def beL (l : List Nat) : Nat := l.foldl (fun a x => a * 256 + x) 0
theorem beL_snoc (l : List Nat) (x : Nat) : beL (l ++ [x]) = beL l * 256 + x := by simp [beL]
theorem foldl_be (l : List Nat) : ∀ a, l.foldl (fun a x => a * 256 + x) a = a * 256 ^ l.length + beL l := by
  induction l with
  | nil => intro a; simp [beL]
  | cons x l ih =>
    intro a
    show l.foldl _ (a * 256 + x) = a * 256 ^ (l.length + 1) + l.foldl _ (0 * 256 + x)
    rw [ih, ih (0 * 256 + x), Nat.pow_succ, Nat.add_mul, Nat.mul_assoc, Nat.mul_comm 256 (256 ^ l.length)]
    simp only [Nat.zero_mul, Nat.zero_add]; omega
theorem beL_cons (x : Nat) (l : List Nat) : beL (x :: l) = x * 256 ^ l.length + beL l := by
  show l.foldl _ (0 * 256 + x) = _
  rw [foldl_be]; simp
theorem trn_rev (n : Nat) : ∀ (l : List Nat) (out : Nat), l.length = n → (∀ x ∈ l, x < 256) → trn n (beL l) out = out * 256 ^ n + beL l.reverse := by
  induction n with
  | zero => intro l out h _; rw [List.length_eq_zero_iff.1 h]; simp [trn, beL]
  | succ n ih =>
    intro l out h hb
    have hne : l ≠ [] := by intro e; simp [e] at h
    obtain ⟨l', x, rfl⟩ : ∃ l' x, l = l' ++ [x] := ⟨l.dropLast, l.getLast hne, (List.dropLast_concat_getLast hne).symm⟩
    have hx : x < 256 := hb x (by simp)
    have hl : l'.length = n := by simpa using h
    show trn n (beL (l' ++ [x]) / 256) (out * 256 + beL (l' ++ [x]) % 256) = _
    rw [beL_snoc, show (beL l' * 256 + x) / 256 = beL l' by omega, show (beL l' * 256 + x) % 256 = x by omega, ih l' _ hl (fun y hy => hb y (by simp [hy]))]
    rw [List.reverse_append, List.reverse_singleton, List.singleton_append, beL_cons, List.length_reverse, hl, Nat.pow_succ, Nat.add_mul, Nat.mul_assoc, Nat.mul_comm 256 (256 ^ n)]
    omega
theorem bev_beL (bs : List Nat) (q : Nat) : ∀ k, q + k ≤ bs.length → bev bs q k = beL ((bs.drop q).take k)
  | 0, _ => by simp [bev, beL]
  | k + 1, h => by
    show bev bs q k * 256 + at8 bs (q + k) = _
    have hk : k < (bs.drop q).length := by simp; omega
    rw [bev_beL bs q k (by omega), List.take_succ_eq_append_getElem hk, beL_snoc, at8_eq bs (q + k) (by omega)]
    simp
theorem drop_take_lt {bs : List Nat} (hb : ∀ x ∈ bs, x < 256) (q k : Nat) : ∀ x ∈ (bs.drop q).take k, x < 256 :=
  fun x hx => hb x (List.mem_of_mem_drop (List.mem_of_mem_take hx))
/-- The number with its lowest byte first: the code's and the reference's are one. -/
theorem low_num (bs : List Nat) (hb : ∀ x ∈ bs, x < 256) (q k : Nat) (h : q + k ≤ bs.length) :
    trn k (bev bs q k) 0 = num ((bs.drop q).take k).reverse 0 (8 * k) := by
  have hl : ((bs.drop q).take k).length = k := by simp; omega
  have hlt := drop_take_lt hb q k
  rw [bev_beL bs q k h]
  obtain ⟨l, e⟩ : ∃ l, (bs.drop q).take k = l := ⟨_, rfl⟩
  rw [e] at hl hlt ⊢
  have hr : ∀ x ∈ l.reverse, x < 256 := fun x hx => hlt x (List.mem_reverse.1 hx)
  have e1 := bev_num l.reverse hr 0 k
  rw [bev_beL _ 0 k (by rw [List.length_reverse]; omega), List.drop_zero, List.take_of_length_le (by rw [List.length_reverse]; omega)] at e1
  rw [← show 8 * 0 = 0 from rfl, ← e1, trn_rev k l 0 hl hlt, Nat.zero_mul, Nat.zero_add]
end Go.Proofs.Ytghdilmlfficlaa.S1
