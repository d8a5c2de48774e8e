/- Putting numbers: the two ways are one; what was put is got back; no other bit changes. -/
import Derived.Test.YtbgkkaecpmgnoaaDoorPutMath
namespace Go.Proofs.YtbgkkaecpmgnoaaDoor
open Go.RowKit

theorem trn_out (k : Nat) : ∀ v out, trn k v out = out * 256 ^ k + trn k v 0 := by
  induction k with
  | zero => intro v out; simp [trn]
  | succ k ih =>
    intro v out
    show trn k (v / 256) (out * 256 + v % 256) = out * 256 ^ (k + 1) + trn k (v / 256) (0 * 256 + v % 256)
    rw [ih, ih (v / 256) (0 * 256 + v % 256), Nat.pow_succ, Nat.add_mul, Nat.zero_mul, Nat.zero_add, Nat.mul_assoc, Nat.mul_comm 256 (256 ^ k)]
    omega
theorem trn_succ (k v : Nat) : trn (k + 1) v 0 = v % 256 * 256 ^ k + trn k (v / 256) 0 := by
  show trn k (v / 256) (0 * 256 + v % 256) = _
  rw [trn_out, Nat.zero_mul, Nat.zero_add]
theorem trn_lt (k : Nat) : ∀ v, trn k v 0 < 256 ^ k := by
  induction k with
  | zero => intro v; simp [trn]
  | succ k ih =>
    intro v
    rw [trn_succ, Nat.pow_succ]
    have h1 := ih (v / 256)
    have h2 : v % 256 ≤ 255 := by omega
    have h3 : v % 256 * 256 ^ k ≤ 255 * 256 ^ k := Nat.mul_le_mul_right _ h2
    omega
/-- The byte c of a number whose k bytes were turned round. -/
theorem trn_byte (k : Nat) : ∀ v c, c < k → trn k v 0 / 256 ^ (k - 1 - c) % 256 = v / 256 ^ c % 256 := by
  induction k with
  | zero => intro v c h; omega
  | succ k ih =>
    intro v c h
    rw [trn_succ]
    have h1 := trn_lt k (v / 256)
    cases c with
    | zero =>
      rw [show k + 1 - 1 - 0 = k by omega, Nat.pow_zero, Nat.div_one, Nat.mul_comm, Nat.mul_add_div (Nat.pow_pos (by decide)), Nat.div_eq_of_lt h1, Nat.add_zero, Nat.mod_mod]
    | succ c =>
      have e := ih (v / 256) c (by omega)
      rw [Nat.div_div_eq_div_mul, Nat.mul_comm 256 (256 ^ c), ← Nat.pow_succ] at e
      rw [← e, show k + 1 - 1 - (c + 1) = k - 1 - c by omega]
      have hs : 256 ^ k = 256 ^ (k - 1 - c) * 256 ^ (c + 1) := by rw [← Nat.pow_add]; congr 1; omega
      rw [hs, Nat.mul_comm (v % 256), Nat.mul_assoc, Nat.mul_add_div (Nat.pow_pos (by decide)), Nat.pow_succ, Nat.mul_assoc, Nat.mul_comm (256 ^ c), Nat.mul_assoc, Nat.mul_add_mod]
theorem bit_of_byte (v a r : Nat) (hr : r < 8) : v / 2 ^ (8 * a + r) % 2 = v / 256 ^ a % 256 / 2 ^ r % 2 := by
  have h8 : (256 : Nat) ^ a = 2 ^ (8 * a) := by rw [show (256 : Nat) = 2 ^ 8 from rfl, ← Nat.pow_mul]
  rw [Nat.pow_add, ← Nat.div_div_eq_div_mul, h8]
  obtain ⟨x, hx⟩ : ∃ x, v / 2 ^ (8 * a) = x := ⟨_, rfl⟩
  rw [hx]
  have hr' : r = 0 ∨ r = 1 ∨ r = 2 ∨ r = 3 ∨ r = 4 ∨ r = 5 ∨ r = 6 ∨ r = 7 := by omega
  rcases hr' with rfl | rfl | rfl | rfl | rfl | rfl | rfl | rfl <;> simp only [Nat.reducePow] <;> omega

/-- The number that the code puts. -/
def putN (n v : Nat) (low : Bool) : Nat := if low then trn (n / 8) v 0 else v
/-- The code's bytes are the reference's. -/
theorem put_same {bs : List Nat} (hb : ∀ x ∈ bs, x < 256) (p n v : Nat) (h : p + n ≤ 8 * bs.length) (low : Bool) (hlow : low = true → p % 8 = 0 ∧ n % 8 = 0) :
    putC bs p n (putN n v low) n = putR bs p n v low n := by
  refine bytes_ext (putC_lt hb p n _ n) (putR_lt hb p n v low n) (by rw [putC_len, putR_len]) (fun q => ?_)
  rw [nbit_putC hb p n _ h q n (Nat.le_refl _)]
  cases low with
  | false =>
    rw [nbit_putR_hi hb p n v h q n (Nat.le_refl _)]
    by_cases hq : p ≤ q ∧ q < p + n
    · rw [if_pos (by omega), if_pos hq]; rfl
    · rw [if_neg (by omega), if_neg hq]
  | true =>
    obtain ⟨hp, hn⟩ := hlow rfl
    rw [nbit_putR_lo hb p n v h hp hn q n (Nat.le_refl _)]
    by_cases hq : p ≤ q ∧ q < p + n
    · rw [if_pos (by omega), if_pos ⟨hq.1, hq.2, by unfold inv; omega⟩]
      show trn (n / 8) v 0 / 2 ^ (p + n - 1 - q) % 2 = v / 2 ^ (n - 1 - inv p n q) % 2
      obtain ⟨m, rfl⟩ : ∃ m, n = 8 * m := ⟨n / 8, by omega⟩
      obtain ⟨c, hc⟩ : ∃ c, q / 8 - p / 8 = c := ⟨_, rfl⟩
      have e1 : p + 8 * m - 1 - q = 8 * (m - 1 - c) + (7 - q % 8) := by omega
      have e2 : 8 * m - 1 - inv p (8 * m) q = 8 * c + (7 - q % 8) := by unfold inv; omega
      rw [e1, e2, bit_of_byte _ _ _ (by omega), bit_of_byte _ _ _ (by omega), show 8 * m / 8 = m by omega, trn_byte m v c (by omega)]
    · rw [if_neg (by omega), if_neg (by omega)]

/-- The number that stands where the code has put one. -/
theorem num_putC {bs : List Nat} (hb : ∀ x ∈ bs, x < 256) (p n v : Nat) (h : p + n ≤ 8 * bs.length) (hv : v < 2 ^ n) :
    ∀ k, k ≤ n → num (putC bs p n v n) p k = v / 2 ^ (n - k)
  | 0, _ => by rw [Nat.sub_zero, Nat.div_eq_of_lt hv]; rfl
  | k + 1, hk => by
    simp only [num]
    rw [num_putC hb p n v h hv k (by omega), nbit_putC hb p n v h (p + k) n (Nat.le_refl _), if_pos (by omega), show p + n - 1 - (p + k) = n - (k + 1) by omega, show n - k = n - (k + 1) + 1 by omega, Nat.pow_succ, ← Nat.div_div_eq_div_mul]
    omega
theorem digits_ex (m : Nat) : ∀ v, v < 256 ^ m → ∃ l : List Nat, l.length = m ∧ (∀ x ∈ l, x < 256) ∧ beL l = v := by
  induction m with
  | zero => intro v h; exact ⟨[], rfl, by simp, by simp [beL] at *; omega⟩
  | succ m ih =>
    intro v h
    obtain ⟨l, h1, h2, h3⟩ := ih (v / 256) (by rw [Nat.div_lt_iff_lt_mul (by decide)]; rw [Nat.pow_succ] at h; exact h)
    refine ⟨l ++ [v % 256], by simp [h1], ?_, by rw [beL_snoc, h3]; omega⟩
    intro x hx
    rcases List.mem_append.1 hx with hx | hx
    · exact h2 x hx
    · simp at hx; omega
theorem trn_trn (m v : Nat) (h : v < 256 ^ m) : trn m (trn m v 0) 0 = v := by
  obtain ⟨l, h1, h2, rfl⟩ := digits_ex m v h
  rw [trn_rev m l 0 h1 h2, Nat.zero_mul, Nat.zero_add, trn_rev m l.reverse 0 (by rw [List.length_reverse, h1]) (fun x hx => h2 x (List.mem_reverse.1 hx)), List.reverse_reverse, Nat.zero_mul, Nat.zero_add]
/-- What was put is got back. -/
theorem get_putC {bs : List Nat} (hb : ∀ x ∈ bs, x < 256) (p n v : Nat) (h : p + n ≤ 8 * bs.length) (hv : v < 2 ^ n) (low : Bool) (hlow : low = true → p % 8 = 0 ∧ n % 8 = 0) :
    getV (putC bs p n (putN n v low) n) p n low = v := by
  cases low with
  | false =>
    show num (putC bs p n v n) p n = v
    rw [num_putC hb p n v h hv n (Nat.le_refl _), Nat.sub_self, Nat.pow_zero, Nat.div_one]
  | true =>
    obtain ⟨hp, hn⟩ := hlow rfl
    obtain ⟨m, rfl⟩ : ∃ m, n = 8 * m := ⟨n / 8, by omega⟩
    obtain ⟨q, rfl⟩ : ∃ q, p = 8 * q := ⟨p / 8, by omega⟩
    have h8 : (256 : Nat) ^ m = 2 ^ (8 * m) := by rw [show (256 : Nat) = 2 ^ 8 from rfl, ← Nat.pow_mul]
    have hpn : putN (8 * m) v true = trn m v 0 := by show trn (8 * m / 8) v 0 = _; rw [show 8 * m / 8 = m by omega]
    rw [hpn]
    have hl := putC_lt hb (8 * q) (8 * m) (trn m v 0) (8 * m)
    have hlen := putC_len bs (8 * q) (8 * m) (trn m v 0) (8 * m)
    have h1 := low_num _ hl q m (by rw [hlen]; omega)
    rw [bev_num _ hl, num_putC hb (8 * q) (8 * m) (trn m v 0) h (by rw [← h8]; exact trn_lt m v) (8 * m) (Nat.le_refl _), Nat.sub_self, Nat.pow_zero, Nat.div_one, trn_trn m v (by rw [h8]; exact hv)] at h1
    show num _ 0 (8 * m) = v
    rw [show 8 * q / 8 = q by omega, show 8 * m / 8 = m by omega]
    exact h1.symm
/-- No other bit changes. -/
theorem bit_putC {bs : List Nat} (hb : ∀ x ∈ bs, x < 256) (p n v : Nat) (h : p + n ≤ 8 * bs.length) (k : Nat) (hk : ¬ (p ≤ k ∧ k < p + n)) : num (putC bs p n v n) k 1 = num bs k 1 := by
  simp only [num, Nat.add_zero]
  rw [nbit_putC hb p n v h k n (Nat.le_refl _), if_neg (by omega)]
end Go.Proofs.YtbgkkaecpmgnoaaDoor
