/- Numbers put into bytes, as plain functions: bit by bit from the lowest on, or from the highest on; that the two are one; that the number is got back. -/
import Derived.Test.YtbgkkaecpmgnoaaDoorBytes2
namespace Go.Proofs.YtbgkkaecpmgnoaaDoor
open Go.RowKit

/-- A byte with another bit in the place of worth m. -/
def sb (x m b : Nat) : Nat := x - x / m % 2 * m + b * m
theorem sb_all : ∀ r, r < 8 → ∀ b, b < 2 → ∀ a, a < 256 → sb a (2 ^ r) b < 256 ∧ a &&& (255 - 2 ^ r) = sb a (2 ^ r) 0 ∧ sb a (2 ^ r) 0 ||| b * 2 ^ r = sb a (2 ^ r) b := by decide +kernel
theorem sb_bits : ∀ r, r < 8 → ∀ s, s < 8 → ∀ b, b < 2 → ∀ a, a < 256 → sb a (2 ^ r) b / 2 ^ s % 2 = if s = r then b else a / 2 ^ s % 2 := by decide +kernel
/-- Bytes with another bit at place i. -/
def setBit (bs : List Nat) (i b : Nat) : List Nat := bs.set (i / 8) (sb (at8 bs (i / 8)) (2 ^ (7 - i % 8)) b)
theorem setBit_len (bs : List Nat) (i b : Nat) : (setBit bs i b).length = bs.length := by simp [setBit]
theorem setBit_lt {bs : List Nat} (hb : ∀ x ∈ bs, x < 256) (i b : Nat) (h2 : b < 2) : ∀ x ∈ setBit bs i b, x < 256 := by
  intro x hx
  rcases List.mem_or_eq_of_mem_set hx with hx | rfl
  · exact hb x hx
  · exact (sb_all (7 - i % 8) (by omega) b h2 _ (at8_lt hb _)).1
theorem at8_set' (bs : List Nat) (i k x : Nat) (h : i < bs.length) : at8 (bs.set i x) k = if k = i then x else at8 bs k := by
  unfold at8
  by_cases hk : k = i
  · subst hk; simp [h]
  · rw [if_neg hk, List.getElem?_set_ne (by omega)]
theorem nbit_setBit {bs : List Nat} (hb : ∀ x ∈ bs, x < 256) (i b q : Nat) (h2 : b < 2) (hi : i < 8 * bs.length) : nbit (setBit bs i b) q = if q = i then b else nbit bs q := by
  unfold nbit setBit
  rw [at8_set' bs (i / 8) (q / 8) _ (by omega)]
  by_cases h8 : q / 8 = i / 8
  · rw [if_pos h8, sb_bits (7 - i % 8) (by omega) (7 - q % 8) (by omega) b h2 _ (at8_lt hb _), h8]
    by_cases hq : q = i
    · rw [if_pos hq, if_pos (by omega)]
    · rw [if_neg hq, if_neg (by omega)]
  · rw [if_neg h8, if_neg (by intro e; exact h8 (by rw [e]))]

/-- Bytes with the same bits are the same. -/
theorem num_ext {xs bs : List Nat} (h : ∀ q, nbit xs q = nbit bs q) (p : Nat) : ∀ n, num xs p n = num bs p n
  | 0 => rfl
  | n + 1 => by simp only [num]; rw [num_ext h p n, h]
theorem bytes_ext {xs bs : List Nat} (ha : ∀ x ∈ xs, x < 256) (hb : ∀ x ∈ bs, x < 256) (hl : xs.length = bs.length) (h : ∀ q, nbit xs q = nbit bs q) : xs = bs := by
  apply List.ext_getElem hl
  intro i h1 h2
  rw [← at8_eq xs i h1, ← at8_eq bs i h2, ← num_byte xs ha, ← num_byte bs hb, num_ext h]

/-- The first k bits of v, from the lowest on, put to the end of the n bits from p on. -/
def putC (bs : List Nat) (p n v : Nat) : Nat → List Nat
  | 0 => bs
  | k + 1 => setBit (putC bs p n v k) (p + n - 1 - k) (v / 2 ^ k % 2)
theorem putC_len (bs : List Nat) (p n v : Nat) : ∀ k, (putC bs p n v k).length = bs.length
  | 0 => rfl
  | k + 1 => by rw [putC, setBit_len, putC_len bs p n v k]
theorem putC_lt {bs : List Nat} (hb : ∀ x ∈ bs, x < 256) (p n v : Nat) : ∀ k, ∀ x ∈ putC bs p n v k, x < 256
  | 0 => hb
  | k + 1 => setBit_lt (putC_lt hb p n v k) _ _ (Nat.mod_lt _ (by decide))
theorem nbit_putC {bs : List Nat} (hb : ∀ x ∈ bs, x < 256) (p n v : Nat) (h : p + n ≤ 8 * bs.length) (q : Nat) :
    ∀ k, k ≤ n → nbit (putC bs p n v k) q = if p + n - k ≤ q ∧ q < p + n then v / 2 ^ (p + n - 1 - q) % 2 else nbit bs q
  | 0, _ => by rw [if_neg (by omega)]; rfl
  | k + 1, hk => by
    rw [putC, nbit_setBit (putC_lt hb p n v k) _ _ q (Nat.mod_lt _ (by decide)) (by rw [putC_len]; omega), nbit_putC hb p n v h q k (by omega)]
    by_cases hq : q = p + n - 1 - k
    · rw [if_pos hq, if_pos (by omega), show p + n - 1 - q = k by omega]
    · rw [if_neg hq]
      by_cases h2 : p + n - k ≤ q ∧ q < p + n
      · rw [if_pos h2, if_pos (by omega)]
      · rw [if_neg h2, if_neg (by omega)]

/-- The place of bit i, from the highest one on. -/
def plc (p n i : Nat) (low : Bool) : Nat := if low then p + n - 8 - i / 8 * 8 + i % 8 else p + i
def putR (bs : List Nat) (p n v : Nat) (low : Bool) : Nat → List Nat
  | 0 => bs
  | i + 1 => setBit (putR bs p n v low i) (plc p n i low) (v / 2 ^ (n - 1 - i) % 2)
theorem putR_len (bs : List Nat) (p n v : Nat) (low : Bool) : ∀ k, (putR bs p n v low k).length = bs.length
  | 0 => rfl
  | k + 1 => by rw [putR, setBit_len, putR_len bs p n v low k]
theorem putR_lt {bs : List Nat} (hb : ∀ x ∈ bs, x < 256) (p n v : Nat) (low : Bool) : ∀ k, ∀ x ∈ putR bs p n v low k, x < 256
  | 0 => hb
  | k + 1 => setBit_lt (putR_lt hb p n v low k) _ _ (Nat.mod_lt _ (by decide))
theorem nbit_putR_hi {bs : List Nat} (hb : ∀ x ∈ bs, x < 256) (p n v : Nat) (h : p + n ≤ 8 * bs.length) (q : Nat) :
    ∀ k, k ≤ n → nbit (putR bs p n v false k) q = if p ≤ q ∧ q < p + k then v / 2 ^ (p + n - 1 - q) % 2 else nbit bs q
  | 0, _ => by rw [if_neg (by omega)]; rfl
  | k + 1, hk => by
    have hpl : plc p n k false = p + k := rfl
    rw [putR, hpl, nbit_setBit (putR_lt hb p n v false k) _ _ q (Nat.mod_lt _ (by decide)) (by rw [putR_len]; omega), nbit_putR_hi hb p n v h q k (by omega)]
    by_cases hq : q = p + k
    · rw [if_pos hq, if_pos (by omega), show p + n - 1 - q = n - 1 - k by omega]
    · rw [if_neg hq]
      by_cases h2 : p ≤ q ∧ q < p + k
      · rw [if_pos h2, if_pos (by omega)]
      · rw [if_neg h2, if_neg (by omega)]
/-- Which bit comes to place q of those with the lowest byte first. -/
def inv (p n q : Nat) : Nat := (p + n - 8 - q / 8 * 8) + q % 8
theorem nbit_putR_lo {bs : List Nat} (hb : ∀ x ∈ bs, x < 256) (p n v : Nat) (h : p + n ≤ 8 * bs.length) (hp : p % 8 = 0) (hn : n % 8 = 0) (q : Nat) :
    ∀ k, k ≤ n → nbit (putR bs p n v true k) q = if p ≤ q ∧ q < p + n ∧ inv p n q < k then v / 2 ^ (n - 1 - inv p n q) % 2 else nbit bs q
  | 0, _ => by rw [if_neg (by omega)]; rfl
  | k + 1, hk => by
    have hpl : plc p n k true = p + n - 8 - k / 8 * 8 + k % 8 := rfl
    rw [putR, hpl, nbit_setBit (putR_lt hb p n v true k) _ _ q (Nat.mod_lt _ (by decide)) (by rw [putR_len]; omega), nbit_putR_lo hb p n v h hp hn q k (by omega)]
    unfold inv
    by_cases hq : q = p + n - 8 - k / 8 * 8 + k % 8
    · rw [if_pos hq, if_pos (by omega), show p + n - 8 - q / 8 * 8 + q % 8 = k by omega]
    · rw [if_neg hq]
      by_cases h2 : p ≤ q ∧ q < p + n ∧ p + n - 8 - q / 8 * 8 + q % 8 < k
      · rw [if_pos h2, if_pos (by omega)]
      · rw [if_neg h2, if_neg (by omega)]
end Go.Proofs.YtbgkkaecpmgnoaaDoor
