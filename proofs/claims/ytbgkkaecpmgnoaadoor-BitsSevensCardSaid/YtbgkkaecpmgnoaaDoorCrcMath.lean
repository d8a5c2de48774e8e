/- The polynomial check, by a table of 16 and bit by bit: plain numbers; that the two are one. -/
import Derived.Test.YtbgkkaecpmgnoaaDoorMem
namespace Go.Proofs.YtbgkkaecpmgnoaaDoor
open Go.RowKit

def crcL : List Nat := [0, 498536548, 997073096, 651767980, 1994146192, 1802195444, 1303535960, 1342533948, 3988292384, 4027552580, 3604390888, 3412177804, 2607071920, 2262029012, 2685067896, 3183342108]
/-- The table. -/
def crcT (j : Nat) : Nat := crcL[j]?.getD 0
/-- One byte by the table. -/
def crcB (c x : Nat) : Nat := ((c ^^^ x) / 16 ^^^ crcT ((c ^^^ x) % 16)) / 16 ^^^ crcT (((c ^^^ x) / 16 ^^^ crcT ((c ^^^ x) % 16)) % 16)
/-- One bit. -/
def bitStep (r y : Nat) : Nat := r / 2 ^^^ (if (r ^^^ y) % 2 = 1 then 3988292384 else 0)
/-- The first k bits of a byte. -/
def bitsIn (x r : Nat) : Nat → Nat
  | 0 => r
  | k + 1 => bitStep (bitsIn x r k) (x / 2 ^ k)
/-- One step of the register. -/
def lfs (n : Nat) : Nat := n / 2 ^^^ (if n % 2 = 1 then 3988292384 else 0)
def lfsN (n : Nat) : Nat → Nat
  | 0 => n
  | k + 1 => lfs (lfsN n k)

theorem xor_half (a b : Nat) : (a ^^^ b) / 2 = a / 2 ^^^ b / 2 := by
  have := Nat.shiftRight_xor_distrib (a := a) (b := b) (i := 1)
  simpa [Nat.shiftRight_succ] using this
theorem lfs_xor (a b : Nat) : lfs (a ^^^ b) = lfs a ^^^ lfs b := by
  unfold lfs
  have hm : (a ^^^ b) % 2 = a % 2 ^^^ b % 2 := by
    have := Nat.xor_mod_two_pow (a := a) (b := b) (n := 1)
    simpa using this
  rw [xor_half, hm]
  have ha : a % 2 = 0 ∨ a % 2 = 1 := by omega
  have hb : b % 2 = 0 ∨ b % 2 = 1 := by omega
  have e4 : ∀ p q s t : Nat, p ^^^ q ^^^ (s ^^^ t) = p ^^^ s ^^^ (q ^^^ t) := fun p q s t => by
    rw [Nat.xor_assoc, Nat.xor_assoc, ← Nat.xor_assoc q, ← Nat.xor_assoc s, Nat.xor_comm q s]
  rw [← e4]
  congr 1
  rcases ha with ha | ha <;> rcases hb with hb | hb <;> simp [ha, hb]
theorem lfs_double (m : Nat) : lfs (2 * m) = m := by simp [lfs]
theorem lfs4_shift (q : Nat) : lfsN (16 * q) 4 = q := by
  show lfs (lfs (lfs (lfs (16 * q)))) = q
  rw [show 16 * q = 2 * (2 * (2 * (2 * q))) by omega, lfs_double, lfs_double, lfs_double, lfs_double]
theorem lfsN_xor (a b : Nat) : ∀ k, lfsN (a ^^^ b) k = lfsN a k ^^^ lfsN b k
  | 0 => rfl
  | k + 1 => by show lfs _ = lfs _ ^^^ lfs _; rw [lfsN_xor a b k, lfs_xor]
theorem lfsN_add (n i : Nat) : ∀ k, lfsN n (i + k) = lfsN (lfsN n i) k
  | 0 => rfl
  | k + 1 => by show lfs (lfsN n (i + k)) = lfs _; rw [lfsN_add n i k]
theorem lfs4_low : ∀ r, r < 16 → lfsN r 4 = crcT r := by decide
theorem split16 (n : Nat) : n = 16 * (n / 16) ^^^ n % 16 := by
  have h1 : (16 * (n / 16) ^^^ n % 16) / 2 ^ 4 = n / 16 := by
    rw [← Nat.shiftRight_eq_div_pow, Nat.shiftRight_xor_distrib, Nat.shiftRight_eq_div_pow, Nat.shiftRight_eq_div_pow]
    have e1 : 16 * (n / 16) / 2 ^ 4 = n / 16 := by omega
    have e2 : n % 16 / 2 ^ 4 = 0 := by omega
    rw [e1, e2, Nat.xor_zero]
  have h2 : (16 * (n / 16) ^^^ n % 16) % 2 ^ 4 = n % 16 := by
    rw [Nat.xor_mod_two_pow]
    have e1 : 16 * (n / 16) % 2 ^ 4 = 0 := by omega
    have e2 : n % 16 % 2 ^ 4 = n % 16 := by omega
    rw [e1, e2, Nat.zero_xor]
  omega
theorem lfs4 (n : Nat) : lfsN n 4 = n / 16 ^^^ crcT (n % 16) := by
  rw [← lfs4_low (n % 16) (by omega)]
  conv => lhs; rw [split16 n, lfsN_xor, lfs4_shift]
theorem crcB_lfs (c x : Nat) : crcB c x = lfsN (c ^^^ x) 8 := by
  rw [show 8 = 4 + 4 from rfl, lfsN_add, lfs4 (c ^^^ x), lfs4]
  rfl
theorem bitsIn_lfs (x r : Nat) : ∀ k, bitsIn x r k ^^^ x / 2 ^ k = lfsN (r ^^^ x) k
  | 0 => by simp [bitsIn, lfsN]
  | k + 1 => by
    show bitStep (bitsIn x r k) (x / 2 ^ k) ^^^ x / 2 ^ (k + 1) = lfs (lfsN (r ^^^ x) k)
    rw [← bitsIn_lfs x r k]
    unfold lfs bitStep
    rw [xor_half, Nat.pow_succ, ← Nat.div_div_eq_div_mul, Nat.xor_assoc, Nat.xor_assoc]
    congr 1
    exact Nat.xor_comm _ _
theorem bits_crcB (x r : Nat) (hx : x < 256) : bitsIn x r 8 = crcB r x := by
  have := bitsIn_lfs x r 8
  rw [show x / 2 ^ 8 = 0 by omega, Nat.xor_zero] at this
  rw [this, crcB_lfs]
theorem crcT_lt (j : Nat) : crcT j < 4294967296 := by
  by_cases h : j < 16
  · exact (by decide : ∀ j, j < 16 → crcT j < 4294967296) j h
  · have e := List.getElem?_eq_none (l := crcL) (i := j) (by simp [crcL]; omega)
    unfold crcT; rw [e]; decide
theorem xor_lt32 {a b : Nat} (ha : a < 4294967296) (hb : b < 4294967296) : a ^^^ b < 4294967296 := Nat.xor_lt_two_pow (n := 32) ha hb
theorem bitStep_lt (r y : Nat) (h : r < 4294967296) : bitStep r y < 4294967296 := by
  unfold bitStep
  exact xor_lt32 (by omega) (by split <;> omega)
theorem bitsIn_lt (x r : Nat) (h : r < 4294967296) : ∀ k, bitsIn x r k < 4294967296
  | 0 => h
  | k + 1 => bitStep_lt _ _ (bitsIn_lt x r h k)
theorem crcB_lt (c x : Nat) (h : c < 4294967296) (hx : x < 256) : crcB c x < 4294967296 := by
  rw [← bits_crcB x c hx]; exact bitsIn_lt x c h 8
/-- The register behind the first k bytes. -/
def crcS (bs : List Nat) : Nat → Nat
  | 0 => 4294967295
  | k + 1 => crcB (crcS bs k) (at8 bs k)
/-- The check by the polynomial. -/
def crcV (bs : List Nat) : Nat := 4294967295 - crcS bs bs.length
theorem crc_example : crcV [49, 50, 51, 52, 53, 54, 55, 56, 57] = 3421780262 := by decide
end Go.Proofs.YtbgkkaecpmgnoaaDoor
