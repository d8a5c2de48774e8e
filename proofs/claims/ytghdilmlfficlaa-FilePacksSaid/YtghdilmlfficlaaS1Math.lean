/- Plain facts on integers and bits that the walks lean on. Nothing of the program is named here. -/
import Derived.Laws.BitsAllLaws
import Derived.Laws.BitsLemmas
import Derived.RowKit
namespace Go.Proofs.Ytghdilmlfficlaa.S1
open Go.RowKit

/-! ### The bit operations of an int, in plain numbers -/
theorem ofInt64 (a : Nat) (ha : a < 9223372036854775808) : (BitVec.ofInt 64 (a : Int)).toNat = a := by
  rw [BitVec.ofInt_natCast, BitVec.toNat_ofNat]; exact Nat.mod_eq_of_lt (by omega)
theorem or64_nat (a b : Nat) (ha : a < 9223372036854775808) (hb : b < 9223372036854775808) : bits .or .i64 (a : Int) (b : Int) = ((a ||| b : Nat) : Int) := by
  have hx : a ||| b < 2 ^ 63 := Nat.or_lt_two_pow (by omega) (by omega)
  show IntKind.i64.wrap ((BitVec.ofInt 64 (a : Int) ||| BitVec.ofInt 64 (b : Int)).toNat : Int) = _
  rw [BitVec.toNat_or, ofInt64 a ha, ofInt64 b hb, IntKind.wrap_i64]
  omega
theorem xor64_nat (a b : Nat) (ha : a < 9223372036854775808) (hb : b < 9223372036854775808) : bits .xor .i64 (a : Int) (b : Int) = ((a ^^^ b : Nat) : Int) := by
  have hx : a ^^^ b < 2 ^ 63 := Nat.xor_lt_two_pow (by omega) (by omega)
  show IntKind.i64.wrap ((BitVec.ofInt 64 (a : Int) ^^^ BitVec.ofInt 64 (b : Int)).toNat : Int) = _
  rw [BitVec.toNat_xor, ofInt64 a ha, ofInt64 b hb, IntKind.wrap_i64]
  omega
theorem and64_mask (n : Int) (j : Nat) (hj : j ≤ 62) (M : Int) (hM : M = 2 ^ j - 1) : bits .and .i64 n M = n % (2 ^ j : Int) := by
  have hp : (2 : Nat) ^ j ≤ 4611686018427387904 := Nat.le_trans (Nat.pow_le_pow_right (by omega) hj) (by decide)
  have hp1 : 1 ≤ (2 : Nat) ^ j := Nat.one_le_two_pow
  have e : (2 : Int) ^ j = ((2 ^ j : Nat) : Int) := by simp
  have hM' : M = ((2 ^ j - 1 : Nat) : Int) := by rw [hM, e]; omega
  have h127 : (BitVec.ofInt 64 M).toNat = 2 ^ j - 1 := by rw [hM']; exact ofInt64 _ (by omega)
  have key : (BitVec.ofInt 64 n &&& BitVec.ofInt 64 M).toNat = (n % ((2 ^ 64 : Nat) : Int)).toNat % 2 ^ j := by
    rw [BitVec.toNat_and, BitVec.toNat_ofInt, h127, Nat.and_two_pow_sub_one_eq_mod]
  show IntKind.i64.wrap ((BitVec.ofInt 64 n &&& BitVec.ofInt 64 M).toNat : Nat) = _
  rw [key, IntKind.wrap_i64]
  have hlt : (n % ((2 ^ 64 : Nat) : Int)).toNat % 2 ^ j < 2 ^ j := Nat.mod_lt _ (by omega)
  have hd : ((2 ^ j : Nat) : Int) ∣ ((2 ^ 64 : Nat) : Int) := Int.natCast_dvd_natCast.2 (Nat.pow_dvd_pow 2 (by omega))
  have h2 : (((n % ((2 ^ 64 : Nat) : Int)).toNat % 2 ^ j : Nat) : Int) = n % (2 ^ j : Int) := by
    rw [Int.natCast_emod, Int.toNat_of_nonneg (Int.emod_nonneg _ (by decide)), e, Int.emod_emod_of_dvd n hd]
  rw [← h2]
  omega
theorem and64_65535 (n : Int) : bits .and .i64 n 65535 = n % 65536 := and64_mask n 16 (by decide) _ (by decide)
theorem and64_255 (n : Int) : bits .and .i64 n 255 = n % 256 := and64_mask n 8 (by decide) _ (by decide)
theorem and64_1 (n : Int) : bits .and .i64 n 1 = n % 2 := and64_mask n 1 (by decide) _ (by decide)
theorem not64 (v : Int) (h : -9223372036854775808 ≤ v ∧ v ≤ 9223372036854775807) : bits .xor .i64 (-1) v = -1 - v := by
  show IntKind.i64.wrap ((BitVec.ofInt 64 (-1) ^^^ BitVec.ofInt 64 v).toNat : Int) = _
  have h1 : BitVec.ofInt 64 (-1) = BitVec.allOnes 64 := by decide
  rw [h1, BitVec.allOnes_xor, BitVec.toNat_not, BitVec.toNat_ofInt, IntKind.wrap_i64]
  omega
/-- Numbers that share no bit are added by 'or'. -/
theorem or64_join (x y : Int) (j : Nat) (h0 : 0 ≤ x) (hx : x % 2 ^ j = 0) (y0 : 0 ≤ y) (hy : y < 2 ^ j) (hs : x + y < 9223372036854775808) : bits .or .i64 x y = x + y := by
  have e : (2 : Int) ^ j = ((2 ^ j : Nat) : Int) := by simp
  rw [e] at hx hy
  obtain ⟨a, rfl⟩ := Int.eq_ofNat_of_zero_le h0
  obtain ⟨b, rfl⟩ := Int.eq_ofNat_of_zero_le y0
  rw [or64_nat a b (by omega) (by omega), nat_join j a b (by exact_mod_cast hx) (by exact_mod_cast hy)]
  simp

/-! ### The check of the internet -/
/-- What adding the part beyond 16 bits to the lowest ones, till there is none, makes of a number. -/
def foldN (m : Nat) : Nat := if m = 0 then 0 else (m - 1) % 65535 + 1
theorem foldN_le (m : Nat) : foldN m ≤ 65535 := by unfold foldN; split <;> omega
theorem foldN_small (m : Nat) (h : m ≤ 65535) : foldN m = m := by unfold foldN; split <;> omega
theorem foldN_step (m : Nat) (h : 65535 < m) : foldN (m % 65536 + m / 65536) = foldN m := by unfold foldN; split <;> split <;> omega
theorem foldN_add (a b : Nat) : foldN (foldN a + b) = foldN (a + b) := by
  by_cases ha : a = 0
  · subst ha; simp [foldN]
  · have h1 : foldN a = (a - 1) % 65535 + 1 := if_neg ha
    rw [h1]
    have h2 : foldN ((a - 1) % 65535 + 1 + b) = ((a - 1) % 65535 + 1 + b - 1) % 65535 + 1 := if_neg (by omega)
    have h3 : foldN (a + b) = (a + b - 1) % 65535 + 1 := if_neg (by omega)
    rw [h2, h3]
    omega
end Go.Proofs.Ytghdilmlfficlaa.S1
