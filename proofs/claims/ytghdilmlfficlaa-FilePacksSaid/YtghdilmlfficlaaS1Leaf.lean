/- The contracts of the small functions that only reckon with integers. -/
import Derived.Test.YtghdilmlfficlaaProg
import Derived.WalkKit
import Derived.WalkSpells
import Derived.WalkLawsBesides
import Derived.Outline
import Derived.Lib.Hide
namespace Go.Proofs.Ytghdilmlfficlaa.S1
open Go.RowKit

theorem ret_int {k : IntKind} {a b : Int} (h : a = b) : Ending.returned (.int k a) = .returned (.int k b) := by rw [h]
theorem ret_bool {a b : Bool} (h : a = b) : Ending.returned (.bool a) = .returned (.bool b) := by rw [h]

theorem pow_nat (n : Nat) (hn : n ≤ 48) : 1 ≤ (2 : Nat) ^ n ∧ (2 : Nat) ^ n ≤ 281474976710656 :=
  ⟨Nat.one_le_two_pow, Nat.le_trans (Nat.pow_le_pow_right (by omega) hn) (by decide)⟩
theorem pow_int (n : Nat) (hn : n ≤ 48) : 1 ≤ (2 : Int) ^ n ∧ (2 : Int) ^ n ≤ 281474976710656 := by
  have h := pow_nat n hn
  have e : (2 : Int) ^ n = ((2 ^ n : Nat) : Int) := by simp
  rw [e]; omega

/-- What fits says. -/
def fitB (v : Int) (n : Nat) : Bool := decide (0 ≤ v ∧ v < 2 ^ n)

theorem div_pow (v P : Int) (hP : 1 ≤ P) (h0 : 0 ≤ v) : (v < P → v / P = 0) ∧ (P ≤ v → 1 ≤ v / P) ∧ (P ≤ v → v < P * 2 → v / P = 1) := by
  refine ⟨fun h => Int.ediv_eq_zero_of_lt h0 h, fun h => ?_, fun h h2 => ?_⟩
  · exact (Int.le_ediv_iff_mul_le (by omega)).2 (by omega)
  · have a : 1 ≤ v / P := (Int.le_ediv_iff_mul_le (by omega)).2 (by omega)
    have b : v / P < 2 := (Int.ediv_lt_iff_lt_mul (by omega)).2 (by omega)
    omega

end Go.Proofs.Ytghdilmlfficlaa.S1
