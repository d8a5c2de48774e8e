/- Numbers by sevens: the parts of a number, the bytes that they make, as plain functions. -/
import Derived.Test.YtghdilmlfficlaaS1Mem
namespace Go.Proofs.Ytghdilmlfficlaa.S1
open Go.RowKit

/-- Seven bits, and whether more follow. -/
abbrev Part := { x : Nat × Bool // x.1 < 128 }
abbrev part (n : Nat) (m : Bool) : Part := ⟨(n % 128, m), Nat.mod_lt _ (by decide)⟩
/-- The parts of a number, the lowest first, and of each whether more follow. -/
def prt (n : Nat) : List Part := part n (decide (127 < n)) :: (if 127 < n then prt (n / 128) else [])
theorem prt_more (n : Nat) (h : 127 < n) : prt n = part n true :: prt (n / 128) := by rw [prt, if_pos h, decide_eq_true h]
theorem prt_last (n : Nat) (h : ¬ 127 < n) : prt n = [part n false] := by rw [prt, if_neg h, decide_eq_false h]
theorem prt_pos (n : Nat) : 0 < (prt n).length := by rw [prt]; simp
theorem prt_len (k : Nat) : ∀ n, n < 128 ^ (k + 1) → (prt n).length ≤ k + 1 := by
  induction k with
  | zero => intro n h; rw [prt_last n (by omega)]; simp
  | succ k ih =>
    intro n h
    by_cases hm : 127 < n
    · rw [prt_more n hm]
      have := ih (n / 128) (by rw [Nat.div_lt_iff_lt_mul (by omega)]; rw [Nat.pow_succ] at h; exact h)
      simp; omega
    · rw [prt_last n hm]; simp
/-- The byte of a part. -/
def byteOf (x : Part) : Nat := x.1.1 + (if x.1.2 then 128 else 0)
theorem byteOf_lt (x : Part) : byteOf x < 256 := by have := x.2; unfold byteOf; split <;> omega
/-- The bytes of a number by sevens. -/
def svB (n : Nat) : List Nat := (prt n).map byteOf
theorem svB_lt (n : Nat) : ∀ x ∈ svB n, x < 256 := by
  intro x hx
  obtain ⟨p, _, rfl⟩ := List.mem_map.1 hx
  exact byteOf_lt p
theorem svB_len (n : Nat) (h : n < 281474976710656) : (svB n).length ≤ 7 := by
  unfold svB; rw [List.length_map]; exact prt_len 6 n (by omega)
theorem svB_300 : svB 300 = [172, 2] := by
  unfold svB
  rw [prt_more 300 (by decide), prt_last _ (by decide)]
  rfl
end Go.Proofs.Ytghdilmlfficlaa.S1
