/- The contracts of the small functions that only reckon with integers. -/
import Derived.Test.YtbgkkaecpmgnoaaDoorProg
import Derived.WalkKit
import Derived.WalkSpells
import Derived.WalkLawsBesides
import Derived.Outline
import Derived.Lib.Hide
namespace Go.Proofs.YtbgkkaecpmgnoaaDoor
open Go.RowKit

theorem ret_int {k : IntKind} {a b : Int} (h : a = b) : Ending.returned (.int k a) = .returned (.int k b) := by rw [h]
theorem ret_bool {a b : Bool} (h : a = b) : Ending.returned (.bool a) = .returned (.bool b) := by rw [h]

theorem pow_nat (n : Nat) (hn : n ≤ 48) : 1 ≤ (2 : Nat) ^ n ∧ (2 : Nat) ^ n ≤ 281474976710656 :=
  ⟨Nat.one_le_two_pow, Nat.le_trans (Nat.pow_le_pow_right (by omega) hn) (by decide)⟩
theorem pow_int (n : Nat) (hn : n ≤ 48) : 1 ≤ (2 : Int) ^ n ∧ (2 : Int) ^ n ≤ 281474976710656 := by
  have h := pow_nat n hn
  have e : (2 : Int) ^ n = ((2 ^ n : Nat) : Int) := by simp
  rw [e]; omega

/-- What fits says. -/
def fitB (v : Int) (n : Nat) : Bool := decide (0 ≤ v ∧ v < 2 ^ n)

set_option maxHeartbeats 400000 in
theorem fits_any (v : Int) (n : Nat) (w : World) (hn : n ≤ 48) :
    Calls Tryd.prog 39 #[.int .i64 v, .int .i64 n] w fun e w' => e = .returned (.bool (fitB v n)) ∧ w = w' := by
  have hb := pow_int n hn
  unfold fitB
  obtain ⟨P, hP⟩ : ∃ P : Int, (2 : Int) ^ n = P := ⟨_, rfl⟩
  rw [hP] at hb ⊢
  by_cases h0 : 0 ≤ v
  all_goals
    go_enter Tryd.func39, Tryd.ntmps39
    go_wp2
    go_ret
    exact ⟨ret_bool (by simp; omega), rfl⟩

set_option maxHeartbeats 400000 in
theorem signed_arg (v n : Int) (w : World) (hn : n < 1 ∨ 48 < n) :
    Calls Tryd.prog 18 #[.int .i64 v, .int .i64 n] w fun e w' => e = .returned (.tuple #[.int .i64 0, .int .i64 1]) ∧ w = w' := by
  rcases hn with h | h
  · go_enter Tryd.func18, Tryd.ntmps18
    go_wp2
    go_ret2
    exact ⟨rfl, rfl⟩
  · have h' : ¬ n < 1 := by omega
    go_enter Tryd.func18, Tryd.ntmps18
    go_wp2
    go_ret2
    exact ⟨rfl, rfl⟩

set_option maxHeartbeats 400000 in
theorem signed_fit (v : Int) (m : Nat) (w : World) (hm : m + 1 ≤ 48) (hf : fitB v (m + 1) = false) :
    Calls Tryd.prog 18 #[.int .i64 v, .int .i64 ((m : Int) + 1)] w fun e w' => e = .returned (.tuple #[.int .i64 0, .int .i64 10]) ∧ w = w' := by
  go_enter Tryd.func18, Tryd.ntmps18
  go_wp2_with (go_at_call 39; refine (fits_any v (m + 1) _ hm).mono ?_; rintro e w' ⟨rfl, rfl⟩)
  go_ret2
  exact ⟨rfl, rfl⟩

set_option maxHeartbeats 400000 in
theorem signed_ok (v : Int) (m : Nat) (w : World) (hm : m + 1 ≤ 48) (hf : fitB v (m + 1) = true) :
    Calls Tryd.prog 18 #[.int .i64 v, .int .i64 ((m : Int) + 1)] w fun e w' => e = .returned (.tuple #[.int .i64 (if 2 ^ m ≤ v then v - 2 ^ (m + 1) else v), .int .i64 0]) ∧ w = w' := by
  have hb := pow_int m (by omega)
  have hv : 0 ≤ v ∧ v < 2 ^ (m + 1) := by simpa [fitB] using hf
  have hs : (2 : Int) ^ (m + 1) = 2 ^ m * 2 := Int.pow_succ 2 m
  obtain ⟨P, hP⟩ : ∃ P : Int, (2 : Int) ^ m = P := ⟨_, rfl⟩
  rw [hs, hP] at hv
  rw [hP] at hb hs
  go_enter Tryd.func18, Tryd.ntmps18
  go_wp2_with (go_at_call 39; refine (fits_any v (m + 1) _ hm).mono ?_; rintro e w' ⟨rfl, rfl⟩)
  all_goals
    go_ret2
    refine ⟨?_, rfl⟩
    simp [*]

theorem div_pow (v P : Int) (hP : 1 ≤ P) (h0 : 0 ≤ v) : (v < P → v / P = 0) ∧ (P ≤ v → 1 ≤ v / P) ∧ (P ≤ v → v < P * 2 → v / P = 1) := by
  refine ⟨fun h => Int.ediv_eq_zero_of_lt h0 h, fun h => ?_, fun h h2 => ?_⟩
  · exact (Int.le_ediv_iff_mul_le (by omega)).2 (by omega)
  · have a : 1 ≤ v / P := (Int.le_ediv_iff_mul_le (by omega)).2 (by omega)
    have b : v / P < 2 := (Int.ediv_lt_iff_lt_mul (by omega)).2 (by omega)
    omega

set_option maxHeartbeats 400000 in
theorem rsigned_arg (v n : Int) (w : World) (hn : n < 1 ∨ 48 < n) :
    Calls Tryd.prog 19 #[.int .i64 v, .int .i64 n] w fun e w' => e = .returned (.tuple #[.int .i64 0, .int .i64 1]) ∧ w = w' := by
  rcases hn with h | h
  · go_enter Tryd.func19, Tryd.ntmps19
    go_wp2
    go_ret2
    exact ⟨rfl, rfl⟩
  · have h' : ¬ n < 1 := by omega
    go_enter Tryd.func19, Tryd.ntmps19
    go_wp2
    go_ret2
    exact ⟨rfl, rfl⟩

set_option maxHeartbeats 400000 in
theorem rsigned_fit (v : Int) (m : Nat) (w : World) (hm : m + 1 ≤ 48) (hf : fitB v (m + 1) = false) :
    Calls Tryd.prog 19 #[.int .i64 v, .int .i64 ((m : Int) + 1)] w fun e w' => e = .returned (.tuple #[.int .i64 0, .int .i64 10]) ∧ w = w' := by
  have hb := pow_int m (by omega)
  have hv : 0 ≤ v → 2 ^ (m + 1) ≤ v := by
    intro h; unfold fitB at hf; have := of_decide_eq_false hf; omega
  have hs : (2 : Int) ^ (m + 1) = 2 ^ m * 2 := Int.pow_succ 2 m
  obtain ⟨P, hP⟩ : ∃ P : Int, (2 : Int) ^ m = P := ⟨_, rfl⟩
  rw [hs, hP] at hv
  rw [hP] at hb hs
  clear hf
  by_cases h0 : 0 ≤ v
  · have hv1 := hv h0
    have hq1 := (div_pow v (P * 2) (by omega) h0).2.1 hv1
    have hq : (v / (P * 2) != 0) = true := by
      obtain ⟨q, hq⟩ : ∃ q, v / (P * 2) = q := ⟨_, rfl⟩
      rw [hq] at hq1 ⊢
      simp; omega
    clear hv hq1
    go_enter Tryd.func19, Tryd.ntmps19
    go_wp2
    go_ret2
    exact ⟨rfl, rfl⟩
  · clear hv
    go_enter Tryd.func19, Tryd.ntmps19
    go_wp2
    go_ret2
    exact ⟨rfl, rfl⟩

set_option maxHeartbeats 400000 in
theorem rsigned_ok (v : Int) (m : Nat) (w : World) (hm : m + 1 ≤ 48) (hf : fitB v (m + 1) = true) :
    Calls Tryd.prog 19 #[.int .i64 v, .int .i64 ((m : Int) + 1)] w fun e w' => e = .returned (.tuple #[.int .i64 (if 2 ^ m ≤ v then v - 2 ^ (m + 1) else v), .int .i64 0]) ∧ w = w' := by
  have hb := pow_int m (by omega)
  have hv : 0 ≤ v ∧ v < 2 ^ (m + 1) := by simpa [fitB] using hf
  have hs : (2 : Int) ^ (m + 1) = 2 ^ m * 2 := Int.pow_succ 2 m
  obtain ⟨P, hP⟩ : ∃ P : Int, (2 : Int) ^ m = P := ⟨_, rfl⟩
  rw [hs, hP] at hv
  rw [hP] at hb hs
  clear hf
  have hq := (div_pow v (P * 2) (by omega) hv.1).1 (by omega)
  by_cases hc : P ≤ v
  · have hr := (div_pow v P (by omega) hv.1).2.2 hc hv.2
    go_enter Tryd.func19, Tryd.ntmps19
    go_wp2
    go_ret2
    refine ⟨?_, rfl⟩
    simp [*]
  · have hr := (div_pow v P (by omega) hv.1).1 (by omega)
    go_enter Tryd.func19, Tryd.ntmps19
    go_wp2
    go_ret2
    refine ⟨?_, rfl⟩
    simp [*]
end Go.Proofs.YtbgkkaecpmgnoaaDoor
