/- The contracts of the check that a check becomes: folding, the complement, Mend, and the reference's own. -/
import Derived.Test.YtbgkkaecpmgnoaaDoorLeaf
import Derived.Test.YtbgkkaecpmgnoaaDoorMath
namespace Go.Proofs.YtbgkkaecpmgnoaaDoor
open Go.RowKit

set_option maxHeartbeats 400000 in
theorem compl_any (v : Int) (w : World) (hv : -9223372036854775808 ≤ v ∧ v ≤ 9223372036854775807) :
    Calls Tryd.prog 42 #[.int .i64 v] w fun e w' => e = .returned (.int .i64 (65535 - v % 65536)) ∧ w = w' := by
  have h1 := not64 v hv
  have h2 := and64_65535 (-1 - v)
  go_enter Tryd.func42, Tryd.ntmps42
  go_wp2
  go_ret
  exact ⟨ret_int (by omega), rfl⟩

set_option maxHeartbeats 400000 in
theorem fold_any (n : Nat) (w : World) (hn : n ≤ 9223372036854775807) :
    Calls Tryd.prog 43 #[.int .i64 n] w fun e w' => e = .returned (.int .i64 (foldN n : Nat)) ∧ w = w' := by
  go_enter Tryd.func43, Tryd.ntmps43
  go_wp2
  go_loop [0] (fun t => ∃ m : Nat, t = .int .i64 m ∧ m ≤ 9223372036854775807 ∧ Hid (foldN m = foldN n)) (fun t => (intOf t).toNat)
  case atStart => exact ⟨n, rfl, hn, Lib.hid rfl⟩
  case round =>
    obtain ⟨m, rfl, hm, HM⟩ := hrel
    have ha := and64_65535 (m : Int)
    by_cases hlt : 65535 < m
    · go_wp2
      go_round
      case rel => exact ⟨m % 65536 + m / 65536, by go_num, by omega, Lib.hid ((foldN_step m hlt).trans HM.out)⟩
      case measure => simp [intOf]; omega
    · go_wp2
      go_ret
      exact ⟨ret_int (by rw [← HM.out, foldN_small m (by omega)]), rfl⟩

set_option maxHeartbeats 400000 in
theorem folded_any (n : Nat) (w : World) (hn : n ≤ 9223372036854775807) :
    Calls Tryd.prog 44 #[.int .i64 n] w fun e w' => e = .returned (.int .i64 (foldN n : Nat)) ∧ w = w' := by
  go_enter Tryd.func44, Tryd.ntmps44
  go_wp2
  go_loop [0] (fun t => ∃ m : Nat, t = .int .i64 m ∧ m ≤ 9223372036854775807 ∧ Hid (foldN m = foldN n)) (fun t => (intOf t).toNat)
  case atStart => exact ⟨n, rfl, hn, Lib.hid rfl⟩
  case round =>
    obtain ⟨m, rfl, hm, HM⟩ := hrel
    by_cases hlt : 65535 < m
    · go_wp2
      go_round
      case rel => exact ⟨m % 65536 + m / 65536, by go_num, by omega, Lib.hid ((foldN_step m hlt).trans HM.out)⟩
      case measure => simp [intOf]; omega
    · go_wp2
      go_ret
      exact ⟨ret_int (by rw [← HM.out, foldN_small m (by omega)]), rfl⟩

set_option maxHeartbeats 400000 in
theorem low_any (v : Int) (w : World) (hv : -9223372036854775808 ≤ v ∧ v ≤ 9223372036854775807) :
    Calls Tryd.prog 45 #[.int .i64 v] w fun e w' => e = .returned (.int .i64 (v % 65536)) ∧ w = w' := by
  have h1 : -65536 < v.tmod 65536 ∧ v.tmod 65536 < 65536 ∧ (v.tmod 65536 + 65536) % 65536 = v % 65536 := by
    by_cases h : 0 ≤ v
    · rw [Int.tmod_eq_emod_of_nonneg h]; omega
    · have e : v.tmod 65536 = - ((-v) % 65536) := by
        have := Int.tmod_eq_emod_of_nonneg (b := 65536) (show 0 ≤ -v by omega)
        rw [← this, Int.neg_tmod]; omega
      rw [e]; omega
  obtain ⟨h1, h2, h3⟩ := h1
  have H3 := Lib.hid h3
  clear h3
  by_cases h0 : 0 ≤ v
  · go_enter Tryd.func45, Tryd.ntmps45
    go_wp2
    go_ret
    exact ⟨ret_int (by omega), rfl⟩
  · go_enter Tryd.func45, Tryd.ntmps45
    go_wp2
    go_ret
    exact ⟨ret_int (by have := H3.out; omega), rfl⟩

/-- What Mend gives. -/
def mendV (s a n : Int) : Int := 65535 - (foldN ((65535 - s % 65536) + (65535 - a % 65536) + n % 65536).toNat : Nat)

set_option maxHeartbeats 400000 in
theorem mend_any (s a n : Int) (w : World) (hs : -9223372036854775808 ≤ s ∧ s ≤ 9223372036854775807) (ha : -9223372036854775808 ≤ a ∧ a ≤ 9223372036854775807) :
    Calls Tryd.prog 28 #[.int .i64 s, .int .i64 a, .int .i64 n] w fun e w' => e = .returned (.int .i64 (mendV s a n)) ∧ w = w' := by
  obtain ⟨k, hk⟩ : ∃ k : Nat, (65535 - s % 65536) + (65535 - a % 65536) + n % 65536 = (k : Int) := ⟨_, (Int.toNat_of_nonneg (by omega)).symm⟩
  have hk2 : k ≤ 200000 := by omega
  have hd := and64_65535 n
  have hl := foldN_le k
  have HV : Hid (mendV s a n = 65535 - (foldN k : Nat)) := Lib.hid (by unfold mendV; rw [hk]; simp)
  have HK := Lib.hid hk
  clear hk
  go_enter Tryd.func28, Tryd.ntmps28
  go_wp2_with fail
  refine (compl_any s _ hs).mono ?_; rintro e w' ⟨rfl, rfl⟩
  go_wp2_with fail
  refine (compl_any a _ ha).mono ?_; rintro e w' ⟨rfl, rfl⟩
  go_wp2_with fail
  rw [HK.out]
  refine (fold_any k _ (by omega)).mono ?_; rintro e w' ⟨rfl, rfl⟩
  go_wp2_with fail
  refine (compl_any _ _ (by omega)).mono ?_; rintro e w' ⟨rfl, rfl⟩
  go_wp2
  go_ret
  exact ⟨ret_int (by rw [HV.out]; omega), rfl⟩

set_option maxHeartbeats 400000 in
theorem rmend_any (s a n : Int) (w : World) (hs : -9223372036854775808 ≤ s ∧ s ≤ 9223372036854775807) (ha : -9223372036854775808 ≤ a ∧ a ≤ 9223372036854775807) (hn : -9223372036854775808 ≤ n ∧ n ≤ 9223372036854775807) :
    Calls Tryd.prog 29 #[.int .i64 s, .int .i64 a, .int .i64 n] w fun e w' => e = .returned (.int .i64 (mendV s a n)) ∧ w = w' := by
  obtain ⟨k, hk⟩ : ∃ k : Nat, (65535 - s % 65536) + (65535 - a % 65536) + n % 65536 = (k : Int) := ⟨_, (Int.toNat_of_nonneg (by omega)).symm⟩
  have hk2 : k ≤ 200000 := by omega
  have hl := foldN_le k
  have HV : Hid (mendV s a n = 65535 - (foldN k : Nat)) := Lib.hid (by unfold mendV; rw [hk]; simp)
  have HK := Lib.hid hk
  clear hk
  go_enter Tryd.func29, Tryd.ntmps29
  go_wp2_with fail
  refine (low_any s _ hs).mono ?_; rintro e w' ⟨rfl, rfl⟩
  go_wp2_with fail
  refine (low_any a _ ha).mono ?_; rintro e w' ⟨rfl, rfl⟩
  go_wp2_with fail
  refine (low_any n _ hn).mono ?_; rintro e w' ⟨rfl, rfl⟩
  go_wp2_with fail
  rw [show 65535 - s % 65536 + 65535 - a % 65536 + n % 65536 = (k : Int) from by have := HK.out; omega]
  refine (folded_any k _ (by omega)).mono ?_; rintro e w' ⟨rfl, rfl⟩
  go_wp2
  go_ret
  exact ⟨ret_int HV.out.symm, rfl⟩
end Go.Proofs.YtbgkkaecpmgnoaaDoor
