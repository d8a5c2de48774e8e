/- The contracts of the check of the internet and of Adler's: the program's and the reference's. -/
import Derived.Test.YtbgkkaecpmgnoaaDoorMem
namespace Go.Proofs.YtbgkkaecpmgnoaaDoor
open Go.RowKit
variable {w : World} {B c : Nat} {A : Option Addr} {bs : List Nat}

set_option maxHeartbeats 1000000 in
theorem sum_any (hm : Byt w B A bs) (hl : bs.length ≤ 20000) :
    Calls Tryd.prog 22 #[.slice A bs.length c] w fun e w' => e = .returned (.int .i64 (sumV bs : Nat)) ∧ w = w' := by
  obtain ⟨n, hn⟩ : ∃ n, bs.length = n := ⟨_, rfl⟩
  have HN := Lib.hid hn
  rw [hn] at hl ⊢
  clear hn
  go_enter Tryd.func22, Tryd.ntmps22
  go_wp2
  go_loop [3, 8] (fun s i => ∃ k S : Nat, k ≤ n ∧ i = .int .i64 k ∧ s = .int .i64 S ∧ S ≤ 65280 * k ∧ Hid (S = rawSum bs k)) (fun _ i => n - (intOf i).toNat)
  case atStart => exact ⟨0, 0, Nat.zero_le _, rfl, rfl, by omega, Lib.hid rfl⟩
  case round =>
    obtain ⟨k, S, hk, rfl, rfl, hS, HS⟩ := hrel
    by_cases hlt : k < n
    · obtain ⟨b, o, rfl, hb, hc⟩ := hm.cells (by rw [HN.out]; omega)
      have hck := hc k (by rw [HN.out]; exact hlt)
      have hx := at8_lt hm.lt k
      obtain ⟨x, hX⟩ : ∃ x, at8 bs k = x := ⟨_, rfl⟩
      rw [hX] at hck hx
      have HX := Lib.hid hX
      clear hX hc
      by_cases hp : k % 2 = 0
      · go_wp2
        go_round
        case rel => exact ⟨k + 1, S + 256 * x, by omega, by go_num, by first | go_num | (congr 1; omega), by omega, Lib.hid (by rw [rawSum_even bs k hp, HX.out, HS.out])⟩
        case measure => simp [intOf]; omega
      · go_wp2
        go_round
        case rel => exact ⟨k + 1, S + x, by omega, by go_num, by first | go_num | (congr 1; omega), by omega, Lib.hid (by rw [rawSum_odd bs k (by omega), HX.out, HS.out])⟩
        case measure => simp [intOf]; omega
    · have hkn : k = n := by omega
      have HS2 : Hid (sumV bs = 65535 - foldN S) := by
        unfold sumV; rw [HN.out, ← hkn, ← HS.out]; exact Lib.hid rfl
      have hf := foldN_le S
      go_wp2_with fail
      refine (fold_any S _ (by omega)).mono ?_; rintro e w' ⟨rfl, rfl⟩
      go_wp2_with fail
      refine (compl_any _ _ (by omega)).mono ?_; rintro e w' ⟨rfl, rfl⟩
      go_wp2
      go_ret
      exact ⟨ret_int (by rw [HS2.out]; omega), rfl⟩

set_option maxHeartbeats 1000000 in
theorem rsum_any (hm : Byt w B A bs) (hl : bs.length ≤ 20000) :
    Calls Tryd.prog 23 #[.slice A bs.length c] w fun e w' => e = .returned (.int .i64 (sumV bs : Nat)) ∧ w = w' := by
  obtain ⟨n, hn⟩ : ∃ n, bs.length = n := ⟨_, rfl⟩
  have HN := Lib.hid hn
  rw [hn] at hl ⊢
  clear hn
  go_enter Tryd.func23, Tryd.ntmps23
  go_wp2
  go_loop [3, 4] (fun s i => ∃ k S : Nat, k ≤ n ∧ i = .int .i64 k ∧ s = .int .i64 S ∧ S ≤ 65535 ∧ Hid (S = foldN (rawSum bs k))) (fun _ i => n - (intOf i).toNat)
  case atStart => exact ⟨0, 0, Nat.zero_le _, rfl, rfl, by omega, Lib.hid rfl⟩
  case round =>
    obtain ⟨k, S, hk, rfl, rfl, hS, HS⟩ := hrel
    by_cases hlt : k < n
    · obtain ⟨b, o, rfl, hb, hc⟩ := hm.cells (by rw [HN.out]; omega)
      have hck := hc k (by rw [HN.out]; exact hlt)
      have hx := at8_lt hm.lt k
      obtain ⟨x, hX⟩ : ∃ x, at8 bs k = x := ⟨_, rfl⟩
      rw [hX] at hck hx
      have HX := Lib.hid hX
      clear hX hc
      by_cases hp : k % 2 = 0
      · have hf := foldN_le (S + 256 * x)
        go_wp2_with fail
        rw [show (S : Int) + 256 * x = ((S + 256 * x : Nat) : Int) by omega]
        refine (folded_any (S + 256 * x) _ (by omega)).mono ?_; rintro e w' ⟨rfl, rfl⟩
        go_wp2
        go_round
        case rel => exact ⟨k + 1, foldN (S + 256 * x), by omega, by go_num, rfl, hf, Lib.hid (by rw [rawSum_even bs k hp, HX.out, HS.out, foldN_add])⟩
        case measure => simp [intOf]; omega
      · have hf := foldN_le (S + x)
        go_wp2_with fail
        rw [show (S : Int) + x = ((S + x : Nat) : Int) by omega]
        refine (folded_any (S + x) _ (by omega)).mono ?_; rintro e w' ⟨rfl, rfl⟩
        go_wp2
        go_round
        case rel => exact ⟨k + 1, foldN (S + x), by omega, by go_num, rfl, hf, Lib.hid (by rw [rawSum_odd bs k (by omega), HX.out, HS.out, foldN_add])⟩
        case measure => simp [intOf]; omega
    · have hkn : k = n := by omega
      have HS2 : Hid (sumV bs = 65535 - S) := by
        unfold sumV; rw [HN.out, ← hkn, ← HS.out]; exact Lib.hid rfl
      go_wp2
      go_ret
      exact ⟨ret_int (by rw [HS2.out]; omega), rfl⟩

set_option maxHeartbeats 1000000 in
theorem adler_any (hm : Byt w B A bs) (hl : bs.length ≤ 20000) :
    Calls Tryd.prog 26 #[.slice A bs.length c] w fun e w' => e = .returned (.int .i64 (adlerV bs : Nat)) ∧ w = w' := by
  obtain ⟨n, hn⟩ : ∃ n, bs.length = n := ⟨_, rfl⟩
  have HN := Lib.hid hn
  rw [hn] at hl ⊢
  clear hn
  go_enter Tryd.func26, Tryd.ntmps26
  go_wp2
  go_loop [3, 4, 9] (fun s t i => ∃ k S T : Nat, k ≤ n ∧ i = .int .i64 k ∧ s = .int .i64 S ∧ t = .int .i64 T ∧ S < 65521 ∧ T < 65521 ∧ Hid (adl bs k = (S, T))) (fun _ _ i => n - (intOf i).toNat)
  case atStart => exact ⟨0, 1, 0, Nat.zero_le _, rfl, rfl, rfl, by omega, by omega, Lib.hid rfl⟩
  case round =>
    obtain ⟨k, S, T, hk, rfl, rfl, rfl, hS, hT, HS⟩ := hrel
    by_cases hlt : k < n
    · obtain ⟨b, o, rfl, hb, hc⟩ := hm.cells (by rw [HN.out]; omega)
      have hck := hc k (by rw [HN.out]; exact hlt)
      have hx := at8_lt hm.lt k
      obtain ⟨x, hX⟩ : ∃ x, at8 bs k = x := ⟨_, rfl⟩
      rw [hX] at hck hx
      have HX := Lib.hid hX
      clear hX hc
      go_wp2
      go_round
      case rel =>
        exact ⟨k + 1, (S + x) % 65521, (T + (S + x) % 65521) % 65521, by omega, by go_num, by go_num, by go_num, by omega, by omega, Lib.hid (by simp only [adl]; rw [HS.out, HX.out])⟩
      case measure => simp [intOf]; omega
    · have hkn : k = n := by omega
      have HS2 : Hid (adlerV bs = T * 65536 + S) := by
        unfold adlerV; rw [HN.out, ← hkn, HS.out]; exact Lib.hid rfl
      have hj := or64_join ((T : Int) * 65536) S 16 (by omega) (by omega) (by omega) (by omega) (by omega)
      go_wp2
      go_ret
      exact ⟨ret_int (by rw [HS2.out]; omega), rfl⟩

set_option maxHeartbeats 1000000 in
theorem radler_any (hm : Byt w B A bs) (hl : bs.length ≤ 20000) :
    Calls Tryd.prog 27 #[.slice A bs.length c] w fun e w' => e = .returned (.int .i64 (adlerV bs : Nat)) ∧ w = w' := by
  obtain ⟨n, hn⟩ : ∃ n, bs.length = n := ⟨_, rfl⟩
  have HN := Lib.hid hn
  rw [hn] at hl ⊢
  clear hn
  go_enter Tryd.func27, Tryd.ntmps27
  go_wp2
  go_loop [3, 4, 5] (fun s t i => ∃ k S T : Nat, k ≤ n ∧ i = .int .i64 k ∧ s = .int .i64 S ∧ t = .int .i64 T ∧ S < 65521 ∧ T < 65521 ∧ Hid (adl bs k = (S, T))) (fun _ _ i => n - (intOf i).toNat)
  case atStart => exact ⟨0, 1, 0, Nat.zero_le _, rfl, rfl, rfl, by omega, by omega, Lib.hid rfl⟩
  case round =>
    obtain ⟨k, S, T, hk, rfl, rfl, rfl, hS, hT, HS⟩ := hrel
    by_cases hlt : k < n
    · obtain ⟨b, o, rfl, hb, hc⟩ := hm.cells (by rw [HN.out]; omega)
      have hck := hc k (by rw [HN.out]; exact hlt)
      have hx := at8_lt hm.lt k
      obtain ⟨x, hX⟩ : ∃ x, at8 bs k = x := ⟨_, rfl⟩
      rw [hX] at hck hx
      have HX := Lib.hid hX
      clear hX hc
      go_wp2
      go_round
      case rel =>
        exact ⟨k + 1, (S + x) % 65521, (T + (S + x) % 65521) % 65521, by omega, by go_num, by go_num, by go_num, by omega, by omega, Lib.hid (by simp only [adl]; rw [HS.out, HX.out])⟩
      case measure => simp [intOf]; omega
    · have hkn : k = n := by omega
      have HS2 : Hid (adlerV bs = T * 65536 + S) := by
        unfold adlerV; rw [HN.out, ← hkn, HS.out]; exact Lib.hid rfl
      go_wp2
      go_ret
      exact ⟨ret_int (by rw [HS2.out]; omega), rfl⟩
end Go.Proofs.YtbgkkaecpmgnoaaDoor
