/- Get: whether a number is there; its bytes turned round; the number. -/
import Derived.Test.YtghdilmlfficlaaS1Mem
namespace Go.Proofs.Ytghdilmlfficlaa.S1
open Go.RowKit

/-- What is wrong with a place and a size in L bytes. -/
def spanE (L : Nat) (p n : Int) (low : Bool) : Int :=
  if p < 0 ∨ n < 0 ∨ 48 < n then 1 else if low = true ∧ (p % 8 ≠ 0 ∨ n % 8 ≠ 0) then 1 else if 8 * (L : Int) - n < p then 4 else 0

set_option maxHeartbeats 2000000 in
theorem span_any (A : Option Addr) (L c : Nat) (p n : Int) (low : Bool) (w : World) (hL : L ≤ 20000) :
    Calls Try.prog 175 #[.slice A L c, .int .i64 p, .int .i64 n, .bool low] w fun e w' => e = .returned (.int .i64 (spanE L p n low)) ∧ w = w' := by
  by_cases h1 : p < 0
  · go_enter Try.func175, Try.ntmps175
    go_wp2
    go_ret
    exact ⟨ret_int (by simp [spanE, h1]), rfl⟩
  by_cases h2 : n < 0
  · go_enter Try.func175, Try.ntmps175
    go_wp2
    go_ret
    exact ⟨ret_int (by simp [spanE, h2]), rfl⟩
  by_cases h3 : 48 < n
  · go_enter Try.func175, Try.ntmps175
    go_wp2
    go_ret
    exact ⟨ret_int (by simp [spanE, h3]), rfl⟩
  have k1 : ¬ (p < 0 ∨ n < 0 ∨ 48 < n) := by omega
  by_cases h6 : 8 * (L : Int) - n < p
  · cases low with
    | false =>
      have E : Hid (spanE L p n false = 4) := Lib.hid (by unfold spanE; rw [if_neg k1, if_neg (by simp), if_pos h6])
      clear k1
      go_enter Try.func175, Try.ntmps175
      go_wp2
      go_ret
      exact ⟨ret_int E.out.symm, rfl⟩
    | true =>
      by_cases h4 : p % 8 = 0
      · by_cases h5 : n % 8 = 0
        · have E : Hid (spanE L p n true = 4) := Lib.hid (by unfold spanE; rw [if_neg k1, if_neg (by omega), if_pos h6])
          clear k1
          go_enter Try.func175, Try.ntmps175
          go_wp2
          go_ret
          exact ⟨ret_int E.out.symm, rfl⟩
        · have E : Hid (spanE L p n true = 1) := Lib.hid (by unfold spanE; rw [if_neg k1, if_pos ⟨rfl, by omega⟩])
          clear k1
          go_enter Try.func175, Try.ntmps175
          go_wp2
          go_ret
          exact ⟨ret_int E.out.symm, rfl⟩
      · have E : Hid (spanE L p n true = 1) := Lib.hid (by unfold spanE; rw [if_neg k1, if_pos ⟨rfl, by omega⟩])
        clear k1
        go_enter Try.func175, Try.ntmps175
        go_wp2
        go_ret
        exact ⟨ret_int E.out.symm, rfl⟩
  · cases low with
    | false =>
      have E : Hid (spanE L p n false = 0) := Lib.hid (by unfold spanE; rw [if_neg k1, if_neg (by simp), if_neg h6])
      clear k1
      go_enter Try.func175, Try.ntmps175
      go_wp2
      go_ret
      exact ⟨ret_int E.out.symm, rfl⟩
    | true =>
      by_cases h4 : p % 8 = 0
      · by_cases h5 : n % 8 = 0
        · have E : Hid (spanE L p n true = 0) := Lib.hid (by unfold spanE; rw [if_neg k1, if_neg (by omega), if_neg h6])
          clear k1
          go_enter Try.func175, Try.ntmps175
          go_wp2
          go_ret
          exact ⟨ret_int E.out.symm, rfl⟩
        · have E : Hid (spanE L p n true = 1) := Lib.hid (by unfold spanE; rw [if_neg k1, if_pos ⟨rfl, by omega⟩])
          clear k1
          go_enter Try.func175, Try.ntmps175
          go_wp2
          go_ret
          exact ⟨ret_int E.out.symm, rfl⟩
      · have E : Hid (spanE L p n true = 1) := Lib.hid (by unfold spanE; rw [if_neg k1, if_pos ⟨rfl, by omega⟩])
        clear k1
        go_enter Try.func175, Try.ntmps175
        go_wp2
        go_ret
        exact ⟨ret_int E.out.symm, rfl⟩

/-- Turning the bytes of a number round, k of them. -/
def trn : Nat → Nat → Nat → Nat
  | 0, _, out => out
  | k + 1, v, out => trn k (v / 256) (out * 256 + v % 256)

set_option maxHeartbeats 1000000 in
theorem turn_any (v m : Nat) (w : World) (hm : m ≤ 6) (hv : v ≤ 9223372036854775807) :
    Calls Try.prog 176 #[.int .i64 v, .int .i64 (8 * m : Nat)] w fun e w' => e = .returned (.int .i64 (trn m v 0 : Nat)) ∧ w = w' := by
  go_enter Try.func176, Try.ntmps176
  go_wp2
  go_loop [0, 5, 8] (fun a b i => ∃ k V O : Nat, k ≤ m ∧ i = .int .i64 k ∧ a = .int .i64 V ∧ b = .int .i64 O ∧ V ≤ 9223372036854775807 ∧ O < 256 ^ k ∧ Hid (trn (m - k) V O = trn m v 0)) (fun _ _ i => m - (intOf i).toNat)
  case atStart => exact ⟨0, v, 0, Nat.zero_le _, rfl, rfl, rfl, hv, by decide, Lib.hid rfl⟩
  case round =>
    obtain ⟨k, V, O, hk, rfl, rfl, rfl, hV, hO, HT⟩ := hrel
    by_cases hlt : k < m
    · have hp : 256 ^ k ≤ 256 ^ 5 := Nat.pow_le_pow_right (by decide) (by omega)
      have hO2 : O < 1099511627776 := Nat.lt_of_lt_of_le hO hp
      have hO3 : O * 256 + V % 256 < 256 ^ (k + 1) := by rw [Nat.pow_succ]; omega
      have HO3 := Lib.hid hO3
      clear hO3 hO hp
      have ha := and64_255 (V : Int)
      have hj := or64_join ((O : Int) * 256) ((V : Int) % 256) 8 (by omega) (by omega) (by omega) (by omega) (by omega)
      go_wp2
      go_round
      case rel => exact ⟨k + 1, V / 256, O * 256 + V % 256, by omega, by go_num, by go_num, by go_num, by omega, HO3.out, Lib.hid (by rw [← HT.out, show m - k = (m - (k + 1)) + 1 by omega]; rfl)⟩
      case measure => simp [intOf]; omega
    · have hkm : m - k = 0 := by omega
      have HE : Hid (O = trn m v 0) := Lib.hid (by have := HT.out; rw [hkm] at this; exact this)
      clear hkm
      go_wp2
      go_ret
      exact ⟨ret_int (by rw [HE.out]), rfl⟩
end Go.Proofs.Ytghdilmlfficlaa.S1
