/- The reference's Get: whether a number is there, its bits, bytes turned round, the number. -/
import Derived.Test.YtbgkkaecpmgnoaaDoorGet2
import Derived.Maps.AppendAt
import Derived.OwnWalk
namespace Go.Proofs.YtbgkkaecpmgnoaaDoor
open Go.RowKit
variable {w : World} {B c : Nat} {A : Option Addr} {bs : List Nat}

set_option maxHeartbeats 1000000 in
theorem inside_yes (A : Option Addr) (L c : Nat) (p n : Int) (w : World) (hL : L ≤ 20000) (h1 : 0 ≤ p) (_h2 : 0 ≤ n) (h3 : p + n ≤ 8 * L) :
    Calls Tryd.prog 41 #[.slice A L c, .int .i64 p, .int .i64 n] w fun e w' => e = .returned (.bool true) ∧ w = w' := by
  have h4 : p ≤ 8 * (L : Int) := by omega
  go_enter Tryd.func41, Tryd.ntmps41
  go_wp2
  go_ret
  exact ⟨ret_bool (by simp; omega), rfl⟩

set_option maxHeartbeats 1000000 in
theorem inside_no (A : Option Addr) (L c : Nat) (p n : Int) (w : World) (hL : L ≤ 20000) (h1 : 0 ≤ p) (h3 : 8 * L < p + n) :
    Calls Tryd.prog 41 #[.slice A L c, .int .i64 p, .int .i64 n] w fun e w' => e = .returned (.bool false) ∧ w = w' := by
  by_cases h4 : p ≤ 8 * (L : Int)
  · go_enter Tryd.func41, Tryd.ntmps41
    go_wp2
    go_ret
    exact ⟨ret_bool (by simp; omega), rfl⟩
  · go_enter Tryd.func41, Tryd.ntmps41
    go_wp2
    go_ret
    exact ⟨ret_bool (by simp), rfl⟩

set_option maxHeartbeats 2000000 in
theorem asked_any (A : Option Addr) (L c : Nat) (p n : Int) (low : Bool) (w : World) (hL : L ≤ 20000) (hp : p ≤ 9223372036854775807) :
    Calls Tryd.prog 36 #[.slice A L c, .int .i64 p, .int .i64 n, .bool low] w fun e w' => e = .returned (.int .i64 (spanE L p n low)) ∧ w = w' := by
  by_cases h2 : n < 0
  · go_enter Tryd.func36, Tryd.ntmps36
    go_wp2
    go_ret
    exact ⟨ret_int (by simp [spanE, h2]), rfl⟩
  by_cases h3 : 48 < n
  · go_enter Tryd.func36, Tryd.ntmps36
    go_wp2
    go_ret
    exact ⟨ret_int (by simp [spanE, h3]), rfl⟩
  by_cases h1 : p < 0
  · go_enter Tryd.func36, Tryd.ntmps36
    go_wp2
    go_ret
    exact ⟨ret_int (by simp [spanE, h1]), rfl⟩
  have k1 : ¬ (p < 0 ∨ n < 0 ∨ 48 < n) := by omega
  by_cases h8 : low = true ∧ (p % 8 ≠ 0 ∨ n % 8 ≠ 0)
  · have E : Hid (spanE L p n true = 1) := Lib.hid (by unfold spanE; rw [if_neg k1, if_pos ⟨rfl, h8.2⟩])
    obtain ⟨rfl, h8⟩ := h8
    clear k1
    by_cases h5 : n % 8 = 0
    · have h4 : ¬ p % 8 = 0 := by omega
      clear h8
      go_enter Tryd.func36, Tryd.ntmps36
      go_wp2
      go_ret
      exact ⟨ret_int E.out.symm, rfl⟩
    · clear h8
      go_enter Tryd.func36, Tryd.ntmps36
      go_wp2
      go_ret
      exact ⟨ret_int E.out.symm, rfl⟩
  by_cases h6 : 8 * (L : Int) - n < p
  · have E : Hid (spanE L p n low = 4) := Lib.hid (by unfold spanE; rw [if_neg k1, if_neg h8, if_pos h6])
    clear k1
    cases low with
    | false =>
      clear h8
      go_enter Tryd.func36, Tryd.ntmps36
      go_wp2_with fail
      refine (inside_no A L c p n _ hL (by omega) (by omega)).mono ?_; rintro e w' ⟨rfl, rfl⟩
      go_wp2
      go_ret
      exact ⟨ret_int E.out.symm, rfl⟩
    | true =>
      have h4 : p % 8 = 0 := by simp at h8; omega
      have h5 : n % 8 = 0 := by simp at h8; omega
      clear h8
      go_enter Tryd.func36, Tryd.ntmps36
      go_wp2_with fail
      refine (inside_no A L c p n _ hL (by omega) (by omega)).mono ?_; rintro e w' ⟨rfl, rfl⟩
      go_wp2
      go_ret
      exact ⟨ret_int E.out.symm, rfl⟩
  · have E : Hid (spanE L p n low = 0) := Lib.hid (by unfold spanE; rw [if_neg k1, if_neg h8, if_neg h6])
    clear k1
    cases low with
    | false =>
      clear h8
      go_enter Tryd.func36, Tryd.ntmps36
      go_wp2_with fail
      refine (inside_yes A L c p n _ hL (by omega) (by omega) (by omega)).mono ?_; rintro e w' ⟨rfl, rfl⟩
      go_wp2
      go_ret
      exact ⟨ret_int E.out.symm, rfl⟩
    | true =>
      have h4 : p % 8 = 0 := by simp at h8; omega
      have h5 : n % 8 = 0 := by simp at h8; omega
      clear h8
      go_enter Tryd.func36, Tryd.ntmps36
      go_wp2_with fail
      refine (inside_yes A L c p n _ hL (by omega) (by omega) (by omega)).mono ?_; rintro e w' ⟨rfl, rfl⟩
      go_wp2
      go_ret
      exact ⟨ret_int E.out.symm, rfl⟩

set_option maxHeartbeats 1000000 in
theorem bit_any (hm : Byt w B A bs) (i : Nat) (hi : i < 8 * bs.length) (hL : bs.length ≤ 20000) :
    Calls Tryd.prog 48 #[.slice A bs.length c, .int .i64 i] w fun e w' => e = .returned (.int .i64 (nbit bs i : Nat)) ∧ w = w' := by
  obtain ⟨b, o, rfl, hb, hc⟩ := hm.cells (by omega)
  have hck := hc (i / 8) (by omega)
  have hx := at8_lt hm.lt (i / 8)
  obtain ⟨r, hr⟩ : ∃ r : Nat, 7 - i % 8 = r := ⟨_, rfl⟩
  have hr1 : (7 : Int) - (i : Int) % 8 = (r : Int) := by omega
  have hr2 : r ≤ 7 := by omega
  have HN : Hid (nbit bs i = at8 bs (i / 8) / 2 ^ r % 2) := Lib.hid (by unfold nbit; rw [hr])
  obtain ⟨x, hX⟩ : ∃ x, at8 bs (i / 8) = x := ⟨_, rfl⟩
  rw [hX] at hck hx HN
  have hyle : x / 2 ^ r ≤ x := Nat.div_le_self _ _
  have hyc : ((x : Int) / 2 ^ r) = ((x / 2 ^ r : Nat) : Int) := by simp
  obtain ⟨y, hy⟩ : ∃ y, x / 2 ^ r = y := ⟨_, rfl⟩
  rw [hy] at hyc hyle HN
  obtain ⟨L, hL0⟩ : ∃ L, bs.length = L := ⟨_, rfl⟩
  rw [hL0] at hi hL ⊢
  clear hc hX hr hy hL0
  go_enter Tryd.func48, Tryd.ntmps48
  go_wp2
  go_ret
  exact ⟨ret_int (by rw [HN.out]; omega), rfl⟩

set_option maxHeartbeats 1000000 in
theorem number_any (hm : Byt w B A bs) (p n : Nat) (hn : n ≤ 48) (hp : p + n ≤ 8 * bs.length) (hL : bs.length ≤ 20000) :
    Calls Tryd.prog 37 #[.slice A bs.length c, .int .i64 p, .int .i64 n] w fun e w' => e = .returned (.int .i64 (num bs p n : Nat)) ∧ w = w' := by
  have HB := Lib.hid (fun (i : Nat) (hi : i < 8 * bs.length) => bit_any (c := c) hm i hi hL)
  obtain ⟨L, hL0⟩ : ∃ L, bs.length = L := ⟨_, rfl⟩
  rw [hL0] at hp hL HB ⊢
  clear hL0
  go_enter Tryd.func37, Tryd.ntmps37
  go_wp2
  go_loop [7, 8] (fun s i => ∃ k S : Nat, k ≤ n ∧ i = .int .i64 (p + k : Nat) ∧ s = .int .i64 S ∧ Hid (S = num bs p k)) (fun _ i => p + n - (intOf i).toNat)
  case atStart => exact ⟨0, 0, Nat.zero_le _, rfl, rfl, Lib.hid rfl⟩
  case round =>
    obtain ⟨k, S, hk, rfl, rfl, HS⟩ := hrel
    have hS : S ≤ 281474976710656 := by
      have := num_lt bs p k
      rw [← HS.out] at this
      exact Nat.le_of_lt (Nat.lt_of_lt_of_le this (pow_nat k (by omega)).2)
    by_cases hlt : k < n
    · have hb := nbit_lt bs (p + k)
      obtain ⟨y, hY⟩ : ∃ y, nbit bs (p + k) = y := ⟨_, rfl⟩
      rw [hY] at hb
      have HY := Lib.hid hY
      clear hY
      go_wp2_with fail
      rw [show (p : Int) + k = ((p + k : Nat) : Int) by omega]
      refine (HB.out (p + k) (by omega)).mono ?_; rw [HY.out]; rintro e w' ⟨rfl, rfl⟩
      go_wp2
      go_round
      case rel => exact ⟨k + 1, 2 * S + y, by omega, by go_num, by go_num, Lib.hid (by rw [HS.out, ← HY.out]; rfl)⟩
      case measure => simp [intOf]; omega
    · have hkn : k = n := by omega
      have HE : Hid (S = num bs p n) := Lib.hid (by rw [← hkn]; exact HS.out)
      clear hkn
      go_wp2
      go_ret
      exact ⟨ret_int (by rw [HE.out]), rfl⟩

theorem rev_drop (bs : List Nat) (k : Nat) (h : k < bs.length) : (bs.drop (bs.length - (k + 1))).reverse = (bs.drop (bs.length - k)).reverse ++ [at8 bs (bs.length - (k + 1))] := by
  have h1 : bs.length - (k + 1) < bs.length := by omega
  rw [List.drop_eq_getElem_cons h1, List.reverse_cons, at8_eq bs _ h1, show bs.length - (k + 1) + 1 = bs.length - k by omega]
end Go.Proofs.YtbgkkaecpmgnoaaDoor
