/- The reference's classes of bytes, words. -/
import Derived.Test.YtnaopgajinbnmaaGreatDoorMem
namespace Go.Proofs.YtnaopgajinbnmaaGreatDoor
open Go.RowKit

/-- The first byte, 0 where there is none. -/
def hd (l : List UInt8) : UInt8 := l.headD 0
theorem hd_at (s : ByteArray) (k : Nat) (h : k < s.size) : hd ((bl s).drop k) = s[k] := by rw [bl_at s k h]; rfl
theorem hd_end (s : ByteArray) (k : Nat) (h : s.size ≤ k) : hd ((bl s).drop k) = 0 := by
  rw [List.drop_eq_nil_of_le (by rw [bl_len]; exact h)]; rfl

set_option maxHeartbeats 1000000 in
theorem byteAt_any (s : ByteArray) (k : Nat) (w : World) :
    Calls Tryz.prog 32 #[.string s, .int .i64 (k : Int)] w fun e w' => e = .returned (.int .u8 ((hd ((bl s).drop k)).toNat : Nat)) ∧ w = w' := by
  by_cases h : k < s.size
  · have hF := hd_at s k h
    have hd1 : decide ((k : Int) < (s.size : Int)) = true := decide_eq_true (by omega)
    rw [hF]
    clear hF
    go_enter Tryz.func32, Tryz.ntmps32
    go_wp2
    go_ret
    exact ⟨rfl, rfl⟩
  · have hF := hd_end s k (by omega)
    have hd1 : decide ((k : Int) < (s.size : Int)) = false := decide_eq_false (by omega)
    rw [hF]
    clear hF
    go_enter Tryz.func32, Tryz.ntmps32
    go_wp2
    go_ret
    exact ⟨rfl, rfl⟩

theorem src_int (j : Nat) (c : UInt8) (h : c.toNat = j) : srcB c = ((j : Int) == 9 || ((j : Int) == 10 || (decide (32 ≤ (j : Int)) && decide ((j : Int) ≤ 126)))) := by
  unfold srcB; rw [h, Bool.eq_iff_iff]; simp; omega
theorem letter_int (j : Nat) (c : UInt8) (h : c.toNat = j) : letterB c = ((j : Int) == 95 || ((decide (97 ≤ (j : Int)) && decide ((j : Int) ≤ 122)) || (decide (65 ≤ (j : Int)) && decide ((j : Int) ≤ 90)))) := by
  unfold letterB; rw [h, Bool.eq_iff_iff]; simp; omega
theorem digit_int (j : Nat) (c : UInt8) (h : c.toNat = j) : digitB c = (decide (48 ≤ (j : Int)) && decide ((j : Int) ≤ 57)) := by
  unfold digitB; rw [h, Bool.eq_iff_iff]; simp; omega

set_option maxHeartbeats 4000000 in
theorem rsrc_any (c : UInt8) (w : World) : Calls Tryz.prog 31 #[.int .u8 (c.toNat : Int)] w fun e w' => e = .returned (.bool (srcB c)) ∧ w = w' := by
  obtain ⟨j, hj⟩ : ∃ j, c.toNat = j := ⟨_, rfl⟩
  rw [src_int j c hj, hj]
  clear hj
  generalize h1 : ((j : Int) == 9) = b1
  generalize h2 : ((j : Int) == 10) = b2
  generalize h3 : decide (32 ≤ (j : Int)) = b3
  generalize h4 : decide ((j : Int) ≤ 126) = b4
  cases b1
  · cases b2
    · cases b3
      · go_enter Tryz.func31, Tryz.ntmps31
        go_wp2
        go_ret
        exact ⟨rfl, rfl⟩
      · go_enter Tryz.func31, Tryz.ntmps31
        go_wp2
        go_ret
        exact ⟨rfl, rfl⟩
    · go_enter Tryz.func31, Tryz.ntmps31
      go_wp2
      go_ret
      exact ⟨rfl, rfl⟩
  · go_enter Tryz.func31, Tryz.ntmps31
    go_wp2
    go_ret
    exact ⟨rfl, rfl⟩
set_option maxHeartbeats 4000000 in
theorem rletter_any (c : UInt8) (w : World) : Calls Tryz.prog 43 #[.int .u8 (c.toNat : Int)] w fun e w' => e = .returned (.bool (letterB c)) ∧ w = w' := by
  obtain ⟨j, hj⟩ : ∃ j, c.toNat = j := ⟨_, rfl⟩
  rw [letter_int j c hj, hj]
  clear hj
  generalize h1 : ((j : Int) == 95) = b1
  generalize h2 : decide (97 ≤ (j : Int)) = b2
  generalize h3 : decide ((j : Int) ≤ 122) = b3
  generalize h4 : decide (65 ≤ (j : Int)) = b4
  generalize h5 : decide ((j : Int) ≤ 90) = b5
  cases b1 <;> cases b2 <;> cases b3 <;> cases b4 <;>
  · go_enter Tryz.func43, Tryz.ntmps43
    go_wp2
    go_ret
    exact ⟨rfl, rfl⟩
set_option maxHeartbeats 4000000 in
theorem rdigit_any (c : UInt8) (w : World) : Calls Tryz.prog 45 #[.int .u8 (c.toNat : Int)] w fun e w' => e = .returned (.bool (digitB c)) ∧ w = w' := by
  obtain ⟨j, hj⟩ : ∃ j, c.toNat = j := ⟨_, rfl⟩
  rw [digit_int j c hj, hj]
  clear hj
  generalize h1 : decide (48 ≤ (j : Int)) = b1
  generalize h2 : decide ((j : Int) ≤ 57) = b2
  cases b1 <;>
  · go_enter Tryz.func45, Tryz.ntmps45
    go_wp2
    go_ret
    exact ⟨rfl, rfl⟩
set_option maxHeartbeats 4000000 in
theorem rpart_any (c : UInt8) (w : World) : Calls Tryz.prog 57 #[.int .u8 (c.toNat : Int)] w fun e w' => e = .returned (.bool (wordB c)) ∧ w = w' := by
  have h1 := rletter_any c w
  have h2 := rdigit_any c w
  unfold wordB
  generalize letterB c = a at h1 ⊢
  generalize digitB c = b at h2 ⊢
  generalize (c.toNat : Int) = j at *
  cases a <;>
  · go_enter Tryz.func57, Tryz.ntmps57
    go_wp2_with (first | (go_at_call 43; refine h1.mono ?_; rintro e w' ⟨rfl, rfl⟩) | (go_at_call 45; refine h2.mono ?_; rintro e w' ⟨rfl, rfl⟩))
    go_ret
    exact ⟨rfl, rfl⟩

/-- The number of a hexadecimal digit, or -1. -/
def hexI (c : UInt8) : Int := if hexB c then (hexV c : Nat) else -1
theorem hex_int (j : Nat) (c : UInt8) (h : c.toNat = j) (hd : digitB c = false) :
    hexI c = bif (decide (97 ≤ (j : Int)) && decide ((j : Int) ≤ 102)) then (j : Int) - 87 else bif (decide (65 ≤ (j : Int)) && decide ((j : Int) ≤ 70)) then (j : Int) - 55 else -1 := by
  unfold hexI hexB hexV
  rw [hd, h]
  by_cases h1 : 97 ≤ j
  · by_cases h2 : j ≤ 102
    · have : (97 ≤ (j : Int)) := by omega
      have : ((j : Int) ≤ 102) := by omega
      simp [*]; omega
    · have : ¬ ((j : Int) ≤ 102) := by omega
      have : ¬ ((j : Int) ≤ 70) := by omega
      have : ¬ (j ≤ 70) := by omega
      simp [*]
  · have : ¬ (97 ≤ (j : Int)) := by omega
    by_cases h2 : 65 ≤ j
    · have : (65 ≤ (j : Int)) := by omega
      by_cases h3 : j ≤ 70
      · have : ((j : Int) ≤ 70) := by omega
        simp [*]; omega
      · have : ¬ ((j : Int) ≤ 70) := by omega
        simp [*]
    · have : ¬ (65 ≤ (j : Int)) := by omega
      simp [*]
theorem hex_dig (j : Nat) (c : UInt8) (h : c.toNat = j) (hd : digitB c = true) : hexI c = (j : Int) - 48 ∧ 48 ≤ j ∧ j ≤ 57 := by
  have hd2 := hd
  unfold digitB at hd2
  rw [h] at hd2
  simp at hd2
  unfold hexI hexB hexV
  rw [hd, h]
  simp; omega
theorem u8_wrap_nat (a : Int) (h0 : 0 ≤ a) (h1 : a < 256) : IntKind.u8.wrap a = a := by
  simp [IntKind.wrap, IntKind.signed, IntKind.bits]; omega

set_option maxHeartbeats 4000000 in
theorem rhex_any (c : UInt8) (w : World) : Calls Tryz.prog 58 #[.int .u8 (c.toNat : Int)] w fun e w' => e = .returned (.int .i64 (hexI c)) ∧ w = w' := by
  have h0 := rdigit_any c w
  have hlt : c.toNat < 256 := c.toNat_lt
  obtain ⟨j, hj⟩ : ∃ j, c.toNat = j := ⟨_, rfl⟩
  cases hd : digitB c with
  | true =>
    obtain ⟨e1, e2, e3⟩ := hex_dig j c hj hd
    rw [hd] at h0
    rw [e1]
    rw [hj] at h0 hlt ⊢
    clear hd hj e1
    have hw := u8_wrap_nat ((j : Int) - 48) (by omega) (by omega)
    go_enter Tryz.func58, Tryz.ntmps58
    go_wp2_with (go_at_call 45; refine h0.mono ?_; rintro e w' ⟨rfl, rfl⟩)
    go_ret
    exact ⟨rfl, rfl⟩
  | false =>
    have e1 := hex_int j c hj hd
    rw [hd] at h0
    rw [e1]
    rw [hj] at h0 hlt ⊢
    clear hd hj e1
    by_cases h97 : 97 ≤ j
    · have d1 : decide (97 ≤ (j : Int)) = true := decide_eq_true (by omega)
      have hw := u8_wrap_nat ((j : Int) - 97) (by omega) (by omega)
      by_cases h102 : j ≤ 102
      · have d2 : decide ((j : Int) ≤ 102) = true := decide_eq_true (by omega)
        rw [d1, d2]
        go_enter Tryz.func58, Tryz.ntmps58
        go_wp2_with (go_at_call 45; refine h0.mono ?_; rintro e w' ⟨rfl, rfl⟩)
        go_ret
        exact ⟨ret_int (by simp; omega), rfl⟩
      · have d2 : decide ((j : Int) ≤ 102) = false := decide_eq_false (by omega)
        have d3 : decide (65 ≤ (j : Int)) = true := decide_eq_true (by omega)
        have d4 : decide ((j : Int) ≤ 70) = false := decide_eq_false (by omega)
        rw [d1, d2, d3, d4]
        go_enter Tryz.func58, Tryz.ntmps58
        go_wp2_with (go_at_call 45; refine h0.mono ?_; rintro e w' ⟨rfl, rfl⟩)
        go_ret
        exact ⟨rfl, rfl⟩
    · have d1 : decide (97 ≤ (j : Int)) = false := decide_eq_false (by omega)
      rw [d1]
      by_cases h65 : 65 ≤ j
      · have d3 : decide (65 ≤ (j : Int)) = true := decide_eq_true (by omega)
        have hw := u8_wrap_nat ((j : Int) - 65) (by omega) (by omega)
        rw [d3]
        by_cases h70 : j ≤ 70
        · have d4 : decide ((j : Int) ≤ 70) = true := decide_eq_true (by omega)
          rw [d4]
          go_enter Tryz.func58, Tryz.ntmps58
          go_wp2_with (go_at_call 45; refine h0.mono ?_; rintro e w' ⟨rfl, rfl⟩)
          go_ret
          exact ⟨ret_int (by simp; omega), rfl⟩
        · have d4 : decide ((j : Int) ≤ 70) = false := decide_eq_false (by omega)
          rw [d4]
          go_enter Tryz.func58, Tryz.ntmps58
          go_wp2_with (go_at_call 45; refine h0.mono ?_; rintro e w' ⟨rfl, rfl⟩)
          go_ret
          exact ⟨rfl, rfl⟩
      · have d3 : decide (65 ≤ (j : Int)) = false := decide_eq_false (by omega)
        rw [d3]
        go_enter Tryz.func58, Tryz.ntmps58
        go_wp2_with (go_at_call 45; refine h0.mono ?_; rintro e w' ⟨rfl, rfl⟩)
        go_ret
        exact ⟨rfl, rfl⟩

theorem dotS_hd (p : UInt8 → Bool) (l : List UInt8) (h0 : p 0 = false) :
    dotS p l = if p (hd l) then dotS p (l.drop 1) + 1 else if (hd l).toNat = 46 ∧ p (hd (l.drop 1)) = true then dotS p (l.drop 2) + 2 else 0 := by
  match l with
  | [] => simp [dotS, hd, h0]
  | [c] =>
    rw [dotS]
    simp [hd, headIs, dotS, h0]
  | c :: d :: r =>
    rw [dotS]
    have e1 : hd (c :: d :: r) = c := rfl
    have e2 : hd ((c :: d :: r).drop 1) = d := rfl
    have e3 : (c :: d :: r).drop 1 = d :: r := rfl
    have e4 : (c :: d :: r).drop 2 = r := rfl
    have e5 : headIs p (d :: r) = p d := rfl
    rw [e1, e2, e3, e4, e5]
    by_cases h1 : p c = true
    · simp [h1]
    · by_cases h2 : c.toNat = 46
      · by_cases h3 : p d = true
        · simp [h1, h2, h3]; rw [dotS]; simp [h3]
        · simp [h1, h2, h3]
      · simp [h1, h2]

set_option maxRecDepth 100000 in
set_option maxHeartbeats 4000000 in
theorem rword_any (s : ByteArray) (at_ : Nat) (hz : s.size ≤ 1048576) (ha : at_ < s.size) (w : World) :
    Calls Tryz.prog 44 #[.string s, .int .i64 (at_ : Int)] w fun e w' => e = .returned (.int .i64 (at_ + 1 + dotS wordB ((bl s).drop (at_ + 1)) : Nat)) ∧ w = w' := by
  go_enter Tryz.func44, Tryz.ntmps44
  go_wp2
  go_loop [1] (fun i => ∃ k : Nat, k ≤ s.size ∧ i = .int .i64 k ∧ Hid (at_ + 1 + dotS wordB ((bl s).drop (at_ + 1)) = k + dotS wordB ((bl s).drop k))) (fun i => s.size - (intOf i).toNat)
  case atStart => exact ⟨at_ + 1, by omega, by go_num, Lib.hid rfl⟩
  case round =>
    obtain ⟨k, hk, rfl, HC⟩ := hrel
    have H := dotS_hd wordB ((bl s).drop k) rfl
    rw [List.drop_drop, List.drop_drop] at H
    have b1 := byteAt_any s k w
    have b2 := byteAt_any s (k + 1) w
    have hin : ∀ j, wordB (hd ((bl s).drop j)) = true → j < s.size := fun j h => by
      rcases Nat.lt_or_ge j s.size with h1 | h1
      · exact h1
      · rw [hd_end s j h1] at h; simp [wordB, letterB, digitB] at h
    have i1 := hin k
    have i2 := hin (k + 1)
    generalize hd ((bl s).drop k) = c at *
    generalize hd ((bl s).drop (k + 1)) = d at *
    have p1 := rpart_any c w
    have p2 := rpart_any d w
    cases hc : wordB c with
    | true =>
      have := i1 hc
      rw [hc] at p1 H
      have HN : Hid (at_ + 1 + dotS wordB ((bl s).drop (at_ + 1)) = (k + 1 : Nat) + dotS wordB ((bl s).drop (k + 1))) := Lib.hid (by rw [HC.out, H]; simp; omega)
      clear H i1 i2 hc hin
      go_wp2_with (first | (go_at_call 32; refine b1.mono ?_; rintro e w' ⟨rfl, rfl⟩) | (go_at_call 57; refine p1.mono ?_; rintro e w' ⟨rfl, rfl⟩))
      go_round
      case rel => exact ⟨k + 1, by omega, by go_num, HN⟩
      case measure => simp [intOf]; omega
    | false =>
      rw [hc] at p1 H
      by_cases h46 : c.toNat = 46
      · have e46 : ((c.toNat : Int) == 46) = true := by simp [h46]
        cases hdd : wordB d with
        | true =>
          have := i2 hdd
          rw [hdd] at p2
          have HN : Hid (at_ + 1 + dotS wordB ((bl s).drop (at_ + 1)) = (k + 2 : Nat) + dotS wordB ((bl s).drop (k + 2))) := Lib.hid (by rw [HC.out, H, if_neg (by simp), if_pos ⟨h46, hdd⟩]; omega)
          clear h46 H i1 i2 hc hin hdd
          go_wp2_with (first | (go_at_call 32; (first | (with_reducible refine b1.mono ?_) | (rw [show ((k : Int) + 1) = ((k + 1 : Nat) : Int) from by omega]; with_reducible refine b2.mono ?_)); rintro e w' ⟨rfl, rfl⟩) | (go_at_call 57; (first | (with_reducible refine p1.mono ?_) | (with_reducible refine p2.mono ?_)); rintro e w' ⟨rfl, rfl⟩))
          go_round
          case rel => exact ⟨k + 2, by omega, by go_num, HN⟩
          case measure => simp [intOf]; omega
        | false =>
          rw [hdd] at p2
          have HF : Hid (at_ + 1 + dotS wordB ((bl s).drop (at_ + 1)) = k) := Lib.hid (by rw [HC.out, H, if_neg (by simp), if_neg (by simp [hdd])]; omega)
          clear h46 H i1 i2 hc hin hdd
          go_wp2_with (first | (go_at_call 32; (first | (with_reducible refine b1.mono ?_) | (rw [show ((k : Int) + 1) = ((k + 1 : Nat) : Int) from by omega]; with_reducible refine b2.mono ?_)); rintro e w' ⟨rfl, rfl⟩) | (go_at_call 57; (first | (with_reducible refine p1.mono ?_) | (with_reducible refine p2.mono ?_)); rintro e w' ⟨rfl, rfl⟩))
          go_ret
          exact ⟨ret_int (by rw [HF.out]), rfl⟩
      · have e46 : ((c.toNat : Int) == 46) = false := by simp; omega
        have HF : Hid (at_ + 1 + dotS wordB ((bl s).drop (at_ + 1)) = k) := Lib.hid (by rw [HC.out, H, if_neg (by simp), if_neg (by simp [h46])]; omega)
        clear h46 H i1 i2 hc hin
        go_wp2_with (first | (go_at_call 32; refine b1.mono ?_; rintro e w' ⟨rfl, rfl⟩) | (go_at_call 57; refine p1.mono ?_; rintro e w' ⟨rfl, rfl⟩))
        go_ret
        exact ⟨ret_int (by rw [HF.out]), rfl⟩
end Go.Proofs.YtnaopgajinbnmaaGreatDoor
