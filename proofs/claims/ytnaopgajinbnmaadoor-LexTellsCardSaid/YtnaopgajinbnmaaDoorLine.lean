/- Line: the line and the column of a place; the program's and the reference's. -/
import Derived.Test.YtnaopgajinbnmaaDoorKnown
namespace Go.Proofs.YtnaopgajinbnmaaDoor
open Go.RowKit

/-- The line, the column and the error. -/
def lineR (s : ByteArray) (a : Int) : Int × Int × Int :=
  if 6000 < s.size then (0, 0, 3) else if a < 0 ∨ (s.size : Int) < a then (0, 0, 1) else ((1 : Int) + (((bl s).take a.toNat).count 10 : Nat), a - Lib.lastIdx s 10 a.toNat, 0)
abbrev lineV (r : Int × Int × Int) : Value := .tuple #[.int .i64 r.1, .int .i64 r.2.1, .int .i64 r.2.2]

theorem lastIdx_le (s : ByteArray) (c : Int) (k : Nat) : -1 ≤ Lib.lastIdx s c k ∧ Lib.lastIdx s c k < k := by
  rcases Lib.lastIdx_spec s c k with ⟨h, _⟩ | ⟨i, hi, h, _⟩ <;> omega
theorem lastIdx_extract (s : ByteArray) (c : Int) (a : Nat) (ha : a ≤ s.size) : ∀ k, k ≤ a → Lib.lastIdx (s.extract 0 a) c k = Lib.lastIdx s c k := by
  intro k
  induction k with
  | zero => intro _; rfl
  | succ k ih =>
    intro hk
    have hs : s.data.size = s.size := rfl
    have hd : (s.extract 0 a).data[k]! = s.data[k]! := by
      have h1 : k < (s.extract 0 a).data.size := by
        show k < (s.extract 0 a).size
        simp; omega
      have h2 : k < s.data.size := by omega
      rw [getElem!_pos (s.extract 0 a).data k h1, getElem!_pos s.data k h2]
      simp [ByteArray.data_extract]
    unfold Lib.lastIdx
    rw [hd, ih (by omega)]
theorem lastIdx_step (s : ByteArray) (k : Nat) (h : k < s.size) : Lib.lastIdx s 10 (k + 1) = if s[k].toNat = 10 then (k : Int) else Lib.lastIdx s 10 k := by
  have h2 : k < s.data.size := h
  have hd : s.data[k]! = s[k] := by rw [getElem!_pos s.data k h2]; rfl
  conv => lhs; unfold Lib.lastIdx
  rw [hd]
  by_cases h : s[k].toNat = 10
  · rw [if_pos h, if_pos (by omega)]
  · rw [if_neg h, if_neg (by omega)]
theorem count_step (s : ByteArray) (k : Nat) (h : k < s.size) : ((bl s).take (k + 1)).count 10 = ((bl s).take k).count 10 + if s[k].toNat = 10 then 1 else 0 := by
  have h2 : k < (bl s).length := by rw [bl_len]; exact h
  rw [List.take_succ_eq_append_getElem h2, List.count_append]
  show _ + List.count 10 [s[k]'h] = _
  generalize s[k]'h = x
  congr 1
  by_cases h : x.toNat = 10
  · have : x = 10 := UInt8.toNat_inj.1 (by rw [h]; rfl)
    rw [if_pos h, this]; rfl
  · have : ¬ x = 10 := fun e => h (by rw [e]; rfl)
    rw [if_neg h]; simp [this]

set_option maxHeartbeats 4000000 in
theorem line_any (s : ByteArray) (a : Int) (w : World) (hz : s.size ≤ 1048576) (ha : -9223372036854775808 ≤ a ∧ a ≤ 9223372036854775807) :
    Calls Tryd.prog 15 #[.string s, .int .i64 a] w fun e w' => e = .returned (lineV (lineR s a)) ∧ w' = w := by
  by_cases h1 : 6000 < s.size
  · have hF : lineR s a = (0, 0, 3) := by unfold lineR; rw [if_pos h1]
    have hd : decide (6000 < (s.size : Int)) = true := decide_eq_true (by omega)
    rw [hF]
    go_enter Tryd.func15, Tryd.ntmps15
    go_wp2
    refine bodyPost_ret (results_tmp3 rfl _ _ _) rfl ⟨rfl, rfl⟩
  · have hd : decide (6000 < (s.size : Int)) = false := decide_eq_false (by omega)
    by_cases h2 : a < 0
    · have hF : lineR s a = (0, 0, 1) := by unfold lineR; rw [if_neg h1, if_pos (.inl h2)]
      rw [hF]
      go_enter Tryd.func15, Tryd.ntmps15
      go_wp2
      refine bodyPost_ret (results_tmp3 rfl _ _ _) rfl ⟨rfl, rfl⟩
    · by_cases h3 : (s.size : Int) < a
      · have hF : lineR s a = (0, 0, 1) := by unfold lineR; rw [if_neg h1, if_pos (.inr h3)]
        rw [hF]
        go_enter Tryd.func15, Tryd.ntmps15
        go_wp2
        refine bodyPost_ret (results_tmp3 rfl _ _ _) rfl ⟨rfl, rfl⟩
      · obtain ⟨k, rfl⟩ : ∃ k : Nat, a = k := ⟨a.toNat, by omega⟩
        have hk : k ≤ s.size := by omega
        have hF : lineR s k = ((1 : Int) + (((bl s).take k).count 10 : Nat), (k : Int) - Lib.lastIdx s 10 k, 0) := by unfold lineR; rw [if_neg h1, if_neg (by omega)]; rfl
        have hC := fun w => Tryd.strings_Count_one (s.extract 0 k) 10 w
        have hI := fun w => Tryd.strings_LastIndexByte (s.extract 0 k) 10 (by rw [ByteArray.size_extract]; omega) w
        have hI2 : Lib.lastIndexByte (s.extract 0 k) 10 = Lib.lastIdx s 10 k := by
          unfold Lib.lastIndexByte
          rw [lastIdx_extract s 10 k hk _ (by rw [ByteArray.size_extract]; omega)]
          rw [ByteArray.size_extract]; congr 1; omega
        have hC2 : Lib.countByte (s.extract 0 k).data.toList 10 = ((bl s).take k).count 10 := by
          show List.count 10 (bl (s.extract 0 k)) = _
          rw [bl_to]
        rw [hI2] at hI
        rw [hC2] at hC
        have hl := lastIdx_le s 10 k
        have hc : ((bl s).take k).count 10 ≤ k := Nat.le_trans (List.count_le_length) (by simp; omega)
        obtain ⟨c, hcc⟩ : ∃ c, ((bl s).take k).count 10 = c := ⟨_, rfl⟩
        obtain ⟨i, hii⟩ : ∃ i, Lib.lastIdx s 10 k = i := ⟨_, rfl⟩
        rw [hcc] at hC hF hc
        rw [hii] at hI hF hl
        rw [hF]
        clear hF hI2 hC2 hcc hii h1 h2 h3
        go_enter Tryd.func15, Tryd.ntmps15
        go_wp2_with (first | (go_at_call 29; refine (hC _).mono ?_; rintro e w' ⟨rfl, hw⟩; rw [hw]; clear hw) | (go_at_call 30; refine (hI _).mono ?_; rintro e w' ⟨rfl, hw⟩; rw [hw]; clear hw))
        refine bodyPost_ret (results_tmp3 rfl _ _ _) rfl ⟨rfl, rfl⟩

set_option maxHeartbeats 4000000 in
theorem rline_any (s : ByteArray) (a : Int) (w : World) (hz : s.size ≤ 1048576) (ha : -9223372036854775808 ≤ a ∧ a ≤ 9223372036854775807) :
    Calls Tryd.prog 16 #[.string s, .int .i64 a] w fun e w' => e = .returned (lineV (lineR s a)) ∧ w = w' := by
  by_cases h1 : 6000 < s.size
  · have hF : lineR s a = (0, 0, 3) := by unfold lineR; rw [if_pos h1]
    have hd : decide (6000 < (s.size : Int)) = true := decide_eq_true (by omega)
    rw [hF]
    go_enter Tryd.func16, Tryd.ntmps16
    go_wp2
    refine bodyPost_ret (results_tmp3 rfl _ _ _) rfl ⟨rfl, rfl⟩
  · have hd : decide (6000 < (s.size : Int)) = false := decide_eq_false (by omega)
    by_cases h2 : a < 0
    · have hF : lineR s a = (0, 0, 1) := by unfold lineR; rw [if_neg h1, if_pos (.inl h2)]
      rw [hF]
      go_enter Tryd.func16, Tryd.ntmps16
      go_wp2
      refine bodyPost_ret (results_tmp3 rfl _ _ _) rfl ⟨rfl, rfl⟩
    · by_cases h3 : (s.size : Int) < a
      · have hF : lineR s a = (0, 0, 1) := by unfold lineR; rw [if_neg h1, if_pos (.inr h3)]
        rw [hF]
        go_enter Tryd.func16, Tryd.ntmps16
        go_wp2
        refine bodyPost_ret (results_tmp3 rfl _ _ _) rfl ⟨rfl, rfl⟩
      · obtain ⟨n, rfl⟩ : ∃ k : Nat, a = k := ⟨a.toNat, by omega⟩
        have hn : n ≤ s.size := by omega
        have HF : Hid (lineR s n = ((1 : Int) + (((bl s).take n).count 10 : Nat), (n : Int) - Lib.lastIdx s 10 n, 0)) := Lib.hid (by unfold lineR; rw [if_neg h1, if_neg (by omega)]; rfl)
        have hz6 : s.size ≤ 6000 := by omega
        clear h1 h2 h3
        go_enter Tryd.func16, Tryd.ntmps16
        go_wp2
        go_loop [7, 8, 9] (fun x y i => ∃ (k : Nat) (c j : Int), x = .int .i64 c ∧ y = .int .i64 j ∧ i = .int .i64 k ∧ k ≤ n ∧ 1 ≤ c ∧ c ≤ 1 + k ∧ 1 ≤ j ∧ j ≤ k + 1 ∧ Hid (c = (1 : Int) + (((bl s).take k).count 10 : Nat) ∧ j = k - Lib.lastIdx s 10 k)) (fun _ _ i => n - (intOf i).toNat)
        case atStart => exact ⟨0, 1, 1, rfl, rfl, rfl, Nat.zero_le _, by omega, by omega, by omega, by omega, Lib.hid ⟨by simp, rfl⟩⟩
        case round =>
          obtain ⟨k, c, j, rfl, rfl, rfl, hk, c1, c2, j1, j2, HC⟩ := hrel
          by_cases hlt : k < n
          · have hks : k < s.size := by omega
            have hd2 : decide ((k : Int) < (n : Int)) = true := decide_eq_true (by omega)
            have HS := Lib.hid (And.intro (lastIdx_step s k hks) (count_step s k hks))
            by_cases h10 : s[k].toNat = 10
            · have e10 : (s[k].toNat : Int) = 10 := by omega
              have HN : Hid (c + 1 = (1 : Int) + (((bl s).take (k + 1)).count 10 : Nat) ∧ (1 : Int) = (k + 1 : Nat) - Lib.lastIdx s 10 (k + 1)) := Lib.hid ⟨by rw [HS.out.2, if_pos h10, HC.out.1]; omega, by rw [HS.out.1, if_pos h10]; omega⟩
              clear h10
              go_wp2
              go_round
              case rel => exact ⟨k + 1, c + 1, 1, by go_num, rfl, by go_num, by omega, by omega, by omega, by omega, by omega, HN⟩
              case measure => simp [intOf]; omega
            · have e10 : ¬ (s[k].toNat : Int) = 10 := by omega
              have HN : Hid (c = (1 : Int) + (((bl s).take (k + 1)).count 10 : Nat) ∧ (j + 1 : Int) = (k + 1 : Nat) - Lib.lastIdx s 10 (k + 1)) := Lib.hid ⟨by rw [HS.out.2, if_neg h10, HC.out.1]; omega, by rw [HS.out.1, if_neg h10, HC.out.2]; omega⟩
              clear h10
              go_wp2
              go_round
              case rel => exact ⟨k + 1, c, j + 1, rfl, by go_num, by go_num, by omega, by omega, by omega, by omega, by omega, HN⟩
              case measure => simp [intOf]; omega
          · have hkn : k = n := by omega
            subst hkn
            have HX : Hid (lineR s k = (c, j, 0)) := Lib.hid (by rw [HF.out, ← HC.out.1, ← HC.out.2])
            go_wp2
            refine bodyPost_ret (results_tmp3 rfl _ _ _) rfl ⟨by rw [HX.out]; rfl, rfl⟩
end Go.Proofs.YtnaopgajinbnmaaDoor
