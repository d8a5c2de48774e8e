/- The classes of bytes: is, run, commentSize, skip, dottedSize, wordSize. -/
import Derived.Test.YtnaopgajinbnmaaGreatDoorMath
import Derived.Test.YtnaopgajinbnmaaGreatDoorProg
import Derived.WalkKit
import Derived.WalkSpells
import Derived.Lib.Hide
import Derived.Lib.Strings
import Derived.Laws.IdiomStrings
import Derived.Below
import Derived.Laws.OwnMore
import Derived.Laws.BitsAllLaws
namespace Go.Proofs.YtnaopgajinbnmaaGreatDoor
open Go.RowKit

theorem ret_int {k : IntKind} {a b : Int} (h : a = b) : Ending.returned (.int k a) = .returned (.int k b) := by rw [h]
theorem ret_bool {a b : Bool} (h : a = b) : Ending.returned (.bool a) = .returned (.bool b) := by rw [h]
theorem ret_str {a b : ByteArray} (h : a = b) : Ending.returned (.string a) = .returned (.string b) := by rw [h]

/-- The bytes of a text. -/
def bl (s : ByteArray) : List UInt8 := s.data.toList
theorem bl_len (s : ByteArray) : (bl s).length = s.size := by simp [bl]
theorem bl_at (s : ByteArray) (k : Nat) (h : k < s.size) : (bl s).drop k = s[k] :: (bl s).drop (k + 1) := by
  rw [List.drop_eq_getElem_cons (by rw [bl_len]; exact h)]; rfl
theorem bl_ext {s t : ByteArray} (h : bl s = bl t) : s = t := by
  cases s; cases t; simp [bl] at h; exact congrArg _ h
theorem bl_extract (s : ByteArray) (a b : Nat) : bl (s.extract a b) = ((bl s).drop a).take (b - a) := by
  unfold bl; rw [ByteArray.data_extract, Array.toList_extract]
theorem bl_from (s : ByteArray) (a : Nat) : bl (s.extract a s.size) = (bl s).drop a := by
  rw [bl_extract, List.take_of_length_le (by rw [List.length_drop, bl_len]; omega)]
theorem bl_to (s : ByteArray) (b : Nat) : bl (s.extract 0 b) = (bl s).take b := by rw [bl_extract]; simp

/-- The table's variable holds the table. -/
def Tab (w : World) : Prop := ∀ j, j < 127 → w.cell? ⟨0, j, none⟩ = some (.int .u8 (tabL.getD j 0 : Nat))

theorem tabL_lt (j : Nat) : tabL.getD j 0 < 256 := by
  by_cases h : j < 127
  · have : ∀ j : Fin 127, tabL.getD j.1 0 < 256 := by decide +kernel
    exact this ⟨j, h⟩
  · rw [List.getD, List.getElem?_eq_none (by rw [tabL_len]; omega)]; decide

set_option maxHeartbeats 1000000 in
theorem is_any {w : World} (hT : Tab w) (c : UInt8) (set : Nat) (hs : set < 256) :
    Calls Tryz.prog 37 #[.int .u8 (c.toNat : Int), .int .u8 (set : Int)] w fun e w' => e = .returned (.bool (isB set c)) ∧ w = w' := by
  have hc : c.toNat < 256 := c.toNat_lt
  obtain ⟨j, hj⟩ : ∃ j, c.toNat = j := ⟨_, rfl⟩
  have HJ := Lib.hid hj
  rw [hj] at hc ⊢
  clear hj
  by_cases hlt : j < 127
  · have hk := hT j hlt
    obtain ⟨x, hx⟩ : ∃ x, tabL.getD j 0 = x := ⟨_, rfl⟩
    rw [hx] at hk
    have HX := Lib.hid hx
    have hx8 : x < 256 := hx ▸ tabL_lt j
    clear hT hx
    have ha := u8_and_nat x set hx8 hs
    have hd : decide ((j : Int) < 127) = true := decide_eq_true (by omega)
    have hF : Hid (isB set c = !((x &&& set : Nat) == 0)) := Lib.hid (by unfold isB; rw [HJ.out, HX.out]; rfl)
    go_enter Tryz.func37, Tryz.ntmps37
    go_wp2
    go_ret
    exact ⟨ret_bool (by rw [hF.out]; cases h : (x &&& set) <;> simp <;> omega), rfl⟩
  · have hd : decide ((j : Int) < 127) = false := decide_eq_false (by omega)
    have hF : Hid (isB set c = false) := Lib.hid (by unfold isB; rw [HJ.out, List.getD, List.getElem?_eq_none (by rw [tabL_len]; omega)]; simp)
    go_enter Tryz.func37, Tryz.ntmps37
    go_wp2
    go_ret
    exact ⟨ret_bool hF.out.symm, rfl⟩

theorem runL_at (p : UInt8 → Bool) (s : ByteArray) (k : Nat) (h : k < s.size) : runL p ((bl s).drop k) = if p s[k] then runL p ((bl s).drop (k + 1)) + 1 else 0 := by
  rw [bl_at s k h, runL_cons]
theorem runL_end (p : UInt8 → Bool) (s : ByteArray) (k : Nat) (h : s.size ≤ k) : runL p ((bl s).drop k) = 0 := by
  rw [List.drop_eq_nil_of_le (by rw [bl_len]; exact h)]; rfl

set_option maxHeartbeats 1000000 in
theorem run_any {w : World} (hT : Tab w) (s : ByteArray) (set : Nat) (hs : set < 256) (hz : s.size ≤ 1048576) :
    Calls Tryz.prog 34 #[.string s, .int .u8 (set : Int)] w fun e w' => e = .returned (.int .i64 (runL (isB set) (bl s) : Nat)) ∧ w = w' := by
  have HT := Lib.hid hT
  clear hT
  go_enter Tryz.func34, Tryz.ntmps34
  go_wp2
  go_loop [5] (fun i => ∃ k : Nat, k ≤ s.size ∧ i = .int .i64 k ∧ Hid (runL (isB set) (bl s) = k + runL (isB set) ((bl s).drop k))) (fun i => s.size - (intOf i).toNat)
  case atStart => exact ⟨0, Nat.zero_le _, rfl, Lib.hid (by simp)⟩
  case round =>
    obtain ⟨k, hk, rfl, HC⟩ := hrel
    by_cases hlt : k < s.size
    · have HS := Lib.hid (runL_at (isB set) s k hlt)
      have hd : decide ((k : Int) < (s.size : Int)) = true := decide_eq_true (by omega)
      cases hb : isB set s[k] with
      | true =>
        have HN : Hid (runL (isB set) (bl s) = (k + 1 : Nat) + runL (isB set) ((bl s).drop (k + 1))) := Lib.hid (by rw [HC.out, HS.out, hb]; simp; omega)
        go_wp2_with (go_at_call 37; refine (is_any HT.out _ _ hs).mono ?_; rintro e w' ⟨rfl, rfl⟩)
        go_round
        case rel => exact ⟨k + 1, by omega, by go_num, HN⟩
        case measure => simp [intOf]; omega
      | false =>
        have HF : Hid (runL (isB set) (bl s) = k) := Lib.hid (by rw [HC.out, HS.out, hb]; simp)
        go_wp2_with (go_at_call 37; refine (is_any HT.out _ _ hs).mono ?_; rintro e w' ⟨rfl, rfl⟩)
        go_ret
        exact ⟨ret_int (by rw [HF.out]), rfl⟩
    · have HF : Hid (runL (isB set) (bl s) = k) := Lib.hid (by rw [HC.out, runL_end _ s k (by omega)]; rfl)
      have hd : decide ((k : Int) < (s.size : Int)) = false := decide_eq_false (by omega)
      go_wp2
      go_ret
      exact ⟨ret_int (by rw [HF.out]), rfl⟩

set_option maxHeartbeats 1000000 in
theorem comment_any {w : World} (hT : Tab w) (s : ByteArray) (hz : s.size ≤ 1048576) :
    Calls Tryz.prog 36 #[.string s] w fun e w' => e = .returned (.int .i64 (runL inComment (bl s) : Nat)) ∧ w = w' := by
  have HT := Lib.hid hT
  clear hT
  go_enter Tryz.func36, Tryz.ntmps36
  go_wp2
  go_loop [3] (fun i => ∃ k : Nat, k ≤ s.size ∧ i = .int .i64 k ∧ Hid (runL inComment (bl s) = k + runL inComment ((bl s).drop k))) (fun i => s.size - (intOf i).toNat)
  case atStart => exact ⟨0, Nat.zero_le _, rfl, Lib.hid (by simp)⟩
  case round =>
    obtain ⟨k, hk, rfl, HC⟩ := hrel
    by_cases hlt : k < s.size
    · have HS := Lib.hid (runL_at inComment s k hlt)
      have hd : decide ((k : Int) < (s.size : Int)) = true := decide_eq_true (by omega)
      have HI : Hid (inComment s[k] = (isB 127 s[k] && !(s[k].toNat == 10))) := Lib.hid (by rw [isB_src]; rfl)
      by_cases h10 : s[k].toNat = 10
      · have HF : Hid (runL inComment (bl s) = k) := Lib.hid (by rw [HC.out, HS.out, HI.out, h10]; simp)
        have hd2 : (s[k].toNat : Int) = 10 := by omega
        go_wp2
        go_ret
        exact ⟨ret_int (by rw [HF.out]), rfl⟩
      · have hd2 : ¬ (s[k].toNat : Int) = 10 := by omega
        cases hb : isB 127 s[k] with
        | true =>
          have HN : Hid (runL inComment (bl s) = (k + 1 : Nat) + runL inComment ((bl s).drop (k + 1))) := Lib.hid (by rw [HC.out, HS.out, HI.out, hb]; simp [h10]; omega)
          clear h10
          go_wp2_with (go_at_call 37; refine (is_any HT.out _ 127 (by decide)).mono ?_; rintro e w' ⟨rfl, rfl⟩)
          go_round
          case rel => exact ⟨k + 1, by omega, by go_num, HN⟩
          case measure => simp [intOf]; omega
        | false =>
          have HF : Hid (runL inComment (bl s) = k) := Lib.hid (by rw [HC.out, HS.out, HI.out, hb]; simp)
          clear h10
          go_wp2_with (go_at_call 37; refine (is_any HT.out _ 127 (by decide)).mono ?_; rintro e w' ⟨rfl, rfl⟩)
          go_ret
          exact ⟨ret_int (by rw [HF.out]), rfl⟩
    · have HF : Hid (runL inComment (bl s) = k) := Lib.hid (by rw [HC.out, runL_end _ s k (by omega)]; rfl)
      have hd : decide ((k : Int) < (s.size : Int)) = false := decide_eq_false (by omega)
      go_wp2
      go_ret
      exact ⟨ret_int (by rw [HF.out]), rfl⟩
end Go.Proofs.YtnaopgajinbnmaaGreatDoor
