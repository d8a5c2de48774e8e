/- IsWord: the program's and the reference's. -/
import Derived.Test.YtnaopgajinbnmaaDoorQuoteMath
import Derived.Test.YtnaopgajinbnmaaDoorRef
namespace Go.Proofs.YtnaopgajinbnmaaDoor
open Go.RowKit

theorem wordR_nil : wordR [] = false := rfl
theorem word_zero (s : ByteArray) (h0 : 0 < s.size) (hl : letterB s[0] = true) : 0 + 1 + dotS wordB ((bl s).drop (0 + 1)) = dotS wordB (bl s) := by
  have := bl_at s 0 h0
  rw [List.drop_zero] at this
  rw [this, dotS, wordB_of_letter hl]
  show _ = if (true || _) = true then _ else _
  rw [Bool.true_or, if_pos rfl]
  simp; omega

set_option maxRecDepth 100000 in
set_option maxHeartbeats 4000000 in
theorem isWord_any (s : ByteArray) (hz : s.size ≤ 1048576) {w : World} (hL : Laid w) : Calls Tryd.prog 13 #[.string s] w fun e w' => e = .returned (.bool (wordR (bl s))) ∧ w = w' := by
  by_cases h0 : s.size = 0
  · have hs : s = ⟨#[]⟩ := bl_ext (List.length_eq_zero_iff.1 (by rw [bl_len]; exact h0))
    subst hs
    go_enter Tryd.func13, Tryd.ntmps13
    go_wp2
    go_ret
    exact ⟨rfl, rfl⟩
  · have hem : s.toList.isEmpty = false := by
      rw [Lib.toList_data]
      cases hq : s.data.toList with
      | nil => have := bl_len s; unfold bl at this; rw [hq] at this; simp at this; omega
      | cons c r => rfl
    have hem2 : (s.toList == []) = false := by
      cases hq : s.toList with
      | nil => rw [hq] at hem; cases hem
      | cons c r => rfl
    have hW := wordSize_any hL.tab s hz
    obtain ⟨n, hn⟩ : ∃ n, wordL (bl s) = n := ⟨_, rfl⟩
    rw [hn] at hW
    by_cases h16 : s.size ≤ 16
    · have hd : decide ((s.size : Int) ≤ 16) = true := decide_eq_true (by omega)
      have HF : Hid (wordR (bl s) = ((n : Int) == (s.size : Int))) := Lib.hid (by
        unfold wordR
        rw [bl_len, decide_eq_true h16, Bool.and_true]
        unfold wordL at hn
        cases hh : headIs letterB (bl s) with
        | true =>
          rw [hh, if_pos rfl] at hn
          rw [hn, Bool.true_and, Bool.eq_iff_iff]; simp; omega
        | false =>
          rw [hh] at hn
          simp only [Bool.false_eq_true, if_false] at hn
          subst hn
          rw [Bool.false_and, Bool.eq_iff_iff]; simp; omega)
      clear hn h0 h16
      go_enter Tryd.func13, Tryd.ntmps13
      go_wp2_with (go_at_call 26; refine hW.mono ?_; rintro e w' ⟨rfl, rfl⟩)
      go_ret
      exact ⟨ret_bool HF.out.symm, rfl⟩
    · have hd : decide ((s.size : Int) ≤ 16) = false := decide_eq_false (by omega)
      have HF : Hid (wordR (bl s) = false) := Lib.hid (by
        unfold wordR; rw [bl_len, decide_eq_false h16, Bool.and_false, Bool.and_false])
      clear hn h0 h16
      go_enter Tryd.func13, Tryd.ntmps13
      go_wp2
      go_ret
      exact ⟨ret_bool HF.out.symm, rfl⟩

set_option maxRecDepth 100000 in
set_option maxHeartbeats 4000000 in
theorem risWord_any (s : ByteArray) (hz : s.size ≤ 1048576) (w : World) : Calls Tryd.prog 14 #[.string s] w fun e w' => e = .returned (.bool (wordR (bl s))) ∧ w = w' := by
  by_cases h0 : s.size = 0
  · have hs : s = ⟨#[]⟩ := bl_ext (List.length_eq_zero_iff.1 (by rw [bl_len]; exact h0))
    subst hs
    go_enter Tryd.func14, Tryd.ntmps14
    go_wp2
    go_ret
    exact ⟨rfl, rfl⟩
  · have hp : 0 < s.size := by omega
    have hem : s.toList.isEmpty = false := by
      rw [Lib.toList_data]
      cases hq : s.data.toList with
      | nil => have := bl_len s; unfold bl at this; rw [hq] at this; simp at this; omega
      | cons c r => rfl
    have hem2 : (s.toList == []) = false := by
      cases hq : s.toList with
      | nil => rw [hq] at hem; cases hem
      | cons c r => rfl
    have c1 := rletter_any s[0] w
    have hhead : headIs letterB (bl s) = letterB s[0] := by
      have := bl_at s 0 hp
      rw [List.drop_zero] at this
      rw [this]; rfl
    cases hl : letterB s[0] with
    | false =>
      have HF : Hid (wordR (bl s) = false) := Lib.hid (by unfold wordR; rw [hhead, hl, Bool.false_and])
      rw [hl] at c1
      clear hl hhead h0
      go_enter Tryd.func14, Tryd.ntmps14
      go_wp2_with (go_at_call 27; refine c1.mono ?_; rintro e w' ⟨rfl, rfl⟩)
      go_ret
      exact ⟨ret_bool HF.out.symm, rfl⟩
    | true =>
      have c2 := rword_any s 0 hz hp w
      rw [word_zero s hp hl] at c2
      obtain ⟨n, hn⟩ : ∃ n, dotS wordB (bl s) = n := ⟨_, rfl⟩
      rw [hn] at c2
      rw [hl] at c1
      by_cases hns : n = s.size
      · have e1 : ((n : Int) == (s.size : Int)) = true := by simp [hns]
        have HF : Hid (wordR (bl s) = decide ((s.size : Int) ≤ 16)) := Lib.hid (by
          unfold wordR; rw [hhead, hl, hn, bl_len, decide_eq_true hns, Bool.true_and, Bool.true_and, Bool.eq_iff_iff]; simp; omega)
        clear hl hhead h0 hn hns
        go_enter Tryd.func14, Tryd.ntmps14
        go_wp2_with (first | (go_at_call 27; refine c1.mono ?_; rintro e w' ⟨rfl, rfl⟩) | (go_at_call 28; refine c2.mono ?_; rintro e w' ⟨rfl, rfl⟩))
        go_ret
        exact ⟨ret_bool HF.out.symm, rfl⟩
      · have e1 : ((n : Int) == (s.size : Int)) = false := by simp; omega
        have HF : Hid (wordR (bl s) = false) := Lib.hid (by
          unfold wordR; rw [hhead, hl, hn, bl_len, decide_eq_false hns, Bool.false_and, Bool.and_false])
        clear hl hhead h0 hn hns
        go_enter Tryd.func14, Tryd.ntmps14
        go_wp2_with (first | (go_at_call 27; refine c1.mono ?_; rintro e w' ⟨rfl, rfl⟩) | (go_at_call 28; refine c2.mono ?_; rintro e w' ⟨rfl, rfl⟩))
        go_ret
        exact ⟨ret_bool HF.out.symm, rfl⟩
end Go.Proofs.YtnaopgajinbnmaaDoor
