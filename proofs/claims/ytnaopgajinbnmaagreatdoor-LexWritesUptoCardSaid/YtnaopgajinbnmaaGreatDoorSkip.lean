/- skip, dottedSize, wordSize, signSize. -/
import Derived.Test.YtnaopgajinbnmaaGreatDoorVal
namespace Go.Proofs.YtnaopgajinbnmaaGreatDoor
open Go.RowKit

theorem isB2 : isB 2 = blankB := funext isB_blank
theorem isB16 : isB 16 = digitB := funext isB_digit
theorem isB112 : isB 112 = wordB := funext isB_word
theorem isB48 : isB 48 = hexB := funext isB_hex
theorem isB96 : isB 96 = letterB := funext isB_letter

/-- Whether two slashes stand at the begin. -/
def slashes (l : List UInt8) : Bool := Lib.hasPrefix l [47, 47]
theorem skip_no (l : List UInt8) (h1 : headIs blankB l = false) (h2 : slashes l = false) : skipM false l = 0 := by
  match l with
  | [] => rfl
  | c :: r =>
    have hb : blankB c = false := h1
    rw [skipM]
    have : (c.toNat == 47 && headIs (fun d => d.toNat == 47) r) = false := by
      match r with
      | [] => simp [headIs]
      | d :: r =>
        simp only [slashes, Lib.hasPrefix, List.isPrefixOf, headIs] at h2 ⊢
        rw [Bool.eq_false_iff] at h2 ⊢
        intro h
        apply h2
        simp at h ⊢
        exact ⟨UInt8.toNat_inj.1 (by rw [h.1]; rfl), UInt8.toNat_inj.1 (by rw [h.2]; rfl)⟩
    simp [hb, this]
theorem skip_yes (l : List UInt8) (h2 : slashes l = true) : skipM false l = runL inComment l + skipM false (l.drop (runL inComment l)) ∧ 2 ≤ runL inComment l := by
  match l, h2 with
  | [], h2 => simp [slashes, Lib.hasPrefix] at h2
  | [c], h2 => simp [slashes, Lib.hasPrefix, List.isPrefixOf] at h2
  | c :: d :: r, h2 =>
    simp [slashes, Lib.hasPrefix, List.isPrefixOf] at h2
    obtain ⟨rfl, rfl⟩ := h2
    refine ⟨skipM_slash r 47 47 rfl rfl, ?_⟩
    rw [runL_cons, runL_cons]
    simp [show inComment 47 = true from rfl]

set_option maxHeartbeats 4000000 in
theorem skip_any {w : World} (hT : Tab w) (s : ByteArray) (a : Nat) (ha : a ≤ s.size) (hz : s.size ≤ 1048576) :
    Calls Tryz.prog 27 #[.string s, .int .i64 (a : Int)] w fun e w' => e = .returned (.int .i64 (a + skipM false ((bl s).drop a) : Nat)) ∧ w = w' := by
  have HT := Lib.hid hT
  clear hT
  go_enter Tryz.func27, Tryz.ntmps27
  go_wp2
  go_loop [1] (fun i => ∃ k : Nat, k ≤ s.size ∧ i = .int .i64 k ∧ Hid (a + skipM false ((bl s).drop a) = k + skipM false ((bl s).drop k))) (fun i => s.size - (intOf i).toNat)
  case atStart => exact ⟨a, ha, rfl, Lib.hid rfl⟩
  case round =>
    obtain ⟨k, hk, rfl, HC⟩ := hrel
    obtain ⟨n, hn⟩ : ∃ n, runL blankB ((bl s).drop k) = n := ⟨_, rfl⟩
    have hnl : n ≤ s.size - k := by have := runL_le blankB ((bl s).drop k); rw [hn, List.length_drop, bl_len] at this; exact this
    have hR := run_any HT.out (s.extract k s.size) 2 (by decide) (by simp; omega)
    rw [isB2, bl_from, hn] at hR
    have hd : (bl s).drop (k + n) = ((bl s).drop k).drop n := by rw [List.drop_drop]
    have HK : Hid (skipM false ((bl s).drop k) = n + skipM false ((bl s).drop (k + n)) ∧ headIs blankB ((bl s).drop (k + n)) = false) := Lib.hid ⟨by rw [hd]; have := skipM_run ((bl s).drop k); rwa [hn] at this, by rw [hd]; have := runL_stops blankB ((bl s).drop k); rwa [hn] at this⟩
    clear hn hd
    have hP := fun w => Tryz.strings_HasPrefix (s.extract (k + n) s.size) ⟨#[47, 47]⟩ w
    have hb : Lib.hasPrefix (s.extract (k + n) s.size).data.toList (ByteArray.mk #[47, 47]).data.toList = slashes ((bl s).drop (k + n)) := by
      rw [← bl_from]; rfl
    rw [hb] at hP
    clear hb
    cases hsl : slashes ((bl s).drop (k + n)) with
    | false =>
      rw [hsl] at hP
      have HF : Hid (a + skipM false ((bl s).drop a) = k + n) := Lib.hid (by rw [HC.out, HK.out.1, skip_no _ HK.out.2 hsl]; rfl)
      clear hsl
      go_wp2_with (first | (go_at_call 34; refine hR.mono ?_; rintro e w' ⟨rfl, rfl⟩) | (go_at_call 35; refine (hP _).mono ?_; rintro e w' ⟨rfl, hw⟩; rw [hw]))
      go_ret
      exact ⟨ret_int (by rw [HF.out]; omega), rfl⟩
    | true =>
      rw [hsl] at hP
      obtain ⟨m, hm⟩ : ∃ m, runL inComment ((bl s).drop (k + n)) = m := ⟨_, rfl⟩
      have hml : m ≤ s.size - (k + n) := by have := runL_le inComment ((bl s).drop (k + n)); rw [hm, List.length_drop, bl_len] at this; exact this
      have hC := comment_any HT.out (s.extract (k + n) s.size) (by simp; omega)
      rw [bl_from, hm] at hC
      have hy := skip_yes _ hsl
      rw [hm, List.drop_drop] at hy
      have hm2 := hy.2
      have HF : Hid (a + skipM false ((bl s).drop a) = (k + n + m : Nat) + skipM false ((bl s).drop (k + n + m))) := Lib.hid (by rw [HC.out, HK.out.1, hy.1]; omega)
      clear hsl hm hy
      go_wp2_with (first | (go_at_call 34; refine hR.mono ?_; rintro e w' ⟨rfl, rfl⟩) | (go_at_call 35; refine (hP _).mono ?_; rintro e w' ⟨rfl, hw⟩; rw [hw]) | (go_at_call 36; refine hC.mono ?_; rintro e w' ⟨rfl, rfl⟩))
      go_round
      case rel => exact ⟨k + n + m, by omega, by go_num, HF⟩
      case measure => simp [intOf]; omega

theorem dotS_no (p : UInt8 → Bool) (l : List UInt8) (h1 : headIs p l = false) (h2 : ∀ c d r, l = c :: d :: r → ¬ (c.toNat = 46 ∧ p d = true)) : dotS p l = 0 := by
  match l with
  | [] => rfl
  | [c] => have hb : p c = false := h1; simp [dotS, hb, headIs]
  | c :: d :: r =>
    have hb : p c = false := h1
    have h3 := h2 c d r rfl
    rw [dotS, hb]
    have h4 : (c.toNat == 46 && headIs p (d :: r)) = false := by
      rw [Bool.eq_false_iff]
      intro h
      rw [Bool.and_eq_true, beq_iff_eq] at h
      exact h3 ⟨h.1, h.2⟩
    rw [h4]; rfl
theorem dotS_yes (p : UInt8 → Bool) (c d : UInt8) (r : List UInt8) (hc : c.toNat = 46) (hd : p d = true) : dotS p (c :: d :: r) = dotS p (d :: r) + 1 := by
  have h : (p c || (c.toNat == 46 && headIs p (d :: r))) = true := by simp [headIs, hc, hd]
  conv => lhs; rw [dotS]
  rw [h]; rfl

set_option maxHeartbeats 4000000 in
theorem dotted_any {w : World} (hT : Tab w) (s : ByteArray) (set : Nat) (hs : set < 256) (hz : s.size ≤ 1048576) :
    Calls Tryz.prog 53 #[.string s, .int .u8 (set : Int)] w fun e w' => e = .returned (.int .i64 (dotS (isB set) (bl s) : Nat)) ∧ w = w' := by
  have HT := Lib.hid hT
  clear hT
  obtain ⟨n0, hn0⟩ : ∃ n, runL (isB set) (bl s) = n := ⟨_, rfl⟩
  have hn0l : n0 ≤ s.size := by have := runL_le (isB set) (bl s); rw [hn0, bl_len] at this; exact this
  have hR0 := run_any HT.out s set hs hz
  rw [hn0] at hR0
  have HS : Hid (dotS (isB set) (bl s) = n0 + dotS (isB set) ((bl s).drop n0) ∧ headIs (isB set) ((bl s).drop n0) = false) := Lib.hid ⟨by have := dotS_run (isB set) (bl s); rwa [hn0] at this, by have := runL_stops (isB set) (bl s); rwa [hn0] at this⟩
  clear hn0
  go_enter Tryz.func53, Tryz.ntmps53
  go_wp2_with (go_at_call 34; refine hR0.mono ?_; rintro e w' ⟨rfl, rfl⟩)
  go_loop [5] (fun i => ∃ k : Nat, k ≤ s.size ∧ i = .int .i64 k ∧ Hid (dotS (isB set) (bl s) = k + dotS (isB set) ((bl s).drop k) ∧ headIs (isB set) ((bl s).drop k) = false)) (fun i => s.size - (intOf i).toNat)
  case atStart => exact ⟨n0, hn0l, rfl, HS⟩
  case round =>
    clear hR0 HS
    obtain ⟨k, hk, rfl, HC⟩ := hrel
    by_cases hlt : k + 1 < s.size
    · have HA : Hid ((bl s).drop k = s[k] :: s[k + 1] :: (bl s).drop (k + 2)) := Lib.hid (by rw [bl_at s k (by omega), bl_at s (k + 1) hlt])
      have hd : decide ((k : Int) + 1 < (s.size : Int)) = true := decide_eq_true (by omega)
      by_cases h46 : s[k].toNat = 46
      · have hd2 : (s[k].toNat : Int) = 46 := by omega
        cases hb : isB set s[k + 1] with
        | true =>
          have HB : Hid (dotS (isB set) ((bl s).drop k) = dotS (isB set) ((bl s).drop (k + 1)) + 1) := Lib.hid (by rw [HA.out, dotS_yes _ _ _ _ h46 hb, bl_at s (k + 1) hlt])
          obtain ⟨n, hn⟩ : ∃ n, runL (isB set) ((bl s).drop (k + 1)) = n := ⟨_, rfl⟩
          have hnl : n ≤ s.size - (k + 1) := by have := runL_le (isB set) ((bl s).drop (k + 1)); rw [hn, List.length_drop, bl_len] at this; exact this
          have hR := run_any HT.out (s.extract (k + 1) s.size) set hs (by simp; omega)
          rw [bl_from, hn] at hR
          have e2 : (bl s).drop (k + 1 + n) = ((bl s).drop (k + 1)).drop n := by rw [List.drop_drop]
          have HN : Hid (dotS (isB set) (bl s) = (k + 1 + n : Nat) + dotS (isB set) ((bl s).drop (k + 1 + n)) ∧ headIs (isB set) ((bl s).drop (k + 1 + n)) = false) := Lib.hid ⟨by
              rw [e2]; have := dotS_run (isB set) ((bl s).drop (k + 1)); rw [hn] at this; rw [HC.out.1, HB.out, this]; omega, by rw [e2]; have := runL_stops (isB set) ((bl s).drop (k + 1)); rwa [hn] at this⟩
          clear hn e2 h46
          go_wp2_with (first | (go_at_call 37; refine (is_any HT.out _ _ hs).mono ?_; rintro e w' ⟨rfl, rfl⟩) | (go_at_call 34; refine hR.mono ?_; rintro e w' ⟨rfl, rfl⟩))
          go_round
          case rel => exact ⟨k + 1 + n, by omega, by go_num, HN⟩
          case measure => simp [intOf]; omega
        | false =>
          have HF : Hid (dotS (isB set) (bl s) = k) := Lib.hid (by rw [HC.out.1, dotS_no _ _ HC.out.2 (by rintro c d r h ⟨_, h2⟩; rw [HA.out] at h; cases h; rw [hb] at h2; cases h2)]; rfl)
          clear h46
          go_wp2_with (go_at_call 37; refine (is_any HT.out _ _ hs).mono ?_; rintro e w' ⟨rfl, rfl⟩)
          go_ret
          exact ⟨ret_int (by rw [HF.out]), rfl⟩
      · have hd2 : ¬ (s[k].toNat : Int) = 46 := by omega
        have HF : Hid (dotS (isB set) (bl s) = k) := Lib.hid (by rw [HC.out.1, dotS_no _ _ HC.out.2 (by rintro c d r h ⟨h1, _⟩; rw [HA.out] at h; cases h; exact h46 h1)]; rfl)
        clear h46
        go_wp2
        go_ret
        exact ⟨ret_int (by rw [HF.out]), rfl⟩
    · have HF : Hid (dotS (isB set) (bl s) = k) := Lib.hid (by
        rw [HC.out.1, dotS_no _ _ HC.out.2 (by rintro c d r h _; have := congrArg List.length h; rw [List.length_drop, bl_len] at this; simp at this; omega)]; rfl)
      have hd : decide ((k : Int) + 1 < (s.size : Int)) = false := decide_eq_false (by omega)
      go_wp2
      go_ret
      exact ⟨ret_int (by rw [HF.out]), rfl⟩

theorem emp_yes (s : ByteArray) (h : s.size = 0) : s = ⟨#[]⟩ := bl_ext (List.eq_nil_of_length_eq_zero (by rw [bl_len]; exact h))
theorem emp_no (s : ByteArray) (h : 0 < s.size) : s.toList.isEmpty = false := by
  rw [← decide_eq_emptyBytes]
  exact decide_eq_false (fun e => by rw [e] at h; exact absurd h (by decide))

set_option maxHeartbeats 4000000 in
theorem wordSize_any {w : World} (hT : Tab w) (s : ByteArray) (hz : s.size ≤ 1048576) :
    Calls Tryz.prog 50 #[.string s] w fun e w' => e = .returned (.int .i64 (wordL (bl s) : Nat)) ∧ w = w' := by
  have HT := Lib.hid hT
  clear hT
  by_cases h0 : s.size = 0
  · rw [emp_yes s h0]
    go_enter Tryz.func50, Tryz.ntmps50
    go_wp2
    go_ret
    exact ⟨ret_int (by simp [bl, wordL, headIs]), rfl⟩
  · have he := emp_no s (by omega)
    have hlt : 0 < s.size := by omega
    have HA : Hid (bl s = s[0] :: (bl s).drop 1) := Lib.hid (by have := bl_at s 0 hlt; simpa using this)
    have hD := dotted_any HT.out s 112 (by decide) hz
    rw [isB112] at hD
    cases hb : isB 96 s[0] with
    | true =>
      have HF : Hid (wordL (bl s) = dotS wordB (bl s)) := Lib.hid (by unfold wordL; rw [HA.out]; simp [headIs, ← isB_letter, hb])
      go_enter Tryz.func50, Tryz.ntmps50
      go_wp2_with (first | (go_at_call 37; refine (is_any HT.out _ 96 (by decide)).mono ?_; rintro e w' ⟨rfl, rfl⟩) | (go_at_call 53; refine hD.mono ?_; rintro e w' ⟨rfl, rfl⟩))
      go_ret
      exact ⟨ret_int (by rw [HF.out]), rfl⟩
    | false =>
      have HF : Hid (wordL (bl s) = 0) := Lib.hid (by unfold wordL; rw [HA.out]; simp [headIs, ← isB_letter, hb])
      go_enter Tryz.func50, Tryz.ntmps50
      go_wp2_with (go_at_call 37; refine (is_any HT.out _ 96 (by decide)).mono ?_; rintro e w' ⟨rfl, rfl⟩)
      go_ret
      exact ⟨ret_int (by rw [HF.out]; rfl), rfl⟩
end Go.Proofs.YtnaopgajinbnmaaGreatDoor
