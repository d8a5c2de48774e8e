/- signSize. -/
import Derived.Test.YtnaopgajinbnmaaGreatDoorSkip
namespace Go.Proofs.YtnaopgajinbnmaaGreatDoor
open Go.RowKit

theorem two_eq (l : List UInt8) : two l = ((l.take 2 == [60, 60]) || (l.take 2 == [62, 62]) || (l.take 2 == [61, 61]) || (l.take 2 == [33, 61]) || (l.take 2 == [60, 61]) || (l.take 2 == [62, 61]) || (l.take 2 == [38, 38]) || (l.take 2 == [124, 124]) || (l.take 2 == [46, 46])) := by
  match l with
  | [] => rfl
  | [c] => simp [two]
  | c :: d :: r =>
    have key : ∀ (c : UInt8) (n : Nat) (hn : n < 256), (c.toNat == n) = (c == UInt8.ofNat n) := fun c n hn => by
      rw [Bool.eq_iff_iff, beq_iff_eq, beq_iff_eq]
      constructor
      · intro h; rw [← h]; simp
      · intro h; rw [h]; simp; omega
    simp [two, key]

set_option maxHeartbeats 4000000 in
theorem sign_any {w : World} (s : ByteArray) (h0 : 0 < s.size) (hz : s.size ≤ 1048576) :
    Calls Tryz.prog 41 #[.string s] w fun e w' => e = .returned (.int .i64 (signL (bl s) : Nat)) ∧ w = w' := by
  obtain ⟨m, hm⟩ : ∃ m : Nat, min (2 : Int) (s.size : Int) = m := ⟨min 2 s.size, by omega⟩
  have hm2 : m ≤ s.size := by omega
  have HT : Hid ((s.extract 0 m).toList = (bl s).take 2) := Lib.hid (by
    rw [Lib.toList_data]
    show bl _ = _
    rw [bl_to]
    by_cases h : s.size < 2
    · rw [List.take_of_length_le (by rw [bl_len]; omega), List.take_of_length_le (by rw [bl_len]; omega)]
    · rw [show m = 2 by omega])
  cases t0 : ((s.extract 0 m).toList == [60, 60]) with
  | true =>
    have HF : Hid (signL (bl s) = 2) := Lib.hid (by unfold signL; rw [two_eq, ← HT.out, t0]; simp)
    go_enter Tryz.func41, Tryz.ntmps41
    go_wp2
    go_ret
    exact ⟨ret_int (by rw [HF.out]; rfl), rfl⟩
  | false =>
    cases t1 : ((s.extract 0 m).toList == [62, 62]) with
    | true =>
      have HF : Hid (signL (bl s) = 2) := Lib.hid (by unfold signL; rw [two_eq, ← HT.out, t1]; simp)
      go_enter Tryz.func41, Tryz.ntmps41
      go_wp2
      go_ret
      exact ⟨ret_int (by rw [HF.out]; rfl), rfl⟩
    | false =>
      cases t2 : ((s.extract 0 m).toList == [61, 61]) with
      | true =>
        have HF : Hid (signL (bl s) = 2) := Lib.hid (by unfold signL; rw [two_eq, ← HT.out, t2]; simp)
        go_enter Tryz.func41, Tryz.ntmps41
        go_wp2
        go_ret
        exact ⟨ret_int (by rw [HF.out]; rfl), rfl⟩
      | false =>
        cases t3 : ((s.extract 0 m).toList == [33, 61]) with
        | true =>
          have HF : Hid (signL (bl s) = 2) := Lib.hid (by unfold signL; rw [two_eq, ← HT.out, t3]; simp)
          go_enter Tryz.func41, Tryz.ntmps41
          go_wp2
          go_ret
          exact ⟨ret_int (by rw [HF.out]; rfl), rfl⟩
        | false =>
          cases t4 : ((s.extract 0 m).toList == [60, 61]) with
          | true =>
            have HF : Hid (signL (bl s) = 2) := Lib.hid (by unfold signL; rw [two_eq, ← HT.out, t4]; simp)
            go_enter Tryz.func41, Tryz.ntmps41
            go_wp2
            go_ret
            exact ⟨ret_int (by rw [HF.out]; rfl), rfl⟩
          | false =>
            cases t5 : ((s.extract 0 m).toList == [62, 61]) with
            | true =>
              have HF : Hid (signL (bl s) = 2) := Lib.hid (by unfold signL; rw [two_eq, ← HT.out, t5]; simp)
              go_enter Tryz.func41, Tryz.ntmps41
              go_wp2
              go_ret
              exact ⟨ret_int (by rw [HF.out]; rfl), rfl⟩
            | false =>
              cases t6 : ((s.extract 0 m).toList == [38, 38]) with
              | true =>
                have HF : Hid (signL (bl s) = 2) := Lib.hid (by unfold signL; rw [two_eq, ← HT.out, t6]; simp)
                go_enter Tryz.func41, Tryz.ntmps41
                go_wp2
                go_ret
                exact ⟨ret_int (by rw [HF.out]; rfl), rfl⟩
              | false =>
                cases t7 : ((s.extract 0 m).toList == [124, 124]) with
                | true =>
                  have HF : Hid (signL (bl s) = 2) := Lib.hid (by unfold signL; rw [two_eq, ← HT.out, t7]; simp)
                  go_enter Tryz.func41, Tryz.ntmps41
                  go_wp2
                  go_ret
                  exact ⟨ret_int (by rw [HF.out]; rfl), rfl⟩
                | false =>
                  cases t8 : ((s.extract 0 m).toList == [46, 46]) with
                  | true =>
                    have HF : Hid (signL (bl s) = 2) := Lib.hid (by unfold signL; rw [two_eq, ← HT.out, t8]; simp)
                    go_enter Tryz.func41, Tryz.ntmps41
                    go_wp2
                    go_ret
                    exact ⟨ret_int (by rw [HF.out]; rfl), rfl⟩
                  | false =>
                    have HF : Hid (signL (bl s) = 1) := Lib.hid (by unfold signL; rw [two_eq, ← HT.out, t0, t1, t2, t3, t4, t5, t6, t7, t8]; rfl)
                    go_enter Tryz.func41, Tryz.ntmps41
                    go_wp2
                    go_ret
                    exact ⟨ret_int (by rw [HF.out]; rfl), rfl⟩
end Go.Proofs.YtnaopgajinbnmaaGreatDoor
