/- The laws BitsSigns and BitsMends, walked: for every input they return true, and nothing that lay has turned. -/
import Derived.Test.YtbgkkaecpmgnoaaDoorKnown
namespace Go.Proofs.YtbgkkaecpmgnoaaDoor
open Go.RowKit

set_option maxHeartbeats 1000000 in
theorem signs_law (v n : Int) (w : World) (hT : Tab w) (h0 : 0 < w.heap.size) :
    Calls Tryd.prog 6 #[.int .i64 v, .int .i64 n] w fun e w' => e = .returned (.bool true) ∧ Below w.heap.size w w' := by
  have HT := Lib.hid hT
  clear hT
  by_cases hn : n < 1 ∨ 48 < n
  · have HN := Lib.hid hn
    clear hn
    go_enter Tryd.func6, Tryd.ntmps6
    go_wp2_with fail
    refine (signed_arg v n _ HN.out).mono ?_; rintro e w' ⟨rfl, rfl⟩
    go_wp2_with fail
    refine (rsigned_arg v n _ HN.out).mono ?_; rintro e w' ⟨rfl, rfl⟩
    go_wp2_with fail
    refine (known_any _ HT.out h0).mono ?_; rintro e w' ⟨rfl, hB⟩
    go_wp2
    go_ret
    exact ⟨rfl, hB⟩
  · obtain ⟨m, rfl⟩ : ∃ m : Nat, n = (m : Int) + 1 := ⟨(n - 1).toNat, by omega⟩
    have hm : m + 1 ≤ 48 := by omega
    clear hn
    by_cases hf : fitB v (m + 1) = true
    · have HF := Lib.hid hf
      clear hf
      obtain ⟨R, hR⟩ : ∃ R : Int, (if 2 ^ m ≤ v then v - 2 ^ (m + 1) else v) = R := ⟨_, rfl⟩
      have h1 := signed_ok v m w hm HF.out
      have h2 := rsigned_ok v m w hm HF.out
      rw [hR] at h1 h2
      have H1 := Lib.hid h1
      have H2 := Lib.hid h2
      clear h1 h2 hR
      go_enter Tryd.func6, Tryd.ntmps6
      go_wp2_with fail
      refine H1.out.mono ?_; rintro e w' ⟨rfl, rfl⟩
      go_wp2_with fail
      refine H2.out.mono ?_; rintro e w' ⟨rfl, rfl⟩
      go_wp2_with fail
      refine (known_any _ HT.out h0).mono ?_; rintro e w' ⟨rfl, hB⟩
      go_wp2
      go_ret
      exact ⟨rfl, hB⟩
    · have HF : Hid (fitB v (m + 1) = false) := Lib.hid (by simpa using hf)
      clear hf
      go_enter Tryd.func6, Tryd.ntmps6
      go_wp2_with fail
      refine (signed_fit v m _ hm HF.out).mono ?_; rintro e w' ⟨rfl, rfl⟩
      go_wp2_with fail
      refine (rsigned_fit v m _ hm HF.out).mono ?_; rintro e w' ⟨rfl, rfl⟩
      go_wp2_with fail
      refine (known_any _ HT.out h0).mono ?_; rintro e w' ⟨rfl, hB⟩
      go_wp2
      go_ret
      exact ⟨rfl, hB⟩

set_option maxHeartbeats 1000000 in
theorem mends_law (s a n : Int) (w : World) (hs : -9223372036854775808 ≤ s ∧ s ≤ 9223372036854775807) (ha : -9223372036854775808 ≤ a ∧ a ≤ 9223372036854775807) (hn : -9223372036854775808 ≤ n ∧ n ≤ 9223372036854775807)
    (hT : Tab w) (h0 : 0 < w.heap.size) :
    Calls Tryd.prog 9 #[.int .i64 s, .int .i64 a, .int .i64 n] w fun e w' => e = .returned (.bool true) ∧ Below w.heap.size w w' := by
  have H1 := Lib.hid (mend_any s a n w hs ha)
  have H2 := Lib.hid (rmend_any s a n w hs ha hn)
  have HT := Lib.hid hT
  clear hT hs ha hn
  go_enter Tryd.func9, Tryd.ntmps9
  go_wp2_with fail
  refine H1.out.mono ?_; rintro e w' ⟨rfl, rfl⟩
  go_wp2_with fail
  refine H2.out.mono ?_; rintro e w' ⟨rfl, rfl⟩
  go_wp2_with fail
  refine (known_any _ HT.out h0).mono ?_; rintro e w' ⟨rfl, hB⟩
  go_wp2
  go_ret
  exact ⟨rfl, hB⟩
end Go.Proofs.YtbgkkaecpmgnoaaDoor
