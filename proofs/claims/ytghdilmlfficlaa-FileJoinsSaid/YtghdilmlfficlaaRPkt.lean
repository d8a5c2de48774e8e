/- IsPacket. -/
import Derived.Test.YtghdilmlfficlaaVald
namespace Go.Proofs.Ytghdilmlfficlaa
open Go.RowKit

set_option maxRecDepth 100000 in
set_option maxHeartbeats 4000000 in
theorem rpkt_any {w : World} {A2 : Option Addr} {c2 : Nat} {p : Pkt} (s : Int) (hd : p.data.length ≤ 140737488355328) (hn : p.note.size ≤ 140737488355328) :
    Calls Try.prog 136 #[.agg #[.int .i64 p.time, .int .i64 p.face, .int .i64 p.real, .slice A2 p.data.length c2, .string p.note], .int .i64 s] w fun e w' => e = .returned (.bool (pktS s p)) ∧ Below w.heap.size w w' := by
  by_cases ht : p.time < 0
  · have HR : Hid (pktS s p = false) := Lib.hid (pktS_time (within_false (Or.inl ht)))
    go_enter Try.func136, Try.ntmps136
    go_wp2
    go_ret
    exact ⟨ret_bool (by first | exact HR.out.symm | (rw [HR.out]; simp; omega)), (Below.refl _ _).alloc (Nat.le_refl _) _⟩
  by_cases ht2 : 1000000000000000 < p.time
  · have HR : Hid (pktS s p = false) := Lib.hid (pktS_time (within_false (Or.inr ht2)))
    go_enter Try.func136, Try.ntmps136
    go_wp2
    go_ret
    exact ⟨ret_bool (by first | exact HR.out.symm | (rw [HR.out]; simp; omega)), (Below.refl _ _).alloc (Nat.le_refl _) _⟩
  have HT : Hid (within p.time 0 1000000000000000 = true) := Lib.hid (within_true (by omega) (by omega))
  cases h1 : textB p.note with
  | false =>
    have HR : Hid (pktS s p = false) := Lib.hid (pktS_note h1)
    have H1 := Lib.hid h1
    clear h1
    go_enter Try.func136, Try.ntmps136
    go_wp2_with fail
    refine (rtext_any _ _ hn).mono ?_
    rintro e w' ⟨rfl, rfl⟩
    rw [H1.out]
    go_wp2
    go_ret
    exact ⟨ret_bool (by first | exact HR.out.symm | (rw [HR.out]; simp; omega)), (Below.refl _ _).alloc (Nat.le_refl _) _⟩
  | true =>
    have H1 := Lib.hid h1
    clear h1
    by_cases hl : (400 : Int) < p.data.length
    · have HR : Hid (pktS s p = false) := Lib.hid (pktS_data (by omega))
      go_enter Try.func136, Try.ntmps136
      go_wp2_with fail
      refine (rtext_any _ _ hn).mono ?_
      rintro e w' ⟨rfl, rfl⟩
      rw [H1.out]
      go_wp2
      go_ret
      exact ⟨ret_bool (by first | exact HR.out.symm | (rw [HR.out]; simp; omega)), (Below.refl _ _).alloc (Nat.le_refl _) _⟩
    by_cases hz : s = 0
    · subst hz
      by_cases h5 : p.real < p.data.length
      · have HR : Hid (pktS 0 p = false) := Lib.hid (pktS_real (within_false (Or.inl h5)))
        go_enter Try.func136, Try.ntmps136
        go_wp2_with fail
        refine (rtext_any _ _ hn).mono ?_
        rintro e w' ⟨rfl, rfl⟩
        rw [H1.out]
        go_wp2
        go_ret
        exact ⟨ret_bool (by first | exact HR.out.symm | (rw [HR.out]; simp; omega)), (Below.refl _ _).alloc (Nat.le_refl _) _⟩
      by_cases h6 : 1000000 < p.real
      · have HR : Hid (pktS 0 p = false) := Lib.hid (pktS_real (within_false (Or.inr h6)))
        go_enter Try.func136, Try.ntmps136
        go_wp2_with fail
        refine (rtext_any _ _ hn).mono ?_
        rintro e w' ⟨rfl, rfl⟩
        rw [H1.out]
        go_wp2
        go_ret
        exact ⟨ret_bool (by first | exact HR.out.symm | (rw [HR.out]; simp; omega)), (Below.refl _ _).alloc (Nat.le_refl _) _⟩
      have HR : Hid (pktS 0 p = true) := Lib.hid (pktS_true H1.out HT.out (by omega) (Or.inl rfl) (within_true (by omega) (by omega)))
      go_enter Try.func136, Try.ntmps136
      go_wp2_with fail
      refine (rtext_any _ _ hn).mono ?_
      rintro e w' ⟨rfl, rfl⟩
      rw [H1.out]
      go_wp2
      go_ret
      exact ⟨ret_bool (by first | exact HR.out.symm | (rw [HR.out]; simp; omega)), (Below.refl _ _).alloc (Nat.le_refl _) _⟩
    · by_cases h3 : (p.data.length : Int) ≤ s
      · skip
        by_cases h5 : p.real < p.data.length
        · have HR : Hid (pktS s p = false) := Lib.hid (pktS_real (within_false (Or.inl h5)))
          go_enter Try.func136, Try.ntmps136
          go_wp2_with fail
          refine (rtext_any _ _ hn).mono ?_
          rintro e w' ⟨rfl, rfl⟩
          rw [H1.out]
          go_wp2
          go_ret
          exact ⟨ret_bool (by first | exact HR.out.symm | (rw [HR.out]; simp; omega)), (Below.refl _ _).alloc (Nat.le_refl _) _⟩
        by_cases h6 : 1000000 < p.real
        · have HR : Hid (pktS s p = false) := Lib.hid (pktS_real (within_false (Or.inr h6)))
          go_enter Try.func136, Try.ntmps136
          go_wp2_with fail
          refine (rtext_any _ _ hn).mono ?_
          rintro e w' ⟨rfl, rfl⟩
          rw [H1.out]
          go_wp2
          go_ret
          exact ⟨ret_bool (by first | exact HR.out.symm | (rw [HR.out]; simp; omega)), (Below.refl _ _).alloc (Nat.le_refl _) _⟩
        have HR : Hid (pktS s p = true) := Lib.hid (pktS_true H1.out HT.out (by omega) (Or.inr h3) (within_true (by omega) (by omega)))
        go_enter Try.func136, Try.ntmps136
        go_wp2_with fail
        refine (rtext_any _ _ hn).mono ?_
        rintro e w' ⟨rfl, rfl⟩
        rw [H1.out]
        go_wp2
        go_ret
        exact ⟨ret_bool (by first | exact HR.out.symm | (rw [HR.out]; simp; omega)), (Below.refl _ _).alloc (Nat.le_refl _) _⟩
      · have HR : Hid (pktS s p = false) := Lib.hid (pktS_data (by omega))
        go_enter Try.func136, Try.ntmps136
        go_wp2_with fail
        refine (rtext_any _ _ hn).mono ?_
        rintro e w' ⟨rfl, rfl⟩
        rw [H1.out]
        go_wp2
        go_ret
        exact ⟨ret_bool (by first | exact HR.out.symm | (rw [HR.out]; simp; omega)), (Below.refl _ _).alloc (Nat.le_refl _) _⟩
end Go.Proofs.Ytghdilmlfficlaa
