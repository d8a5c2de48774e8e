/- validPacket and IsPacket. -/
import Derived.Test.YtlimkckomdipkaaText
namespace Go.Proofs.Ytlimkckomdipkaa
open Go.RowKit

theorem pktS_true {s : Int} {p : Pkt} (h1 : textB p.note = true) (h2 : within p.time 0 1000000000000000 = true) (h3 : (p.data.length : Int) ≤ 400) (h4 : s = 0 ∨ (p.data.length : Int) ≤ s) (h5 : within p.real p.data.length 1000000 = true) : pktS s p = true := by
  simp [pktS, h1, h2, h5, h4]; omega
theorem pktS_note {s : Int} {p : Pkt} (h1 : textB p.note = false) : pktS s p = false := by simp [pktS, h1]
theorem pktS_time {s : Int} {p : Pkt} (h1 : within p.time 0 1000000000000000 = false) : pktS s p = false := by simp [pktS, h1]
theorem pktS_data {s : Int} {p : Pkt} (h1 : ¬ ((p.data.length : Int) ≤ 400 ∧ (s = 0 ∨ (p.data.length : Int) ≤ s))) : pktS s p = false := by
  unfold pktS; rw [decide_eq_false h1]; simp
theorem pktS_real {s : Int} {p : Pkt} (h1 : within p.real p.data.length 1000000 = false) : pktS s p = false := by simp [pktS, h1]

set_option maxRecDepth 100000 in
set_option maxHeartbeats 4000000 in
theorem vpkt_any {w : World} {A A2 : Option Addr} {c c2 : Nat} {fs : List Fac} {p : Pkt} (hf : Els 3 FacE w w.heap.size A fs) (hl : fs.length ≤ 140737488355328) (hd : p.data.length ≤ 140737488355328) (hall : fs.all facB = true)
    (hfa : -9223372036854775808 ≤ p.face ∧ p.face ≤ 9223372036854775807) :
    Calls Try.prog 67 #[.agg #[.int .i64 p.time, .int .i64 p.face, .int .i64 p.real, .slice A2 p.data.length c2, .string p.note], .slice A fs.length c] w fun e w' => e = .returned (.bool (pktB fs p)) ∧ Below w.heap.size w w' := by
  cases h0 : within p.face 0 ((fs.length : Int) - 1) with
  | false =>
    have HR : Hid (pktB fs p = false) := Lib.hid (by simp [pktB, h0])
    have h0' := Lib.hid h0
    clear h0
    go_enter Try.func67, Try.ntmps67
    go_wp2_with fail
    refine (within_any _ _ _ _).mono ?_
    rintro e w' ⟨rfl, rfl⟩
    rw [h0'.out]
    go_wp2
    go_ret
    exact ⟨ret_bool HR.out.symm, (Below.refl _ _).alloc (Nat.le_refl _) _⟩
  | true =>
    have hf0 := (within_iff _ _ _).1 h0
    obtain ⟨k, hk⟩ : ∃ k : Nat, p.face = k := ⟨p.face.toNat, by omega⟩
    have hkl : k < fs.length := by omega
    obtain ⟨b, o, hA, hb, vs, hvl, ⟨rfl, _, _, _⟩, hcell⟩ := hf.row k hkl
    have c2 := hcell 2 _ rfl
    have hfac : facB fs[k] = true := List.all_eq_true.1 hall _ (List.getElem_mem hkl)
    have hsn : 0 ≤ fs[k].snap ∧ fs[k].snap ≤ 400 := by
      simp only [facB, Bool.and_eq_true, within_iff] at hfac; omega
    have HR : Hid (pktB fs p = pktS fs[k].snap p) := Lib.hid (by
      unfold pktB; rw [h0, hk]; simp [hkl])
    rw [HR.out]
    obtain ⟨s, hs⟩ : ∃ s, fs[k].snap = s := ⟨_, rfl⟩
    rw [hs] at c2 hsn ⊢
    have h0' := Lib.hid h0
    clear h0 hcell hfac hs HR hf hall
    rw [hk] at h0' hf0 ⊢
    by_cases hz : s = 0
    · subst hz
      cases h1 : textB p.note with
      | false =>
        have HR : Hid (pktS 0 p = false) := Lib.hid (pktS_note h1)
        have H1 := Lib.hid h1
        clear h1
        go_enter Try.func67, Try.ntmps67
        go_wp2_with fail
        refine (within_any _ _ _ _).mono ?_
        rintro e w' ⟨rfl, rfl⟩
        rw [h0'.out]
        go_wp2_with fail
        refine (text_any _ _).mono ?_
        rintro e w1 ⟨rfl, hB⟩
        rw [H1.out]
        obtain ⟨hc, hfz⟩ := bcell hB
        have HB := Lib.hid hB
        clear hB
        go_wp2
        go_ret
        exact ⟨ret_bool HR.out.symm, ((Below.refl _ _).alloc (Nat.le_refl _) _).trans (HB.out.mono (by rw [alloc_size]; omega))⟩
      | true =>
        cases h2 : within p.time 0 1000000000000000 with
        | false =>
          have HR : Hid (pktS 0 p = false) := Lib.hid (pktS_time h2)
          have H1 := Lib.hid h1
          have H2 := Lib.hid h2
          clear h1 h2
          go_enter Try.func67, Try.ntmps67
          go_wp2_with fail
          refine (within_any _ _ _ _).mono ?_
          rintro e w' ⟨rfl, rfl⟩
          rw [h0'.out]
          go_wp2_with fail
          refine (text_any _ _).mono ?_
          rintro e w1 ⟨rfl, hB⟩
          rw [H1.out]
          obtain ⟨hc, hfz⟩ := bcell hB
          have HB := Lib.hid hB
          clear hB
          go_wp2_with fail
          refine (within_any _ _ _ _).mono ?_
          rintro e w' ⟨rfl, rfl⟩
          rw [H2.out]
          go_wp2
          go_ret
          exact ⟨ret_bool HR.out.symm, ((Below.refl _ _).alloc (Nat.le_refl _) _).trans (HB.out.mono (by rw [alloc_size]; omega))⟩
        | true =>
          by_cases h3 : (p.data.length : Int) ≤ 400
          · cases h5 : within p.real p.data.length 1000000 with
            | false =>
              have HR : Hid (pktS 0 p = false) := Lib.hid (pktS_real h5)
              have H1 := Lib.hid h1
              have H2 := Lib.hid h2
              have H5 := Lib.hid h5
              clear h1 h2 h5
              go_enter Try.func67, Try.ntmps67
              go_wp2_with fail
              refine (within_any _ _ _ _).mono ?_
              rintro e w' ⟨rfl, rfl⟩
              rw [h0'.out]
              go_wp2_with fail
              refine (text_any _ _).mono ?_
              rintro e w1 ⟨rfl, hB⟩
              rw [H1.out]
              obtain ⟨hc, hfz⟩ := bcell hB
              have HB := Lib.hid hB
              clear hB
              go_wp2_with fail
              refine (within_any _ _ _ _).mono ?_
              rintro e w' ⟨rfl, rfl⟩
              rw [H2.out]
              go_wp2_with fail
              refine (within_any _ _ _ _).mono ?_
              rintro e w' ⟨rfl, rfl⟩
              rw [H5.out]
              go_wp2
              go_ret
              exact ⟨ret_bool HR.out.symm, ((Below.refl _ _).alloc (Nat.le_refl _) _).trans (HB.out.mono (by rw [alloc_size]; omega))⟩
            | true =>
              have HR : Hid (pktS 0 p = true) := Lib.hid (pktS_true h1 h2 (by omega) (Or.inl rfl) h5)
              have H1 := Lib.hid h1
              have H2 := Lib.hid h2
              have H5 := Lib.hid h5
              clear h1 h2 h5
              go_enter Try.func67, Try.ntmps67
              go_wp2_with fail
              refine (within_any _ _ _ _).mono ?_
              rintro e w' ⟨rfl, rfl⟩
              rw [h0'.out]
              go_wp2_with fail
              refine (text_any _ _).mono ?_
              rintro e w1 ⟨rfl, hB⟩
              rw [H1.out]
              obtain ⟨hc, hfz⟩ := bcell hB
              have HB := Lib.hid hB
              clear hB
              go_wp2_with fail
              refine (within_any _ _ _ _).mono ?_
              rintro e w' ⟨rfl, rfl⟩
              rw [H2.out]
              go_wp2_with fail
              refine (within_any _ _ _ _).mono ?_
              rintro e w' ⟨rfl, rfl⟩
              rw [H5.out]
              go_wp2
              go_ret
              exact ⟨ret_bool HR.out.symm, ((Below.refl _ _).alloc (Nat.le_refl _) _).trans (HB.out.mono (by rw [alloc_size]; omega))⟩
          · have HR : Hid (pktS 0 p = false) := Lib.hid (pktS_data (by omega))
            have H1 := Lib.hid h1
            have H2 := Lib.hid h2
            clear h1 h2
            go_enter Try.func67, Try.ntmps67
            go_wp2_with fail
            refine (within_any _ _ _ _).mono ?_
            rintro e w' ⟨rfl, rfl⟩
            rw [h0'.out]
            go_wp2_with fail
            refine (text_any _ _).mono ?_
            rintro e w1 ⟨rfl, hB⟩
            rw [H1.out]
            obtain ⟨hc, hfz⟩ := bcell hB
            have HB := Lib.hid hB
            clear hB
            go_wp2_with fail
            refine (within_any _ _ _ _).mono ?_
            rintro e w' ⟨rfl, rfl⟩
            rw [H2.out]
            go_wp2
            go_ret
            exact ⟨ret_bool HR.out.symm, ((Below.refl _ _).alloc (Nat.le_refl _) _).trans (HB.out.mono (by rw [alloc_size]; omega))⟩
    · skip
      cases h1 : textB p.note with
      | false =>
        have HR : Hid (pktS s p = false) := Lib.hid (pktS_note h1)
        have H1 := Lib.hid h1
        clear h1
        go_enter Try.func67, Try.ntmps67
        go_wp2_with fail
        refine (within_any _ _ _ _).mono ?_
        rintro e w' ⟨rfl, rfl⟩
        rw [h0'.out]
        go_wp2_with fail
        refine (text_any _ _).mono ?_
        rintro e w1 ⟨rfl, hB⟩
        rw [H1.out]
        obtain ⟨hc, hfz⟩ := bcell hB
        have HB := Lib.hid hB
        clear hB
        go_wp2
        go_ret
        exact ⟨ret_bool HR.out.symm, ((Below.refl _ _).alloc (Nat.le_refl _) _).trans (HB.out.mono (by rw [alloc_size]; omega))⟩
      | true =>
        cases h2 : within p.time 0 1000000000000000 with
        | false =>
          have HR : Hid (pktS s p = false) := Lib.hid (pktS_time h2)
          have H1 := Lib.hid h1
          have H2 := Lib.hid h2
          clear h1 h2
          go_enter Try.func67, Try.ntmps67
          go_wp2_with fail
          refine (within_any _ _ _ _).mono ?_
          rintro e w' ⟨rfl, rfl⟩
          rw [h0'.out]
          go_wp2_with fail
          refine (text_any _ _).mono ?_
          rintro e w1 ⟨rfl, hB⟩
          rw [H1.out]
          obtain ⟨hc, hfz⟩ := bcell hB
          have HB := Lib.hid hB
          clear hB
          go_wp2_with fail
          refine (within_any _ _ _ _).mono ?_
          rintro e w' ⟨rfl, rfl⟩
          rw [H2.out]
          go_wp2
          go_ret
          exact ⟨ret_bool HR.out.symm, ((Below.refl _ _).alloc (Nat.le_refl _) _).trans (HB.out.mono (by rw [alloc_size]; omega))⟩
        | true =>
          by_cases h3 : (p.data.length : Int) ≤ s
          · cases h5 : within p.real p.data.length 1000000 with
            | false =>
              have HR : Hid (pktS s p = false) := Lib.hid (pktS_real h5)
              have H1 := Lib.hid h1
              have H2 := Lib.hid h2
              have H5 := Lib.hid h5
              clear h1 h2 h5
              go_enter Try.func67, Try.ntmps67
              go_wp2_with fail
              refine (within_any _ _ _ _).mono ?_
              rintro e w' ⟨rfl, rfl⟩
              rw [h0'.out]
              go_wp2_with fail
              refine (text_any _ _).mono ?_
              rintro e w1 ⟨rfl, hB⟩
              rw [H1.out]
              obtain ⟨hc, hfz⟩ := bcell hB
              have HB := Lib.hid hB
              clear hB
              go_wp2_with fail
              refine (within_any _ _ _ _).mono ?_
              rintro e w' ⟨rfl, rfl⟩
              rw [H2.out]
              go_wp2_with fail
              refine (within_any _ _ _ _).mono ?_
              rintro e w' ⟨rfl, rfl⟩
              rw [H5.out]
              go_wp2
              go_ret
              exact ⟨ret_bool HR.out.symm, ((Below.refl _ _).alloc (Nat.le_refl _) _).trans (HB.out.mono (by rw [alloc_size]; omega))⟩
            | true =>
              have HR : Hid (pktS s p = true) := Lib.hid (pktS_true h1 h2 (by omega) (Or.inr h3) h5)
              have H1 := Lib.hid h1
              have H2 := Lib.hid h2
              have H5 := Lib.hid h5
              clear h1 h2 h5
              go_enter Try.func67, Try.ntmps67
              go_wp2_with fail
              refine (within_any _ _ _ _).mono ?_
              rintro e w' ⟨rfl, rfl⟩
              rw [h0'.out]
              go_wp2_with fail
              refine (text_any _ _).mono ?_
              rintro e w1 ⟨rfl, hB⟩
              rw [H1.out]
              obtain ⟨hc, hfz⟩ := bcell hB
              have HB := Lib.hid hB
              clear hB
              go_wp2_with fail
              refine (within_any _ _ _ _).mono ?_
              rintro e w' ⟨rfl, rfl⟩
              rw [H2.out]
              go_wp2_with fail
              refine (within_any _ _ _ _).mono ?_
              rintro e w' ⟨rfl, rfl⟩
              rw [H5.out]
              go_wp2
              go_ret
              exact ⟨ret_bool HR.out.symm, ((Below.refl _ _).alloc (Nat.le_refl _) _).trans (HB.out.mono (by rw [alloc_size]; omega))⟩
          · have HR : Hid (pktS s p = false) := Lib.hid (pktS_data (by omega))
            have H1 := Lib.hid h1
            have H2 := Lib.hid h2
            clear h1 h2
            go_enter Try.func67, Try.ntmps67
            go_wp2_with fail
            refine (within_any _ _ _ _).mono ?_
            rintro e w' ⟨rfl, rfl⟩
            rw [h0'.out]
            go_wp2_with fail
            refine (text_any _ _).mono ?_
            rintro e w1 ⟨rfl, hB⟩
            rw [H1.out]
            obtain ⟨hc, hfz⟩ := bcell hB
            have HB := Lib.hid hB
            clear hB
            go_wp2_with fail
            refine (within_any _ _ _ _).mono ?_
            rintro e w' ⟨rfl, rfl⟩
            rw [H2.out]
            go_wp2
            go_ret
            exact ⟨ret_bool HR.out.symm, ((Below.refl _ _).alloc (Nat.le_refl _) _).trans (HB.out.mono (by rw [alloc_size]; omega))⟩
end Go.Proofs.Ytlimkckomdipkaa
