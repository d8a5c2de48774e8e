/- validPacket and IsPacket. -/
import Derived.Test.YtghdilmlfficlaaAdd
namespace Go.Proofs.Ytghdilmlfficlaa
open Go.RowKit

theorem pktS_true {s : Int} {p : Pkt} (h1 : textB p.note = true) (h2 : within p.time 0 1000000000000000 = true) (h3 : (p.data.length : Int) ≤ 400) (h4 : s = 0 ∨ (p.data.length : Int) ≤ s) (h5 : within p.real p.data.length 1000000 = true) : pktS s p = true := by
  simp [pktS, h1, h2, h5, h4]; omega
theorem pktS_note {s : Int} {p : Pkt} (h1 : textB p.note = false) : pktS s p = false := by simp [pktS, h1]
theorem pktS_time {s : Int} {p : Pkt} (h1 : within p.time 0 1000000000000000 = false) : pktS s p = false := by simp [pktS, h1]
theorem pktS_data {s : Int} {p : Pkt} (h1 : ¬ ((p.data.length : Int) ≤ 400 ∧ (s = 0 ∨ (p.data.length : Int) ≤ s))) : pktS s p = false := by
  unfold pktS; rw [decide_eq_false h1]; simp
theorem pktS_real {s : Int} {p : Pkt} (h1 : within p.real p.data.length 1000000 = false) : pktS s p = false := by simp [pktS, h1]

set_option maxRecDepth 100000 in
set_option maxHeartbeats 4000000 in
theorem vpkt_any {w : World} {A A2 : Option Addr} {c c2 : Nat} {fs : List Fac} {p : Pkt} (hf : Els 3 FacE w w.heap.size A fs) (hl : fs.length ≤ 140737488355328) (hd : p.data.length ≤ 140737488355328) (hall : fs.all facB = true)
    (hfa : -9223372036854775808 ≤ p.face ∧ p.face ≤ 9223372036854775807) :
    Calls Try.prog 139 #[.agg #[.int .i64 p.time, .int .i64 p.face, .int .i64 p.real, .slice A2 p.data.length c2, .string p.note], .slice A fs.length c] w fun e w' => e = .returned (.bool (pktB fs p)) ∧ Below w.heap.size w w' := by
  cases h0 : within p.face 0 ((fs.length : Int) - 1) with
  | false =>
    have HR : Hid (pktB fs p = false) := Lib.hid (by simp [pktB, h0])
    have h0' := Lib.hid h0
    clear h0
    go_enter Try.func139, Try.ntmps139
    go_wp2_with fail
    refine (within_any _ _ _ _).mono ?_
    rintro e w' ⟨rfl, rfl⟩
    rw [h0'.out]
    go_wp2
    go_ret
    exact ⟨ret_bool HR.out.symm, (Below.refl _ _).alloc (Nat.le_refl _) _⟩
  | true =>
    have hf0 := (within_iff _ _ _).1 h0
    obtain ⟨k, hk⟩ : ∃ k : Nat, p.face = k := ⟨p.face.toNat, by omega⟩
    have hkl : k < fs.length := by omega
    obtain ⟨b, o, hA, hb, vs, hvl, ⟨rfl, _, _, _⟩, hcell⟩ := hf.row k hkl
    have c2 := hcell 2 _ rfl
    have hfac : facB fs[k] = true := List.all_eq_true.1 hall _ (List.getElem_mem hkl)
    have hsn : 0 ≤ fs[k].snap ∧ fs[k].snap ≤ 400 := by
      simp only [facB, Bool.and_eq_true, within_iff] at hfac; omega
    have HR : Hid (pktB fs p = pktS fs[k].snap p) := Lib.hid (by
      unfold pktB; rw [h0, hk]; simp [hkl])
    rw [HR.out]
    obtain ⟨s, hs⟩ : ∃ s, fs[k].snap = s := ⟨_, rfl⟩
    rw [hs] at c2 hsn ⊢
    have h0' := Lib.hid h0
    clear h0 hcell hfac hs HR hf hall
    rw [hk] at h0' hf0 ⊢
    by_cases hz : s = 0
    · subst hz
      cases h1 : textB p.note with
      | false =>
        have HR : Hid (pktS 0 p = false) := Lib.hid (pktS_note h1)
        have H1 := Lib.hid h1
        clear h1
        go_enter Try.func139, Try.ntmps139
        go_wp2_with fail
        refine (within_any _ _ _ _).mono ?_
        rintro e w' ⟨rfl, rfl⟩
        rw [h0'.out]
        go_wp2_with fail
        refine (text_any _ _).mono ?_
        rintro e w1 ⟨rfl, hB⟩
        rw [H1.out]
        obtain ⟨hc, hfz⟩ := bcell hB
        have HB := Lib.hid hB
        clear hB
        go_wp2
        go_ret
        exact ⟨ret_bool HR.out.symm, ((Below.refl _ _).alloc (Nat.le_refl _) _).trans (HB.out.mono (by rw [alloc_size]; omega))⟩
      | true =>
        cases h2 : within p.time 0 1000000000000000 with
        | false =>
          have HR : Hid (pktS 0 p = false) := Lib.hid (pktS_time h2)
          have H1 := Lib.hid h1
          have H2 := Lib.hid h2
          clear h1 h2
          go_enter Try.func139, Try.ntmps139
          go_wp2_with fail
          refine (within_any _ _ _ _).mono ?_
          rintro e w' ⟨rfl, rfl⟩
          rw [h0'.out]
          go_wp2_with fail
          refine (text_any _ _).mono ?_
          rintro e w1 ⟨rfl, hB⟩
          rw [H1.out]
          obtain ⟨hc, hfz⟩ := bcell hB
          have HB := Lib.hid hB
          clear hB
          go_wp2_with fail
          refine (within_any _ _ _ _).mono ?_
          rintro e w' ⟨rfl, rfl⟩
          rw [H2.out]
          go_wp2
          go_ret
          exact ⟨ret_bool HR.out.symm, ((Below.refl _ _).alloc (Nat.le_refl _) _).trans (HB.out.mono (by rw [alloc_size]; omega))⟩
        | true =>
          by_cases h3 : (p.data.length : Int) ≤ 400
          · cases h5 : within p.real p.data.length 1000000 with
            | false =>
              have HR : Hid (pktS 0 p = false) := Lib.hid (pktS_real h5)
              have H1 := Lib.hid h1
              have H2 := Lib.hid h2
              have H5 := Lib.hid h5
              clear h1 h2 h5
              go_enter Try.func139, Try.ntmps139
              go_wp2_with fail
              refine (within_any _ _ _ _).mono ?_
              rintro e w' ⟨rfl, rfl⟩
              rw [h0'.out]
              go_wp2_with fail
              refine (text_any _ _).mono ?_
              rintro e w1 ⟨rfl, hB⟩
              rw [H1.out]
              obtain ⟨hc, hfz⟩ := bcell hB
              have HB := Lib.hid hB
              clear hB
              go_wp2_with fail
              refine (within_any _ _ _ _).mono ?_
              rintro e w' ⟨rfl, rfl⟩
              rw [H2.out]
              go_wp2_with fail
              refine (within_any _ _ _ _).mono ?_
              rintro e w' ⟨rfl, rfl⟩
              rw [H5.out]
              go_wp2
              go_ret
              exact ⟨ret_bool HR.out.symm, ((Below.refl _ _).alloc (Nat.le_refl _) _).trans (HB.out.mono (by rw [alloc_size]; omega))⟩
            | true =>
              have HR : Hid (pktS 0 p = true) := Lib.hid (pktS_true h1 h2 (by omega) (Or.inl rfl) h5)
              have H1 := Lib.hid h1
              have H2 := Lib.hid h2
              have H5 := Lib.hid h5
              clear h1 h2 h5
              go_enter Try.func139, Try.ntmps139
              go_wp2_with fail
              refine (within_any _ _ _ _).mono ?_
              rintro e w' ⟨rfl, rfl⟩
              rw [h0'.out]
              go_wp2_with fail
              refine (text_any _ _).mono ?_
              rintro e w1 ⟨rfl, hB⟩
              rw [H1.out]
              obtain ⟨hc, hfz⟩ := bcell hB
              have HB := Lib.hid hB
              clear hB
              go_wp2_with fail
              refine (within_any _ _ _ _).mono ?_
              rintro e w' ⟨rfl, rfl⟩
              rw [H2.out]
              go_wp2_with fail
              refine (within_any _ _ _ _).mono ?_
              rintro e w' ⟨rfl, rfl⟩
              rw [H5.out]
              go_wp2
              go_ret
              exact ⟨ret_bool HR.out.symm, ((Below.refl _ _).alloc (Nat.le_refl _) _).trans (HB.out.mono (by rw [alloc_size]; omega))⟩
          · have HR : Hid (pktS 0 p = false) := Lib.hid (pktS_data (by omega))
            have H1 := Lib.hid h1
            have H2 := Lib.hid h2
            clear h1 h2
            go_enter Try.func139, Try.ntmps139
            go_wp2_with fail
            refine (within_any _ _ _ _).mono ?_
            rintro e w' ⟨rfl, rfl⟩
            rw [h0'.out]
            go_wp2_with fail
            refine (text_any _ _).mono ?_
            rintro e w1 ⟨rfl, hB⟩
            rw [H1.out]
            obtain ⟨hc, hfz⟩ := bcell hB
            have HB := Lib.hid hB
            clear hB
            go_wp2_with fail
            refine (within_any _ _ _ _).mono ?_
            rintro e w' ⟨rfl, rfl⟩
            rw [H2.out]
            go_wp2
            go_ret
            exact ⟨ret_bool HR.out.symm, ((Below.refl _ _).alloc (Nat.le_refl _) _).trans (HB.out.mono (by rw [alloc_size]; omega))⟩
    · skip
      cases h1 : textB p.note with
      | false =>
        have HR : Hid (pktS s p = false) := Lib.hid (pktS_note h1)
        have H1 := Lib.hid h1
        clear h1
        go_enter Try.func139, Try.ntmps139
        go_wp2_with fail
        refine (within_any _ _ _ _).mono ?_
        rintro e w' ⟨rfl, rfl⟩
        rw [h0'.out]
        go_wp2_with fail
        refine (text_any _ _).mono ?_
        rintro e w1 ⟨rfl, hB⟩
        rw [H1.out]
        obtain ⟨hc, hfz⟩ := bcell hB
        have HB := Lib.hid hB
        clear hB
        go_wp2
        go_ret
        exact ⟨ret_bool HR.out.symm, ((Below.refl _ _).alloc (Nat.le_refl _) _).trans (HB.out.mono (by rw [alloc_size]; omega))⟩
      | true =>
        cases h2 : within p.time 0 1000000000000000 with
        | false =>
          have HR : Hid (pktS s p = false) := Lib.hid (pktS_time h2)
          have H1 := Lib.hid h1
          have H2 := Lib.hid h2
          clear h1 h2
          go_enter Try.func139, Try.ntmps139
          go_wp2_with fail
          refine (within_any _ _ _ _).mono ?_
          rintro e w' ⟨rfl, rfl⟩
          rw [h0'.out]
          go_wp2_with fail
          refine (text_any _ _).mono ?_
          rintro e w1 ⟨rfl, hB⟩
          rw [H1.out]
          obtain ⟨hc, hfz⟩ := bcell hB
          have HB := Lib.hid hB
          clear hB
          go_wp2_with fail
          refine (within_any _ _ _ _).mono ?_
          rintro e w' ⟨rfl, rfl⟩
          rw [H2.out]
          go_wp2
          go_ret
          exact ⟨ret_bool HR.out.symm, ((Below.refl _ _).alloc (Nat.le_refl _) _).trans (HB.out.mono (by rw [alloc_size]; omega))⟩
        | true =>
          by_cases h3 : (p.data.length : Int) ≤ s
          · cases h5 : within p.real p.data.length 1000000 with
            | false =>
              have HR : Hid (pktS s p = false) := Lib.hid (pktS_real h5)
              have H1 := Lib.hid h1
              have H2 := Lib.hid h2
              have H5 := Lib.hid h5
              clear h1 h2 h5
              go_enter Try.func139, Try.ntmps139
              go_wp2_with fail
              refine (within_any _ _ _ _).mono ?_
              rintro e w' ⟨rfl, rfl⟩
              rw [h0'.out]
              go_wp2_with fail
              refine (text_any _ _).mono ?_
              rintro e w1 ⟨rfl, hB⟩
              rw [H1.out]
              obtain ⟨hc, hfz⟩ := bcell hB
              have HB := Lib.hid hB
              clear hB
              go_wp2_with fail
              refine (within_any _ _ _ _).mono ?_
              rintro e w' ⟨rfl, rfl⟩
              rw [H2.out]
              go_wp2_with fail
              refine (within_any _ _ _ _).mono ?_
              rintro e w' ⟨rfl, rfl⟩
              rw [H5.out]
              go_wp2
              go_ret
              exact ⟨ret_bool HR.out.symm, ((Below.refl _ _).alloc (Nat.le_refl _) _).trans (HB.out.mono (by rw [alloc_size]; omega))⟩
            | true =>
              have HR : Hid (pktS s p = true) := Lib.hid (pktS_true h1 h2 (by omega) (Or.inr h3) h5)
              have H1 := Lib.hid h1
              have H2 := Lib.hid h2
              have H5 := Lib.hid h5
              clear h1 h2 h5
              go_enter Try.func139, Try.ntmps139
              go_wp2_with fail
              refine (within_any _ _ _ _).mono ?_
              rintro e w' ⟨rfl, rfl⟩
              rw [h0'.out]
              go_wp2_with fail
              refine (text_any _ _).mono ?_
              rintro e w1 ⟨rfl, hB⟩
              rw [H1.out]
              obtain ⟨hc, hfz⟩ := bcell hB
              have HB := Lib.hid hB
              clear hB
              go_wp2_with fail
              refine (within_any _ _ _ _).mono ?_
              rintro e w' ⟨rfl, rfl⟩
              rw [H2.out]
              go_wp2_with fail
              refine (within_any _ _ _ _).mono ?_
              rintro e w' ⟨rfl, rfl⟩
              rw [H5.out]
              go_wp2
              go_ret
              exact ⟨ret_bool HR.out.symm, ((Below.refl _ _).alloc (Nat.le_refl _) _).trans (HB.out.mono (by rw [alloc_size]; omega))⟩
          · have HR : Hid (pktS s p = false) := Lib.hid (pktS_data (by omega))
            have H1 := Lib.hid h1
            have H2 := Lib.hid h2
            clear h1 h2
            go_enter Try.func139, Try.ntmps139
            go_wp2_with fail
            refine (within_any _ _ _ _).mono ?_
            rintro e w' ⟨rfl, rfl⟩
            rw [h0'.out]
            go_wp2_with fail
            refine (text_any _ _).mono ?_
            rintro e w1 ⟨rfl, hB⟩
            rw [H1.out]
            obtain ⟨hc, hfz⟩ := bcell hB
            have HB := Lib.hid hB
            clear hB
            go_wp2_with fail
            refine (within_any _ _ _ _).mono ?_
            rintro e w' ⟨rfl, rfl⟩
            rw [H2.out]
            go_wp2
            go_ret
            exact ⟨ret_bool HR.out.symm, ((Below.refl _ _).alloc (Nat.le_refl _) _).trans (HB.out.mono (by rw [alloc_size]; omega))⟩
end Go.Proofs.Ytghdilmlfficlaa
/- valid and Validate: the program's. -/
namespace Go.Proofs.Ytghdilmlfficlaa
open Go.RowKit

theorem capB_faces {c : Cap} (h : c.faces.all facB = false) : capB c = false := by simp [capB, partsB, h]
theorem capB_names {c : Cap} (h : c.names.all namB = false) : capB c = false := by simp [capB, partsB, h]
theorem capB_secs {c : Cap} (h : c.secs.all secB = false) : capB c = false := by simp [capB, partsB, h]
theorem capB_pkts {c : Cap} (h : c.pkts.all (pktB c.faces) = false) : capB c = false := by simp [capB, partsB, h]
theorem capB_note {c : Cap} (h : textB c.note = false) : capB c = false := by simp [capB, h]
theorem capB_none {c : Cap} (h : c.faces.length = 0) : capB c = false := by simp [capB, h]
theorem capB_true {c : Cap} (h0 : 0 < c.faces.length) (h : textB c.note = true) (h1 : c.faces.all facB = true) (h2 : c.names.all namB = true) (h3 : c.secs.all secB = true) (h4 : c.pkts.all (pktB c.faces) = true) : capB c = true := by
  simp only [capB, partsB, h, h1, h2, h3, h4, Bool.and_true, decide_eq_true h0]
theorem facB_name {f : Fac} (h : textB f.name = false) : facB f = false := by simp [facB, h]
theorem facB_link {f : Fac} (h : within f.link 0 65535 = false) : facB f = false := by simp [facB, h]
theorem facB_snap {f : Fac} (h : within f.snap 0 400 = false) : facB f = false := by simp [facB, h]
theorem facB_true {f : Fac} (h1 : textB f.name = true) (h2 : within f.link 0 65535 = true) (h3 : within f.snap 0 400 = true) : facB f = true := by simp [facB, h1, h2, h3]
theorem namB_text {x : Nam} (h : textB x.text = false) : namB x = false := by simp [namB, h]
theorem namB_addr {x : Nam} (h : within x.addr.length 1 16 = false) : namB x = false := by simp [namB, h]
theorem namB_true {x : Nam} (h1 : textB x.text = true) (h2 : within x.addr.length 1 16 = true) : namB x = true := by simp [namB, h1, h2]
theorem secB_text {x : Sec} (h : textB x.label = false) : secB x = false := by simp [secB, h]
theorem secB_empty {x : Sec} (h : ¬ 0 < x.label.size) : secB x = false := by simp only [secB, decide_eq_false h, Bool.false_and, Bool.and_false]
theorem secB_key {x : Sec} (h : within x.key.length 1 200 = false) : secB x = false := by simp [secB, h]
theorem secB_true {x : Sec} (h1 : textB x.label = true) (h0 : 0 < x.label.size) (h2 : within x.key.length 1 200 = true) : secB x = true := by simp only [secB, h1, h2, decide_eq_true h0, Bool.and_true]

theorem size_toList (s : ByteArray) : s.toList.length = s.size := by
  rw [ByteArray.toList_eq]; exact Array.length_toList
theorem notEmpty {s : ByteArray} (h : 0 < s.size) : s.toList.isEmpty = false := by
  have : s.toList.length = s.size := size_toList s
  cases hl : s.toList with
  | nil => rw [hl] at this; simp at this; omega
  | cons a l => rfl
theorem isEmpty {s : ByteArray} (h : ¬ 0 < s.size) : s.toList.isEmpty = true := by
  have : s.toList.length = s.size := size_toList s
  cases hl : s.toList with
  | nil => rfl
  | cons a l => rw [hl] at this; simp at this; omega

set_option maxRecDepth 100000 in
set_option maxHeartbeats 16000000 in
theorem valid_any {w : World} {p : Pl} {c : Cap} (hm : CapM w w.heap.size p c) :
    Calls Try.prog 105 #[capV p c] w fun e w' => e = .returned (.bool (capB c)) ∧ Below w.heap.size w w' := by
  obtain ⟨pf, cf, pn, cn, ps, cs, pp, cp⟩ := p
  by_cases hz : c.faces.length = 0
  · have HR := Lib.hid (capB_none hz)
    go_enter Try.func105, Try.ntmps105
    go_wp2
    go_ret
    exact ⟨ret_bool HR.out.symm, (Below.refl _ _).alloc (Nat.le_refl _) _⟩
  obtain ⟨B, hB⟩ : ∃ B, w.heap.size = B := ⟨_, rfl⟩
  have HB := Lib.hid hB
  have lf : c.faces.length ≤ 140737488355328 := by have := hm.lf; omega
  have ln : c.names.length ≤ 140737488355328 := by have := hm.ln; omega
  have ls : c.secs.length ≤ 140737488355328 := by have := hm.ls; omega
  have lp : c.pkts.length ≤ 140737488355328 := by have := hm.lp; omega
  have HM := Lib.hid hm
  have hnote := hm.note
  rw [hB] at HM
  clear hB hm
  cases h0 : textB c.note with
  | false =>
    have HR := Lib.hid (capB_note h0)
    have H0 := Lib.hid h0
    clear h0
    go_enter Try.func105, Try.ntmps105
    go_wp2_with fail
    refine (text_any _ _).mono ?_
    rintro e w1 ⟨rfl, hB⟩
    rw [H0.out]
    have HB1 := Lib.hid hB
    clear hB
    go_wp2
    go_ret
    exact ⟨ret_bool HR.out.symm, ((Below.refl _ _).alloc (Nat.le_refl _) _).trans (HB1.out.mono (by rw [alloc_size]; omega))⟩
  | true =>
    have H0 := Lib.hid h0
    have hz0 : ((c.faces.length : Int) == 0) = false := by rw [beq_eq_false_iff_ne]; omega
    clear h0
    go_enter Try.func105, Try.ntmps105
    go_wp2_with fail
    refine (text_any _ _).mono ?_
    rintro e w1 ⟨rfl, hB⟩
    rw [H0.out]
    have HB1 := Lib.hid hB
    obtain ⟨hc1, hf1⟩ := bcell hB
    clear hB
    go_wp2
    have HW0 : Hid (Blk w1 B 31 (capV ⟨pf, cf, pn, cn, ps, cs, pp, cp⟩ c).cells ∧ Below B w w1) := Lib.hid ⟨by rw [← HB.out]; exact (Blk.new _ _ _).below HB1.out (by rw [alloc_size]; omega), ((Below.refl _ _).alloc (by rw [HB.out]; omega) _).trans (HB1.out.mono (by rw [alloc_size, HB.out]; omega))⟩
    clear hc1 hf1 HB1
    rw [HB.out]
    go_loopw [24] (fun i wr => ∃ k : Nat, i = .int .i64 k ∧ k ≤ c.faces.length ∧ Hid ((c.faces.take k).all facB = true) ∧ Hid (Blk wr B 31 (capV ⟨pf, cf, pn, cn, ps, cs, pp, cp⟩ c).cells ∧ Below B w wr)) (fun i _ => c.faces.length - (intOf i).toNat)
    case atStart => exact ⟨0, rfl, Nat.zero_le _, Lib.hid (by simp), HW0⟩
    case round =>
      obtain ⟨k, rfl, hk, HA, HW⟩ := hrel
      have hbc1 := HW.out.1.cell 1
      have hbc2 := HW.out.1.cell 2
      have hbc3 := HW.out.1.cell 3
      have hbc4 := HW.out.1.cell 4
      have hBl := HW.out.1.lt
      by_cases hlt : k < c.faces.length
      · obtain ⟨b, o, hA, hb, vs, hl, ⟨rfl, hbig, _, _⟩, hcell⟩ := (HM.out.faces.keep facK HW.out.2 (Nat.le_refl _)).row k hlt
        change pf = _ at hA
        subst hA
        have c0 : wr.cell? ⟨b, o + k * 3, none⟩ = _ := hcell 0 _ rfl
        have c1 := hcell 1 _ rfl
        have c2 := hcell 2 _ rfl
        clear hcell
        cases h1 : textB c.faces[k].name with
        | false =>
          have HR : Hid (capB c = false) := Lib.hid (capB_faces (all_false _ _ k hlt (facB_name h1)))
          have H1 := Lib.hid h1
          clear h1
          go_wp2_with fail
          refine (text_any _ _).mono ?_
          rintro e w1 ⟨rfl, hB1⟩
          rw [H1.out]
          obtain ⟨hc1, hf1⟩ := bcell hB1
          have HW1 := Lib.hid (round_keep HW.out hB1)
          clear hB1

          go_wp2
          go_ret
          exact ⟨ret_bool HR.out.symm, by rw [HB.out]; exact HW1.out.2⟩

        | true =>
          have H1 := Lib.hid h1
          clear h1
          cases h2 : within c.faces[k].link 0 65535 with
          | false =>
            have HR : Hid (capB c = false) := Lib.hid (capB_faces (all_false _ _ k hlt (facB_link h2)))
            have H2 := Lib.hid h2
            clear h2
            go_wp2_with fail
            refine (text_any _ _).mono ?_
            rintro e w1 ⟨rfl, hB1⟩
            rw [H1.out]
            obtain ⟨hc1, hf1⟩ := bcell hB1
            have HW1 := Lib.hid (round_keep HW.out hB1)
            clear hB1

            go_wp2_with fail
            refine (within_any _ _ _ _).mono ?_
            rintro e w' ⟨rfl, rfl⟩
            rw [H2.out]

            go_wp2
            go_ret
            exact ⟨ret_bool HR.out.symm, by rw [HB.out]; exact HW1.out.2⟩

          | true =>
            have H2 := Lib.hid h2
            clear h2
            cases h3 : within c.faces[k].snap 0 400 with
            | false =>
              have HR : Hid (capB c = false) := Lib.hid (capB_faces (all_false _ _ k hlt (facB_snap h3)))
              have H3 := Lib.hid h3
              clear h3
              go_wp2_with fail
              refine (text_any _ _).mono ?_
              rintro e w1 ⟨rfl, hB1⟩
              rw [H1.out]
              obtain ⟨hc1, hf1⟩ := bcell hB1
              have HW1 := Lib.hid (round_keep HW.out hB1)
              clear hB1

              go_wp2_with fail
              refine (within_any _ _ _ _).mono ?_
              rintro e w' ⟨rfl, rfl⟩
              rw [H2.out]

              go_wp2_with fail
              refine (within_any _ _ _ _).mono ?_
              rintro e w' ⟨rfl, rfl⟩
              rw [H3.out]

              go_wp2
              go_ret
              exact ⟨ret_bool HR.out.symm, by rw [HB.out]; exact HW1.out.2⟩

            | true =>
              have H3 := Lib.hid h3
              clear h3
              have HP : Hid (facB c.faces[k] = true) := Lib.hid (facB_true H1.out H2.out H3.out)
              go_wp2_with fail
              refine (text_any _ _).mono ?_
              rintro e w1 ⟨rfl, hB1⟩
              rw [H1.out]
              obtain ⟨hc1, hf1⟩ := bcell hB1
              have HW1 := Lib.hid (round_keep HW.out hB1)
              clear hB1

              go_wp2_with fail
              refine (within_any _ _ _ _).mono ?_
              rintro e w' ⟨rfl, rfl⟩
              rw [H2.out]

              go_wp2_with fail
              refine (within_any _ _ _ _).mono ?_
              rintro e w' ⟨rfl, rfl⟩
              rw [H3.out]

              go_wp2
              go_roundw
              case rel => exact ⟨k + 1, by go_num, by omega, Lib.hid (by rw [all_take_succ _ _ k hlt, HA.out, HP.out]; rfl), HW1⟩
              case measure => simp [intOf]; omega

      · have hkn : k = c.faces.length := by omega
        subst hkn
        have HF : Hid (c.faces.all facB = true) := Lib.hid (by have := HA.out; rw [List.take_length] at this; exact this)
        go_wp2
        clear hbc1 hbc2 hbc3 hbc4 hBl
        go_loopw [48] (fun i wr => ∃ k : Nat, i = .int .i64 k ∧ k ≤ c.names.length ∧ Hid ((c.names.take k).all namB = true) ∧ Hid (Blk wr B 31 (capV ⟨pf, cf, pn, cn, ps, cs, pp, cp⟩ c).cells ∧ Below B w wr)) (fun i _ => c.names.length - (intOf i).toNat)
        case atStart => exact ⟨0, rfl, Nat.zero_le _, Lib.hid (by simp), HW⟩
        case round =>
          obtain ⟨k, rfl, hk, HA, HW⟩ := hrel
          have hbc1 := HW.out.1.cell 1
          have hbc2 := HW.out.1.cell 2
          have hbc3 := HW.out.1.cell 3
          have hbc4 := HW.out.1.cell 4
          have hBl := HW.out.1.lt
          by_cases hlt : k < c.names.length
          · obtain ⟨b, o, hA, hb, vs, hl, ⟨A2, cp2, rfl, hbyc, hbig⟩, hcell⟩ := (HM.out.names.keep namK HW.out.2 (Nat.le_refl _)).row k hlt
            change pn = _ at hA
            subst hA
            have c0 : wr.cell? ⟨b, o + k * 2, none⟩ = _ := hcell 0 _ rfl
            have c1 := hcell 1 _ rfl
            clear hcell
            have hlen2 := hbyc.le
            have hcap2 := hbyc.cap
            clear hbyc
            cases h1 : textB c.names[k].text with
            | false =>
              have HR : Hid (capB c = false) := Lib.hid (capB_names (all_false _ _ k hlt (namB_text h1)))
              have H1 := Lib.hid h1
              clear h1
              go_wp2_with fail
              refine (text_any _ _).mono ?_
              rintro e w1 ⟨rfl, hB1⟩
              rw [H1.out]
              obtain ⟨hc1, hf1⟩ := bcell hB1
              have HW1 := Lib.hid (round_keep HW.out hB1)
              clear hB1

              go_wp2
              go_ret
              exact ⟨ret_bool HR.out.symm, by rw [HB.out]; exact HW1.out.2⟩

            | true =>
              have H1 := Lib.hid h1
              clear h1
              cases h2 : within c.names[k].addr.length 1 16 with
              | false =>
                have HR : Hid (capB c = false) := Lib.hid (capB_names (all_false _ _ k hlt (namB_addr h2)))
                have H2 := Lib.hid h2
                clear h2
                go_wp2_with fail
                refine (text_any _ _).mono ?_
                rintro e w1 ⟨rfl, hB1⟩
                rw [H1.out]
                obtain ⟨hc1, hf1⟩ := bcell hB1
                have HW1 := Lib.hid (round_keep HW.out hB1)
                clear hB1

                go_wp2_with fail
                refine (within_any _ _ _ _).mono ?_
                rintro e w' ⟨rfl, rfl⟩
                rw [H2.out]

                go_wp2
                go_ret
                exact ⟨ret_bool HR.out.symm, by rw [HB.out]; exact HW1.out.2⟩

              | true =>
                have H2 := Lib.hid h2
                clear h2
                have HP : Hid (namB c.names[k] = true) := Lib.hid (namB_true H1.out H2.out)
                go_wp2_with fail
                refine (text_any _ _).mono ?_
                rintro e w1 ⟨rfl, hB1⟩
                rw [H1.out]
                obtain ⟨hc1, hf1⟩ := bcell hB1
                have HW1 := Lib.hid (round_keep HW.out hB1)
                clear hB1

                go_wp2_with fail
                refine (within_any _ _ _ _).mono ?_
                rintro e w' ⟨rfl, rfl⟩
                rw [H2.out]

                go_wp2
                go_roundw
                case rel => exact ⟨k + 1, by go_num, by omega, Lib.hid (by rw [all_take_succ _ _ k hlt, HA.out, HP.out]; rfl), HW1⟩
                case measure => simp [intOf]; omega

          · have hkn : k = c.names.length := by omega
            subst hkn
            have HN : Hid (c.names.all namB = true) := Lib.hid (by have := HA.out; rw [List.take_length] at this; exact this)
            go_wp2
            clear hbc1 hbc2 hbc3 hbc4 hBl
            go_loopw [67] (fun i wr => ∃ k : Nat, i = .int .i64 k ∧ k ≤ c.secs.length ∧ Hid ((c.secs.take k).all secB = true) ∧ Hid (Blk wr B 31 (capV ⟨pf, cf, pn, cn, ps, cs, pp, cp⟩ c).cells ∧ Below B w wr)) (fun i _ => c.secs.length - (intOf i).toNat)
            case atStart => exact ⟨0, rfl, Nat.zero_le _, Lib.hid (by simp), HW⟩
            case round =>
              obtain ⟨k, rfl, hk, HA, HW⟩ := hrel
              have hbc1 := HW.out.1.cell 1
              have hbc2 := HW.out.1.cell 2
              have hbc3 := HW.out.1.cell 3
              have hbc4 := HW.out.1.cell 4
              have hBl := HW.out.1.lt
              by_cases hlt : k < c.secs.length
              · obtain ⟨b, o, hA, hb, vs, hl, ⟨A2, cp2, rfl, hbyc, hbig⟩, hcell⟩ := (HM.out.secs.keep secK HW.out.2 (Nat.le_refl _)).row k hlt
                change ps = _ at hA
                subst hA
                have c0 : wr.cell? ⟨b, o + k * 2, none⟩ = _ := hcell 0 _ rfl
                have c1 := hcell 1 _ rfl
                clear hcell
                have hlen2 := hbyc.le
                have hcap2 := hbyc.cap
                clear hbyc
                cases h1 : textB c.secs[k].label with
                | false =>
                  have HR : Hid (capB c = false) := Lib.hid (capB_secs (all_false _ _ k hlt (secB_text h1)))
                  have H1 := Lib.hid h1
                  clear h1
                  go_wp2_with fail
                  refine (text_any _ _).mono ?_
                  rintro e w1 ⟨rfl, hB1⟩
                  rw [H1.out]
                  obtain ⟨hc1, hf1⟩ := bcell hB1
                  have HW1 := Lib.hid (round_keep HW.out hB1)
                  clear hB1

                  go_wp2
                  go_ret
                  exact ⟨ret_bool HR.out.symm, by rw [HB.out]; exact HW1.out.2⟩

                | true =>
                  have H1 := Lib.hid h1
                  clear h1
                  by_cases hpos : 0 < c.secs[k].label.size
                  · have hemp : c.secs[k].label.toList.isEmpty = false := notEmpty hpos
                    cases h3 : within c.secs[k].key.length 1 200 with
                    | false =>
                      have HR : Hid (capB c = false) := Lib.hid (capB_secs (all_false _ _ k hlt (secB_key h3)))
                      have H3 := Lib.hid h3
                      clear h3
                      go_wp2_with fail
                      refine (text_any _ _).mono ?_
                      rintro e w1 ⟨rfl, hB1⟩
                      rw [H1.out]
                      obtain ⟨hc1, hf1⟩ := bcell hB1
                      have HW1 := Lib.hid (round_keep HW.out hB1)
                      clear hB1

                      go_wp2_with fail
                      refine (within_any _ _ _ _).mono ?_
                      rintro e w' ⟨rfl, rfl⟩
                      rw [H3.out]

                      go_wp2
                      go_ret
                      exact ⟨ret_bool HR.out.symm, by rw [HB.out]; exact HW1.out.2⟩

                    | true =>
                      have H3 := Lib.hid h3
                      clear h3
                      have HP : Hid (secB c.secs[k] = true) := Lib.hid (secB_true H1.out hpos H3.out)
                      go_wp2_with fail
                      refine (text_any _ _).mono ?_
                      rintro e w1 ⟨rfl, hB1⟩
                      rw [H1.out]
                      obtain ⟨hc1, hf1⟩ := bcell hB1
                      have HW1 := Lib.hid (round_keep HW.out hB1)
                      clear hB1

                      go_wp2_with fail
                      refine (within_any _ _ _ _).mono ?_
                      rintro e w' ⟨rfl, rfl⟩
                      rw [H3.out]

                      go_wp2
                      go_roundw
                      case rel => exact ⟨k + 1, by go_num, by omega, Lib.hid (by rw [all_take_succ _ _ k hlt, HA.out, HP.out]; rfl), HW1⟩
                      case measure => simp [intOf]; omega

                  · have hemp : c.secs[k].label.toList.isEmpty = true := isEmpty hpos
                    have HR : Hid (capB c = false) := Lib.hid (capB_secs (all_false _ _ k hlt (secB_empty hpos)))
                    go_wp2_with fail
                    refine (text_any _ _).mono ?_
                    rintro e w1 ⟨rfl, hB1⟩
                    rw [H1.out]
                    obtain ⟨hc1, hf1⟩ := bcell hB1
                    have HW1 := Lib.hid (round_keep HW.out hB1)
                    clear hB1

                    go_wp2
                    go_ret
                    exact ⟨ret_bool HR.out.symm, by rw [HB.out]; exact HW1.out.2⟩

              · have hkn : k = c.secs.length := by omega
                subst hkn
                have HS : Hid (c.secs.all secB = true) := Lib.hid (by have := HA.out; rw [List.take_length] at this; exact this)
                go_wp2
                clear hbc1 hbc2 hbc3 hbc4 hBl
                go_loopw [91] (fun i wr => ∃ k : Nat, i = .int .i64 k ∧ k ≤ c.pkts.length ∧ Hid ((c.pkts.take k).all (pktB c.faces) = true) ∧ Hid (Blk wr B 31 (capV ⟨pf, cf, pn, cn, ps, cs, pp, cp⟩ c).cells ∧ Below B w wr)) (fun i _ => c.pkts.length - (intOf i).toNat)
                case atStart => exact ⟨0, rfl, Nat.zero_le _, Lib.hid (by simp), HW⟩
                case round =>
                  obtain ⟨k, rfl, hk, HA, HW⟩ := hrel
                  have hbc1 := HW.out.1.cell 1
                  have hbc2 := HW.out.1.cell 2
                  have hbc3 := HW.out.1.cell 3
                  have hbc4 := HW.out.1.cell 4
                  have hBl := HW.out.1.lt
                  by_cases hlt : k < c.pkts.length
                  · obtain ⟨b, o, hA, hb, vs, hl, ⟨A2, cp2, rfl, hbyc, hbig, _, hfb, _⟩, hcell⟩ := (HM.out.pkts.keep pktK HW.out.2 (Nat.le_refl _)).row k hlt
                    change pp = _ at hA
                    subst hA
                    have c0 : wr.cell? ⟨b, o + k * 5, none⟩ = _ := hcell 0 _ rfl
                    have c1 := hcell 1 _ rfl
                    have c2 := hcell 2 _ rfl
                    have c3 := hcell 3 _ rfl
                    have c4 := hcell 4 _ rfl
                    clear hcell
                    have hlen2 := hbyc.le
                    have hcap2 := hbyc.cap
                    clear hbyc
                    cases h1 : pktB c.faces c.pkts[k] with
                    | false =>
                      have HR : Hid (capB c = false) := Lib.hid (capB_pkts (all_false _ _ k hlt h1))
                      have H1 := Lib.hid h1
                      clear h1
                      go_wp2_with fail
                      refine (vpkt_any ((HM.out.faces.keep facK (HW.out.2.alloc (Nat.le_of_lt hBl) _) (by rw [alloc_size]; omega))) lf (by omega) HF.out hfb).mono ?_
                      rintro e w1 ⟨rfl, hB1⟩
                      rw [H1.out]
                      have HW1 := Lib.hid (round_keep HW.out hB1)
                      clear hB1

                      go_wp2
                      go_ret
                      exact ⟨ret_bool HR.out.symm, by rw [HB.out]; exact HW1.out.2⟩

                    | true =>
                      have H1 := Lib.hid h1
                      clear h1
                      have HP : Hid ((pktB c.faces) c.pkts[k] = true) := Lib.hid (H1.out)
                      go_wp2_with fail
                      refine (vpkt_any ((HM.out.faces.keep facK (HW.out.2.alloc (Nat.le_of_lt hBl) _) (by rw [alloc_size]; omega))) lf (by omega) HF.out hfb).mono ?_
                      rintro e w1 ⟨rfl, hB1⟩
                      rw [H1.out]
                      have HW1 := Lib.hid (round_keep HW.out hB1)
                      clear hB1

                      go_wp2
                      go_roundw
                      case rel => exact ⟨k + 1, by go_num, by omega, Lib.hid (by rw [all_take_succ _ _ k hlt, HA.out, HP.out]; rfl), HW1⟩
                      case measure => simp [intOf]; omega

                  · have hkn : k = c.pkts.length := by omega
                    subst hkn
                    have HP : Hid (c.pkts.all (pktB c.faces) = true) := Lib.hid (by have := HA.out; rw [List.take_length] at this; exact this)
                    go_wp2
                    clear hbc1 hbc2 hbc3 hbc4 hBl
                    have HR : Hid (capB c = true) := Lib.hid (capB_true (by omega) H0.out HF.out HN.out HS.out HP.out)
                    go_ret
                    exact ⟨ret_bool HR.out.symm, by rw [HB.out]; exact HW.out.2⟩
end Go.Proofs.Ytghdilmlfficlaa
/- Validate: the program's. -/
namespace Go.Proofs.Ytghdilmlfficlaa
open Go.RowKit

theorem boxed {w : World} {p : Pl} {c : Cap} (hm : CapM w w.heap.size p c) (o : Obj) : CapM (w.alloc o) (w.alloc o).heap.size p c :=
  hm.keep ((Below.refl _ w).alloc (Nat.le_refl _) o) (by rw [alloc_size]; omega)
theorem below_boxed {w w' : World} {o : Obj} (h : Below (w.alloc o).heap.size (w.alloc o) w') : Below w.heap.size w w' :=
  ((Below.refl _ w).alloc (Nat.le_refl _) o).trans (h.mono (by rw [alloc_size]; omega))

set_option maxRecDepth 100000 in
set_option maxHeartbeats 4000000 in
theorem vald_any {w : World} {p : Pl} {c : Cap} (hm : CapM w w.heap.size p c) :
    Calls Try.prog 61 #[capV p c] w fun e w' => e = .returned (.int .i64 (errV c)) ∧ Below w.heap.size w w' := by
  have HV := Lib.hid (valid_any (boxed hm (.cells (capV p c).cells 31)))
  have lf : c.faces.length ≤ 140737488355328 := by have := hm.lf; omega
  have ln : c.names.length ≤ 140737488355328 := by have := hm.ln; omega
  have ls : c.secs.length ≤ 140737488355328 := by have := hm.ls; omega
  have lp : c.pkts.length ≤ 140737488355328 := by have := hm.lp; omega
  clear hm
  have big : ∀ (_ : hugeB c = true), errV c = 3 := fun h => by unfold errV; rw [h]; rfl
  have BIG := Lib.hid big
  clear big
  by_cases h1 : (4 : Int) < c.faces.length
  · have HR : Hid (errV c = 3) := Lib.hid (BIG.out (decide_eq_true (by omega)))
    clear HV
    go_enter Try.func61, Try.ntmps61
    go_wp2
    go_ret
    exact ⟨ret_int HR.out.symm, (Below.refl _ _).alloc (Nat.le_refl _) _⟩
  by_cases h2 : (60 : Int) < c.names.length
  · have HR : Hid (errV c = 3) := Lib.hid (BIG.out (decide_eq_true (by omega)))
    clear HV
    go_enter Try.func61, Try.ntmps61
    go_wp2
    go_ret
    exact ⟨ret_int HR.out.symm, (Below.refl _ _).alloc (Nat.le_refl _) _⟩
  by_cases h3 : (60 : Int) < c.secs.length
  · have HR : Hid (errV c = 3) := Lib.hid (BIG.out (decide_eq_true (by omega)))
    clear HV
    go_enter Try.func61, Try.ntmps61
    go_wp2
    go_ret
    exact ⟨ret_int HR.out.symm, (Below.refl _ _).alloc (Nat.le_refl _) _⟩
  by_cases h4 : (100 : Int) < c.pkts.length
  · have HR : Hid (errV c = 3) := Lib.hid (BIG.out (decide_eq_true (by omega)))
    clear HV
    go_enter Try.func61, Try.ntmps61
    go_wp2
    go_ret
    exact ⟨ret_int HR.out.symm, (Below.refl _ _).alloc (Nat.le_refl _) _⟩
  have hh : hugeB c = false := decide_eq_false (by omega)
  cases h5 : capB c with
  | false =>
    have HR : Hid (errV c = 1) := Lib.hid (by unfold errV; rw [hh, h5]; rfl)
    have H5 := Lib.hid h5
    clear h5 hh
    go_enter Try.func61, Try.ntmps61
    go_wp2_with fail
    refine HV.out.mono ?_
    rintro e w' ⟨rfl, hB⟩
    rw [H5.out]
    have HB := Lib.hid (below_boxed hB)
    clear hB
    go_wp2
    go_ret
    exact ⟨ret_int HR.out.symm, HB.out⟩
  | true =>
    have HR : Hid (errV c = 0) := Lib.hid (by unfold errV; rw [hh, h5]; rfl)
    have H5 := Lib.hid h5
    clear h5 hh
    go_enter Try.func61, Try.ntmps61
    go_wp2_with fail
    refine HV.out.mono ?_
    rintro e w' ⟨rfl, hB⟩
    rw [H5.out]
    have HB := Lib.hid (below_boxed hB)
    clear hB
    go_wp2
    go_ret
    exact ⟨ret_int HR.out.symm, HB.out⟩
end Go.Proofs.Ytghdilmlfficlaa
