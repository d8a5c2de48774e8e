/- Same: the program's. -/
import Derived.Test.YtlimkckomdipkaaEqF
import Derived.Test.YtlimkckomdipkaaEqS
namespace Go.Proofs.Ytlimkckomdipkaa
open Go.RowKit

/-- The world in which Same asks: both captures boxed. -/
abbrev box2 (w : World) (v1 v2 : Value) : World := (w.alloc (.cells v1.cells 27)).alloc (.cells v2.cells 27)
theorem below_box2 (w : World) (v1 v2 : Value) : Below w.heap.size w (box2 w v1 v2) := ((Below.refl _ _).alloc (Nat.le_refl _) _).alloc (by rw [alloc_size]; omega) _
theorem size_box2 (w : World) (v1 v2 : Value) : (box2 w v1 v2).heap.size = w.heap.size + 2 := by rw [alloc_size, alloc_size]

set_option maxRecDepth 100000 in
set_option maxHeartbeats 8000000 in
theorem same_any {w : World} {p q : Pl} {c d : Cap} (hc : CapM w w.heap.size p c) (hd : CapM w w.heap.size q d) :
    Calls Try.prog 21 #[capV p c, capV q d] w fun e w' => e = .returned (.bool (eqB c d)) ∧ Below w.heap.size w w' := by
  have lf : c.faces.length ≤ 140737488355328 := by have := hc.lf; omega
  have ln : c.names.length ≤ 140737488355328 := by have := hc.ln; omega
  have ls : c.secs.length ≤ 140737488355328 := by have := hc.ls; omega
  have lp : c.pkts.length ≤ 140737488355328 := by have := hc.lp; omega
  have HC := Lib.hid (fun (w1 : World) (hb : Below w.heap.size w w1) => hc.keep hb hb.size)
  have HD := Lib.hid (fun (w1 : World) (hb : Below w.heap.size w w1) => hd.keep hb hb.size)
  clear hc hd
  by_cases hnote : c.note = d.note
  rotate_left
  · have HR : Hid (eqB c d = false) := Lib.hid (eqB_false (fun e => hnote (by rw [e])))
    have hne := str_ne hnote
    clear hnote
    go_enter Try.func21, Try.ntmps21
    go_wp2
    go_ret
    exact ⟨ret_bool HR.out.symm, ((Below.refl _ _).alloc (Nat.le_refl _) _).alloc (by rw [alloc_size]; omega) _⟩
  have EN := Lib.hid hnote
  rw [capV, hnote]
  clear hnote
  have HW0 := Lib.hid (below_box2 w (.agg #[.string d.note, .slice p.pf c.faces.length p.cf, .slice p.pn c.names.length p.cn, .slice p.ps c.secs.length p.cs, .slice p.pp c.pkts.length p.cp]) (capV q d))
  cases h1 : eqB c.faces d.faces with
  | false =>
    have HR : Hid (eqB c d = false) := Lib.hid (eqB_false (fun e => by rw [e, eqB_true rfl] at h1; cases h1))
    have H1 := Lib.hid h1
    clear h1
    go_enter Try.func21, Try.ntmps21
    go_wp2_with fail
    refine (facsq_any (HC.out _ HW0.out).faces (HD.out _ HW0.out).faces lf).mono ?_
    rintro e w1 ⟨rfl, hB1⟩
    rw [H1.out]
    have HW1 := Lib.hid (HW0.out.trans (hB1.mono HW0.out.size))
    have HX1 := Lib.hid hB1
    obtain ⟨hc1, hf1⟩ := bcell hB1
    clear hB1
    go_wp2
    go_ret
    exact ⟨ret_bool HR.out.symm, HW1.out⟩
  | true =>
    have H1 := Lib.hid h1
    clear h1
    cases h2 : eqB c.names d.names with
    | false =>
      have HR : Hid (eqB c d = false) := Lib.hid (eqB_false (fun e => by rw [e, eqB_true rfl] at h2; cases h2))
      have H2 := Lib.hid h2
      clear h2
      go_enter Try.func21, Try.ntmps21
      go_wp2_with fail
      refine (facsq_any (HC.out _ HW0.out).faces (HD.out _ HW0.out).faces lf).mono ?_
      rintro e w1 ⟨rfl, hB1⟩
      rw [H1.out]
      have HW1 := Lib.hid (HW0.out.trans (hB1.mono HW0.out.size))
      have HX1 := Lib.hid hB1
      obtain ⟨hc1, hf1⟩ := bcell hB1
      clear hB1
      go_wp2_with fail
      refine (namesq_any (HC.out _ HW1.out).names (HD.out _ HW1.out).names ln).mono ?_
      rintro e w2 ⟨rfl, hB2⟩
      rw [H2.out]
      have HW2 := Lib.hid (HW1.out.trans (hB2.mono HW1.out.size))
      have HX2 := Lib.hid (HX1.out.trans (hB2.mono HX1.out.size))
      clear hc1 hf1
      obtain ⟨hc2, hf2⟩ := bcell HX2.out
      clear hB2
      go_wp2
      go_ret
      exact ⟨ret_bool HR.out.symm, HW2.out⟩
    | true =>
      have H2 := Lib.hid h2
      clear h2
      cases h3 : eqB c.secs d.secs with
      | false =>
        have HR : Hid (eqB c d = false) := Lib.hid (eqB_false (fun e => by rw [e, eqB_true rfl] at h3; cases h3))
        have H3 := Lib.hid h3
        clear h3
        go_enter Try.func21, Try.ntmps21
        go_wp2_with fail
        refine (facsq_any (HC.out _ HW0.out).faces (HD.out _ HW0.out).faces lf).mono ?_
        rintro e w1 ⟨rfl, hB1⟩
        rw [H1.out]
        have HW1 := Lib.hid (HW0.out.trans (hB1.mono HW0.out.size))
        have HX1 := Lib.hid hB1
        obtain ⟨hc1, hf1⟩ := bcell hB1
        clear hB1
        go_wp2_with fail
        refine (namesq_any (HC.out _ HW1.out).names (HD.out _ HW1.out).names ln).mono ?_
        rintro e w2 ⟨rfl, hB2⟩
        rw [H2.out]
        have HW2 := Lib.hid (HW1.out.trans (hB2.mono HW1.out.size))
        have HX2 := Lib.hid (HX1.out.trans (hB2.mono HX1.out.size))
        clear hc1 hf1
        obtain ⟨hc2, hf2⟩ := bcell HX2.out
        clear hB2
        go_wp2_with fail
        refine (secsq_any (HC.out _ HW2.out).secs (HD.out _ HW2.out).secs ls).mono ?_
        rintro e w3 ⟨rfl, hB3⟩
        rw [H3.out]
        have HW3 := Lib.hid (HW2.out.trans (hB3.mono HW2.out.size))
        have HX3 := Lib.hid (HX2.out.trans (hB3.mono HX2.out.size))
        clear hc2 hf2
        obtain ⟨hc3, hf3⟩ := bcell HX3.out
        clear hB3
        go_wp2
        go_ret
        exact ⟨ret_bool HR.out.symm, HW3.out⟩
      | true =>
        have H3 := Lib.hid h3
        clear h3
        cases h4 : eqB c.pkts d.pkts with
        | false =>
          have HR : Hid (eqB c d = false) := Lib.hid (eqB_false (fun e => by rw [e, eqB_true rfl] at h4; cases h4))
          have H4 := Lib.hid h4
          clear h4
          go_enter Try.func21, Try.ntmps21
          go_wp2_with fail
          refine (facsq_any (HC.out _ HW0.out).faces (HD.out _ HW0.out).faces lf).mono ?_
          rintro e w1 ⟨rfl, hB1⟩
          rw [H1.out]
          have HW1 := Lib.hid (HW0.out.trans (hB1.mono HW0.out.size))
          have HX1 := Lib.hid hB1
          obtain ⟨hc1, hf1⟩ := bcell hB1
          clear hB1
          go_wp2_with fail
          refine (namesq_any (HC.out _ HW1.out).names (HD.out _ HW1.out).names ln).mono ?_
          rintro e w2 ⟨rfl, hB2⟩
          rw [H2.out]
          have HW2 := Lib.hid (HW1.out.trans (hB2.mono HW1.out.size))
          have HX2 := Lib.hid (HX1.out.trans (hB2.mono HX1.out.size))
          clear hc1 hf1
          obtain ⟨hc2, hf2⟩ := bcell HX2.out
          clear hB2
          go_wp2_with fail
          refine (secsq_any (HC.out _ HW2.out).secs (HD.out _ HW2.out).secs ls).mono ?_
          rintro e w3 ⟨rfl, hB3⟩
          rw [H3.out]
          have HW3 := Lib.hid (HW2.out.trans (hB3.mono HW2.out.size))
          have HX3 := Lib.hid (HX2.out.trans (hB3.mono HX2.out.size))
          clear hc2 hf2
          obtain ⟨hc3, hf3⟩ := bcell HX3.out
          clear hB3
          go_wp2_with fail
          refine (pktsq_any (HC.out _ HW3.out).pkts (HD.out _ HW3.out).pkts lp).mono ?_
          rintro e w4 ⟨rfl, hB4⟩
          rw [H4.out]
          have HW4 := Lib.hid (HW3.out.trans (hB4.mono HW3.out.size))
          have HX4 := Lib.hid (HX3.out.trans (hB4.mono HX3.out.size))
          clear hc3 hf3
          obtain ⟨hc4, hf4⟩ := bcell HX4.out
          clear hB4
          go_wp2
          go_ret
          exact ⟨ret_bool HR.out.symm, HW4.out⟩
        | true =>
          have H4 := Lib.hid h4
          clear h4
          have HR : Hid (eqB c d = true) := Lib.hid (eqB_true (by
            have a0 := EN.out
            have a1 := eqB_iff.1 H1.out
            have a2 := eqB_iff.1 H2.out
            have a3 := eqB_iff.1 H3.out
            have a4 := eqB_iff.1 H4.out
            cases c; cases d; simp only at a0 a1 a2 a3 a4; rw [a0, a1, a2, a3, a4]))
          go_enter Try.func21, Try.ntmps21
          go_wp2_with fail
          refine (facsq_any (HC.out _ HW0.out).faces (HD.out _ HW0.out).faces lf).mono ?_
          rintro e w1 ⟨rfl, hB1⟩
          rw [H1.out]
          have HW1 := Lib.hid (HW0.out.trans (hB1.mono HW0.out.size))
          have HX1 := Lib.hid hB1
          obtain ⟨hc1, hf1⟩ := bcell hB1
          clear hB1
          go_wp2_with fail
          refine (namesq_any (HC.out _ HW1.out).names (HD.out _ HW1.out).names ln).mono ?_
          rintro e w2 ⟨rfl, hB2⟩
          rw [H2.out]
          have HW2 := Lib.hid (HW1.out.trans (hB2.mono HW1.out.size))
          have HX2 := Lib.hid (HX1.out.trans (hB2.mono HX1.out.size))
          clear hc1 hf1
          obtain ⟨hc2, hf2⟩ := bcell HX2.out
          clear hB2
          go_wp2_with fail
          refine (secsq_any (HC.out _ HW2.out).secs (HD.out _ HW2.out).secs ls).mono ?_
          rintro e w3 ⟨rfl, hB3⟩
          rw [H3.out]
          have HW3 := Lib.hid (HW2.out.trans (hB3.mono HW2.out.size))
          have HX3 := Lib.hid (HX2.out.trans (hB3.mono HX2.out.size))
          clear hc2 hf2
          obtain ⟨hc3, hf3⟩ := bcell HX3.out
          clear hB3
          go_wp2_with fail
          refine (pktsq_any (HC.out _ HW3.out).pkts (HD.out _ HW3.out).pkts lp).mono ?_
          rintro e w4 ⟨rfl, hB4⟩
          rw [H4.out]
          have HW4 := Lib.hid (HW3.out.trans (hB4.mono HW3.out.size))
          have HX4 := Lib.hid (HX3.out.trans (hB4.mono HX3.out.size))
          clear hc3 hf3
          obtain ⟨hc4, hf4⟩ := bcell HX4.out
          clear hB4
          go_wp2
          go_ret
          exact ⟨ret_bool HR.out.symm, HW4.out⟩
end Go.Proofs.Ytlimkckomdipkaa
