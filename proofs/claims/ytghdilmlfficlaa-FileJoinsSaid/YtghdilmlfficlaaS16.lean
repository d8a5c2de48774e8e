/- Same: the reference's. -/
import Derived.Test.YtghdilmlfficlaaSameH
import Derived.StillTailTactics
namespace Go.Proofs.Ytghdilmlfficlaa
open Go.RowKit

theorem cap_ext {c d : Cap} (h0 : c.note = d.note) (h1 : c.faces = d.faces) (h2 : c.names = d.names) (h3 : c.secs = d.secs) (h4 : c.pkts = d.pkts) : c = d := by
  cases c; cases d; simp only at h0 h1 h2 h3 h4; subst h0; subst h1; subst h2; subst h3; subst h4; rfl

set_option maxRecDepth 100000 in
set_option maxHeartbeats 4000000 in
theorem rsame_any {w : World} {p q : Pl} {c d : Cap} (hc : CapM w w.heap.size p c) (hd : CapM w w.heap.size q d) :
    Calls Try.prog 17 #[capV p c, capV q d] w fun e w' => e = .returned (.bool (eqB c d)) ∧ Below w.heap.size w w' := by
  have lf : c.faces.length ≤ 140737488355328 := by have := hc.lf; omega
  have ln : c.names.length ≤ 140737488355328 := by have := hc.ln; omega
  have ls : c.secs.length ≤ 140737488355328 := by have := hc.ls; omega
  have lp : c.pkts.length ≤ 140737488355328 := by have := hc.lp; omega
  obtain ⟨pf, cf, pn, cn, ps, cs, pp, cp⟩ := p
  obtain ⟨qf, df, qn, dn, qs, ds, qp, dp⟩ := q
  obtain ⟨B, hB⟩ : ∃ B, w.heap.size = B := ⟨_, rfl⟩
  obtain ⟨W0, hW0⟩ : ∃ W0, (w.alloc (.cells #[.string c.note, .slice pf c.faces.length cf, .slice pn c.names.length cn, .slice ps c.secs.length cs, .slice pp c.pkts.length cp] 31)).alloc (.cells #[.string d.note, .slice qf d.faces.length df, .slice qn d.names.length dn, .slice qs d.secs.length ds, .slice qp d.pkts.length dp] 31) = W0 := ⟨_, rfl⟩
  have HK0 : Hid (Blk W0 B 31 #[.string c.note, .slice pf c.faces.length cf, .slice pn c.names.length cn, .slice ps c.secs.length cs, .slice pp c.pkts.length cp] ∧ Blk W0 (B + 1) 31 #[.string d.note, .slice qf d.faces.length df, .slice qn d.names.length dn, .slice qs d.secs.length ds, .slice qp d.pkts.length dp] ∧ Below B w W0) := Lib.hid (by
    have h := Blk.new (w.alloc (.cells #[.string c.note, .slice pf c.faces.length cf, .slice pn c.names.length cn, .slice ps c.secs.length cs, .slice pp c.pkts.length cp] 31)) 31 #[.string d.note, .slice qf d.faces.length df, .slice qn d.names.length dn, .slice qs d.secs.length ds, .slice qp d.pkts.length dp]
    rw [alloc_size, hB] at h
    rw [← hW0]
    refine ⟨by rw [← hB]; exact (Blk.new _ _ _).alloc _, h, ?_⟩
    rw [← hB]; exact ((Below.refl _ w).alloc (Nat.le_refl _) _).alloc (by rw [alloc_size]; omega) _)
  rw [hB] at hc hd ⊢
  have HC := Lib.hid hc
  have HD := Lib.hid hd
  have a0 : W0.cell? ⟨B, 0, none⟩ = some (.string c.note) := HK0.out.1.cell 0
  have a1 : W0.cell? ⟨B, 1, none⟩ = some (.slice pf c.faces.length cf) := HK0.out.1.cell 1
  have a2 : W0.cell? ⟨B, 2, none⟩ = some (.slice pn c.names.length cn) := HK0.out.1.cell 2
  have a3 : W0.cell? ⟨B, 3, none⟩ = some (.slice ps c.secs.length cs) := HK0.out.1.cell 3
  have a4 : W0.cell? ⟨B, 4, none⟩ = some (.slice pp c.pkts.length cp) := HK0.out.1.cell 4
  have b0 : W0.cell? ⟨B + 1, 0, none⟩ = some (.string d.note) := HK0.out.2.1.cell 0
  have b1 : W0.cell? ⟨B + 1, 1, none⟩ = some (.slice qf d.faces.length df) := HK0.out.2.1.cell 1
  have b2 : W0.cell? ⟨B + 1, 2, none⟩ = some (.slice qn d.names.length dn) := HK0.out.2.1.cell 2
  have b3 : W0.cell? ⟨B + 1, 3, none⟩ = some (.slice qs d.secs.length ds) := HK0.out.2.1.cell 3
  have b4 : W0.cell? ⟨B + 1, 4, none⟩ = some (.slice qp d.pkts.length dp) := HK0.out.2.1.cell 4
  clear hc hd
  by_cases hnote : c.note = d.note
  rotate_left
  · have HR : Hid (eqB c d = false) := Lib.hid (eqB_false (fun e => hnote (by rw [e])))
    have hne := str_ne hnote
    clear hnote
    go_enter Try.func17, Try.ntmps17
    go_wp2
    go_ret
    exact ⟨ret_bool HR.out.symm, HK0.out.2.2⟩
  have HNOTE := Lib.hid hnote
  have hno : (c.note.toList == d.note.toList) = true := by rw [hnote]; simp
  clear hnote
  by_cases hl1 : c.faces.length = d.faces.length
  rotate_left
  · have HR : Hid (eqB c d = false) := Lib.hid (eqB_false (fun e => hl1 (by rw [e])))
    have hne : ((c.faces.length : Int) != (d.faces.length : Int)) = true := by rw [bne_iff_ne]; omega
    clear hl1
    go_enter Try.func17, Try.ntmps17
    go_wp2
    go_ret
    exact ⟨ret_bool HR.out.symm, HK0.out.2.2⟩
  have HL1 := Lib.hid hl1
  have hn1 : ((c.faces.length : Int) != (d.faces.length : Int)) = false := by rw [hl1]; simp
  clear hl1
  by_cases hl2 : c.names.length = d.names.length
  rotate_left
  · have HR : Hid (eqB c d = false) := Lib.hid (eqB_false (fun e => hl2 (by rw [e])))
    have hne : ((c.names.length : Int) != (d.names.length : Int)) = true := by rw [bne_iff_ne]; omega
    clear hl2
    go_enter Try.func17, Try.ntmps17
    go_wp2
    go_ret
    exact ⟨ret_bool HR.out.symm, HK0.out.2.2⟩
  have HL2 := Lib.hid hl2
  have hn2 : ((c.names.length : Int) != (d.names.length : Int)) = false := by rw [hl2]; simp
  clear hl2
  by_cases hl3 : c.secs.length = d.secs.length
  rotate_left
  · have HR : Hid (eqB c d = false) := Lib.hid (eqB_false (fun e => hl3 (by rw [e])))
    have hne : ((c.secs.length : Int) != (d.secs.length : Int)) = true := by rw [bne_iff_ne]; omega
    clear hl3
    go_enter Try.func17, Try.ntmps17
    go_wp2
    go_ret
    exact ⟨ret_bool HR.out.symm, HK0.out.2.2⟩
  have HL3 := Lib.hid hl3
  have hn3 : ((c.secs.length : Int) != (d.secs.length : Int)) = false := by rw [hl3]; simp
  clear hl3
  by_cases hl4 : c.pkts.length = d.pkts.length
  rotate_left
  · have HR : Hid (eqB c d = false) := Lib.hid (eqB_false (fun e => hl4 (by rw [e])))
    have hne : ((c.pkts.length : Int) != (d.pkts.length : Int)) = true := by rw [bne_iff_ne]; omega
    clear hl4
    go_enter Try.func17, Try.ntmps17
    go_wp2
    go_ret
    exact ⟨ret_bool HR.out.symm, HK0.out.2.2⟩
  have HL4 := Lib.hid hl4
  have hn4 : ((c.pkts.length : Int) != (d.pkts.length : Int)) = false := by rw [hl4]; simp
  clear hl4
  go_enter Try.func17, Try.ntmps17
  go_wp2
  clear hW0 a0 a1 a2 a3 a4 b0 b1 b2 b3 b4 hno hn1 hn2 hn3 hn4
  go_loopw [5] (fun i wr => ∃ k : Nat, i = .int .i64 k ∧ k ≤ c.faces.length ∧ Hid (c.faces.take k = d.faces.take k) ∧ Hid (Blk wr B 31 #[.string c.note, .slice pf c.faces.length cf, .slice pn c.names.length cn, .slice ps c.secs.length cs, .slice pp c.pkts.length cp] ∧ Blk wr (B + 1) 31 #[.string d.note, .slice qf d.faces.length df, .slice qn d.names.length dn, .slice qs d.secs.length ds, .slice qp d.pkts.length dp] ∧ Below B w wr)) (fun i _ => c.faces.length - (intOf i).toNat)
  case atStart => exact ⟨0, rfl, Nat.zero_le _, Lib.hid (by simp), HK0⟩
  case round =>
    obtain ⟨k, rfl, hk, HE, HW⟩ := hrel
    have a1 : wr.cell? ⟨B, 1, none⟩ = some (.slice pf c.faces.length cf) := HW.out.1.cell 1
    have b1 : wr.cell? ⟨B + 1, 1, none⟩ = some (.slice qf d.faces.length df) := HW.out.2.1.cell 1
    by_cases hlt : k < c.faces.length
    · have hlt2 : k < d.faces.length := by rw [← HL1.out]; exact hlt
      obtain ⟨b1_, o1, hA1, hb1, vs1, hl1, ⟨rfl, _, _, _⟩, hcx⟩ := (HC.out.faces.keep facK HW.out.2.2 (Nat.le_refl _)).row k hlt
      obtain ⟨b2_, o2, hA2, hb2, vs2, hl2, ⟨rfl, _, _, _⟩, hcy⟩ := (HD.out.faces.keep facK HW.out.2.2 (Nat.le_refl _)).row k hlt2
      change pf = _ at hA1
      change qf = _ at hA2
      have x0 : wr.cell? ⟨b1_, o1 + k * 3, none⟩ = _ := hcx 0 _ rfl
      have y0 : wr.cell? ⟨b2_, o2 + k * 3, none⟩ = _ := hcy 0 _ rfl
      have x1 := hcx 1 _ rfl
      have y1 := hcy 1 _ rfl
      have x2 := hcx 2 _ rfl
      have y2 := hcy 2 _ rfl
      have hnq := fun w => neq_fac c.faces[k] d.faces[k] w
      have hgd := fun a b w => grd_fac c.faces[k] d.faces[k] a b w
      unfold facL at hnq hgd
      subst hA1
      subst hA2
      clear hcx hcy
      cases hq : eqB c.faces[k] d.faces[k] with
      | false =>
        have HR : Hid (eqB c d = false) := Lib.hid (by
          refine eqB_false (fun e => ?_)
          have : c.faces[k] = d.faces[k] := by simp only [e]
          rw [eqB_true this] at hq; cases hq)
        rw [hq] at hnq
        clear hq
        go_wp2
        go_quiet (fail)
        go_wp2
        go_ret
        exact ⟨ret_bool HR.out.symm, below_drewN HW.out.2.2 _⟩
      | true =>
        have HE2 : Hid (c.faces.take (k + 1) = d.faces.take (k + 1)) := Lib.hid (by
          rw [List.take_succ_eq_append_getElem hlt, List.take_succ_eq_append_getElem hlt2, HE.out, eqB_iff.1 hq])
        rw [hq] at hnq
        clear hq
        go_wp2
        go_quiet (fail)
        go_wp2
        go_roundw
        case rel => exact ⟨k + 1, by go_num, by omega, HE2, Lib.hid ⟨HW.out.1.drewN _, HW.out.2.1.drewN _, below_drewN HW.out.2.2 _⟩⟩
        case measure => simp [intOf]; omega
    · have hkn : k = c.faces.length := by omega
      have HF : Hid (c.faces = d.faces) := Lib.hid (by
        have := HE.out
        rw [List.take_of_length_le (by omega), List.take_of_length_le (by rw [← HL1.out]; omega)] at this
        exact this)
      clear hkn HE
      go_wp2
      clear a1 b1
      go_loopw [6] (fun i wr => ∃ k : Nat, i = .int .i64 k ∧ k ≤ c.names.length ∧ Hid (c.names.take k = d.names.take k) ∧ Hid (Blk wr B 31 #[.string c.note, .slice pf c.faces.length cf, .slice pn c.names.length cn, .slice ps c.secs.length cs, .slice pp c.pkts.length cp] ∧ Blk wr (B + 1) 31 #[.string d.note, .slice qf d.faces.length df, .slice qn d.names.length dn, .slice qs d.secs.length ds, .slice qp d.pkts.length dp] ∧ Below B w wr)) (fun i _ => c.names.length - (intOf i).toNat)
      case atStart => exact ⟨0, rfl, Nat.zero_le _, Lib.hid (by simp), HW⟩
      case round =>
        obtain ⟨k, rfl, hk, HE, HW⟩ := hrel
        have a1 : wr.cell? ⟨B, 2, none⟩ = some (.slice pn c.names.length cn) := HW.out.1.cell 2
        have b1 : wr.cell? ⟨B + 1, 2, none⟩ = some (.slice qn d.names.length dn) := HW.out.2.1.cell 2
        by_cases hlt : k < c.names.length
        · have hlt2 : k < d.names.length := by rw [← HL2.out]; exact hlt
          obtain ⟨b1_, o1, hA1, hb1, vs1, hl1, ⟨A1, cc1, rfl, hy1, hg1⟩, hcx⟩ := (HC.out.names.keep namK HW.out.2.2 (Nat.le_refl _)).row k hlt
          obtain ⟨b2_, o2, hA2, hb2, vs2, hl2, ⟨A2, cc2, rfl, hy2, hg2⟩, hcy⟩ := (HD.out.names.keep namK HW.out.2.2 (Nat.le_refl _)).row k hlt2
          change pn = _ at hA1
          change qn = _ at hA2
          have x0 : wr.cell? ⟨b1_, o1 + k * 2, none⟩ = _ := hcx 0 _ rfl
          have y0 : wr.cell? ⟨b2_, o2 + k * 2, none⟩ = _ := hcy 0 _ rfl
          have x1 := hcx 1 _ rfl
          have y1 := hcy 1 _ rfl
          subst hA1
          subst hA2
          have HY1 := Lib.hid hy1.byt
          have HY2 := Lib.hid hy2.byt
          clear hcx hcy hy1 hy2 hg1 hg2
          by_cases ht : c.names[k].text = d.names[k].text
          rotate_left
          · have HR : Hid (eqB c d = false) := Lib.hid (by
              refine eqB_false (fun e => ht ?_)
              simp only [e])
            have hne := str_ne ht
            clear ht
            go_wp2
            go_quiet (fail)
            go_wp2
            go_ret
            exact ⟨ret_bool HR.out.symm, below_drewN HW.out.2.2 _⟩
          have HT := Lib.hid ht
          have hte : (c.names[k].text.toList == d.names[k].text.toList) = true := by rw [ht]; simp
          clear ht
          have HQ := Lib.hid (fun n => (rbeq_any (w := wr.drewN n) (c1 := cc1) (c2 := cc2) ⟨HY1.out.lt, HY1.out.cells⟩ ⟨HY2.out.lt, HY2.out.cells⟩).mono (fun _ _ ⟨h1, h2⟩ => ⟨h1, h2.symm⟩ : ∀ e w', _ → e = Ending.returned (.bool (eqB c.names[k].addr d.names[k].addr)) ∧ w' = wr.drewN n))
          cases hq : eqB c.names[k].addr d.names[k].addr with
          | false =>
            have HR : Hid (eqB c d = false) := Lib.hid (by
              refine eqB_false (fun e => ?_)
              have : c.names[k].addr = d.names[k].addr := by simp only [e]
              rw [eqB_true this] at hq; cases hq)
            rw [hq] at HQ
            clear hq
            go_wp2
            go_quiet ((go_at_call 59; exact Calls.quiet_of_same (HQ.out _)))
            go_wp2
            go_ret
            exact ⟨ret_bool HR.out.symm, below_drewN HW.out.2.2 _⟩
          | true =>
            have HE2 : Hid (c.names.take (k + 1) = d.names.take (k + 1)) := Lib.hid (by
              have hxy : c.names[k] = d.names[k] := by
                have h1 := HT.out
                have h2 := eqB_iff.1 hq
                revert h1 h2
                generalize c.names[k] = x
                generalize d.names[k] = y
                cases x; cases y
                intro h1 h2
                simp only at h1 h2
                rw [h1, h2]
              rw [List.take_succ_eq_append_getElem hlt, List.take_succ_eq_append_getElem hlt2, HE.out, hxy])
            rw [hq] at HQ
            clear hq
            go_wp2
            go_quiet ((go_at_call 59; exact Calls.quiet_of_same (HQ.out _)))
            go_wp2
            go_roundw
            case rel => exact ⟨k + 1, by go_num, by omega, HE2, Lib.hid ⟨HW.out.1.drewN _, HW.out.2.1.drewN _, below_drewN HW.out.2.2 _⟩⟩
            case measure => simp [intOf]; omega
        · have Hnames : Hid (c.names = d.names) := Lib.hid (by
            have := HE.out
            rw [List.take_of_length_le (by omega), List.take_of_length_le (by rw [← HL2.out]; omega)] at this
            exact this)
          clear HE
          go_wp2
          clear a1 b1

          go_loopw [7] (fun i wr => ∃ k : Nat, i = .int .i64 k ∧ k ≤ c.secs.length ∧ Hid (c.secs.take k = d.secs.take k) ∧ Hid (Blk wr B 31 #[.string c.note, .slice pf c.faces.length cf, .slice pn c.names.length cn, .slice ps c.secs.length cs, .slice pp c.pkts.length cp] ∧ Blk wr (B + 1) 31 #[.string d.note, .slice qf d.faces.length df, .slice qn d.names.length dn, .slice qs d.secs.length ds, .slice qp d.pkts.length dp] ∧ Below B w wr)) (fun i _ => c.secs.length - (intOf i).toNat)
          case atStart => exact ⟨0, rfl, Nat.zero_le _, Lib.hid (by simp), HW⟩
          case round =>
            obtain ⟨k, rfl, hk, HE, HW⟩ := hrel
            have a1 : wr.cell? ⟨B, 3, none⟩ = some (.slice ps c.secs.length cs) := HW.out.1.cell 3
            have b1 : wr.cell? ⟨B + 1, 3, none⟩ = some (.slice qs d.secs.length ds) := HW.out.2.1.cell 3
            by_cases hlt : k < c.secs.length
            · have hlt2 : k < d.secs.length := by rw [← HL3.out]; exact hlt
              obtain ⟨b1_, o1, hA1, hb1, vs1, hl1, ⟨A1, cc1, rfl, hy1, hg1⟩, hcx⟩ := (HC.out.secs.keep secK HW.out.2.2 (Nat.le_refl _)).row k hlt
              obtain ⟨b2_, o2, hA2, hb2, vs2, hl2, ⟨A2, cc2, rfl, hy2, hg2⟩, hcy⟩ := (HD.out.secs.keep secK HW.out.2.2 (Nat.le_refl _)).row k hlt2
              change ps = _ at hA1
              change qs = _ at hA2
              have x0 : wr.cell? ⟨b1_, o1 + k * 2, none⟩ = _ := hcx 0 _ rfl
              have y0 : wr.cell? ⟨b2_, o2 + k * 2, none⟩ = _ := hcy 0 _ rfl
              have x1 := hcx 1 _ rfl
              have y1 := hcy 1 _ rfl
              subst hA1
              subst hA2
              have HY1 := Lib.hid hy1.byt
              have HY2 := Lib.hid hy2.byt
              clear hcx hcy hy1 hy2 hg1 hg2
              by_cases ht : c.secs[k].label = d.secs[k].label
              rotate_left
              · have HR : Hid (eqB c d = false) := Lib.hid (by
                  refine eqB_false (fun e => ht ?_)
                  simp only [e])
                have hne := str_ne ht
                clear ht
                go_wp2
                go_quiet (fail)
                go_wp2
                go_ret
                exact ⟨ret_bool HR.out.symm, below_drewN HW.out.2.2 _⟩
              have HT := Lib.hid ht
              have hte : (c.secs[k].label.toList == d.secs[k].label.toList) = true := by rw [ht]; simp
              clear ht
              have HQ := Lib.hid (fun n => (rbeq_any (w := wr.drewN n) (c1 := cc1) (c2 := cc2) ⟨HY1.out.lt, HY1.out.cells⟩ ⟨HY2.out.lt, HY2.out.cells⟩).mono (fun _ _ ⟨h1, h2⟩ => ⟨h1, h2.symm⟩ : ∀ e w', _ → e = Ending.returned (.bool (eqB c.secs[k].key d.secs[k].key)) ∧ w' = wr.drewN n))
              cases hq : eqB c.secs[k].key d.secs[k].key with
              | false =>
                have HR : Hid (eqB c d = false) := Lib.hid (by
                  refine eqB_false (fun e => ?_)
                  have : c.secs[k].key = d.secs[k].key := by simp only [e]
                  rw [eqB_true this] at hq; cases hq)
                rw [hq] at HQ
                clear hq
                go_wp2
                go_quiet ((go_at_call 59; exact Calls.quiet_of_same (HQ.out _)))
                go_wp2
                go_ret
                exact ⟨ret_bool HR.out.symm, below_drewN HW.out.2.2 _⟩
              | true =>
                have HE2 : Hid (c.secs.take (k + 1) = d.secs.take (k + 1)) := Lib.hid (by
                  have hxy : c.secs[k] = d.secs[k] := by
                    have h1 := HT.out
                    have h2 := eqB_iff.1 hq
                    revert h1 h2
                    generalize c.secs[k] = x
                    generalize d.secs[k] = y
                    cases x; cases y
                    intro h1 h2
                    simp only at h1 h2
                    rw [h1, h2]
                  rw [List.take_succ_eq_append_getElem hlt, List.take_succ_eq_append_getElem hlt2, HE.out, hxy])
                rw [hq] at HQ
                clear hq
                go_wp2
                go_quiet ((go_at_call 59; exact Calls.quiet_of_same (HQ.out _)))
                go_wp2
                go_roundw
                case rel => exact ⟨k + 1, by go_num, by omega, HE2, Lib.hid ⟨HW.out.1.drewN _, HW.out.2.1.drewN _, below_drewN HW.out.2.2 _⟩⟩
                case measure => simp [intOf]; omega
            · have Hsecs : Hid (c.secs = d.secs) := Lib.hid (by
                have := HE.out
                rw [List.take_of_length_le (by omega), List.take_of_length_le (by rw [← HL3.out]; omega)] at this
                exact this)
              clear HE
              go_wp2
              clear a1 b1

              go_loopw [8] (fun i wr => ∃ k : Nat, i = .int .i64 k ∧ k ≤ c.pkts.length ∧ Hid (c.pkts.take k = d.pkts.take k) ∧ Hid (Blk wr B 31 #[.string c.note, .slice pf c.faces.length cf, .slice pn c.names.length cn, .slice ps c.secs.length cs, .slice pp c.pkts.length cp] ∧ Blk wr (B + 1) 31 #[.string d.note, .slice qf d.faces.length df, .slice qn d.names.length dn, .slice qs d.secs.length ds, .slice qp d.pkts.length dp] ∧ Below B w wr)) (fun i _ => c.pkts.length - (intOf i).toNat)
              case atStart => exact ⟨0, rfl, Nat.zero_le _, Lib.hid (by simp), HW⟩
              case round =>
                obtain ⟨k, rfl, hk, HE, HW⟩ := hrel
                have a1 : wr.cell? ⟨B, 4, none⟩ = some (.slice pp c.pkts.length cp) := HW.out.1.cell 4
                have b1 : wr.cell? ⟨B + 1, 4, none⟩ = some (.slice qp d.pkts.length dp) := HW.out.2.1.cell 4
                by_cases hlt : k < c.pkts.length
                · have hlt2 : k < d.pkts.length := by rw [← HL4.out]; exact hlt
                  obtain ⟨b1_, o1, hA1, hb1, vs1, hl1, ⟨A1, cc1, rfl, hy1, _, _, _, _⟩, hcx⟩ := (HC.out.pkts.keep pktK HW.out.2.2 (Nat.le_refl _)).row k hlt
                  obtain ⟨b2_, o2, hA2, hb2, vs2, hl2, ⟨A2, cc2, rfl, hy2, _, _, _, _⟩, hcy⟩ := (HD.out.pkts.keep pktK HW.out.2.2 (Nat.le_refl _)).row k hlt2
                  change pp = _ at hA1
                  change qp = _ at hA2
                  have x0 : wr.cell? ⟨b1_, o1 + k * 5, none⟩ = _ := hcx 0 _ rfl
                  have y0 : wr.cell? ⟨b2_, o2 + k * 5, none⟩ = _ := hcy 0 _ rfl
                  have x1 := hcx 1 _ rfl
                  have y1 := hcy 1 _ rfl
                  have x2 := hcx 2 _ rfl
                  have y2 := hcy 2 _ rfl
                  have x3 := hcx 3 _ rfl
                  have y3 := hcy 3 _ rfl
                  have x4 := hcx 4 _ rfl
                  have y4 := hcy 4 _ rfl
                  subst hA1
                  subst hA2
                  have hBl := HW.out.1.lt
                  have HQ := Lib.hid (rpkteq_any (w := wr.drew) (c1 := cc1) (c2 := cc2) (x := c.pkts[k]) (y := d.pkts[k]) ⟨hy1.byt.lt, (hy1.byt.more (Nat.le_of_lt hBl)).cells⟩ ⟨hy2.byt.lt, (hy2.byt.more (Nat.le_of_lt hBl)).cells⟩)
                  clear hcx hcy hy1 hy2
                  cases hq : eqB c.pkts[k] d.pkts[k] with
                  | false =>
                    have HR : Hid (eqB c d = false) := Lib.hid (by
                      refine eqB_false (fun e => ?_)
                      have : c.pkts[k] = d.pkts[k] := by simp only [e]
                      rw [eqB_true this] at hq; cases hq)
                    rw [hq] at HQ
                    clear hq
                    go_wp2_with fail
                    go_still_tail 10, (by kernel_rfl)
                    change wpList _ _ _ _ _ wr.drew
                    go_wp2_with fail
                    refine HQ.out.mono ?_
                    rintro e w1 ⟨rfl, hb⟩
                    have HW1 : Hid (Below B w w1) := Lib.hid (HW.out.2.2.trans (((Below.refl _ wr).drew.trans hb).mono (Nat.le_of_lt hBl)))
                    clear hb
                    go_wp2
                    go_ret
                    exact ⟨ret_bool HR.out.symm, HW1.out⟩
                  | true =>
                    have HE2 : Hid (c.pkts.take (k + 1) = d.pkts.take (k + 1)) := Lib.hid (by
                      rw [List.take_succ_eq_append_getElem hlt, List.take_succ_eq_append_getElem hlt2, HE.out, eqB_iff.1 hq])
                    rw [hq] at HQ
                    clear hq
                    go_wp2_with fail
                    go_still_tail 10, (by kernel_rfl)
                    change wpList _ _ _ _ _ wr.drew
                    go_wp2_with fail
                    refine HQ.out.mono ?_
                    rintro e w1 ⟨rfl, hb⟩
                    have hb' : Below wr.heap.size wr w1 := (Below.refl _ wr).drew.trans hb
                    have HW1 : Hid (Blk w1 B 31 #[.string c.note, .slice pf c.faces.length cf, .slice pn c.names.length cn, .slice ps c.secs.length cs, .slice (some ⟨b1_, o1, none⟩) c.pkts.length cp] ∧ Blk w1 (B + 1) 31 #[.string d.note, .slice qf d.faces.length df, .slice qn d.names.length dn, .slice qs d.secs.length ds, .slice (some ⟨b2_, o2, none⟩) d.pkts.length dp] ∧ Below B w w1) := Lib.hid ⟨HW.out.1.below hb' hBl, HW.out.2.1.below hb' HW.out.2.1.lt, HW.out.2.2.trans (hb'.mono (Nat.le_of_lt hBl))⟩
                    clear hb hb' a1 b1 x0 x1 x2 x3 x4 y0 y1 y2 y3 y4
                    go_wp2
                    go_roundw
                    case rel => exact ⟨k + 1, by go_num, by omega, HE2, HW1⟩
                    case measure => simp [intOf]; omega
                · have Hpkts : Hid (c.pkts = d.pkts) := Lib.hid (by
                    have := HE.out
                    rw [List.take_of_length_le (by omega), List.take_of_length_le (by rw [← HL4.out]; omega)] at this
                    exact this)
                  have HR : Hid (eqB c d = true) := Lib.hid (eqB_true (cap_ext HNOTE.out HF.out Hnames.out Hsecs.out Hpkts.out))
                  clear HE
                  go_wp2
                  go_ret
                  exact ⟨ret_bool HR.out.symm, HW.out.2.2⟩
end Go.Proofs.Ytghdilmlfficlaa
