/- Plain: the reference's. -/
import Derived.Test.YtlimkckomdipkaaP17
import Derived.Test.YtlimkckomdipkaaC43
import Derived.Test.YtlimkckomdipkaaRVald
namespace Go.Proofs.Ytlimkckomdipkaa
open Go.RowKit

set_option maxRecDepth 100000 in
set_option maxHeartbeats 4000000 in
theorem RPlain_any {w : World} {p : Pl} {c : Cap} (hm : CapM w w.heap.size p c) :
    Calls Try.prog 18 #[capV p c] w fun e w' => ∃ q, e = .returned (.tuple #[capV q (plainR c), .int .i64 (errV c)]) ∧ CapT w' q (plainR c) ∧ Below w.heap.size w w' := by
  obtain ⟨pf, cf, pn, cn, ps, cs, pp, cp⟩ := p
  obtain ⟨B, hB⟩ : ∃ B, w.heap.size = B := ⟨_, rfl⟩
  obtain ⟨W0, hW0⟩ : ∃ W0, (w.alloc (.cells #[.string c.note, .slice pf c.faces.length cf, .slice pn c.names.length cn, .slice ps c.secs.length cs, .slice pp c.pkts.length cp] 27)).alloc (.cells #[.string ⟨#[]⟩, .slice none 0 0, .slice none 0 0, .slice none 0 0, .slice none 0 0] 27) = W0 := ⟨_, rfl⟩
  have HM0 : Hid (CapM W0 W0.heap.size ⟨pf, cf, pn, cn, ps, cs, pp, cp⟩ c) := Lib.hid (by rw [← hW0]; exact boxed (boxed hm _) _)
  have HK0 : Hid (Blk W0 B 27 #[.string c.note, .slice pf c.faces.length cf, .slice pn c.names.length cn, .slice ps c.secs.length cs, .slice pp c.pkts.length cp] ∧ Below B w W0) := Lib.hid (by rw [← hW0, ← hB]; exact ⟨(Blk.new _ _ _).alloc _, ((Below.refl _ w).alloc (Nat.le_refl _) _).alloc (by rw [alloc_size]; omega) _⟩)
  have HZ0 : Hid (Blk W0 (B + 1) 27 #[.string ⟨#[]⟩, .slice none 0 0, .slice none 0 0, .slice none 0 0, .slice none 0 0]) := Lib.hid (by
    have h := Blk.new (w.alloc (.cells #[.string c.note, .slice pf c.faces.length cf, .slice pn c.names.length cn, .slice ps c.secs.length cs, .slice pp c.pkts.length cp] 27)) 27 #[.string ⟨#[]⟩, .slice none 0 0, .slice none 0 0, .slice none 0 0, .slice none 0 0]
    rw [alloc_size, hB] at h
    rw [← hW0]; exact h)
  rw [hB] at hm ⊢
  have HM := Lib.hid hm
  have q0 : W0.cell? ⟨B, 0, none⟩ = some (.string c.note) := HK0.out.1.cell 0
  have q1 : W0.cell? ⟨B, 1, none⟩ = some (.slice pf c.faces.length cf) := HK0.out.1.cell 1
  have q2 : W0.cell? ⟨B, 2, none⟩ = some (.slice pn c.names.length cn) := HK0.out.1.cell 2
  have q3 : W0.cell? ⟨B, 3, none⟩ = some (.slice ps c.secs.length cs) := HK0.out.1.cell 3
  have q4 : W0.cell? ⟨B, 4, none⟩ = some (.slice pp c.pkts.length cp) := HK0.out.1.cell 4
  have HV := Lib.hid (rvald_any HM0.out)
  clear hm
  by_cases he : errV c = 0
  · have HE : Hid (plainR c = plainC c) := Lib.hid (by unfold plainR; rw [if_pos he])
    have HB := Lib.hid (errV_ok he)
    have HEE := Lib.hid he
    have hv := HB.out.1
    have hh := HB.out.2
    have hh' : c.faces.length ≤ 4 ∧ c.pkts.length ≤ 100 := by
      have := of_decide_eq_false hh; omega
    simp only [capB, partsB, Bool.and_eq_true, decide_eq_true_eq] at hv
    obtain ⟨⟨hf0, _⟩, _, _, _, hvp⟩ := hv
    have HVP := Lib.hid hvp
    obtain ⟨bf, of_, hA, hbf, vs, hl, ⟨rfl, hbig, hlk0, hsn0⟩, hcell⟩ := HM.out.faces.row 0 hf0
    change pf = _ at hA
    subst hA
    obtain ⟨lk, hlk⟩ : ∃ lk, c.faces[0].link = lk := ⟨_, rfl⟩
    obtain ⟨sn, hsn⟩ : ∃ sn, c.faces[0].snap = sn := ⟨_, rfl⟩
    obtain ⟨nm, hnm⟩ : ∃ nm, c.faces[0].name = nm := ⟨_, rfl⟩
    have HF : Hid (c.faces.head? = some c.faces[0]) := Lib.hid (by
      rw [List.head?_eq_getElem?, List.getElem?_eq_getElem hf0])
    have HPC : Hid (plainC c = ⟨noT, [⟨noT, lk, sn⟩], [], [], (c.pkts.filter keepP).map plainP⟩) := Lib.hid (by
      unfold plainC; rw [HF.out]; simp only [Option.map_some, Option.getD_some]; rw [hlk, hsn])
    rw [hlk] at hlk0
    rw [hsn] at hsn0
    have HLK := Lib.hid hlk0
    have HSN0 := Lib.hid hsn0
    have c0 : w.cell? ⟨bf, of_, none⟩ = some (.string nm) := by rw [← hnm]; exact hcell 0 _ rfl
    have c1 : w.cell? ⟨bf, of_ + 1, none⟩ = some (.int .i64 lk) := by rw [← hlk]; exact hcell 1 _ rfl
    have c2 : w.cell? ⟨bf, of_ + 2, none⟩ = some (.int .i64 sn) := by rw [← hsn]; exact hcell 2 _ rfl
    have hf1 : (0 : Int) < c.faces.length := by omega
    clear hvp hh hlk hsn hnm hlk0 hsn0 hcell HF hl hbig
    go_enter Try.func18, Try.ntmps18
    go_wp2_with fail
    clear hW0
    refine HV.out.mono ?_
    rintro e w1 ⟨rfl, hb1⟩
    have hlB : B + 1 < W0.heap.size := HZ0.out.lt
    have HK1 : Hid (Blk w1 B 27 #[.string c.note, .slice (some ⟨bf, of_, none⟩) c.faces.length cf, .slice pn c.names.length cn, .slice ps c.secs.length cs, .slice pp c.pkts.length cp] ∧ Below B w w1) := Lib.hid ⟨HK0.out.1.below hb1 (by omega), HK0.out.2.trans (hb1.mono (by omega))⟩
    have HZ1 := Lib.hid (HZ0.out.below hb1 hlB)
    have g0 : w1.cell? ⟨bf, of_, none⟩ = some (.string nm) := (HK1.out.2.cell (p := ⟨bf, of_, none⟩) hbf).trans c0
    have g1 : w1.cell? ⟨bf, of_ + 1, none⟩ = some (.int .i64 lk) := (HK1.out.2.cell (p := ⟨bf, of_ + 1, none⟩) hbf).trans c1
    have g2 : w1.cell? ⟨bf, of_ + 2, none⟩ = some (.int .i64 sn) := (HK1.out.2.cell (p := ⟨bf, of_ + 2, none⟩) hbf).trans c2
    rw [he]
    clear hb1 q0 q1 q2 q3 q4 c0 c1 c2 HV he HM0 HK0 HZ0 hlB
    have r1 : w1.cell? ⟨B, 1, none⟩ = some (.slice (some ⟨bf, of_, none⟩) c.faces.length cf) := HK1.out.1.cell 1
    have r4 : w1.cell? ⟨B, 4, none⟩ = some (.slice pp c.pkts.length cp) := HK1.out.1.cell 4
    obtain ⟨N, hN⟩ : ∃ N, w1.heap.size = N := ⟨_, rfl⟩
    have hN1 : B + 1 < N := by rw [← hN]; exact HZ1.out.lt
    go_wp2
    have HB3 : Hid (Below w1.heap.size w1 (((w1.alloc (.cells #[.string ⟨#[]⟩, .int .i64 lk, .int .i64 sn] 54)).alloc (.cells #[.string ⟨#[]⟩, .int .i64 lk, .int .i64 sn] 54)).alloc (.cells #[.string ⟨#[]⟩, .slice (some ⟨N + 1, 0, none⟩) 1 1, .slice none 0 0, .slice none 0 0, .slice none 0 0] 27))) := Lib.hid ((((Below.refl _ w1).alloc (Nat.le_refl _) _).alloc (by rw [alloc_size]; omega) _).alloc (by rw [alloc_size, alloc_size]; omega) _)
    have HF3 : Hid (Blk (((w1.alloc (.cells #[.string ⟨#[]⟩, .int .i64 lk, .int .i64 sn] 54)).alloc (.cells #[.string ⟨#[]⟩, .int .i64 lk, .int .i64 sn] 54)).alloc (.cells #[.string ⟨#[]⟩, .slice (some ⟨N + 1, 0, none⟩) 1 1, .slice none 0 0, .slice none 0 0, .slice none 0 0] 27)) (N + 1) 54 #[.string ⟨#[]⟩, .int .i64 lk, .int .i64 sn]) := Lib.hid (by
      have h := Blk.new (w1.alloc (.cells #[.string ⟨#[]⟩, .int .i64 lk, .int .i64 sn] 54)) 54 #[.string ⟨#[]⟩, .int .i64 lk, .int .i64 sn]
      rw [alloc_size, hN] at h
      exact h.alloc _)
    have HO3 : Hid (Blk (((w1.alloc (.cells #[.string ⟨#[]⟩, .int .i64 lk, .int .i64 sn] 54)).alloc (.cells #[.string ⟨#[]⟩, .int .i64 lk, .int .i64 sn] 54)).alloc (.cells #[.string ⟨#[]⟩, .slice (some ⟨N + 1, 0, none⟩) 1 1, .slice none 0 0, .slice none 0 0, .slice none 0 0] 27)) (N + 1 + 1) 27 #[.string ⟨#[]⟩, .slice (some ⟨N + 1, 0, none⟩) 1 1, .slice none 0 0, .slice none 0 0, .slice none 0 0]) := Lib.hid (by
      have h := Blk.new ((w1.alloc (.cells #[.string ⟨#[]⟩, .int .i64 lk, .int .i64 sn] 54)).alloc (.cells #[.string ⟨#[]⟩, .int .i64 lk, .int .i64 sn] 54)) 27 #[.string ⟨#[]⟩, .slice (some ⟨N + 1, 0, none⟩) 1 1, .slice none 0 0, .slice none 0 0, .slice none 0 0]
      rw [alloc_size, alloc_size, hN] at h
      exact h)
    have HK3 := Lib.hid (show Blk (((w1.alloc (.cells #[.string ⟨#[]⟩, .int .i64 lk, .int .i64 sn] 54)).alloc (.cells #[.string ⟨#[]⟩, .int .i64 lk, .int .i64 sn] 54)).alloc (.cells #[.string ⟨#[]⟩, .slice (some ⟨N + 1, 0, none⟩) 1 1, .slice none 0 0, .slice none 0 0, .slice none 0 0] 27)) B 27 #[.string c.note, .slice (some ⟨bf, of_, none⟩) c.faces.length cf, .slice pn c.names.length cn, .slice ps c.secs.length cs, .slice pp c.pkts.length cp] ∧ Below B w (((w1.alloc (.cells #[.string ⟨#[]⟩, .int .i64 lk, .int .i64 sn] 54)).alloc (.cells #[.string ⟨#[]⟩, .int .i64 lk, .int .i64 sn] 54)).alloc (.cells #[.string ⟨#[]⟩, .slice (some ⟨N + 1, 0, none⟩) 1 1, .slice none 0 0, .slice none 0 0, .slice none 0 0] 27)) from ⟨HK1.out.1.below HB3.out (by omega), HK1.out.2.trans (HB3.out.mono (by omega))⟩)
    have HZ3 := Lib.hid (HZ1.out.below HB3.out HZ1.out.lt)
    have HGG : Hid (B + 2 ≤ N + 1 ∧ B + 2 ≤ N + 1 + 1) := Lib.hid (by omega)
    obtain ⟨W3, hW3⟩ : ∃ W3, ((w1.alloc (.cells #[.string ⟨#[]⟩, .int .i64 lk, .int .i64 sn] 54)).alloc (.cells #[.string ⟨#[]⟩, .int .i64 lk, .int .i64 sn] 54)).alloc (.cells #[.string ⟨#[]⟩, .slice (some ⟨N + 1, 0, none⟩) 1 1, .slice none 0 0, .slice none 0 0, .slice none 0 0] 27) = W3 := ⟨_, rfl⟩
    rw [hW3] at HK3 HZ3 HF3 HO3 ⊢
    clear hW3 HB3 g0 g1 g2 r1 r4 HK1 HZ1 hN1
    generalize N + 1 + 1 = go_ at HO3 HGG ⊢
    generalize N + 1 = gf at HO3 HF3 HGG ⊢
    clear hN
    go_loopw [7] (fun i wr => ∃ (k : Nat) (v : Value) (rows : List (List Value)), i = .int .i64 k ∧ k ≤ c.pkts.length ∧ Hid (OwnP wr (B + 2) v (((c.pkts.take k).filter keepP).map plainP) rows) ∧ Hid (Blk wr go_ 27 #[.string ⟨#[]⟩, .slice (some ⟨gf, 0, none⟩) 1 1, .slice none 0 0, .slice none 0 0, v]) ∧ Hid (Blk wr gf 54 #[.string ⟨#[]⟩, .int .i64 lk, .int .i64 sn]) ∧ Hid (Blk wr (B + 1) 27 #[.string ⟨#[]⟩, .slice none 0 0, .slice none 0 0, .slice none 0 0, .slice none 0 0]) ∧ Hid (Blk wr B 27 #[.string c.note, .slice (some ⟨bf, of_, none⟩) c.faces.length cf, .slice pn c.names.length cn, .slice ps c.secs.length cs, .slice pp c.pkts.length cp] ∧ Below B w wr)) (fun i _ => c.pkts.length - (intOf i).toNat)
    case atStart => exact ⟨0, .slice none 0 0, [], rfl, Nat.zero_le _, Lib.hid (OwnL.nil _ _ _ _ _), HO3, HF3, HZ3, HK3⟩
    case round =>
      obtain ⟨k, v, rows, rfl, hk, HL, HO, HF, HZ, HW⟩ := hrel
      have hBl := HW.out.1.lt
      have hbz : B + 1 < wr.heap.size := HZ.out.lt
      have r4 : wr.cell? ⟨B, 4, none⟩ = some (.slice pp c.pkts.length cp) := HW.out.1.cell 4
      by_cases hlt : k < c.pkts.length
      · obtain ⟨b, o, hA, hb, vs, hl, ⟨A2, cp2, rfl, hbyc, hbig, htm0, hfc0, hrl0⟩, hcell⟩ := (HM.out.pkts.keep pktK HW.out.2 (Nat.le_refl _)).row k hlt
        change pp = _ at hA
        subst hA
        have c0 : wr.cell? ⟨b, o + k * 5, none⟩ = _ := hcell 0 _ rfl
        have c1 := hcell 1 _ rfl
        have c2 := hcell 2 _ rfl
        have c3 := hcell 3 _ rfl
        have c4 := hcell 4 _ rfl
        clear hcell
        have hvk := List.all_eq_true.1 HVP.out _ (List.getElem_mem hlt)
        simp only [pktB, pktS, Bool.and_eq_true, within_iff, decide_eq_true_eq] at hvk
        obtain ⟨hv1, hv2, hv3, hv4, hv5⟩ := hvk
        have htl : c.pkts[k].time < 4294967296000000 := by omega
        have htn : 0 ≤ c.pkts[k].time := by omega
        have hdl : c.pkts[k].data.length ≤ 400 := by omega
        clear hv1 hv2 hv3 hv4 hv5
        have HSEL : Hid ((c.pkts.take (k + 1)).filter keepP = (c.pkts.take k).filter keepP ++ if keepP c.pkts[k] then [c.pkts[k]] else []) := Lib.hid (by
          rw [List.take_succ_eq_append_getElem hlt, List.filter_append]; congr 1; cases hq : keepP c.pkts[k] <;> simp [hq])
        obtain ⟨Q, hP⟩ : ∃ Q, c.pkts[k] = Q := ⟨_, rfl⟩
        rw [hP] at c0 c1 c2 c3 c4 hbyc htl htn hdl hbig htm0 hfc0 hrl0 HSEL
        clear hP hl
        have CL := copyp_any (w := wr) (A := A2) (c := cp2) (p := Q) (hbyc.more (Nat.le_of_lt hBl))
        have HBY : Hid (∀ x ∈ Q.data, x < 256) := Lib.hid hbyc.byt.lt
        obtain ⟨L, hL⟩ : ∃ L, Q.data.length = L := ⟨_, rfl⟩
        have HLL := Lib.hid hL
        rw [hL] at CL c3 hdl
        have HCL := Lib.hid CL
        clear CL hL hbyc
        by_cases hface : Q.face = 0
        · have HSEL2 : Hid (((c.pkts.take (k + 1)).filter keepP).map plainP = ((c.pkts.take k).filter keepP).map plainP ++ [plainP Q]) := Lib.hid (by
            rw [HSEL.out]; unfold keepP; simp [hface])
          have hfb : (Q.face == 0) = true := by simpa using hface
          have hfz : (.int .i64 Q.face : Value) = .int .i64 0 := by rw [hface]
          rw [hface] at HCL c1
          clear hface
          go_wp2_with fail
          refine HCL.out.mono ?_
          rintro e w5 ⟨A5, c5, rfl, ho5, hb5⟩
          have hqt : decide (Q.time / 1000000 < 4294967296) = true := decide_eq_true (by omega)
          have hBs := hb5.size
          have hb6 : Below wr.heap.size wr (w5.alloc (.cells #[.int .i64 Q.time, .int .i64 0, .int .i64 Q.real, .slice A5 L c5, .string ⟨#[]⟩] 47)) := hb5.alloc hBs _
          have ho6 : (w5.alloc (.cells #[.int .i64 Q.time, .int .i64 0, .int .i64 Q.real, .slice A5 L c5, .string ⟨#[]⟩] 47)).ownsRow wr.heap.size 5 1 (.slice A5 L c5) L (Q.data.map Ytlimkckomdipkaa.u8) := ho5.alloc _
          have k6 : Blk (w5.alloc (.cells #[.int .i64 Q.time, .int .i64 0, .int .i64 Q.real, .slice A5 L c5, .string ⟨#[]⟩] 47)) w5.heap.size 47 #[.int .i64 Q.time, .int .i64 0, .int .i64 Q.real, .slice A5 L c5, .string ⟨#[]⟩] := Blk.new _ _ _
          have hxs : (((c.pkts.take k).filter keepP).map plainP).length ≤ 100 := by
            rw [List.length_map]
            exact Nat.le_trans (List.length_filter_le _ _) (by rw [List.length_take]; have := hh'.2; omega)
          have hO6 := HO.out.below hb6 HO.out.lt
          obtain ⟨A7, n7, c7, w7, hrun, hO7, hR7⟩ := plain_step2 (w := w) HLL.out (OwnP.below HL.out hb6) hO6 (HF.out.below hb6 HF.out.lt) (HZ.out.below hb6 hbz) ⟨HW.out.1.below hb6 hBl, HW.out.2.trans (hb6.mono (Nat.le_of_lt hBl))⟩ (by have := HGG.out; omega) ho6 HBY.out hdl hxs htm0 hrl0
          have HR7 := Lib.hid hR7
          have HB0 : Hid (plainP Q = ⟨Q.time, 0, Q.real, Q.data, noT⟩) := Lib.hid rfl
          obtain ⟨N, hN⟩ : ∃ N, w5.heap.size = N := ⟨_, rfl⟩
          rw [hN] at k6
          have n0 : (w5.alloc (.cells #[.int .i64 Q.time, .int .i64 0, .int .i64 Q.real, .slice A5 L c5, .string ⟨#[]⟩] 47)).cell? ⟨N, 0, none⟩ = some (.int .i64 Q.time) := k6.cell 0
          have n1 : (w5.alloc (.cells #[.int .i64 Q.time, .int .i64 0, .int .i64 Q.real, .slice A5 L c5, .string ⟨#[]⟩] 47)).cell? ⟨N, 1, none⟩ = some (.int .i64 0) := k6.cell 1
          have n2 : (w5.alloc (.cells #[.int .i64 Q.time, .int .i64 0, .int .i64 Q.real, .slice A5 L c5, .string ⟨#[]⟩] 47)).cell? ⟨N, 2, none⟩ = some (.int .i64 Q.real) := k6.cell 2
          have n3 : (w5.alloc (.cells #[.int .i64 Q.time, .int .i64 0, .int .i64 Q.real, .slice A5 L c5, .string ⟨#[]⟩] 47)).cell? ⟨N, 3, none⟩ = some (.slice A5 L c5) := k6.cell 3
          have n4 : (w5.alloc (.cells #[.int .i64 Q.time, .int .i64 0, .int .i64 Q.real, .slice A5 L c5, .string ⟨#[]⟩] 47)).cell? ⟨N, 4, none⟩ = some (.string ⟨#[]⟩) := k6.cell 4
          have v4 : (w5.alloc (.cells #[.int .i64 Q.time, .int .i64 0, .int .i64 Q.real, .slice A5 L c5, .string ⟨#[]⟩] 47)).cell? ⟨go_, 4, none⟩ = some v := hO6.cell 4
          have x4 : w7.cell? ⟨go_, 4, none⟩ = some v := hO7.cell 4
          have xf : w7.frozen? ⟨go_, 4, none⟩ = false := hO7.frozen 4
          rw [alloc_size, hN] at hrun
          have hgoN : go_ < N := by have := HO.out.lt; omega
          have v5 : w5.cell? ⟨go_, 4, none⟩ = some v := (hb5.cell (p := ⟨go_, 4, none⟩) HO.out.lt).trans (HO.out.cell 4)
          clear c0 c1 c2 c3 c4 r4 hb5 ho5 hb6 ho6 k6 hxs hO6 hO7 hR7 hBs
          go_wp2_with (at_builtin; refine Lib.wpList_append_run _ rfl _ _ _ _ rfl _ _ rfl rfl _ _ hrun ?_)
          obtain ⟨r7, gL, gO, gF, gZ, gW, gB⟩ := HR7.out
          have HL7 : Hid (OwnP (w7.setCell ⟨go_, 4, none⟩ (.slice A7 n7 c7)) (B + 2) (.slice A7 n7 c7) (((c.pkts.take (k + 1)).filter keepP).map plainP) (rows ++ [r7])) := Lib.hid (by rw [HSEL2.out, HB0.out]; exact gL)
          have HO7 := Lib.hid gO
          have HF7 := Lib.hid gF
          have HZ7 := Lib.hid gZ
          have HW7 := Lib.hid (And.intro gW gB)
          clear gL gO gF gZ gW gB HR7 hrun
          go_roundw
          case rel => exact ⟨k + 1, .slice A7 n7 c7, rows ++ [r7], by go_num, by omega, HL7, HO7, HF7, HZ7, HW7⟩
          case measure => simp [intOf]; omega
        · have HSEL2 : Hid (((c.pkts.take (k + 1)).filter keepP).map plainP = ((c.pkts.take k).filter keepP).map plainP) := Lib.hid (by
            rw [HSEL.out]; unfold keepP; simp [hface])
          have hfb : (Q.face == 0) = false := by simpa using hface
          clear hface
          go_wp2_with fail
          refine HCL.out.mono ?_
          rintro e w5 ⟨A5, c5, rfl, ho5, hb5⟩
          have hBs := hb5.size
          have hb6 : Below wr.heap.size wr (w5.alloc (.cells #[.int .i64 Q.time, .int .i64 Q.face, .int .i64 Q.real, .slice A5 L c5, .string ⟨#[]⟩] 47)) := hb5.alloc hBs _
          have k6 : Blk (w5.alloc (.cells #[.int .i64 Q.time, .int .i64 Q.face, .int .i64 Q.real, .slice A5 L c5, .string ⟨#[]⟩] 47)) w5.heap.size 47 #[.int .i64 Q.time, .int .i64 Q.face, .int .i64 Q.real, .slice A5 L c5, .string ⟨#[]⟩] := Blk.new _ _ _
          obtain ⟨N, hN⟩ : ∃ N, w5.heap.size = N := ⟨_, rfl⟩
          rw [hN] at k6
          have n0 : (w5.alloc (.cells #[.int .i64 Q.time, .int .i64 Q.face, .int .i64 Q.real, .slice A5 L c5, .string ⟨#[]⟩] 47)).cell? ⟨N, 0, none⟩ = some (.int .i64 Q.time) := k6.cell 0
          have n1 : (w5.alloc (.cells #[.int .i64 Q.time, .int .i64 Q.face, .int .i64 Q.real, .slice A5 L c5, .string ⟨#[]⟩] 47)).cell? ⟨N, 1, none⟩ = some (.int .i64 Q.face) := k6.cell 1
          have HL7 : Hid (OwnP (w5.alloc (.cells #[.int .i64 Q.time, .int .i64 Q.face, .int .i64 Q.real, .slice A5 L c5, .string ⟨#[]⟩] 47)) (B + 2) v (((c.pkts.take (k + 1)).filter keepP).map plainP) rows) := Lib.hid (by rw [HSEL2.out]; exact OwnP.below HL.out hb6)
          have HO7 := Lib.hid (HO.out.below hb6 HO.out.lt)
          have HF7 := Lib.hid (HF.out.below hb6 HF.out.lt)
          have HZ7 := Lib.hid (HZ.out.below hb6 hbz)
          have HW7 : Hid (Blk (w5.alloc (.cells #[.int .i64 Q.time, .int .i64 Q.face, .int .i64 Q.real, .slice A5 L c5, .string ⟨#[]⟩] 47)) B 27 #[.string c.note, .slice (some ⟨bf, of_, none⟩) c.faces.length cf, .slice pn c.names.length cn, .slice ps c.secs.length cs, .slice (some ⟨b, o, none⟩) c.pkts.length cp] ∧ Below B w (w5.alloc (.cells #[.int .i64 Q.time, .int .i64 Q.face, .int .i64 Q.real, .slice A5 L c5, .string ⟨#[]⟩] 47))) := Lib.hid ⟨HW.out.1.below hb6 hBl, HW.out.2.trans (hb6.mono (Nat.le_of_lt hBl))⟩
          clear c0 c1 c2 c3 c4 r4 hb5 ho5 hb6 k6 hBs
          go_wp2_with fail
          go_roundw
          case rel => exact ⟨k + 1, v, rows, by go_num, by omega, HL7, HO7, HF7, HZ7, HW7⟩
          case measure => simp [intOf]; omega
      · have hkl : k = c.pkts.length := by omega
        obtain ⟨A8, c8, rfl, hle8, hnil8⟩ := own_form2 HL.out.own
        obtain ⟨n8, hn8⟩ : ∃ n8, (((c.pkts.take k).filter keepP).map plainP).length = n8 := ⟨_, rfl⟩
        have hxs : (((c.pkts.take k).filter keepP).map plainP).length ≤ 100 := by
          rw [List.length_map]
          exact Nat.le_trans (List.length_filter_le _ _) (by rw [List.length_take]; have := hh'.2; omega)
        have hLO := HL.out
        rw [hn8] at hle8 HO hLO
        have HEND := Lib.hid (plain_end hn8 hLO HZ.out HF.out (by have := HGG.out; omega) HW.out.2 HLK.out HSN0.out hle8 hnil8 hxs)
        rw [hkl, List.take_length] at HEND hn8
        have HN8 := Lib.hid hn8
        clear hLO hxs
        have o0 : wr.cell? ⟨go_, 0, none⟩ = some (.string ⟨#[]⟩) := HO.out.cell 0
        have o1 : wr.cell? ⟨go_, 1, none⟩ = some (.slice (some ⟨gf, 0, none⟩) 1 1) := HO.out.cell 1
        have o2 : wr.cell? ⟨go_, 2, none⟩ = some (.slice none 0 0) := HO.out.cell 2
        have o3 : wr.cell? ⟨go_, 3, none⟩ = some (.slice none 0 0) := HO.out.cell 3
        have o4 : wr.cell? ⟨go_, 4, none⟩ = some (.slice A8 n8 c8) := HO.out.cell 4
        have z0 : wr.cell? ⟨B + 1, 0, none⟩ = some (.string ⟨#[]⟩) := HZ.out.cell 0
        have zf0 : wr.frozen? ⟨B + 1, 0, none⟩ = false := HZ.out.frozen 0
        have z1 : wr.cell? ⟨B + 1, 1, none⟩ = some (.slice none 0 0) := HZ.out.cell 1
        have zf1 : wr.frozen? ⟨B + 1, 1, none⟩ = false := HZ.out.frozen 1
        have z2 : wr.cell? ⟨B + 1, 2, none⟩ = some (.slice none 0 0) := HZ.out.cell 2
        have zf2 : wr.frozen? ⟨B + 1, 2, none⟩ = false := HZ.out.frozen 2
        have z3 : wr.cell? ⟨B + 1, 3, none⟩ = some (.slice none 0 0) := HZ.out.cell 3
        have zf3 : wr.frozen? ⟨B + 1, 3, none⟩ = false := HZ.out.frozen 3
        have z4 : wr.cell? ⟨B + 1, 4, none⟩ = some (.slice none 0 0) := HZ.out.cell 4
        have zf4 : wr.frozen? ⟨B + 1, 4, none⟩ = false := HZ.out.frozen 4
        clear hkl hle8 hnil8 HL hn8
        go_wp2
        generalize hW9 : ((((wr.setCell ⟨B + 1, 0, none⟩ (.string ⟨#[]⟩)).setCell ⟨B + 1, 1, none⟩ (.slice (some ⟨gf, 0, none⟩) 1 1)).setCell ⟨B + 1, 2, none⟩ (.slice none 0 0)).setCell ⟨B + 1, 3, none⟩ (.slice none 0 0)).setCell ⟨B + 1, 4, none⟩ (.slice A8 n8 c8) = W9 at HEND ⊢
        obtain ⟨hb9, hc9, hw9⟩ := HEND.out
        have y0 : W9.cell? ⟨B + 1, 0, none⟩ = some (.string ⟨#[]⟩) := hb9.cell 0
        have y1 : W9.cell? ⟨B + 1, 1, none⟩ = some (.slice (some ⟨gf, 0, none⟩) 1 1) := hb9.cell 1
        have y2 : W9.cell? ⟨B + 1, 2, none⟩ = some (.slice none 0 0) := hb9.cell 2
        have y3 : W9.cell? ⟨B + 1, 3, none⟩ = some (.slice none 0 0) := hb9.cell 3
        have y4 : W9.cell? ⟨B + 1, 4, none⟩ = some (.slice A8 n8 c8) := hb9.cell 4
        exact bodyPost_ret (v := .tuple #[.agg #[.string ⟨#[]⟩, .slice (some ⟨gf, 0, none⟩) 1 1, .slice none 0 0, .slice none 0 0, .slice A8 n8 c8], .int .i64 0]) (by simp [results, Try.results18, go_sem, y0, y1, y2, y3, y4]) rfl ⟨⟨some ⟨gf, 0, none⟩, 1, none, 0, none, 0, A8, c8⟩, by rw [HE.out, HEE.out, HPC.out, ← HN8.out]; rfl, by rw [HE.out, HPC.out]; exact hc9, hw9⟩
  · have HE : Hid (plainR c = ⟨noT, [], [], [], []⟩) := Lib.hid (by unfold plainR; rw [if_neg he])
    obtain ⟨E, hE⟩ : ∃ E, errV c = E := ⟨_, rfl⟩
    rw [hE] at HV he ⊢
    have hd : (E == 0) = false := by simpa using he
    have HV2 := HV
    clear hE he
    go_enter Try.func18, Try.ntmps18
    go_wp2_with fail
    clear hW0
    refine HV.out.mono ?_
    rintro e w1 ⟨rfl, hb1⟩
    have hlB : B + 1 < W0.heap.size := HZ0.out.lt
    have HB2 : Hid (Below B w w1) := Lib.hid (HK0.out.2.trans (hb1.mono (by omega)))
    have HZ2 := Lib.hid (HZ0.out.below hb1 hlB)
    clear hb1 q0 q1 q2 q3 q4 HV HV2
    have z0 : w1.cell? ⟨B + 1, 0, none⟩ = some (.string ⟨#[]⟩) := HZ2.out.cell 0
    have zf0 : w1.frozen? ⟨B + 1, 0, none⟩ = false := HZ2.out.frozen 0
    have z1 : w1.cell? ⟨B + 1, 1, none⟩ = some (.slice none 0 0) := HZ2.out.cell 1
    have zf1 : w1.frozen? ⟨B + 1, 1, none⟩ = false := HZ2.out.frozen 1
    have z2 : w1.cell? ⟨B + 1, 2, none⟩ = some (.slice none 0 0) := HZ2.out.cell 2
    have zf2 : w1.frozen? ⟨B + 1, 2, none⟩ = false := HZ2.out.frozen 2
    have z3 : w1.cell? ⟨B + 1, 3, none⟩ = some (.slice none 0 0) := HZ2.out.cell 3
    have zf3 : w1.frozen? ⟨B + 1, 3, none⟩ = false := HZ2.out.frozen 3
    have z4 : w1.cell? ⟨B + 1, 4, none⟩ = some (.slice none 0 0) := HZ2.out.cell 4
    have zf4 : w1.frozen? ⟨B + 1, 4, none⟩ = false := HZ2.out.frozen 4
    have HEND := Lib.hid (five_set (.string ⟨#[]⟩) (.slice none 0 0) (.slice none 0 0) (.slice none 0 0) (.slice none 0 0) HZ2.out HB2.out (Nat.le_succ B))
    go_wp2
    generalize hW9 : ((((w1.setCell ⟨B + 1, 0, none⟩ (.string ⟨#[]⟩)).setCell ⟨B + 1, 1, none⟩ (.slice none 0 0)).setCell ⟨B + 1, 2, none⟩ (.slice none 0 0)).setCell ⟨B + 1, 3, none⟩ (.slice none 0 0)).setCell ⟨B + 1, 4, none⟩ (.slice none 0 0) = W9 at HEND ⊢
    obtain ⟨hb9, hw9, ha9⟩ := HEND.out
    have y0 : W9.cell? ⟨B + 1, 0, none⟩ = some (.string ⟨#[]⟩) := hb9.cell 0
    have y1 : W9.cell? ⟨B + 1, 1, none⟩ = some (.slice none 0 0) := hb9.cell 1
    have y2 : W9.cell? ⟨B + 1, 2, none⟩ = some (.slice none 0 0) := hb9.cell 2
    have y3 : W9.cell? ⟨B + 1, 3, none⟩ = some (.slice none 0 0) := hb9.cell 3
    have y4 : W9.cell? ⟨B + 1, 4, none⟩ = some (.slice none 0 0) := hb9.cell 4
    exact bodyPost_ret (v := .tuple #[.agg #[.string ⟨#[]⟩, .slice none 0 0, .slice none 0 0, .slice none 0 0, .slice none 0 0], .int .i64 E]) (by simp [results, Try.results18, go_sem, y0, y1, y2, y3, y4]) rfl ⟨⟨none, 0, none, 0, none, 0, none, 0⟩, by rw [HE.out]; rfl, by rw [HE.out]; exact capT_nil _, hw9⟩
end Go.Proofs.Ytlimkckomdipkaa
