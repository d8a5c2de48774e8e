/- The reference's writeOld. -/
import Derived.Test.YtlimkckomdipkaaRRes
import Derived.Test.YtlimkckomdipkaaW10
namespace Go.Proofs.Ytlimkckomdipkaa
open Go.RowKit

theorem old_ref (low : Bool) (sn lk : Nat) : numB low 4 2712847316 ++ (numB low 2 2 ++ (numB low 2 4 ++ (numB low 4 0 ++ (numB low 4 0 ++ (numB low 4 sn ++ numB low 4 lk))))) = oldB low ++ numsB low 4 [sn, lk] := by
  unfold oldB
  rw [numsB_o, numsB_c, numsB_o, numsB_c, numsB_o, numsB_c, numsB_o]
  simp
theorem rec_ref (low : Bool) (tq tr rl : Nat) (d : List Nat) : numB low 4 tq ++ (numB low 4 tr ++ (numB low 4 d.length ++ (numB low 4 rl ++ d))) = numsB low 4 [tq, tr, d.length, rl] ++ d := by
  rw [numsB_c, numsB_c, numsB_c, numsB_o]
  simp

set_option maxRecDepth 100000 in
set_option maxHeartbeats 16000000 in
theorem rwold_any {w : World} {p : Pl} {c : Cap} (low : Bool) (hm : CapM w w.heap.size p c) (he : errV c = 0) :
    Calls Try.prog 31 #[capV p c, .bool low] w (OwnG w w.heap.size (oldFileB low c)) := by
  obtain ⟨pf, cf, pn, cn, ps, cs, pp, cp⟩ := p
  obtain ⟨B, hB⟩ : ∃ B, w.heap.size = B := ⟨_, rfl⟩
  obtain ⟨W0, hW0⟩ : ∃ W0, w.alloc (.cells #[.string c.note, .slice pf c.faces.length cf, .slice pn c.names.length cn, .slice ps c.secs.length cs, .slice pp c.pkts.length cp] 27) = W0 := ⟨_, rfl⟩
  have HK0 : Hid (Blk W0 B 27 #[.string c.note, .slice pf c.faces.length cf, .slice pn c.names.length cn, .slice ps c.secs.length cs, .slice pp c.pkts.length cp] ∧ Below B w W0) := Lib.hid (by rw [← hW0, ← hB]; exact ⟨Blk.new _ _ _, (Below.refl _ w).alloc (Nat.le_refl _) _⟩)
  have HM := Lib.hid (show CapM w B ⟨pf, cf, pn, cn, ps, cs, pp, cp⟩ c by rw [← hB]; exact hm)
  have HOK := Lib.hid (okay_of' he)
  have HBE := Lib.hid hB
  have hlen0 : 0 < c.faces.length := HOK.out.nf.1
  have lp : c.pkts.length ≤ 100 := HOK.out.np
  obtain ⟨bf, of_, hA, hbl, vs, _, ⟨rfl, hbg, hlk0, hsn0⟩, hcell⟩ := (HM.out.faces.keep facK HK0.out.2 (Nat.le_refl _)).row 0 hlen0
  change pf = _ at hA
  subst hA
  obtain ⟨hv1, hv2, hv3, hv4, hv5⟩ := HOK.out.faces _ (List.getElem_mem hlen0)
  obtain ⟨lk, hlk⟩ : ∃ lk : Nat, c.faces[0].link = lk := ⟨c.faces[0].link.toNat, by omega⟩
  obtain ⟨sn, hsn⟩ : ∃ sn : Nat, c.faces[0].snap = sn := ⟨c.faces[0].snap.toNat, by omega⟩
  have f1 : W0.cell? ⟨bf, of_ + 1, none⟩ = some (.int .i64 (lk : Nat)) := by rw [← hlk]; simpa using hcell 1 _ rfl
  have f2 : W0.cell? ⟨bf, of_ + 2, none⟩ = some (.int .i64 (sn : Nat)) := by rw [← hsn]; simpa using hcell 2 _ rfl
  have HHEAD : Hid (oldFileB low c = (oldB low ++ numsB low 4 [sn, lk]) ++ c.pkts.flatMap (recB low)) := Lib.hid (by
    unfold oldFileB
    have : c.faces.head? = some c.faces[0] := by rw [List.head?_eq_getElem?, List.getElem?_eq_getElem hlen0]
    rw [this]
    simp only [Option.map_some, Option.getD_some, hlk, hsn, Int.toNat_natCast])
  have hf0 : (0 : Int) < (c.faces.length : Int) := by omega
  have hbf0 : bf < W0.heap.size := Nat.lt_trans hbl HK0.out.1.lt
  clear hcell hv1 hv2 hv3 hv4 hv5 hlk hsn hbg hlk0 hsn0
  rw [hB]
  clear hm he
  go_enter Try.func31, Try.ntmps31
  go_wp2_with fail
  clear hW0 hB
  have HS0 : Hid (Blk W0 B 27 #[.string c.note, .slice (some ⟨bf, of_, none⟩) c.faces.length cf, .slice pn c.names.length cn, .slice ps c.secs.length cs, .slice pp c.pkts.length cp]) := Lib.hid HK0.out.1
  have HSd : Hid (Blk W0.drew B 27 #[.string c.note, .slice (some ⟨bf, of_, none⟩) c.faces.length cf, .slice pn c.names.length cn, .slice ps c.secs.length cs, .slice pp c.pkts.length cp]) := HS0
  have KB00 : Hid (Below W0.heap.size W0 W0.drew) := Lib.hid (Below.refl _ _).drew
  have s0d : (fun y => y.cell? ⟨B, 1, none⟩ = some (.slice (some ⟨bf, of_, none⟩) c.faces.length cf) ∧ y.cell? ⟨bf, of_ + 1, none⟩ = some (.int .i64 (lk : Nat)) ∧ y.cell? ⟨bf, of_ + 2, none⟩ = some (.int .i64 (sn : Nat))) W0.drew := ⟨HS0.out.cell 1, (KB00.out.cell (p := ⟨bf, of_ + 1, none⟩) hbf0).trans f1, (KB00.out.cell (p := ⟨bf, of_ + 2, none⟩) hbf0).trans f2⟩
  refine wp_region_held_drew (S := fun y => y.cell? ⟨B, 1, none⟩ = some (.slice (some ⟨bf, of_, none⟩) c.faces.length cf) ∧ y.cell? ⟨bf, of_ + 1, none⟩ = some (.int .i64 (lk : Nat)) ∧ y.cell? ⟨bf, of_ + 2, none⟩ = some (.int .i64 (sn : Nat))) (by kernel_rfl) s0d (fun hHeld => ?_)
  generalize W0.drew = y0 at s0d HSd KB00 hHeld ⊢
  have s0 := s0d
  have KBd := KB00
  clear s0d KB00
  refine tky 0 ?_
  repeat (rw [putL]; simp only [List.set])
  refine tky 2 ?_
  repeat (rw [putL]; simp only [List.set])
  refine tky 4 ?_
  repeat (rw [putL]; simp only [List.set])
  refine tky 6 ?_
  repeat (rw [putL]; simp only [List.set])
  refine tky 8 ?_
  repeat (rw [putL]; simp only [List.set])
  refine tky 10 ?_
  repeat (rw [putL]; simp only [List.set])
  refine tky 11 ?_
  repeat (rw [putL]; simp only [List.set])
  refine tky 12 ?_
  repeat (rw [putL]; simp only [List.set])
  refine tky 13 ?_
  repeat (rw [putL]; simp only [List.set])
  refine tky 14 ?_
  repeat (rw [putL]; simp only [List.set])
  refine tky 15 ?_
  repeat (rw [putL]; simp only [List.set])
  refine tky 17 ?_
  repeat (rw [putL]; simp only [List.set])
  refine tky 18 ?_
  repeat (rw [putL]; simp only [List.set])
  refine tky 19 ?_
  repeat (rw [putL]; simp only [List.set])
  refine tky 20 ?_
  repeat (rw [putL]; simp only [List.set])
  refine tky 21 ?_
  repeat (rw [putL]; simp only [List.set])
  refine tky 22 ?_
  repeat (rw [putL]; simp only [List.set])
  refine wpAnyH_ready (rs := [1]) (by kernel_rfl) (by simp) ?_
  refine rdy rfl (fun K hK => ?_) (AllReadyH.nil)
  have CC : Calls Try.prog 34 #[.int .i64 2712847316, .bool low] y0 (OwnG y0 y0.heap.size (numB low 4 2712847316)) := rfourG y0 low 2712847316
  go_simp
  go_at_call 34
  with_reducible refine CC.mono ?_
  rintro e y1 ⟨v0, rfl, g0, bb⟩
  clear CC
  obtain ⟨Aa, La, ca, rfl, r0⟩ := res_of (N := W0.heap.size) g0 KBd.out.size
  have HLBa : Hid (La ≤ 700) := Lib.hid (by rw [← r0.l, numB_len]; omega)
  have Ra := Lib.hid r0
  clear r0 g0
  have KB1 : Hid (Below W0.heap.size W0 y1) := Lib.hid (KBd.out.trans (bb.mono KBd.out.size))
  have HS1 := Lib.hid (HSd.out.below bb HSd.out.lt)
  have s1 : (fun y => y.cell? ⟨B, 1, none⟩ = some (.slice (some ⟨bf, of_, none⟩) c.faces.length cf) ∧ y.cell? ⟨bf, of_ + 1, none⟩ = some (.int .i64 (lk : Nat)) ∧ y.cell? ⟨bf, of_ + 2, none⟩ = some (.int .i64 (sn : Nat))) y1 := ⟨HS1.out.cell 1, (KB1.out.cell (p := ⟨bf, of_ + 1, none⟩) hbf0).trans f1, (KB1.out.cell (p := ⟨bf, of_ + 2, none⟩) hbf0).trans f2⟩
  clear bb
  dsimp only
  refine hK.out _ _ s1 (fun hHeld => ?_)
  clear hK K
  repeat (rw [putL]; simp only [List.set])
  refine wpAnyH_ready (rs := [3]) (by kernel_rfl) (by simp) ?_
  refine rdy rfl (fun K hK => ?_) (AllReadyH.nil)
  have CC : Calls Try.prog 35 #[.int .i64 2, .bool low] y1 (OwnG y1 y1.heap.size (numB low 2 2)) := rtwoG y1 low 2
  go_simp
  go_at_call 35
  with_reducible refine CC.mono ?_
  rintro e y2 ⟨v0, rfl, g0, bb⟩
  clear CC
  obtain ⟨Ae, Le, ce, rfl, r0⟩ := res_of (N := W0.heap.size) g0 KB1.out.size
  have HLBe : Hid (Le ≤ 700) := Lib.hid (by rw [← r0.l, numB_len]; omega)
  have Re := Lib.hid r0
  clear r0 g0
  replace Ra := Lib.hid (Ra.out.below bb)
  have KB2 : Hid (Below W0.heap.size W0 y2) := Lib.hid (KB1.out.trans (bb.mono KB1.out.size))
  have HS2 := Lib.hid (HS1.out.below bb HS1.out.lt)
  have s2 : (fun y => y.cell? ⟨B, 1, none⟩ = some (.slice (some ⟨bf, of_, none⟩) c.faces.length cf) ∧ y.cell? ⟨bf, of_ + 1, none⟩ = some (.int .i64 (lk : Nat)) ∧ y.cell? ⟨bf, of_ + 2, none⟩ = some (.int .i64 (sn : Nat))) y2 := ⟨HS2.out.cell 1, (KB2.out.cell (p := ⟨bf, of_ + 1, none⟩) hbf0).trans f1, (KB2.out.cell (p := ⟨bf, of_ + 2, none⟩) hbf0).trans f2⟩
  clear bb
  dsimp only
  refine hK.out _ _ s2 (fun hHeld => ?_)
  clear hK K
  repeat (rw [putL]; simp only [List.set])
  refine wpAnyH_ready (rs := [5]) (by kernel_rfl) (by simp) ?_
  refine rdy rfl (fun K hK => ?_) (AllReadyH.nil)
  have CC : Calls Try.prog 35 #[.int .i64 4, .bool low] y2 (OwnG y2 y2.heap.size (numB low 2 4)) := rtwoG y2 low 4
  go_simp
  go_at_call 35
  with_reducible refine CC.mono ?_
  rintro e y3 ⟨v0, rfl, g0, bb⟩
  clear CC
  obtain ⟨Ai, Li, ci, rfl, r0⟩ := res_of (N := W0.heap.size) g0 KB2.out.size
  have HLBi : Hid (Li ≤ 700) := Lib.hid (by rw [← r0.l, numB_len]; omega)
  have Ri := Lib.hid r0
  clear r0 g0
  replace Ra := Lib.hid (Ra.out.below bb)
  replace Re := Lib.hid (Re.out.below bb)
  have KB3 : Hid (Below W0.heap.size W0 y3) := Lib.hid (KB2.out.trans (bb.mono KB2.out.size))
  have HS3 := Lib.hid (HS2.out.below bb HS2.out.lt)
  have s3 : (fun y => y.cell? ⟨B, 1, none⟩ = some (.slice (some ⟨bf, of_, none⟩) c.faces.length cf) ∧ y.cell? ⟨bf, of_ + 1, none⟩ = some (.int .i64 (lk : Nat)) ∧ y.cell? ⟨bf, of_ + 2, none⟩ = some (.int .i64 (sn : Nat))) y3 := ⟨HS3.out.cell 1, (KB3.out.cell (p := ⟨bf, of_ + 1, none⟩) hbf0).trans f1, (KB3.out.cell (p := ⟨bf, of_ + 2, none⟩) hbf0).trans f2⟩
  clear bb
  dsimp only
  refine hK.out _ _ s3 (fun hHeld => ?_)
  clear hK K
  repeat (rw [putL]; simp only [List.set])
  refine wpAnyH_ready (rs := [7]) (by kernel_rfl) (by simp) ?_
  refine rdy rfl (fun K hK => ?_) (AllReadyH.nil)
  have CC : Calls Try.prog 34 #[.int .i64 0, .bool low] y3 (OwnG y3 y3.heap.size (numB low 4 0)) := rfourG y3 low 0
  go_simp
  go_at_call 34
  with_reducible refine CC.mono ?_
  rintro e y4 ⟨v0, rfl, g0, bb⟩
  clear CC
  obtain ⟨Ak, Lk, ck, rfl, r0⟩ := res_of (N := W0.heap.size) g0 KB3.out.size
  have HLBk : Hid (Lk ≤ 700) := Lib.hid (by rw [← r0.l, numB_len]; omega)
  have Rk := Lib.hid r0
  clear r0 g0
  replace Ra := Lib.hid (Ra.out.below bb)
  replace Re := Lib.hid (Re.out.below bb)
  replace Ri := Lib.hid (Ri.out.below bb)
  have KB4 : Hid (Below W0.heap.size W0 y4) := Lib.hid (KB3.out.trans (bb.mono KB3.out.size))
  have HS4 := Lib.hid (HS3.out.below bb HS3.out.lt)
  have s4 : (fun y => y.cell? ⟨B, 1, none⟩ = some (.slice (some ⟨bf, of_, none⟩) c.faces.length cf) ∧ y.cell? ⟨bf, of_ + 1, none⟩ = some (.int .i64 (lk : Nat)) ∧ y.cell? ⟨bf, of_ + 2, none⟩ = some (.int .i64 (sn : Nat))) y4 := ⟨HS4.out.cell 1, (KB4.out.cell (p := ⟨bf, of_ + 1, none⟩) hbf0).trans f1, (KB4.out.cell (p := ⟨bf, of_ + 2, none⟩) hbf0).trans f2⟩
  clear bb
  dsimp only
  refine hK.out _ _ s4 (fun hHeld => ?_)
  clear hK K
  repeat (rw [putL]; simp only [List.set])
  refine wpAnyH_ready (rs := [9]) (by kernel_rfl) (by simp) ?_
  refine rdy rfl (fun K hK => ?_) (AllReadyH.nil)
  have CC : Calls Try.prog 34 #[.int .i64 0, .bool low] y4 (OwnG y4 y4.heap.size (numB low 4 0)) := rfourG y4 low 0
  go_simp
  go_at_call 34
  with_reducible refine CC.mono ?_
  rintro e y5 ⟨v0, rfl, g0, bb⟩
  clear CC
  obtain ⟨Am, Lm, cm, rfl, r0⟩ := res_of (N := W0.heap.size) g0 KB4.out.size
  have HLBm : Hid (Lm ≤ 700) := Lib.hid (by rw [← r0.l, numB_len]; omega)
  have Rm := Lib.hid r0
  clear r0 g0
  replace Ra := Lib.hid (Ra.out.below bb)
  replace Re := Lib.hid (Re.out.below bb)
  replace Ri := Lib.hid (Ri.out.below bb)
  replace Rk := Lib.hid (Rk.out.below bb)
  have KB5 : Hid (Below W0.heap.size W0 y5) := Lib.hid (KB4.out.trans (bb.mono KB4.out.size))
  have HS5 := Lib.hid (HS4.out.below bb HS4.out.lt)
  have s5 : (fun y => y.cell? ⟨B, 1, none⟩ = some (.slice (some ⟨bf, of_, none⟩) c.faces.length cf) ∧ y.cell? ⟨bf, of_ + 1, none⟩ = some (.int .i64 (lk : Nat)) ∧ y.cell? ⟨bf, of_ + 2, none⟩ = some (.int .i64 (sn : Nat))) y5 := ⟨HS5.out.cell 1, (KB5.out.cell (p := ⟨bf, of_ + 1, none⟩) hbf0).trans f1, (KB5.out.cell (p := ⟨bf, of_ + 2, none⟩) hbf0).trans f2⟩
  clear bb
  dsimp only
  refine hK.out _ _ s5 (fun hHeld => ?_)
  clear hK K
  repeat (rw [putL]; simp only [List.set])
  refine wpAnyH_ready (rs := [16]) (by kernel_rfl) (by simp) ?_
  refine rdy rfl (fun K hK => ?_) (AllReadyH.nil)
  have CC : Calls Try.prog 34 #[.int .i64 sn, .bool low] y5 (OwnG y5 y5.heap.size (numB low 4 sn)) := rfourG y5 low sn
  go_simp
  go_at_call 34
  with_reducible refine CC.mono ?_
  rintro e y6 ⟨v0, rfl, g0, bb⟩
  clear CC
  obtain ⟨Aq, Lq, cq, rfl, r0⟩ := res_of (N := W0.heap.size) g0 KB5.out.size
  have HLBq : Hid (Lq ≤ 700) := Lib.hid (by rw [← r0.l, numB_len]; omega)
  have Rq := Lib.hid r0
  clear r0 g0
  replace Ra := Lib.hid (Ra.out.below bb)
  replace Re := Lib.hid (Re.out.below bb)
  replace Ri := Lib.hid (Ri.out.below bb)
  replace Rk := Lib.hid (Rk.out.below bb)
  replace Rm := Lib.hid (Rm.out.below bb)
  have KB6 : Hid (Below W0.heap.size W0 y6) := Lib.hid (KB5.out.trans (bb.mono KB5.out.size))
  have HS6 := Lib.hid (HS5.out.below bb HS5.out.lt)
  have s6 : (fun y => y.cell? ⟨B, 1, none⟩ = some (.slice (some ⟨bf, of_, none⟩) c.faces.length cf) ∧ y.cell? ⟨bf, of_ + 1, none⟩ = some (.int .i64 (lk : Nat)) ∧ y.cell? ⟨bf, of_ + 2, none⟩ = some (.int .i64 (sn : Nat))) y6 := ⟨HS6.out.cell 1, (KB6.out.cell (p := ⟨bf, of_ + 1, none⟩) hbf0).trans f1, (KB6.out.cell (p := ⟨bf, of_ + 2, none⟩) hbf0).trans f2⟩
  clear bb
  dsimp only
  refine hK.out _ _ s6 (fun hHeld => ?_)
  clear hK K
  repeat (rw [putL]; simp only [List.set])
  refine wpAnyH_ready (rs := [23]) (by kernel_rfl) (by simp) ?_
  refine rdy rfl (fun K hK => ?_) (AllReadyH.nil)
  have CC : Calls Try.prog 34 #[.int .i64 lk, .bool low] y6 (OwnG y6 y6.heap.size (numB low 4 lk)) := rfourG y6 low lk
  go_simp
  go_at_call 34
  with_reducible refine CC.mono ?_
  rintro e y7 ⟨v0, rfl, g0, bb⟩
  clear CC
  obtain ⟨Ar, Lr, cr, rfl, r0⟩ := res_of (N := W0.heap.size) g0 KB6.out.size
  have HLBr : Hid (Lr ≤ 700) := Lib.hid (by rw [← r0.l, numB_len]; omega)
  have Rr := Lib.hid r0
  clear r0 g0
  replace Ra := Lib.hid (Ra.out.below bb)
  replace Re := Lib.hid (Re.out.below bb)
  replace Ri := Lib.hid (Ri.out.below bb)
  replace Rk := Lib.hid (Rk.out.below bb)
  replace Rm := Lib.hid (Rm.out.below bb)
  replace Rq := Lib.hid (Rq.out.below bb)
  have KB7 : Hid (Below W0.heap.size W0 y7) := Lib.hid (KB6.out.trans (bb.mono KB6.out.size))
  have HS7 := Lib.hid (HS6.out.below bb HS6.out.lt)
  have s7 : (fun y => y.cell? ⟨B, 1, none⟩ = some (.slice (some ⟨bf, of_, none⟩) c.faces.length cf) ∧ y.cell? ⟨bf, of_ + 1, none⟩ = some (.int .i64 (lk : Nat)) ∧ y.cell? ⟨bf, of_ + 2, none⟩ = some (.int .i64 (sn : Nat))) y7 := ⟨HS7.out.cell 1, (KB7.out.cell (p := ⟨bf, of_ + 1, none⟩) hbf0).trans f1, (KB7.out.cell (p := ⟨bf, of_ + 2, none⟩) hbf0).trans f2⟩
  clear bb
  dsimp only
  refine hK.out _ _ s7 (fun hHeld => ?_)
  clear hK K
  repeat (rw [putL]; simp only [List.set])
  refine wpAnyH_ready (rs := [24]) (by kernel_rfl) (by simp) ?_
  refine rdy rfl (fun K hK => ?_) (AllReadyH.nil)
  have JJ := rjoinM (X := y7) [(Aa, La, ca, numB low 4 2712847316), (Ae, Le, ce, numB low 2 2), (Ai, Li, ci, numB low 2 4), (Ak, Lk, ck, numB low 4 0), (Am, Lm, cm, numB low 4 0), (Aq, Lq, cq, numB low 4 sn), (Ar, Lr, cr, numB low 4 lk)] (List.forall_mem_cons.2 ⟨⟨Ra.out.byt, Ra.out.l, (by show La ≤ 1000; have h2 := HLBa.out; omega)⟩, List.forall_mem_cons.2 ⟨⟨Re.out.byt, Re.out.l, (by show Le ≤ 1000; have h2 := HLBe.out; omega)⟩, List.forall_mem_cons.2 ⟨⟨Ri.out.byt, Ri.out.l, (by show Li ≤ 1000; have h2 := HLBi.out; omega)⟩, List.forall_mem_cons.2 ⟨⟨Rk.out.byt, Rk.out.l, (by show Lk ≤ 1000; have h2 := HLBk.out; omega)⟩, List.forall_mem_cons.2 ⟨⟨Rm.out.byt, Rm.out.l, (by show Lm ≤ 1000; have h2 := HLBm.out; omega)⟩, List.forall_mem_cons.2 ⟨⟨Rq.out.byt, Rq.out.l, (by show Lq ≤ 1000; have h2 := HLBq.out; omega)⟩, List.forall_mem_cons.2 ⟨⟨Rr.out.byt, Rr.out.l, (by show Lr ≤ 1000; have h2 := HLBr.out; omega)⟩, List.forall_mem_nil _⟩⟩⟩⟩⟩⟩⟩) (by simp)
  simp only [List.map_cons, List.map_nil, List.length_cons, List.length_nil, Nat.zero_add, Nat.reduceAdd, List.flatten_cons, List.flatten_nil, List.append_nil] at JJ
  have bb : Below y7.heap.size y7 (y7.alloc (.cells #[.slice Aa La ca, .slice Ae Le ce, .slice Ai Li ci, .slice Ak Lk ck, .slice Am Lm cm, .slice Aq Lq cq, .slice Ar Lr cr] 30)) := (Below.refl _ y7).alloc (Nat.le_refl _) _
  go_simp
  generalize y7.alloc (.cells #[.slice Aa La ca, .slice Ae Le ce, .slice Ai Li ci, .slice Ak Lk ck, .slice Am Lm cm, .slice Aq Lq cq, .slice Ar Lr cr] 30) = y8 at JJ bb ⊢
  have KB8 : Hid (Below W0.heap.size W0 y8) := Lib.hid (KB7.out.trans (bb.mono KB7.out.size))
  have HS8 := Lib.hid (HS7.out.below bb HS7.out.lt)
  have s8 : (fun y => y.cell? ⟨B, 1, none⟩ = some (.slice (some ⟨bf, of_, none⟩) c.faces.length cf) ∧ y.cell? ⟨bf, of_ + 1, none⟩ = some (.int .i64 (lk : Nat)) ∧ y.cell? ⟨bf, of_ + 2, none⟩ = some (.int .i64 (sn : Nat))) y8 := ⟨HS8.out.cell 1, (KB8.out.cell (p := ⟨bf, of_ + 1, none⟩) hbf0).trans f1, (KB8.out.cell (p := ⟨bf, of_ + 2, none⟩) hbf0).trans f2⟩
  clear bb
  clear Ra Re Ri Rk Rm Rq Rr
  refine hK.out _ _ s8 (fun hHeld => ?_)
  clear hK K
  repeat (rw [putL]; simp only [List.set])
  refine wpAnyH_ready (rs := [25]) (by kernel_rfl) (by simp) ?_
  refine rdy rfl (fun K hK => ?_) (AllReadyH.nil)
  go_simp
  go_at_call 33
  with_reducible refine JJ.mono ?_
  rintro e y9 ⟨v0, rfl, g0, bb⟩
  clear JJ
  rw [old_ref] at g0
  obtain ⟨Aj, Lj, cj, rfl, r0⟩ := res_of (N := W0.heap.size) g0 KB8.out.size
  have HLBj : Hid (Lj ≤ 700) := Lib.hid (by have h1 := r0.l; rw [List.length_append, oldB_len, len42] at h1; omega)
  have Rj := Lib.hid r0
  clear r0 g0
  have KB9 : Hid (Below W0.heap.size W0 y9) := Lib.hid (KB8.out.trans (bb.mono KB8.out.size))
  have HS9 := Lib.hid (HS8.out.below bb HS8.out.lt)
  have s9 : (fun y => y.cell? ⟨B, 1, none⟩ = some (.slice (some ⟨bf, of_, none⟩) c.faces.length cf) ∧ y.cell? ⟨bf, of_ + 1, none⟩ = some (.int .i64 (lk : Nat)) ∧ y.cell? ⟨bf, of_ + 2, none⟩ = some (.int .i64 (sn : Nat))) y9 := ⟨HS9.out.cell 1, (KB9.out.cell (p := ⟨bf, of_ + 1, none⟩) hbf0).trans f1, (KB9.out.cell (p := ⟨bf, of_ + 2, none⟩) hbf0).trans f2⟩
  clear bb
  dsimp only
  refine hK.out _ _ s9 (fun hHeld => ?_)
  clear hK K
  repeat (rw [putL]; simp only [List.set])
  refine tky 26 ?_
  repeat (rw [putL]; simp only [List.set])
  refine wpAnyH_done (by kernel_rfl) ?_ _
  have HR0 : Hid (Gro y9 (B + 1) (.slice Aj Lj cj) (oldB low ++ numsB low 4 [sn, lk])) := Lib.hid (Rj.out.g.mono (Nat.succ_le_of_lt HK0.out.1.lt))
  have HW0 : Hid (Blk y9 B 27 #[.string c.note, .slice (some ⟨bf, of_, none⟩) c.faces.length cf, .slice pn c.names.length cn, .slice ps c.secs.length cs, .slice pp c.pkts.length cp] ∧ Below B w y9) := Lib.hid ⟨HK0.out.1.below KB9.out HK0.out.1.lt, HK0.out.2.trans (KB9.out.mono (Nat.le_of_lt HK0.out.1.lt))⟩
  have HL0 : Hid ((oldB low ++ numsB low 4 [sn, lk]).length ≤ 2000) := Lib.hid (by rw [List.length_append, oldB_len, len42]; omega)
  clear HSd KBd HS0 HS1 HS2 HS3 HS4 HS5 HS6 HS7 HS8 HS9 KB1 KB2 KB3 KB4 KB5 KB6 KB7 KB8 KB9 s0 s1 s2 s3 s4 s5 s6 s7 s8 s9 Rj HLBj
  have q4 : y9.cell? ⟨B, 4, none⟩ = some (.slice pp c.pkts.length cp) := HW0.out.1.cell 4
  go_wp2
  clear q4
  go_loopw [5, 6] (fun v i wr => ∃ k : Nat, i = .int .i64 k ∧ k ≤ c.pkts.length ∧ Hid (Gro wr (B + 1) v ((oldB low ++ numsB low 4 [sn, lk]) ++ (c.pkts.take k).flatMap (recB low))) ∧ Hid (((oldB low ++ numsB low 4 [sn, lk]) ++ (c.pkts.take k).flatMap (recB low)).length ≤ 2000 + 700 * k) ∧ Hid (Blk wr B 27 #[.string c.note, .slice (some ⟨bf, of_, none⟩) c.faces.length cf, .slice pn c.names.length cn, .slice ps c.secs.length cs, .slice pp c.pkts.length cp] ∧ Below B w wr)) (fun _ i _ => c.pkts.length - (intOf i).toNat)
  case atStart => exact ⟨0, rfl, Nat.zero_le _, by simpa using HR0, by simpa using HL0, HW0⟩
  case round =>
    obtain ⟨k, rfl, hk, HR, HLN, HW⟩ := hrel
    have q4 : wr.cell? ⟨B, 4, none⟩ = some (.slice pp c.pkts.length cp) := HW.out.1.cell 4
    by_cases hlt : k < c.pkts.length
    · obtain ⟨b, o, hA, hb, vs, hl, ⟨A2, cp2, rfl, hbyc, hbig, htm0, hfc0, hrl0⟩, hcell⟩ := (HM.out.pkts.keep pktK HW.out.2 (Nat.le_refl _)).row k hlt
      change pp = _ at hA
      rw [hA] at q4
      clear hA
      have c0 : wr.cell? ⟨b, o + k * 5, none⟩ = _ := hcell 0 _ rfl
      have c1 := hcell 1 _ rfl
      have c2 := hcell 2 _ rfl
      have c3 := hcell 3 _ rfl
      have c4 := hcell 4 _ rfl
      clear hcell hl hbig
      have HSN := Lib.hid (flat_snoc (recB low) c.pkts k hlt)
      obtain ⟨hv1, hv2, hv3, hv4, hv5, hv6, hv7, hv8⟩ := HOK.out.pkts _ (List.getElem_mem hlt)
      obtain ⟨tm, htm⟩ : ∃ q : Nat, c.pkts[k].time = q := ⟨c.pkts[k].time.toNat, by omega⟩
      obtain ⟨rl, hrl⟩ : ∃ q : Nat, c.pkts[k].real = q := ⟨c.pkts[k].real.toNat, by omega⟩
      obtain ⟨fc, hfc⟩ : ∃ q, c.pkts[k].face = q := ⟨_, rfl⟩
      obtain ⟨nm, hnm⟩ : ∃ nm, c.pkts[k].note = nm := ⟨_, rfl⟩
      obtain ⟨D, hD⟩ : ∃ D, c.pkts[k].data = D := ⟨_, rfl⟩
      rw [htm] at c0
      rw [hfc] at c1
      rw [hrl] at c2
      rw [hD] at hv2 hbyc c3
      rw [hnm] at c4
      obtain ⟨DL, hDL⟩ : ∃ DL, D.length = DL := ⟨_, rfl⟩
      have HDL := Lib.hid hDL
      obtain ⟨tq, htq⟩ : ∃ q : Nat, tm / 1000000 = q := ⟨_, rfl⟩
      obtain ⟨tr, htr⟩ : ∃ q : Nat, tm % 1000000 = q := ⟨_, rfl⟩
      have htq' : (tm : Int) / 1000000 = (tq : Int) := by omega
      have htr' : (tm : Int) % 1000000 = (tr : Int) := by omega
      rw [htm] at hv6
      have hwq : IntKind.i64.wrap (tq : Int) = (tq : Int) := by rw [IntKind.wrap_i64]; omega
      have htt : (tm : Int).tmod 1000000 = (tr : Int) := by rw [Int.tmod_eq_emod_of_nonneg (by omega)]; exact htr'
      have hwr : IntKind.i64.wrap (tr : Int) = (tr : Int) := by rw [IntKind.wrap_i64]; omega
      have HBL : Hid (recB low c.pkts[k] = numsB low 4 [tq, tr, DL, rl] ++ D) := Lib.hid (by unfold recB; rw [htm, hrl, hD, ← hDL, ← htq, ← htr]; rfl)
      have HPR : Hid (numB low 4 tq ++ (numB low 4 tr ++ (numB low 4 DL ++ (numB low 4 rl ++ D))) = numsB low 4 [tq, tr, DL, rl] ++ D) := Lib.hid (by rw [← hDL]; exact rec_ref low tq tr rl D)
      rw [hDL] at hv2 c3
      clear hDL hD hnm hv1 hv3 hv4 hv5 hv6 hv7 hv8 htm hfc hrl htq htr htm0 hfc0 hrl0
      obtain ⟨W1, hW1⟩ : ∃ W1, wr.alloc (.cells #[.int .i64 (tm : Nat), .int .i64 fc, .int .i64 (rl : Nat), .slice A2 DL cp2, .string nm] 47) = W1 := ⟨_, rfl⟩
      obtain ⟨H, hH⟩ : ∃ H, wr.heap.size = H := ⟨_, rfl⟩
      have HS0 : Hid (Blk W1 H 47 #[.int .i64 (tm : Nat), .int .i64 fc, .int .i64 (rl : Nat), .slice A2 DL cp2, .string nm]) := Lib.hid (by rw [← hW1, ← hH]; exact Blk.new _ _ _)
      have HB1 : Hid (Below wr.heap.size wr W1) := Lib.hid (by rw [← hW1]; exact (Below.refl _ wr).alloc (Nat.le_refl _) _)
      have KO : Hid (Gro W1 (B + 1) u5 ((oldB low ++ numsB low 4 [sn, lk]) ++ (c.pkts.take k).flatMap (recB low))) := Lib.hid (HR.out.below HB1.out)
      have KL : Hid (((oldB low ++ numsB low 4 [sn, lk]) ++ (c.pkts.take k).flatMap (recB low)).length ≤ 300000) := Lib.hid (by have := HLN.out; have := HOK.out.np; omega)
      have KN : Hid (B + 1 ≤ W1.heap.size) := Lib.hid (Nat.le_trans HW.out.1.lt HB1.out.size)
      have KH : Hid (∀ q, u5.ownBlock = some q → q < H) := Lib.hid (fun q hq => by rw [← hH]; exact (HR.out.lt q hq).2)
      have XD : Hid (Byt W1 W1.heap.size A2 D) := Lib.hid ((hbyc.byt.below (HB1.out.mono (Nat.le_of_lt HW.out.1.lt))).more (by have := KN.out; omega))
      go_wp2_with fail
      clear hW1
      have HSd : Hid (Blk W1.drew H 47 #[.int .i64 (tm : Nat), .int .i64 fc, .int .i64 (rl : Nat), .slice A2 DL cp2, .string nm]) := HS0
      have KB00 : Hid (Below W1.heap.size W1 W1.drew) := Lib.hid (Below.refl _ _).drew
      have s0d : (fun y => y.cell? ⟨H, 0, none⟩ = some (.int .i64 (tm : Nat)) ∧ y.cell? ⟨H, 2, none⟩ = some (.int .i64 (rl : Nat)) ∧ y.cell? ⟨H, 3, none⟩ = some (.slice A2 DL cp2)) W1.drew := ⟨HS0.out.cell 0, HS0.out.cell 2, HS0.out.cell 3⟩
      refine wp_region_held_drew (S := fun y => y.cell? ⟨H, 0, none⟩ = some (.int .i64 (tm : Nat)) ∧ y.cell? ⟨H, 2, none⟩ = some (.int .i64 (rl : Nat)) ∧ y.cell? ⟨H, 3, none⟩ = some (.slice A2 DL cp2)) (by kernel_rfl) s0d (fun hHeld => ?_)
      generalize W1.drew = y0 at s0d HSd KB00 hHeld ⊢
      have s0 := s0d
      have KBd := KB00
      clear s0d KB00
      refine tky 0 ?_
      repeat (rw [putL]; simp only [List.set])
      refine tky 1 ?_
      repeat (rw [putL]; simp only [List.set])
      refine tky 2 ?_
      repeat (rw [putL]; simp only [List.set])
      refine tky 3 ?_
      repeat (rw [putL]; simp only [List.set])
      refine tky 4 ?_
      repeat (rw [putL]; simp only [List.set])
      refine tky 6 ?_
      repeat (rw [putL]; simp only [List.set])
      refine tky 7 ?_
      repeat (rw [putL]; simp only [List.set])
      refine tky 8 ?_
      repeat (rw [putL]; simp only [List.set])
      refine tky 9 ?_
      repeat (rw [putL]; simp only [List.set])
      refine tky 11 ?_
      repeat (rw [putL]; simp only [List.set])
      refine tky 12 ?_
      repeat (rw [putL]; simp only [List.set])
      refine tky 13 ?_
      repeat (rw [putL]; simp only [List.set])
      refine tky 14 ?_
      repeat (rw [putL]; simp only [List.set])
      refine tky 16 ?_
      repeat (rw [putL]; simp only [List.set])
      refine tky 17 ?_
      repeat (rw [putL]; simp only [List.set])
      refine tky 18 ?_
      repeat (rw [putL]; simp only [List.set])
      refine tky 20 ?_
      repeat (rw [putL]; simp only [List.set])
      refine tky 21 ?_
      repeat (rw [putL]; simp only [List.set])
      refine wpAnyH_ready (rs := [5]) (by kernel_rfl) (by simp) ?_
      refine rdy rfl (fun K hK => ?_) (AllReadyH.nil)
      have CC : Calls Try.prog 34 #[.int .i64 tq, .bool low] y0 (OwnG y0 y0.heap.size (numB low 4 tq)) := rfourG y0 low tq
      go_simp
      go_at_call 34
      with_reducible refine CC.mono ?_
      rintro e y1 ⟨v0, rfl, g0, bb⟩
      clear CC
      obtain ⟨Aa, La, ca, rfl, r0⟩ := res_of (N := W1.heap.size) g0 KBd.out.size
      have HLBa : Hid (La ≤ 700) := Lib.hid (by rw [← r0.l, numB_len]; omega)
      have Ra := Lib.hid r0
      clear r0 g0
      have KB1 : Hid (Below W1.heap.size W1 y1) := Lib.hid (KBd.out.trans (bb.mono KBd.out.size))
      have HS1 := Lib.hid (HSd.out.below bb HSd.out.lt)
      have s1 : (fun y => y.cell? ⟨H, 0, none⟩ = some (.int .i64 (tm : Nat)) ∧ y.cell? ⟨H, 2, none⟩ = some (.int .i64 (rl : Nat)) ∧ y.cell? ⟨H, 3, none⟩ = some (.slice A2 DL cp2)) y1 := ⟨HS1.out.cell 0, HS1.out.cell 2, HS1.out.cell 3⟩
      clear bb
      dsimp only
      refine hK.out _ _ s1 (fun hHeld => ?_)
      clear hK K
      repeat (rw [putL]; simp only [List.set])
      refine wpAnyH_ready (rs := [10]) (by kernel_rfl) (by simp) ?_
      refine rdy rfl (fun K hK => ?_) (AllReadyH.nil)
      have CC : Calls Try.prog 34 #[.int .i64 tr, .bool low] y1 (OwnG y1 y1.heap.size (numB low 4 tr)) := rfourG y1 low tr
      go_simp
      go_at_call 34
      with_reducible refine CC.mono ?_
      rintro e y2 ⟨v0, rfl, g0, bb⟩
      clear CC
      obtain ⟨Ae, Le, ce, rfl, r0⟩ := res_of (N := W1.heap.size) g0 KB1.out.size
      have HLBe : Hid (Le ≤ 700) := Lib.hid (by rw [← r0.l, numB_len]; omega)
      have Re := Lib.hid r0
      clear r0 g0
      replace Ra := Lib.hid (Ra.out.below bb)
      have KB2 : Hid (Below W1.heap.size W1 y2) := Lib.hid (KB1.out.trans (bb.mono KB1.out.size))
      have HS2 := Lib.hid (HS1.out.below bb HS1.out.lt)
      have s2 : (fun y => y.cell? ⟨H, 0, none⟩ = some (.int .i64 (tm : Nat)) ∧ y.cell? ⟨H, 2, none⟩ = some (.int .i64 (rl : Nat)) ∧ y.cell? ⟨H, 3, none⟩ = some (.slice A2 DL cp2)) y2 := ⟨HS2.out.cell 0, HS2.out.cell 2, HS2.out.cell 3⟩
      clear bb
      dsimp only
      refine hK.out _ _ s2 (fun hHeld => ?_)
      clear hK K
      repeat (rw [putL]; simp only [List.set])
      refine wpAnyH_ready (rs := [15]) (by kernel_rfl) (by simp) ?_
      refine rdy rfl (fun K hK => ?_) (AllReadyH.nil)
      have CC : Calls Try.prog 34 #[.int .i64 DL, .bool low] y2 (OwnG y2 y2.heap.size (numB low 4 DL)) := rfourG y2 low DL
      go_simp
      go_at_call 34
      with_reducible refine CC.mono ?_
      rintro e y3 ⟨v0, rfl, g0, bb⟩
      clear CC
      obtain ⟨Ai, Li, ci, rfl, r0⟩ := res_of (N := W1.heap.size) g0 KB2.out.size
      have HLBi : Hid (Li ≤ 700) := Lib.hid (by rw [← r0.l, numB_len]; omega)
      have Ri := Lib.hid r0
      clear r0 g0
      replace Ra := Lib.hid (Ra.out.below bb)
      replace Re := Lib.hid (Re.out.below bb)
      have KB3 : Hid (Below W1.heap.size W1 y3) := Lib.hid (KB2.out.trans (bb.mono KB2.out.size))
      have HS3 := Lib.hid (HS2.out.below bb HS2.out.lt)
      have s3 : (fun y => y.cell? ⟨H, 0, none⟩ = some (.int .i64 (tm : Nat)) ∧ y.cell? ⟨H, 2, none⟩ = some (.int .i64 (rl : Nat)) ∧ y.cell? ⟨H, 3, none⟩ = some (.slice A2 DL cp2)) y3 := ⟨HS3.out.cell 0, HS3.out.cell 2, HS3.out.cell 3⟩
      clear bb
      dsimp only
      refine hK.out _ _ s3 (fun hHeld => ?_)
      clear hK K
      repeat (rw [putL]; simp only [List.set])
      refine wpAnyH_ready (rs := [19]) (by kernel_rfl) (by simp) ?_
      refine rdy rfl (fun K hK => ?_) (AllReadyH.nil)
      have CC : Calls Try.prog 34 #[.int .i64 rl, .bool low] y3 (OwnG y3 y3.heap.size (numB low 4 rl)) := rfourG y3 low rl
      go_simp
      go_at_call 34
      with_reducible refine CC.mono ?_
      rintro e y4 ⟨v0, rfl, g0, bb⟩
      clear CC
      obtain ⟨Ak, Lk, ck, rfl, r0⟩ := res_of (N := W1.heap.size) g0 KB3.out.size
      have HLBk : Hid (Lk ≤ 700) := Lib.hid (by rw [← r0.l, numB_len]; omega)
      have Rk := Lib.hid r0
      clear r0 g0
      replace Ra := Lib.hid (Ra.out.below bb)
      replace Re := Lib.hid (Re.out.below bb)
      replace Ri := Lib.hid (Ri.out.below bb)
      have KB4 : Hid (Below W1.heap.size W1 y4) := Lib.hid (KB3.out.trans (bb.mono KB3.out.size))
      have HS4 := Lib.hid (HS3.out.below bb HS3.out.lt)
      have s4 : (fun y => y.cell? ⟨H, 0, none⟩ = some (.int .i64 (tm : Nat)) ∧ y.cell? ⟨H, 2, none⟩ = some (.int .i64 (rl : Nat)) ∧ y.cell? ⟨H, 3, none⟩ = some (.slice A2 DL cp2)) y4 := ⟨HS4.out.cell 0, HS4.out.cell 2, HS4.out.cell 3⟩
      clear bb
      dsimp only
      refine hK.out _ _ s4 (fun hHeld => ?_)
      clear hK K
      repeat (rw [putL]; simp only [List.set])
      refine wpAnyH_ready (rs := [22]) (by kernel_rfl) (by simp) ?_
      refine rdy rfl (fun K hK => ?_) (AllReadyH.nil)
      have JJ := rjoinM (X := y4) [(Aa, La, ca, numB low 4 tq), (Ae, Le, ce, numB low 4 tr), (Ai, Li, ci, numB low 4 DL), (Ak, Lk, ck, numB low 4 rl), (A2, DL, cp2, D)] (List.forall_mem_cons.2 ⟨⟨Ra.out.byt, Ra.out.l, (by show La ≤ 1000; have h2 := HLBa.out; omega)⟩, List.forall_mem_cons.2 ⟨⟨Re.out.byt, Re.out.l, (by show Le ≤ 1000; have h2 := HLBe.out; omega)⟩, List.forall_mem_cons.2 ⟨⟨Ri.out.byt, Ri.out.l, (by show Li ≤ 1000; have h2 := HLBi.out; omega)⟩, List.forall_mem_cons.2 ⟨⟨Rk.out.byt, Rk.out.l, (by show Lk ≤ 1000; have h2 := HLBk.out; omega)⟩, List.forall_mem_cons.2 ⟨⟨((XD.out.below KB4.out).more KB4.out.size), HDL.out, (by show DL ≤ 1000; omega)⟩, List.forall_mem_nil _⟩⟩⟩⟩⟩) (by simp)
      simp only [List.map_cons, List.map_nil, List.length_cons, List.length_nil, Nat.zero_add, Nat.reduceAdd, List.flatten_cons, List.flatten_nil, List.append_nil] at JJ
      have bb : Below y4.heap.size y4 (y4.alloc (.cells #[.slice Aa La ca, .slice Ae Le ce, .slice Ai Li ci, .slice Ak Lk ck, .slice A2 DL cp2] 30)) := (Below.refl _ y4).alloc (Nat.le_refl _) _
      go_simp
      generalize y4.alloc (.cells #[.slice Aa La ca, .slice Ae Le ce, .slice Ai Li ci, .slice Ak Lk ck, .slice A2 DL cp2] 30) = y5 at JJ bb ⊢
      have KB5 : Hid (Below W1.heap.size W1 y5) := Lib.hid (KB4.out.trans (bb.mono KB4.out.size))
      have HS5 := Lib.hid (HS4.out.below bb HS4.out.lt)
      have s5 : (fun y => y.cell? ⟨H, 0, none⟩ = some (.int .i64 (tm : Nat)) ∧ y.cell? ⟨H, 2, none⟩ = some (.int .i64 (rl : Nat)) ∧ y.cell? ⟨H, 3, none⟩ = some (.slice A2 DL cp2)) y5 := ⟨HS5.out.cell 0, HS5.out.cell 2, HS5.out.cell 3⟩
      clear bb
      clear Ra Re Ri Rk
      refine hK.out _ _ s5 (fun hHeld => ?_)
      clear hK K
      repeat (rw [putL]; simp only [List.set])
      refine wpAnyH_ready (rs := [23]) (by kernel_rfl) (by simp) ?_
      refine rdy rfl (fun K hK => ?_) (AllReadyH.nil)
      go_simp
      go_at_call 33
      with_reducible refine JJ.mono ?_
      rintro e y6 ⟨v0, rfl, g0, bb⟩
      clear JJ
      rw [HPR.out] at g0
      obtain ⟨Ad, Ld, cd, rfl, r0⟩ := res_of (N := W1.heap.size) g0 KB5.out.size
      have HLBd : Hid (Ld ≤ 700) := Lib.hid (by have h1 := r0.l; have h5 := HDL.out; rw [List.length_append, len44] at h1; omega)
      have Rd := Lib.hid r0
      clear r0 g0
      have KB6 : Hid (Below W1.heap.size W1 y6) := Lib.hid (KB5.out.trans (bb.mono KB5.out.size))
      have HS6 := Lib.hid (HS5.out.below bb HS5.out.lt)
      have s6 : (fun y => y.cell? ⟨H, 0, none⟩ = some (.int .i64 (tm : Nat)) ∧ y.cell? ⟨H, 2, none⟩ = some (.int .i64 (rl : Nat)) ∧ y.cell? ⟨H, 3, none⟩ = some (.slice A2 DL cp2)) y6 := ⟨HS6.out.cell 0, HS6.out.cell 2, HS6.out.cell 3⟩
      clear bb
      dsimp only
      refine hK.out _ _ s6 (fun hHeld => ?_)
      clear hK K
      repeat (rw [putL]; simp only [List.set])
      refine wpAnyH_ready (rs := [24]) (by kernel_rfl) (by simp) ?_
      refine rdy rfl (fun K hK => ?_) (AllReadyH.nil)
      obtain ⟨v9, y7, hrun, ha⟩ := Gro.app (KO.out.at_ KB6.out (fun q hq => (KO.out.lt q hq).2)) cd Rd.out.byt (by have h1 := Rd.out.l; have h2 := HLBd.out; omega) (by have h2 := KL.out; omega) (by have := KB6.out.size; have := KN.out; omega)
      rw [Rd.out.l] at hrun
      have HS7 := Lib.hid (HS6.out.grown ha.grown (fun e => by have := KH.out _ e.symm; omega))
      have s7 : (fun y => y.cell? ⟨H, 0, none⟩ = some (.int .i64 (tm : Nat)) ∧ y.cell? ⟨H, 2, none⟩ = some (.int .i64 (rl : Nat)) ∧ y.cell? ⟨H, 3, none⟩ = some (.slice A2 DL cp2)) y7 := ⟨HS7.out.cell 0, HS7.out.cell 2, HS7.out.cell 3⟩
      have KA := Lib.hid ha
      have KX : Hid (Below (B + 1) W1 y7) := Lib.hid (ha.below (KB6.out.mono KN.out) (by have := KB6.out.size; have := KN.out; omega) (fun q hq => (KO.out.lt q hq).1))
      refine step_append_run _ rfl _ _ _ _ rfl _ _ (by rfl) (by rfl) _ y7 hrun ?_
      clear ha hrun
      refine hK.out _ _ s7 (fun hHeld => ?_)
      clear hK K
      repeat (rw [putL]; simp only [List.set])
      refine tky 25 ?_
      repeat (rw [putL]; simp only [List.set])
      refine wpAnyH_done (by kernel_rfl) ?_ _
      have HR4 : Hid (Gro y7 (B + 1) v9 ((oldB low ++ numsB low 4 [sn, lk]) ++ (c.pkts.take (k + 1)).flatMap (recB low))) := Lib.hid (by rw [HSN.out, HBL.out, ← List.append_assoc (oldB low ++ numsB low 4 [sn, lk])]; exact KA.out.own)
      have HL4 : Hid (((oldB low ++ numsB low 4 [sn, lk]) ++ (c.pkts.take (k + 1)).flatMap (recB low)).length ≤ 2000 + 700 * (k + 1)) := Lib.hid (by
        have h := HLN.out
        have h2 : (numsB low 4 [tq, tr, DL, rl] ++ D).length = 16 + DL := by rw [List.length_append, len44, HDL.out]
        rw [HSN.out, HBL.out, ← List.append_assoc (oldB low ++ numsB low 4 [sn, lk]), List.length_append, h2]; omega)
      have HK4 : Hid (Blk y7 B 27 #[.string c.note, .slice (some ⟨bf, of_, none⟩) c.faces.length cf, .slice pn c.names.length cn, .slice ps c.secs.length cs, .slice pp c.pkts.length cp] ∧ Below B w y7) := Lib.hid (by
        have hb : Below (B + 1) wr y7 := (HB1.out.mono HW.out.1.lt).trans KX.out
        exact ⟨HW.out.1.below hb (Nat.lt_succ_self B), HW.out.2.trans (hb.mono (Nat.le_succ B))⟩)
      clear htq' htr' hwq htt hwr
      go_wp2
      go_roundw
      case rel => exact ⟨k + 1, by go_num, by omega, HR4, HL4, HK4⟩
      case measure => simp [intOf]; omega
    · have hkn : k = c.pkts.length := by omega
      subst hkn
      have HR1 : Hid (Gro wr (B + 1) u5 (oldFileB low c)) := Lib.hid (by have h := HR.out; rw [List.take_length, ← HHEAD.out] at h; exact h)
      go_wp2
      go_ret
      exact ⟨u5, rfl, HR1.out.mono (Nat.le_succ B), HW.out.2⟩
end Go.Proofs.Ytlimkckomdipkaa
