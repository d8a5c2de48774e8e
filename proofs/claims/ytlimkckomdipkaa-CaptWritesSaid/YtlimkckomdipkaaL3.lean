/- The law of the files of captures. -/
import Derived.Test.YtlimkckomdipkaaTornF
import Derived.Test.YtlimkckomdipkaaK9
import Derived.Test.YtlimkckomdipkaaWeight
import Derived.Test.YtlimkckomdipkaaS16
import Derived.Test.YtlimkckomdipkaaFileB
import Derived.Test.YtlimkckomdipkaaRWA
namespace Go.Proofs.Ytlimkckomdipkaa
open Go.RowKit

/-- The kind of a file. -/
theorem kind_file (old low : Bool) {w : World} {b0 C : Nat} {c : Cap} (he : errV c = 0) (hpl : old = true → c = plainC c) (hF : Pc w b0 0 (fileB old low c)) (hb : b0 < w.heap.size) (hC : (fileB old low c).length ≤ C) :
    Calls Try.prog 15 #[.slice (some ⟨b0, 0, none⟩) (fileB old low c).length C] w fun e w' => e = .returned (.tuple #[.bool old, .bool low, .int .i64 0]) ∧ Below w.heap.size w w' := by
  have hlen := fileB_len (okay_of he) old low
  have hpos := fileB_pos old low c
  cases old with
  | true =>
    obtain ⟨r, hr⟩ : ∃ r, fileB true low c = numB low 4 2712847316 ++ (numsB low 2 [2, 4] ++ (numB low 4 0 ++ r)) := by
      refine ⟨numB low 4 0 ++ (numsB low 4 [(c.faces.head?.map Fac.snap |>.getD 0).toNat, (c.faces.head?.map Fac.link |>.getD 0).toNat] ++ c.pkts.flatMap (recB low)), ?_⟩
      show (oldB low ++ numsB low 4 _) ++ _ = _
      unfold oldB
      rw [numsB_one, numsB_cons (vs := [0]), numsB_one]
      simp only [List.append_assoc]
    have hF2 := hF
    rw [hr] at hF2
    have p8 : Pc w b0 8 (numB low 4 0) := by
      have := hF2.right.right.left
      rw [numB_len, len2] at this
      exact this
    have h := kind_any (w := w) (b0 := b0) (o := 0) (n := (fileB true low c).length) (C := C) (fun l => numL l (numB low 4 2712847316)) (fun l => numL l (numB low 4 0)) hC (by omega) (fun _ l w2 h2 => nums_at (numB_len low 4 _) hF2.left hb l w2 h2) (fun _ l w2 h2 => nums_at (numB_len low 4 _) p8 hb l w2 h2)
    rw [kind_old low _ _ (by omega)] at h
    exact h
  | false =>
    obtain ⟨r, hr⟩ : ∃ r, fileB false low c = numB low 4 168627466 ++ (numB low 4 (12 + lenI low (.sect c.note)) ++ (numB low 4 439041101 ++ r)) := by
      refine ⟨numsB low 2 [1, 0] ++ List.replicate 8 255 ++ (optB low 1 16 c.note ++ (padB (bodyI low (.sect c.note)).length ++ (numB low 4 (12 + lenI low (.sect c.note)) ++ (c.faces.flatMap (faceBl low) ++ (c.names.flatMap (nameBl low) ++ (c.secs.flatMap (secBl low) ++ c.pkts.flatMap (pktBl low))))))), ?_⟩
      show sectB low c.note ++ _ = _
      unfold sectB blkB lenI bodyI secH
      rw [numsB_cons (vs := [_]), numsB_one, numsB_one]
      simp only [List.append_assoc]
    have hF2 := hF
    rw [hr] at hF2
    have p8 : Pc w b0 8 (numB low 4 439041101) := by
      have := hF2.right.right.left
      rw [numB_len, numB_len] at this
      exact this
    have h := kind_any (w := w) (b0 := b0) (o := 0) (n := (fileB false low c).length) (C := C) (fun l => numL l (numB low 4 168627466)) (fun l => numL l (numB low 4 439041101)) hC (by omega) (fun _ l w2 h2 => nums_at (numB_len low 4 _) hF2.left hb l w2 h2) (fun _ l w2 h2 => nums_at (numB_len low 4 _) p8 hb l w2 h2)
    rw [kind_sect low _ (by
      have h1 := atI_mono low (itsC c) (j := 1) (k := (itsC c).length) (by have := its_len c; omega)
      have : (fileB false low c).length = (blocksB low c).length := rfl
      omega)] at h
    exact h

set_option maxRecDepth 100000 in
set_option maxHeartbeats 8000000 in
theorem lawWrites_any {w : World} {p : Pl} {c : Cap} {old low : Bool} (hm : CapM w w.heap.size p c) :
    Calls Try.prog 3 #[capV p c, .bool old, .bool low] w fun e w' => e = .returned (.bool true) ∧ Below w.heap.size w w' := by
  obtain ⟨pf, cf, pn, cn, ps, cs, pp, cp⟩ := p
  obtain ⟨B, hB⟩ : ∃ B, w.heap.size = B := ⟨_, rfl⟩
  obtain ⟨W0, hW0⟩ : ∃ W0, w.alloc (.cells #[.string c.note, .slice pf c.faces.length cf, .slice pn c.names.length cn, .slice ps c.secs.length cs, .slice pp c.pkts.length cp] 27) = W0 := ⟨_, rfl⟩
  have HM0 : Hid (CapM W0 W0.heap.size ⟨pf, cf, pn, cn, ps, cs, pp, cp⟩ c) := Lib.hid (by rw [← hW0]; exact boxed hm _)
  have HK0 : Hid (Blk W0 B 27 #[.string c.note, .slice pf c.faces.length cf, .slice pn c.names.length cn, .slice ps c.secs.length cs, .slice pp c.pkts.length cp] ∧ Below B w W0) := Lib.hid (by rw [← hW0, ← hB]; exact ⟨Blk.new _ _ _, (Below.refl _ w).alloc (Nat.le_refl _) _⟩)
  rw [hB]
  have q0 : W0.cell? ⟨B, 0, none⟩ = some (.string c.note) := HK0.out.1.cell 0
  have q1 : W0.cell? ⟨B, 1, none⟩ = some (.slice pf c.faces.length cf) := HK0.out.1.cell 1
  have q2 : W0.cell? ⟨B, 2, none⟩ = some (.slice pn c.names.length cn) := HK0.out.1.cell 2
  have q3 : W0.cell? ⟨B, 3, none⟩ = some (.slice ps c.secs.length cs) := HK0.out.1.cell 3
  have q4 : W0.cell? ⟨B, 4, none⟩ = some (.slice pp c.pkts.length cp) := HK0.out.1.cell 4
  have HV := Lib.hid (over_any HM0.out)
  clear hm
  go_enter Try.func3, Try.ntmps3
  go_wp2_with fail
  clear hW0
  refine HV.out.mono ?_
  rintro e w1 ⟨⟨r, rfl⟩, hb1⟩
  have HM1 := Lib.hid (HM0.out.keep hb1 hb1.size)
  have HK1 : Hid (Blk w1 B 27 #[.string c.note, .slice pf c.faces.length cf, .slice pn c.names.length cn, .slice ps c.secs.length cs, .slice pp c.pkts.length cp] ∧ Below B w w1) := Lib.hid ⟨HK0.out.1.below hb1 HK0.out.1.lt, HK0.out.2.trans (hb1.mono (Nat.le_of_lt HK0.out.1.lt))⟩
  have r0 : w1.cell? ⟨B, 0, none⟩ = some (.string c.note) := HK1.out.1.cell 0
  have r1 : w1.cell? ⟨B, 1, none⟩ = some (.slice pf c.faces.length cf) := HK1.out.1.cell 1
  have r2 : w1.cell? ⟨B, 2, none⟩ = some (.slice pn c.names.length cn) := HK1.out.1.cell 2
  have r3 : w1.cell? ⟨B, 3, none⟩ = some (.slice ps c.secs.length cs) := HK1.out.1.cell 3
  have r4 : w1.cell? ⟨B, 4, none⟩ = some (.slice pp c.pkts.length cp) := HK1.out.1.cell 4
  have hl1 : B < w1.heap.size := HK1.out.1.lt
  clear hb1 q0 q1 q2 q3 q4 HV HM0 HK0
  cases r with
  | true =>
    go_wp2_with fail
    refine (known_any w1).mono ?_
    rintro e wk ⟨rfl, hbk⟩
    have HBK : Hid (Below B w wk) := Lib.hid (HK1.out.2.trans (hbk.mono (by have := HK1.out.1.lt; omega)))
    clear hbk
    go_wp2
    go_ret
    exact ⟨rfl, HBK.out⟩
  | false =>
  have HWR := Lib.hid (write_any old low HM1.out)
  obtain ⟨⟨bs, E⟩, hrr⟩ : ∃ rr, writeR old low c = rr := ⟨_, rfl⟩
  have HRR := Lib.hid hrr
  obtain ⟨M, hM⟩ : ∃ M, bs.length = M := ⟨_, rfl⟩
  have HMM := Lib.hid hM
  rw [hrr] at HWR
  go_wp2_with fail
  refine HWR.out.mono ?_
  rintro e w2 ⟨vf, rfl, ho2, hb2⟩
  have HM2 := Lib.hid (HM1.out.keep hb2 hb2.size)
  have HK2 : Hid (Blk w2 B 27 #[.string c.note, .slice pf c.faces.length cf, .slice pn c.names.length cn, .slice ps c.secs.length cs, .slice pp c.pkts.length cp] ∧ Below B w w2) := Lib.hid ⟨HK1.out.1.below hb2 HK1.out.1.lt, HK1.out.2.trans (hb2.mono (Nat.le_of_lt HK1.out.1.lt))⟩
  have HO2 := Lib.hid ho2
  have HB2 := Lib.hid ho2.lt
  obtain ⟨A1, c1, hv1⟩ := own_form ho2
  dsimp only at hv1 ⊢
  rw [hM] at hv1
  subst hv1
  clear hb2 ho2 r0 r1 r2 r3 r4 HWR HM1 HK1 hM
  have r0 : w2.cell? ⟨B, 0, none⟩ = some (.string c.note) := HK2.out.1.cell 0
  have r1 : w2.cell? ⟨B, 1, none⟩ = some (.slice pf c.faces.length cf) := HK2.out.1.cell 1
  have r2 : w2.cell? ⟨B, 2, none⟩ = some (.slice pn c.names.length cn) := HK2.out.1.cell 2
  have r3 : w2.cell? ⟨B, 3, none⟩ = some (.slice ps c.secs.length cs) := HK2.out.1.cell 3
  have r4 : w2.cell? ⟨B, 4, none⟩ = some (.slice pp c.pkts.length cp) := HK2.out.1.cell 4
  have HWQ := Lib.hid (rwrite_any old low HM2.out)
  rw [hrr] at HWQ
  clear hrr
  go_wp2_with fail
  refine HWQ.out.mono ?_
  rintro e w3 ⟨vg, rfl, g3, hb3⟩
  have HM3 := Lib.hid (HM2.out.keep hb3 hb3.size)
  have HK3 : Hid (Blk w3 B 27 #[.string c.note, .slice pf c.faces.length cf, .slice pn c.names.length cn, .slice ps c.secs.length cs, .slice pp c.pkts.length cp] ∧ Below B w w3) := Lib.hid ⟨HK2.out.1.below hb3 HK2.out.1.lt, HK2.out.2.trans (hb3.mono (Nat.le_of_lt HK2.out.1.lt))⟩
  have HO3 := Lib.hid (HO2.out.kept (grown_of_below hb3) (by cases (Value.slice A1 M c1).ownBlock <;> simp))
  dsimp only at g3 HO3 ⊢
  obtain ⟨A2, c2, hv2⟩ := g3.form
  rw [HMM.out] at hv2
  subst hv2
  have HLT : Hid (∀ x ∈ bs, x < 256) := Lib.hid g3.1
  have CV1 : Hid (∀ y, Below w3.heap.size w3 y → Sem.run Try.prog (convert 30 9 (.slice A1 M c1)) y = .ok (.string (strB bs)) y) := Lib.hid (fun y hy => by
    have h := HO3.out
    rw [show (Value.slice A1 M c1) = .slice A1 bs.length c1 by rw [HMM.out]] at h
    have := conv_any ((byt_own g3.1 h).below hy) c1
    rw [HMM.out] at this
    exact this)
  have CV2 : Hid (∀ y, Below w3.heap.size w3 y → Sem.run Try.prog (convert 30 9 (.slice A2 M c2)) y = .ok (.string (strB bs)) y) := Lib.hid (fun y hy => by
    have h := g3
    rw [show (Value.slice A2 M c2) = .slice A2 bs.length c2 by rw [HMM.out]] at h
    have := conv_any (h.byt.below hy) c2
    rw [HMM.out] at this
    exact this)
  obtain ⟨ss, hss⟩ : ∃ ss, strB bs = ss := ⟨_, rfl⟩
  rw [hss] at CV1 CV2
  have HMV : Hid (∀ y, Below w3.heap.size w3 y → CapM y y.heap.size ⟨pf, cf, pn, cn, ps, cs, pp, cp⟩ c) := Lib.hid (fun y hy => HM3.out.keep hy hy.size)
  have HEV : Hid (∃ x, errV c = x) := Lib.hid ⟨_, rfl⟩
  clear hb3 g3 r0 r1 r2 r3 r4 HWQ HM2 HK2 hss HO2
  go_wp2_with fail
  have HSd : Hid (Blk w3.drew B 27 #[.string c.note, .slice pf c.faces.length cf, .slice pn c.names.length cn, .slice ps c.secs.length cs, .slice pp c.pkts.length cp]) := HK3.out.1 |> Lib.hid
  have KBd : Hid (Below w3.heap.size w3 w3.drew) := Lib.hid (Below.refl _ _).drew
  have s0d : (fun y => Sem.run Try.prog (convert 30 9 (.slice A1 M c1)) y = .ok (.string ss) y ∧ Sem.run Try.prog (convert 30 9 (.slice A2 M c2)) y = .ok (.string ss) y ∧ y.cell? ⟨B, 0, none⟩ = some (.string c.note) ∧ y.cell? ⟨B, 1, none⟩ = some (.slice pf c.faces.length cf) ∧ y.cell? ⟨B, 2, none⟩ = some (.slice pn c.names.length cn) ∧ y.cell? ⟨B, 3, none⟩ = some (.slice ps c.secs.length cs) ∧ y.cell? ⟨B, 4, none⟩ = some (.slice pp c.pkts.length cp)) w3.drew := ⟨CV1.out _ KBd.out, CV2.out _ KBd.out, HSd.out.cell 0, HSd.out.cell 1, HSd.out.cell 2, HSd.out.cell 3, HSd.out.cell 4⟩
  generalize hEVC : errV c = EV at *
  refine wp_region_held_drew (S := fun y => Sem.run Try.prog (convert 30 9 (.slice A1 M c1)) y = .ok (.string ss) y ∧ Sem.run Try.prog (convert 30 9 (.slice A2 M c2)) y = .ok (.string ss) y ∧ y.cell? ⟨B, 0, none⟩ = some (.string c.note) ∧ y.cell? ⟨B, 1, none⟩ = some (.slice pf c.faces.length cf) ∧ y.cell? ⟨B, 2, none⟩ = some (.slice pn c.names.length cn) ∧ y.cell? ⟨B, 3, none⟩ = some (.slice ps c.secs.length cs) ∧ y.cell? ⟨B, 4, none⟩ = some (.slice pp c.pkts.length cp)) (by kernel_rfl) s0d (fun hHeld => ?_)
  generalize w3.drew = y0 at s0d HSd KBd hHeld ⊢
  have s0 := s0d
  have HS0 := HSd
  have KB0 := KBd
  clear s0d HSd KBd
  refine tky 0 ?_
  repeat (rw [putL]; simp only [List.set])
  refine tky 1 (v := .string ss) (hy := fun w hSw => by have h1 := hSw.1; go_simp) ?_
  repeat (rw [putL]; simp only [List.set])
  refine tky 2 ?_
  repeat (rw [putL]; simp only [List.set])
  refine tky 3 (v := .string ss) (hy := fun w hSw => by have h1 := hSw.2.1; go_simp) ?_
  repeat (rw [putL]; simp only [List.set])
  refine tky 4 ?_
  repeat (rw [putL]; simp only [List.set])
  refine tky 5 ?_
  repeat (rw [putL]; simp only [List.set])
  refine tky 6 ?_
  repeat (rw [putL]; simp only [List.set])
  refine tky 7 ?_
  repeat (rw [putL]; simp only [List.set])
  refine tky 8 ?_
  repeat (rw [putL]; simp only [List.set])
  refine tky 9 ?_
  repeat (rw [putL]; simp only [List.set])
  refine tky 10 ?_
  repeat (rw [putL]; simp only [List.set])
  refine tky 11 ?_
  repeat (rw [putL]; simp only [List.set])
  refine tky 13 ?_
  repeat (rw [putL]; simp only [List.set])
  refine wpAnyH_ready (rs := [12]) (by kernel_rfl) (by simp) ?_
  refine rdy rfl (fun K hK => ?_) (AllReadyH.nil)
  have CC := vald_any (HMV.out y0 KB0.out)
  go_simp
  go_at_call 12
  with_reducible refine CC.mono ?_
  rintro e y1 ⟨rfl, bb⟩
  clear CC
  have KB1 : Hid (Below w3.heap.size w3 y1) := Lib.hid (KB0.out.trans (bb.mono KB0.out.size))
  have HS1 := Lib.hid (HS0.out.below bb HS0.out.lt)
  have s1 : (fun y => Sem.run Try.prog (convert 30 9 (.slice A1 M c1)) y = .ok (.string ss) y ∧ Sem.run Try.prog (convert 30 9 (.slice A2 M c2)) y = .ok (.string ss) y ∧ y.cell? ⟨B, 0, none⟩ = some (.string c.note) ∧ y.cell? ⟨B, 1, none⟩ = some (.slice pf c.faces.length cf) ∧ y.cell? ⟨B, 2, none⟩ = some (.slice pn c.names.length cn) ∧ y.cell? ⟨B, 3, none⟩ = some (.slice ps c.secs.length cs) ∧ y.cell? ⟨B, 4, none⟩ = some (.slice pp c.pkts.length cp)) y1 := ⟨CV1.out y1 KB1.out, CV2.out y1 KB1.out, HS1.out.cell 0, HS1.out.cell 1, HS1.out.cell 2, HS1.out.cell 3, HS1.out.cell 4⟩
  clear bb
  dsimp only
  refine hK.out _ _ s1 (fun hHeld => ?_)
  clear hK K
  repeat (rw [putL]; simp only [List.set])
  refine wpAnyH_ready (rs := [14]) (by kernel_rfl) (by simp) ?_
  refine rdy rfl (fun K hK => ?_) (AllReadyH.nil)
  have CC := rvald_any (HMV.out y1 KB1.out)
  go_simp
  go_at_call 13
  with_reducible refine CC.mono ?_
  rintro e y2 ⟨rfl, bb⟩
  clear CC
  have KB2 : Hid (Below w3.heap.size w3 y2) := Lib.hid (KB1.out.trans (bb.mono KB1.out.size))
  have HS2 := Lib.hid (HS1.out.below bb HS1.out.lt)
  have s2 : (fun y => Sem.run Try.prog (convert 30 9 (.slice A1 M c1)) y = .ok (.string ss) y ∧ Sem.run Try.prog (convert 30 9 (.slice A2 M c2)) y = .ok (.string ss) y ∧ y.cell? ⟨B, 0, none⟩ = some (.string c.note) ∧ y.cell? ⟨B, 1, none⟩ = some (.slice pf c.faces.length cf) ∧ y.cell? ⟨B, 2, none⟩ = some (.slice pn c.names.length cn) ∧ y.cell? ⟨B, 3, none⟩ = some (.slice ps c.secs.length cs) ∧ y.cell? ⟨B, 4, none⟩ = some (.slice pp c.pkts.length cp)) y2 := ⟨CV1.out y2 KB2.out, CV2.out y2 KB2.out, HS2.out.cell 0, HS2.out.cell 1, HS2.out.cell 2, HS2.out.cell 3, HS2.out.cell 4⟩
  clear bb
  dsimp only
  refine hK.out _ _ s2 (fun hHeld => ?_)
  clear hK K
  repeat (rw [putL]; simp only [List.set])
  refine tky 15 ?_
  repeat (rw [putL]; simp only [List.set])
  refine tky 16 ?_
  repeat (rw [putL]; simp only [List.set])
  refine wpAnyH_done (by kernel_rfl) ?_ _
  have HK4 : Hid (Blk y2 B 27 #[.string c.note, .slice pf c.faces.length cf, .slice pn c.names.length cn, .slice ps c.secs.length cs, .slice pp c.pkts.length cp] ∧ Below B w y2) := Lib.hid ⟨HS2.out, HK3.out.2.trans (KB2.out.mono (Nat.le_of_lt HK3.out.1.lt))⟩
  by_cases hok : errV c = 0 ∧ (old = true → c = plainC c)
  rotate_left
  · obtain ⟨E', hE, hw⟩ := writeR_bad (low := low) hok
    have hEE : E = E' := by
      have h := HRR.out
      rw [hw] at h
      exact (Prod.mk.inj h).2.symm
    subst hEE
    have hne : (E != 0) = true := by simpa using hE
    have HE := Lib.hid hE
    clear hE hw hok
    go_wp2_with fail
    refine (known_any _).mono ?_
    rintro e wk ⟨rfl, hbk⟩
    have HBK : Hid (Below B w wk) := Lib.hid (HK4.out.2.trans (hbk.mono (by have := HK4.out.1.lt; omega)))
    clear hbk
    go_wp2
    go_ret
    exact ⟨rfl, HBK.out⟩
  have HOK := Lib.hid hok
  obtain ⟨hbs, hE⟩ : bs = fileB old low c ∧ E = 0 := by
    have h := HRR.out
    rw [writeR_ok hok.1 hok.2] at h
    exact ⟨(Prod.mk.inj h).1.symm, (Prod.mk.inj h).2.symm⟩
  subst hbs hE
  obtain ⟨g, cap, post, hvf, hg3, hblk3, hcap, hcap2, hx⟩ := own_blk HO3.out (by have := fileB_pos old low c; omega)
  obtain ⟨hA1, hMl, hc1⟩ := Value.slice.inj hvf
  clear hMl
  subst hA1 hc1
  have HG4 : Hid (Pc y2 g 0 (fileB old low c) ∧ g < y2.heap.size) := Lib.hid ⟨(pc_of_blk hblk3 HLT.out).below KB2.out hblk3.lt, Nat.lt_of_lt_of_le hblk3.lt KB2.out.size⟩
  have HCC : Hid ((fileB old low c).length ≤ c1) := Lib.hid hcap
  have HM4 := Lib.hid (HMV.out y2 KB2.out)
  obtain ⟨ok, d, T, hrd, h1, h2, h3⟩ := readCut old low (C := c1) (n := M) HOK.out.1 HOK.out.2 HG4.out.1 HG4.out.2 (Nat.le_of_eq HMM.out.symm) hcap
  obtain ⟨ho, hd, hT⟩ := h3 HMM.out.symm
  rw [ho, hd, hT] at hrd
  have HRD := Lib.hid hrd
  clear hrd h1 h2 h3 ho hd hT hcap hcap2 hx hblk3 hg3 hvf hok KB2 HS2 s2 hHeld HMV CV1 CV2 HO3 HK3 HM3 HB2 HRR
  go_wp2_with fail
  refine HRD.out.mono ?_
  intro e w5 hpost
  unfold ReadPost at hpost
  obtain ⟨hb5, hcase⟩ := hpost
  have HM5 := Lib.hid (HM4.out.keep hb5 hb5.size)
  have HK5 : Hid (Blk w5 B 27 #[.string c.note, .slice pf c.faces.length cf, .slice pn c.names.length cn, .slice ps c.secs.length cs, .slice pp c.pkts.length cp] ∧ Below B w w5) := Lib.hid ⟨HK4.out.1.below hb5 HK4.out.1.lt, HK4.out.2.trans (hb5.mono (Nat.le_of_lt HK4.out.1.lt))⟩
  have HG5 : Hid (Pc w5 g 0 (fileB old low c) ∧ g < w5.heap.size) := Lib.hid ⟨HG4.out.1.below hb5 HG4.out.2, Nat.lt_of_lt_of_le HG4.out.2 hb5.size⟩
  clear hb5 HM4 HK4 HG4 HRD
  obtain ⟨K, hK⟩ : ∃ K, w5.heap.size = K := ⟨_, rfl⟩
  rcases hcase with ⟨_, ⟨df, dg, dn, dO, ds, dt, dp, dq⟩, rfl, hcd⟩ | ⟨hk, _⟩
  rotate_left
  · exact absurd ⟨rfl, HOK.out.1⟩ hk
  have hb6 : Below w5.heap.size w5 (w5.alloc (.cells #[.string c.note, .slice df c.faces.length dg, .slice dn c.names.length dO, .slice ds c.secs.length dt, .slice dp c.pkts.length dq] 27)) := (Below.refl _ _).alloc (Nat.le_refl _) _
  have HM6 := Lib.hid (HM5.out.keep hb6 hb6.size)
  have HD6 := Lib.hid (hcd.below hb6).capM
  have HK6 : Hid (Blk (w5.alloc (.cells #[.string c.note, .slice df c.faces.length dg, .slice dn c.names.length dO, .slice ds c.secs.length dt, .slice dp c.pkts.length dq] 27)) B 27 #[.string c.note, .slice pf c.faces.length cf, .slice pn c.names.length cn, .slice ps c.secs.length cs, .slice pp c.pkts.length cp] ∧ Below B w (w5.alloc (.cells #[.string c.note, .slice df c.faces.length dg, .slice dn c.names.length dO, .slice ds c.secs.length dt, .slice dp c.pkts.length dq] 27))) := Lib.hid ⟨HK5.out.1.alloc _, HK5.out.2.trans (hb6.mono (Nat.le_of_lt HK5.out.1.lt))⟩
  have HG6 : Hid (Pc (w5.alloc (.cells #[.string c.note, .slice df c.faces.length dg, .slice dn c.names.length dO, .slice ds c.secs.length dt, .slice dp c.pkts.length dq] 27)) g 0 (fileB old low c) ∧ g < (w5.alloc (.cells #[.string c.note, .slice df c.faces.length dg, .slice dn c.names.length dO, .slice ds c.secs.length dt, .slice dp c.pkts.length dq] 27)).heap.size) := Lib.hid ⟨HG5.out.1.below hb6 HG5.out.2, Nat.lt_of_lt_of_le HG5.out.2 hb6.size⟩
  have HN6 : Hid (Blk (w5.alloc (.cells #[.string c.note, .slice df c.faces.length dg, .slice dn c.names.length dO, .slice ds c.secs.length dt, .slice dp c.pkts.length dq] 27)) K 27 #[.string c.note, .slice df c.faces.length dg, .slice dn c.names.length dO, .slice ds c.secs.length dt, .slice dp c.pkts.length dq]) := Lib.hid (by rw [← hK]; exact Blk.new _ _ _)
  have HKF := Lib.hid (kind_file old low HOK.out.1 HOK.out.2 HG6.out.1 HG6.out.2 HCC.out)
  rw [HMM.out] at HKF
  clear hcd hb6 HM5 HK5 HG5
  go_wp2_with fail
  clear hK
  generalize w5.alloc (.cells #[.string c.note, .slice df c.faces.length dg, .slice dn c.names.length dO, .slice ds c.secs.length dt, .slice dp c.pkts.length dq] 27) = w6 at HM6 HD6 HK6 HG6 HN6 HKF ⊢
  refine HKF.out.mono ?_
  rintro e w7 ⟨rfl, hb7⟩
  have HM7 := Lib.hid (HM6.out.keep hb7 hb7.size)
  have HD7 := Lib.hid (HD6.out.keep hb7 hb7.size)
  have HK7 : Hid (Blk w7 B 27 #[.string c.note, .slice pf c.faces.length cf, .slice pn c.names.length cn, .slice ps c.secs.length cs, .slice pp c.pkts.length cp] ∧ Below B w w7) := Lib.hid ⟨HK6.out.1.below hb7 HK6.out.1.lt, HK6.out.2.trans (hb7.mono (Nat.le_of_lt HK6.out.1.lt))⟩
  have HN7 := Lib.hid (HN6.out.below hb7 HN6.out.lt)
  clear hb7 HKF HM6 HD6 HK6 HG6 HN6
  have HSM := Lib.hid (rsame_any HD7.out HM7.out)
  rw [eqB_true rfl] at HSM
  have r0 : w7.cell? ⟨B, 0, none⟩ = some (.string c.note) := HK7.out.1.cell 0
  have r1 : w7.cell? ⟨B, 1, none⟩ = some (.slice pf c.faces.length cf) := HK7.out.1.cell 1
  have r2 : w7.cell? ⟨B, 2, none⟩ = some (.slice pn c.names.length cn) := HK7.out.1.cell 2
  have r3 : w7.cell? ⟨B, 3, none⟩ = some (.slice ps c.secs.length cs) := HK7.out.1.cell 3
  have r4 : w7.cell? ⟨B, 4, none⟩ = some (.slice pp c.pkts.length cp) := HK7.out.1.cell 4
  have u0 : w7.cell? ⟨K, 0, none⟩ = some (.string c.note) := HN7.out.cell 0
  have u1 : w7.cell? ⟨K, 1, none⟩ = some (.slice df c.faces.length dg) := HN7.out.cell 1
  have u2 : w7.cell? ⟨K, 2, none⟩ = some (.slice dn c.names.length dO) := HN7.out.cell 2
  have u3 : w7.cell? ⟨K, 3, none⟩ = some (.slice ds c.secs.length dt) := HN7.out.cell 3
  have u4 : w7.cell? ⟨K, 4, none⟩ = some (.slice dp c.pkts.length dq) := HN7.out.cell 4
  go_wp2_with fail
  refine HSM.out.mono ?_
  rintro e w8 ⟨rfl, hb8⟩
  have HK8 : Hid (Blk w8 B 27 #[.string c.note, .slice pf c.faces.length cf, .slice pn c.names.length cn, .slice ps c.secs.length cs, .slice pp c.pkts.length cp] ∧ Below B w w8) := Lib.hid ⟨HK7.out.1.below hb8 HK7.out.1.lt, HK7.out.2.trans (hb8.mono (Nat.le_of_lt HK7.out.1.lt))⟩
  clear hb8 HSM HM7 HD7 HK7 HN7 r0 r1 r2 r3 r4 u0 u1 u2 u3 u4
  go_wp2_with fail
  refine (known_any _).mono ?_
  rintro e wk ⟨rfl, hbk⟩
  have HBK : Hid (Below B w wk) := Lib.hid (HK8.out.2.trans (hbk.mono (by have := HK8.out.1.lt; omega)))
  clear hbk
  go_wp2
  go_ret
  exact ⟨rfl, HBK.out⟩
end Go.Proofs.Ytlimkckomdipkaa
