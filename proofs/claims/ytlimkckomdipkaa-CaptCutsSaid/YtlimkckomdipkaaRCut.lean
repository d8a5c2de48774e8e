/- Cut: the reference's. -/
import Derived.Test.YtlimkckomdipkaaCutM
import Derived.Test.YtlimkckomdipkaaRCopy
import Derived.Test.YtlimkckomdipkaaRVald
namespace Go.Proofs.Ytlimkckomdipkaa
open Go.RowKit

set_option maxRecDepth 100000 in
set_option maxHeartbeats 8000000 in
theorem rcut_any {w : World} {p : Pl} {c : Cap} {n : Int} (hm : CapM w w.heap.size p c) (hn : -9223372036854775808 ≤ n ∧ n ≤ 9223372036854775807) :
    Calls Try.prog 20 #[capV p c, .int .i64 n] w fun e w' => ∃ q, e = .returned (.tuple #[capV q (cutR c n), .int .i64 (errCut c n)]) ∧ CapT w' q (cutR c n) ∧ Below w.heap.size w w' := by
  obtain ⟨pf, cf, pn, cn, ps, cs, pp, cp⟩ := p
  obtain ⟨B, hB⟩ : ∃ B, w.heap.size = B := ⟨_, rfl⟩
  obtain ⟨W0, hW0⟩ : ∃ W0, (w.alloc (.cells #[.string c.note, .slice pf c.faces.length cf, .slice pn c.names.length cn, .slice ps c.secs.length cs, .slice pp c.pkts.length cp] 27)).alloc (.cells #[.string ⟨#[]⟩, .slice none 0 0, .slice none 0 0, .slice none 0 0, .slice none 0 0] 27) = W0 := ⟨_, rfl⟩
  have HM0 : Hid (CapM W0 W0.heap.size ⟨pf, cf, pn, cn, ps, cs, pp, cp⟩ c) := Lib.hid (by rw [← hW0]; exact boxed (boxed hm _) _)
  have HK0 : Hid (Blk W0 B 27 #[.string c.note, .slice pf c.faces.length cf, .slice pn c.names.length cn, .slice ps c.secs.length cs, .slice pp c.pkts.length cp] ∧ Below B w W0) := Lib.hid (by rw [← hW0, ← hB]; exact ⟨(Blk.new _ _ _).alloc _, ((Below.refl _ w).alloc (Nat.le_refl _) _).alloc (by rw [alloc_size]; omega) _⟩)
  have HZ0 : Hid (Blk W0 (B + 1) 27 #[.string ⟨#[]⟩, .slice none 0 0, .slice none 0 0, .slice none 0 0, .slice none 0 0]) := Lib.hid (by
    have h := Blk.new (w.alloc (.cells #[.string c.note, .slice pf c.faces.length cf, .slice pn c.names.length cn, .slice ps c.secs.length cs, .slice pp c.pkts.length cp] 27)) 27 #[.string ⟨#[]⟩, .slice none 0 0, .slice none 0 0, .slice none 0 0, .slice none 0 0]
    rw [alloc_size, hB] at h
    rw [← hW0]; exact h)
  rw [hB]
  have HBI : Hid (-9223372036854775808 ≤ n ∧ n ≤ 9223372036854775807) := Lib.hid hn
  have q0 : W0.cell? ⟨B, 0, none⟩ = some (.string c.note) := HK0.out.1.cell 0
  have q1 : W0.cell? ⟨B, 1, none⟩ = some (.slice pf c.faces.length cf) := HK0.out.1.cell 1
  have q2 : W0.cell? ⟨B, 2, none⟩ = some (.slice pn c.names.length cn) := HK0.out.1.cell 2
  have q3 : W0.cell? ⟨B, 3, none⟩ = some (.slice ps c.secs.length cs) := HK0.out.1.cell 3
  have q4 : W0.cell? ⟨B, 4, none⟩ = some (.slice pp c.pkts.length cp) := HK0.out.1.cell 4
  have HV := Lib.hid (rvald_any HM0.out)
  clear hm
  by_cases he : errV c = 0
  · by_cases hw : 0 ≤ n ∧ n ≤ 400
    · obtain ⟨m, rfl⟩ : ∃ m : Nat, n = m := ⟨n.toNat, by omega⟩
      have hm4 : m ≤ 400 := by omega
      have HE : Hid (cutR c m = cutC c m) := Lib.hid (by unfold cutR errCut; rw [if_pos he, within_true hw.1 hw.2]; rfl)
      have HEE : Hid (errCut c m = 0) := Lib.hid (by unfold errCut; rw [if_pos he, within_true hw.1 hw.2]; rfl)
      have HWT : Hid (within (m : Int) 0 400 = true) := Lib.hid (within_true hw.1 hw.2)
      have hwt : within (m : Int) 0 400 = true := HWT.out
      have hm0 : (0 : Int) ≤ (m : Int) := by omega
      have hm5 : (m : Int) ≤ 400 := by omega
      clear hw hn
      go_enter Try.func20, Try.ntmps20
      go_wp2_with fail
      clear hW0
      refine HV.out.mono ?_
      rintro e w1 ⟨rfl, hb1⟩
      have hlB : B + 1 < W0.heap.size := HZ0.out.lt
      have HM1 := Lib.hid (HM0.out.keep hb1 hb1.size)
      have HK1 : Hid (Blk w1 B 27 #[.string c.note, .slice pf c.faces.length cf, .slice pn c.names.length cn, .slice ps c.secs.length cs, .slice pp c.pkts.length cp] ∧ Below B w w1) := Lib.hid ⟨HK0.out.1.below hb1 (by omega), HK0.out.2.trans (hb1.mono (by omega))⟩
      have HZ1 := Lib.hid (HZ0.out.below hb1 hlB)
      rw [he]
      clear hb1 q0 q1 q2 q3 q4
      have r0 : w1.cell? ⟨B, 0, none⟩ = some (.string c.note) := HK1.out.1.cell 0
      have r1 : w1.cell? ⟨B, 1, none⟩ = some (.slice pf c.faces.length cf) := HK1.out.1.cell 1
      have r2 : w1.cell? ⟨B, 2, none⟩ = some (.slice pn c.names.length cn) := HK1.out.1.cell 2
      have r3 : w1.cell? ⟨B, 3, none⟩ = some (.slice ps c.secs.length cs) := HK1.out.1.cell 3
      have r4 : w1.cell? ⟨B, 4, none⟩ = some (.slice pp c.pkts.length cp) := HK1.out.1.cell 4
      clear HV he
      have hd1 : decide ((m : Int) < 0) = false := by simp
      have hd2 : decide (400 < (m : Int)) = false := by simp; omega
      go_wp2_with fail
      obtain ⟨Bb, hBb⟩ : ∃ Bb, w1.heap.size + 2 = Bb := ⟨_, rfl⟩
      have HCP := Lib.hid (rcopy_any HM1.out)
      rw [hBb] at HCP
      have hlB1 : B + 1 < w1.heap.size := HZ1.out.lt
      have HBb : Hid (B + 2 ≤ Bb) := Lib.hid (by omega)
      refine HCP.out.mono ?_
      clear HCP
      rintro e w2 ⟨⟨qf, df, qn, dn, qs, ds, qp, dp⟩, rfl, hm2, hb2⟩
      obtain ⟨G, hG⟩ : ∃ G, w2.heap.size = G := ⟨_, rfl⟩
      obtain ⟨W3, hW3⟩ : ∃ W3, w2.alloc (.cells #[.string c.note, .slice qf c.faces.length df, .slice qn c.names.length dn, .slice qs c.secs.length ds, .slice qp c.pkts.length dp] 27) = W3 := ⟨_, rfl⟩
      have hb3 : Below w2.heap.size w2 W3 := by rw [← hW3]; exact (Below.refl _ _).alloc (Nat.le_refl _) _
      have HZ3 := Lib.hid ((HZ1.out.below hb2 hlB1).below hb3 (by have := (HZ1.out.below hb2 hlB1).lt; exact this))
      have HB3 : Hid (Below B w W3) := Lib.hid ((HK1.out.2.trans (hb2.mono (by omega))).trans (hb3.mono (by have := (HZ1.out.below hb2 hlB1).lt; omega)))
      have HM3 := Lib.hid (hm2.below hb3)
      have HG3 : Hid (Blk W3 G 27 #[.string c.note, .slice qf c.faces.length df, .slice qn c.names.length dn, .slice qs c.secs.length ds, .slice qp c.pkts.length dp]) := Lib.hid (by rw [← hW3, ← hG]; exact Blk.new _ _ _)
      have HGB : Hid (B + 2 ≤ G) := Lib.hid (by have := hb2.size; omega)
      clear hm2 hb2 hb3 r0 r1 r2 r3 r4 hBb hlB1 hlB hwt
      have hGc : w2.heap.size = G := hG
      obtain ⟨rf, hrf⟩ := HM3.out.faces
      have HF3 : Hid (OwnL W3 Bb 54 3 FacE (.slice qf c.faces.length df) c.faces rf) := Lib.hid hrf
      obtain ⟨w0p, rp, hrp⟩ := HM3.out.pkts
      have HP3 : Hid (OwnM pktKd w0p W3 Bb (.slice qp c.pkts.length dp) c.pkts rp c.pkts.length) := Lib.hid hrp
      clear hrf hrp
      have g1 : W3.cell? ⟨G, 1, none⟩ = some (.slice qf c.faces.length df) := HG3.out.cell 1
      have g4 : W3.cell? ⟨G, 4, none⟩ = some (.slice qp c.pkts.length dp) := HG3.out.cell 4
      go_wp2_with fail
      clear g1 g4 hG hW3 hGc
      have HS3 : Hid (AlikeT 54 W3 W3) := Lib.hid (AlikeT.refl _ _)
      go_loopw [8] (fun i wr => ∃ (k : Nat) (rows : List (List Value)), i = .int .i64 k ∧ k ≤ c.faces.length ∧ Hid (OwnL wr Bb 54 3 FacE (.slice qf c.faces.length df) (mapTo (cutF m) k c.faces) rows) ∧ Hid (AlikeT 54 W3 wr) ∧ Hid (Below B w wr)) (fun i _ => c.faces.length - (intOf i).toNat)
      case atStart => exact ⟨0, rf, rfl, Nat.zero_le _, Lib.hid (by rw [mapTo_zero]; exact HF3.out), HS3, HB3⟩
      case round =>
        obtain ⟨k, rows, rfl, hk, HL, HA, HW⟩ := hrel
        have HG : Hid (Blk wr G 27 #[.string c.note, .slice qf c.faces.length df, .slice qn c.names.length dn, .slice qs c.secs.length ds, .slice qp c.pkts.length dp]) := Lib.hid (HA.out.2 _ _ _ (by decide) HG3.out)
        have x1 : wr.cell? ⟨G, 1, none⟩ = some (.slice qf c.faces.length df) := HG.out.cell 1
        have hfl : c.faces.length * 32 ≤ 140737488355328 := HM3.out.lf
        by_cases hlt : k < c.faces.length
        · have hlt2 : k < (mapTo (cutF m) k c.faces).length := by rw [mapTo_len]; exact hlt
          obtain ⟨g, cap, gs, hv, hgb, hgk, hsb, d0, d1, d2⟩ := facL_read HL.out hlt2
          have HSETS := Lib.hid (fun (w' : World) (hb' : Below wr.heap.size wr w') => facL_set (g := g) (cap := cap) (k := k) (by have h := facL_below HL.out hb'; rw [hv] at h; exact h) hlt2 m ⟨by omega, by omega⟩)
          rw [mapTo_len] at hv HSETS
          rw [mapTo_at hlt] at hsb d0 d1 d2 HSETS
          have HSET := Lib.hid (mapTo_set (f := cutF m) hlt)
          injection hv with hv1 hv2 hv3
          subst hv1
          subst hv3
          clear hv2
          obtain ⟨X, hX⟩ : ∃ X, c.faces[k] = X := ⟨_, rfl⟩
          rw [hX] at hsb d0 d1 d2 HSET HSETS
          have HAT : Hid ((mapTo (cutF m) k c.faces)[k]'hlt2 = X) := Lib.hid (by rw [mapTo_at hlt, hX])
          have hHG := HG.out.lt
          have HGK := Lib.hid hgk
          clear hX hgk
          have hk0 : (0 : Int) ≤ (k : Int) := by omega
          have hlt' : (k : Int) < (c.faces.length : Int) := by omega
          have HBX : Hid (Below wr.heap.size wr wr) := Lib.hid (Below.refl _ _)
          have f4 : wr.frozen? ⟨g, k * 3 + 2, none⟩ = false := HGK.out.frozen _
          by_cases h0 : X.snap = 0
          · have HCF : Hid (cutF m X = ⟨X.name, X.link, m⟩) := Lib.hid (by unfold cutF; rw [if_pos (Or.inl h0)])
            obtain ⟨rows7, g7, a7⟩ := HSETS.out _ HBX.out
            rw [← HCF.out, HSET.out] at g7
            have HL7 := Lib.hid g7
            have HA7 := Lib.hid ((HA.out.trans (AlikeT.below HBX.out)).trans a7)
            have HW7 : Hid (Below B w (wr.setCell ⟨g, k * 3 + 2, none⟩ (.int .i64 m))) := Lib.hid ((HW.out.trans (HBX.out.mono (by have := HGB.out; omega))).setCell (p := ⟨g, k * 3 + 2, none⟩) (by show B ≤ g; have := HBb.out; omega) _)
            have hs0 : (X.snap == 0) = true := by simpa using h0
            clear h0 g7 a7
            go_wp2
            go_roundw
            case rel => exact ⟨k + 1, rows7, by go_num, by omega, HL7, HA7, HW7⟩
            case measure => simp [intOf]; omega
          · have hs0 : (X.snap == 0) = false := by simpa using h0
            by_cases h1 : (m : Int) < X.snap
            · have HCF : Hid (cutF m X = ⟨X.name, X.link, m⟩) := Lib.hid (by unfold cutF; rw [if_pos (Or.inr h1)])
              obtain ⟨rows7, g7, a7⟩ := HSETS.out _ HBX.out
              rw [← HCF.out, HSET.out] at g7
              have HL7 := Lib.hid g7
              have HA7 := Lib.hid ((HA.out.trans (AlikeT.below HBX.out)).trans a7)
              have HW7 : Hid (Below B w (wr.setCell ⟨g, k * 3 + 2, none⟩ (.int .i64 m))) := Lib.hid ((HW.out.trans (HBX.out.mono (by have := HGB.out; omega))).setCell (p := ⟨g, k * 3 + 2, none⟩) (by show B ≤ g; have := HBb.out; omega) _)
              have hd : decide ((m : Int) < X.snap) = true := by simpa using h1
              clear h0 g7 a7
              go_wp2
              go_roundw
              case rel => exact ⟨k + 1, rows7, by go_num, by omega, HL7, HA7, HW7⟩
              case measure => simp [intOf]; omega
            · have HCF : Hid (cutF m X = X) := Lib.hid (by unfold cutF; rw [if_neg (by omega)])
              have HL7 : Hid (OwnL wr Bb 54 3 FacE (.slice (some ⟨g, 0, none⟩) c.faces.length df) (mapTo (cutF m) (k + 1) c.faces) rows) := Lib.hid (by
                have h := HSET.out
                rw [HCF.out] at h
                rw [← h, list_set_same hlt2 HAT.out]
                exact facL_below HL.out HBX.out)
              have HA7 := Lib.hid (HA.out.trans (AlikeT.below (t := 54) HBX.out))
              have HW7 : Hid (Below B w wr) := Lib.hid (HW.out.trans (HBX.out.mono (by have := HGB.out; omega)))
              have hd : decide ((m : Int) < X.snap) = false := by simpa using h1
              clear h0
              go_wp2
              go_roundw
              case rel => exact ⟨k + 1, rows, by go_num, by omega, HL7, HA7, HW7⟩
              case measure => simp [intOf]; omega
        · rename World => V4
          have hkn : k = c.faces.length := by omega
          subst hkn
          have hall : mapTo (cutF m) c.faces.length c.faces = c.faces.map (cutF m) := mapTo_all
          rw [hall] at HL
          have HF4 := HL
          have HG4 := HG
          have HZ4 := Lib.hid (HA.out.2 _ _ _ (by decide) HZ3.out)
          have HM4 := HM3
          obtain ⟨wn, rn, hrn⟩ := HM3.out.names
          obtain ⟨ws, rs, hrs⟩ := HM3.out.secs
          have HN4 := Lib.hid (hrn.alike HA.out (by decide) (by decide))
          have HQ4 := Lib.hid (hrs.alike HA.out (by decide) (by decide))
          have HP4 := Lib.hid (HP3.out.alike HA.out (by decide) (by decide))
          have HB4 := HW
          clear HL HG HA HW HS3 hrn hrs hall hk hlt HZ3 HG3 HF3 HP3 HB3
          have g4 : V4.cell? ⟨G, 4, none⟩ = some (.slice qp c.pkts.length dp) := HG4.out.cell 4
          go_wp2_with fail
          clear g4 x1
          have HS4 : Hid (AlikeT 47 V4 V4) := Lib.hid (AlikeT.refl _ _)
          go_loopw [9] (fun i wr => ∃ (k : Nat) (rows : List (List Value)), i = .int .i64 k ∧ k ≤ c.pkts.length ∧ Hid (OwnM pktKd w0p wr Bb (.slice qp c.pkts.length dp) (mapTo (cutP m) k c.pkts) rows (mapTo (cutP m) k c.pkts).length) ∧ Hid (AlikeT 47 V4 wr) ∧ Hid (Below B w wr)) (fun i _ => c.pkts.length - (intOf i).toNat)
          case atStart => exact ⟨0, rp, rfl, Nat.zero_le _, Lib.hid (by rw [mapTo_zero]; exact HP4.out), HS4, HB4⟩
          case round =>
            obtain ⟨k, rows, rfl, hk, HL, HA, HW⟩ := hrel
            have HG : Hid (Blk wr G 27 #[.string c.note, .slice qf c.faces.length df, .slice qn c.names.length dn, .slice qs c.secs.length ds, .slice qp c.pkts.length dp]) := Lib.hid (HA.out.2 _ _ _ (by decide) HG4.out)
            have x1 : wr.cell? ⟨G, 4, none⟩ = some (.slice qp c.pkts.length dp) := HG.out.cell 4
            have hfl : c.pkts.length * 64 ≤ 140737488355328 := HM3.out.lp
            by_cases hlt : k < c.pkts.length
            · have hlt2 : k < (mapTo (cutP m) k c.pkts).length := by rw [mapTo_len]; exact hlt
              obtain ⟨g, cap, gs, A, cc, hv, hgb, hgk, ho, h256, hcap, hok, hcell⟩ := HL.out.readO pktR hlt2
              have HPUT := Lib.hid (fun (w' : World) (hb' : Below wr.heap.size wr w') (u : Value) (x' : Pkt) (hr : ∀ v, (pktKd.row ((mapTo (cutP m) k c.pkts)[k]'hlt2) v).set 3 u = pktKd.row x' u) (hE : KO pktKd Bb x' w' (pktKd.row x' u)) => OwnM.put (g := g) (cap := cap) (k := k) (u := u) (x' := x') (by have h := HL.out.below hb'; rw [hv] at h; exact h) pktR hlt2 hr hE)
              rw [mapTo_len] at hv
              rw [mapTo_at hlt] at ho h256 hcap hok hcell
              have HSET := Lib.hid (mapTo_set (f := cutP m) hlt)
              injection hv with hv1 hv2 hv3
              subst hv1
              subst hv3
              clear hv2
              obtain ⟨X, hX⟩ : ∃ X, c.pkts[k] = X := ⟨_, rfl⟩
              rw [hX] at ho h256 hcap hok hcell HSET
              have HAT : Hid ((mapTo (cutP m) k c.pkts)[k]'hlt2 = X) := Lib.hid (by rw [mapTo_at hlt, hX])
              obtain ⟨L, hL⟩ : ∃ L, (pktKd.dat X).length = L := ⟨_, rfl⟩
              have HLX : Hid (X.data.length = L) := Lib.hid hL
              rw [hL] at hcap hcell ho
              have hLc : L ≤ cc := (own_bounds ho).1
              have HAN := Lib.hid (own_bounds ho).2
              obtain ⟨M, hM⟩ : ∃ M, min L m = M := ⟨_, rfl⟩
              have HCUT : Hid (KO pktKd Bb (cutP m X) wr (pktKd.row (cutP m X) (.slice A M cc))) := Lib.hid (pkt_cut (n := m) (p := X) (by rw [HLX.out]; exact ho) h256 (by rw [HLX.out]; exact hcap) hok (by rw [HLX.out]; exact hM.symm))
              have hHG := HG.out.lt
              have HGK := Lib.hid hgk
              have hMc : M ≤ cc := by omega
              have d0 : wr.cell? ⟨g, k * 5, none⟩ = some (.int .i64 X.time) := hcell 0 _ rfl
              have d1 : wr.cell? ⟨g, k * 5 + 1, none⟩ = some (.int .i64 X.face) := hcell 1 _ rfl
              have d2 : wr.cell? ⟨g, k * 5 + 2, none⟩ = some (.int .i64 X.real) := hcell 2 _ rfl
              have d3 : wr.cell? ⟨g, k * 5 + 3, none⟩ = some (.slice A L cc) := hcell 3 _ rfl
              have d4 : wr.cell? ⟨g, k * 5 + 4, none⟩ = some (.string X.note) := hcell 4 _ rfl
              have hLL : L ≤ 140737488355328 := hcap
              clear hX hgk hL ho h256 hcap hok hcell
              have hk0 : (0 : Int) ≤ (k : Int) := by omega
              have hlt' : (k : Int) < (c.pkts.length : Int) := by omega
              have HBX : Hid (Below wr.heap.size wr wr) := Lib.hid (Below.refl _ _)
              have c4 : wr.cell? ⟨g, k * 5 + 3, none⟩ = some (.slice A L cc) := d3
              have f4 : wr.frozen? ⟨g, k * 5 + 3, none⟩ = false := HGK.out.frozen _
              have HBD : Hid (Below wr.heap.size wr wr.drew) := Lib.hid HBX.out.drew
              obtain ⟨h7, a7⟩ := HPUT.out _ HBD.out (.slice A M cc) (cutP m X) (by intro v; rw [HAT.out]; rfl) (HCUT.out.below HBD.out)
              rw [HSET.out, mapTo_len] at h7
              have HL7 : Hid (∃ rows7, OwnM pktKd w0p (wr.drew.setCell ⟨g, k * 5 + 3, none⟩ (.slice A M cc)) Bb (.slice (some ⟨g, 0, none⟩) c.pkts.length dp) (mapTo (cutP m) (k + 1) c.pkts) rows7 (mapTo (cutP m) (k + 1) c.pkts).length) := Lib.hid ⟨_, h7⟩
              have HA7 : Hid (AlikeT 47 V4 (wr.drew.setCell ⟨g, k * 5 + 3, none⟩ (.slice A M cc))) := Lib.hid ((HA.out.trans (AlikeT.below HBD.out)).trans a7)
              have HW7 : Hid (Below B w (wr.drew.setCell ⟨g, k * 5 + 3, none⟩ (.slice A M cc))) := Lib.hid ((HW.out.trans (HBD.out.mono (by have := HGB.out; omega))).setCell (p := ⟨g, k * 5 + 3, none⟩) (by show B ≤ g; have := HBb.out; omega) _)
              clear h7 a7
              have hM0 : (0 : Int) ≤ (M : Int) := by omega
              have hMc' : (M : Int) ≤ (cc : Int) := by omega
              have c5 : wr.drew.cell? ⟨g, k * 5 + 3, none⟩ = some (.slice A L cc) := c4
              have f5 : wr.drew.frozen? ⟨g, k * 5 + 3, none⟩ = false := f4
              have hAn := HAN.out
              cases A with
              | none =>
                obtain rfl : cc = 0 := hAn rfl
                obtain rfl : L = 0 := by omega
                obtain rfl : M = 0 := by omega
                have hmin : (if 0 < m then 0 else (m : Int)) = 0 := by split <;> omega
                clear hM hAn
                go_wp2_with fail
                go_still_tail 21, (by kernel_rfl)
                change wpList _ _ _ _ _ wr.drew
                generalize wr.drew = W5 at HL7 HA7 HW7 c5 f5 ⊢
                go_wp2
                obtain ⟨rows7, g7⟩ := HL7.out
                have HL8 := Lib.hid g7
                clear g7 HL7
                go_roundw
                case rel => exact ⟨k + 1, rows7, by go_num, by omega, HL8, HA7, HW7⟩
                case measure => simp [intOf]; omega
              | some aa =>
                clear hAn
                by_cases hLm : L ≤ m
                · have hML : M = L := by omega
                  subst hML
                  have hmin : (if M < m then (M : Int) else (m : Int)) = (M : Int) := by split <;> omega
                  have hLm' : (M : Int) ≤ (m : Int) := by omega
                  clear hM
                  go_wp2_with fail
                  go_still_tail 21, (by kernel_rfl)
                  change wpList _ _ _ _ _ wr.drew
                  generalize wr.drew = W5 at HL7 HA7 HW7 c5 f5 ⊢
                  go_wp2
                  obtain ⟨rows7, g7⟩ := HL7.out
                  have HL8 := Lib.hid g7
                  clear g7 HL7
                  go_roundw
                  case rel => exact ⟨k + 1, rows7, by go_num, by omega, HL8, HA7, HW7⟩
                  case measure => simp [intOf]; omega
                · have hML : M = m := by omega
                  subst hML
                  have hLm' : (M : Int) < (L : Int) := by omega
                  clear hM
                  have hmin : (if L < M then (L : Int) else (M : Int)) = (M : Int) := by split <;> omega
                  go_wp2_with fail
                  go_still_tail 21, (by kernel_rfl)
                  change wpList _ _ _ _ _ wr.drew
                  generalize wr.drew = W5 at HL7 HA7 HW7 c5 f5 ⊢
                  go_wp2
                  obtain ⟨rows7, g7⟩ := HL7.out
                  have HL8 := Lib.hid g7
                  clear g7 HL7
                  go_roundw
                  case rel => exact ⟨k + 1, rows7, by go_num, by omega, HL8, HA7, HW7⟩
                  case measure => simp [intOf]; omega
            · rename World => V5
              have hkn : k = c.pkts.length := by omega
              subst hkn
              have hall : mapTo (cutP m) c.pkts.length c.pkts = c.pkts.map (cutP m) := mapTo_all
              rw [hall] at HL
              have HZ5 := Lib.hid (HA.out.2 _ _ _ (by decide) HZ4.out)
              have HCO : Hid (CapO V5 Bb ⟨qf, df, qn, dn, qs, ds, qp, dp⟩ (cutC c m)) := Lib.hid ⟨HM3.out.note,
                ⟨_, by rw [show (cutC c m).faces.length = c.faces.length from List.length_map _]; exact facL_alike HF4.out HA.out (by decide)⟩,
                ⟨_, _, HN4.out.alike HA.out (by decide) (by decide)⟩, ⟨_, _, HQ4.out.alike HA.out (by decide) (by decide)⟩,
                ⟨w0p, rows, by
                  have h := HL.out
                  rw [List.length_map] at h
                  rw [show (cutC c m).pkts.length = c.pkts.length from List.length_map _]
                  exact h⟩, by rw [show (cutC c m).faces.length = c.faces.length from List.length_map _]; exact HM3.out.lf, HM3.out.ln, HM3.out.ls, by rw [show (cutC c m).pkts.length = c.pkts.length from List.length_map _]; exact HM3.out.lp⟩
              have HB5 := HW
              clear hall hk hlt HL HA HW x1 HS4 HF4 HN4 HQ4 HZ4 HB4 HG4 HP4
              have q0 : V5.cell? ⟨G, 0, none⟩ = some (.string c.note) := HG.out.cell 0
              have q1 : V5.cell? ⟨G, 1, none⟩ = some (.slice qf c.faces.length df) := HG.out.cell 1
              have q2 : V5.cell? ⟨G, 2, none⟩ = some (.slice qn c.names.length dn) := HG.out.cell 2
              have q3 : V5.cell? ⟨G, 3, none⟩ = some (.slice qs c.secs.length ds) := HG.out.cell 3
              have q4 : V5.cell? ⟨G, 4, none⟩ = some (.slice qp c.pkts.length dp) := HG.out.cell 4
              have z0 : V5.cell? ⟨B + 1, 0, none⟩ = some (.string ⟨#[]⟩) := HZ5.out.cell 0
              have zf0 : V5.frozen? ⟨B + 1, 0, none⟩ = false := HZ5.out.frozen 0
              have z1 : V5.cell? ⟨B + 1, 1, none⟩ = some (.slice none 0 0) := HZ5.out.cell 1
              have zf1 : V5.frozen? ⟨B + 1, 1, none⟩ = false := HZ5.out.frozen 1
              have z2 : V5.cell? ⟨B + 1, 2, none⟩ = some (.slice none 0 0) := HZ5.out.cell 2
              have zf2 : V5.frozen? ⟨B + 1, 2, none⟩ = false := HZ5.out.frozen 2
              have z3 : V5.cell? ⟨B + 1, 3, none⟩ = some (.slice none 0 0) := HZ5.out.cell 3
              have zf3 : V5.frozen? ⟨B + 1, 3, none⟩ = false := HZ5.out.frozen 3
              have z4 : V5.cell? ⟨B + 1, 4, none⟩ = some (.slice none 0 0) := HZ5.out.cell 4
              have zf4 : V5.frozen? ⟨B + 1, 4, none⟩ = false := HZ5.out.frozen 4
              have HEND := Lib.hid (set5 HZ5.out (.string c.note) (.slice qf c.faces.length df) (.slice qn c.names.length dn) (.slice qs c.secs.length ds) (.slice qp c.pkts.length dp))
              go_wp2
              generalize hW9 : (((((V5.setCell ⟨B + 1, 0, none⟩ (.string c.note)).setCell ⟨B + 1, 1, none⟩ (.slice qf c.faces.length df)).setCell ⟨B + 1, 2, none⟩ (.slice qn c.names.length dn)).setCell ⟨B + 1, 3, none⟩ (.slice qs c.secs.length ds)).setCell ⟨B + 1, 4, none⟩ (.slice qp c.pkts.length dp)) = W9 at HEND ⊢
              obtain ⟨hb9, ha9, hw9⟩ := HEND.out
              have y0 : W9.cell? ⟨B + 1, 0, none⟩ = some (.string c.note) := hb9.cell 0
              have y1 : W9.cell? ⟨B + 1, 1, none⟩ = some (.slice qf c.faces.length df) := hb9.cell 1
              have y2 : W9.cell? ⟨B + 1, 2, none⟩ = some (.slice qn c.names.length dn) := hb9.cell 2
              have y3 : W9.cell? ⟨B + 1, 3, none⟩ = some (.slice qs c.secs.length ds) := hb9.cell 3
              have y4 : W9.cell? ⟨B + 1, 4, none⟩ = some (.slice qp c.pkts.length dp) := hb9.cell 4
              exact bodyPost_ret (v := .tuple #[.agg #[.string c.note, .slice qf c.faces.length df, .slice qn c.names.length dn, .slice qs c.secs.length ds, .slice qp c.pkts.length dp], .int .i64 0]) (by simp [results, Try.results20, go_sem, y0, y1, y2, y3, y4]) rfl ⟨⟨qf, df, qn, dn, qs, ds, qp, dp⟩, by rw [HE.out, HEE.out]; simp [cutC], by rw [HE.out]; exact (HCO.out.alike ha9 (by decide)).capT, hw9 _ _ HB5.out (Nat.le_succ B)⟩
    · by_cases hneg : n < 0
      · have HE : Hid (cutR c n = ⟨⟨#[]⟩, [], [], [], []⟩) := Lib.hid (by unfold cutR errCut; rw [if_pos he, within_false (by omega)]; rfl)
        have HEE : Hid (errCut c n = 1) := Lib.hid (by unfold errCut; rw [if_pos he, within_false (by omega)]; rfl)
        have hwt : within n 0 400 = false := within_false (by omega)
        rw [he] at HV
        clear he
        go_enter Try.func20, Try.ntmps20
        go_wp2_with fail
        clear hW0
        refine HV.out.mono ?_
        rintro e w1 ⟨rfl, hb1⟩
        have hlB : B + 1 < W0.heap.size := HZ0.out.lt
        have HB2 : Hid (Below B w w1) := Lib.hid (HK0.out.2.trans (hb1.mono (by omega)))
        have HZ2 := Lib.hid (HZ0.out.below hb1 hlB)
        clear hb1 q0 q1 q2 q3 q4 HV
        have hd1 : decide (n < 0) = true := by simpa using hneg
        have z0 : w1.cell? ⟨B + 1, 0, none⟩ = some (.string ⟨#[]⟩) := HZ2.out.cell 0
        have zf0 : w1.frozen? ⟨B + 1, 0, none⟩ = false := HZ2.out.frozen 0
        have z1 : w1.cell? ⟨B + 1, 1, none⟩ = some (.slice none 0 0) := HZ2.out.cell 1
        have zf1 : w1.frozen? ⟨B + 1, 1, none⟩ = false := HZ2.out.frozen 1
        have z2 : w1.cell? ⟨B + 1, 2, none⟩ = some (.slice none 0 0) := HZ2.out.cell 2
        have zf2 : w1.frozen? ⟨B + 1, 2, none⟩ = false := HZ2.out.frozen 2
        have z3 : w1.cell? ⟨B + 1, 3, none⟩ = some (.slice none 0 0) := HZ2.out.cell 3
        have zf3 : w1.frozen? ⟨B + 1, 3, none⟩ = false := HZ2.out.frozen 3
        have z4 : w1.cell? ⟨B + 1, 4, none⟩ = some (.slice none 0 0) := HZ2.out.cell 4
        have zf4 : w1.frozen? ⟨B + 1, 4, none⟩ = false := HZ2.out.frozen 4
        have HEND := Lib.hid (set5 HZ2.out (.string ⟨#[]⟩) (.slice none 0 0) (.slice none 0 0) (.slice none 0 0) (.slice none 0 0))
        go_wp2
        generalize hW9 : (((((w1.setCell ⟨B + 1, 0, none⟩ (.string ⟨#[]⟩)).setCell ⟨B + 1, 1, none⟩ (.slice none 0 0)).setCell ⟨B + 1, 2, none⟩ (.slice none 0 0)).setCell ⟨B + 1, 3, none⟩ (.slice none 0 0)).setCell ⟨B + 1, 4, none⟩ (.slice none 0 0)) = W9 at HEND ⊢
        obtain ⟨hb9, ha9, hw9⟩ := HEND.out
        have y0 : W9.cell? ⟨B + 1, 0, none⟩ = some (.string ⟨#[]⟩) := hb9.cell 0
        have y1 : W9.cell? ⟨B + 1, 1, none⟩ = some (.slice none 0 0) := hb9.cell 1
        have y2 : W9.cell? ⟨B + 1, 2, none⟩ = some (.slice none 0 0) := hb9.cell 2
        have y3 : W9.cell? ⟨B + 1, 3, none⟩ = some (.slice none 0 0) := hb9.cell 3
        have y4 : W9.cell? ⟨B + 1, 4, none⟩ = some (.slice none 0 0) := hb9.cell 4
        exact bodyPost_ret (v := .tuple #[.agg #[.string ⟨#[]⟩, .slice none 0 0, .slice none 0 0, .slice none 0 0, .slice none 0 0], .int .i64 1]) (by simp [results, Try.results20, go_sem, y0, y1, y2, y3, y4]) rfl ⟨⟨none, 0, none, 0, none, 0, none, 0⟩, by rw [HE.out, HEE.out]; rfl, by rw [HE.out]; exact capT_none _, hw9 _ _ HB2.out (Nat.le_succ B)⟩
      · have HE : Hid (cutR c n = ⟨⟨#[]⟩, [], [], [], []⟩) := Lib.hid (by unfold cutR errCut; rw [if_pos he, within_false (by omega)]; rfl)
        have HEE : Hid (errCut c n = 1) := Lib.hid (by unfold errCut; rw [if_pos he, within_false (by omega)]; rfl)
        have hwt : within n 0 400 = false := within_false (by omega)
        rw [he] at HV
        clear he
        go_enter Try.func20, Try.ntmps20
        go_wp2_with fail
        clear hW0
        refine HV.out.mono ?_
        rintro e w1 ⟨rfl, hb1⟩
        have hlB : B + 1 < W0.heap.size := HZ0.out.lt
        have HB2 : Hid (Below B w w1) := Lib.hid (HK0.out.2.trans (hb1.mono (by omega)))
        have HZ2 := Lib.hid (HZ0.out.below hb1 hlB)
        clear hb1 q0 q1 q2 q3 q4 HV
        have hd1 : decide (n < 0) = false := by simpa using hneg
        have hd2 : decide (400 < n) = true := by simp; omega
        have z0 : w1.cell? ⟨B + 1, 0, none⟩ = some (.string ⟨#[]⟩) := HZ2.out.cell 0
        have zf0 : w1.frozen? ⟨B + 1, 0, none⟩ = false := HZ2.out.frozen 0
        have z1 : w1.cell? ⟨B + 1, 1, none⟩ = some (.slice none 0 0) := HZ2.out.cell 1
        have zf1 : w1.frozen? ⟨B + 1, 1, none⟩ = false := HZ2.out.frozen 1
        have z2 : w1.cell? ⟨B + 1, 2, none⟩ = some (.slice none 0 0) := HZ2.out.cell 2
        have zf2 : w1.frozen? ⟨B + 1, 2, none⟩ = false := HZ2.out.frozen 2
        have z3 : w1.cell? ⟨B + 1, 3, none⟩ = some (.slice none 0 0) := HZ2.out.cell 3
        have zf3 : w1.frozen? ⟨B + 1, 3, none⟩ = false := HZ2.out.frozen 3
        have z4 : w1.cell? ⟨B + 1, 4, none⟩ = some (.slice none 0 0) := HZ2.out.cell 4
        have zf4 : w1.frozen? ⟨B + 1, 4, none⟩ = false := HZ2.out.frozen 4
        have HEND := Lib.hid (set5 HZ2.out (.string ⟨#[]⟩) (.slice none 0 0) (.slice none 0 0) (.slice none 0 0) (.slice none 0 0))
        go_wp2
        generalize hW9 : (((((w1.setCell ⟨B + 1, 0, none⟩ (.string ⟨#[]⟩)).setCell ⟨B + 1, 1, none⟩ (.slice none 0 0)).setCell ⟨B + 1, 2, none⟩ (.slice none 0 0)).setCell ⟨B + 1, 3, none⟩ (.slice none 0 0)).setCell ⟨B + 1, 4, none⟩ (.slice none 0 0)) = W9 at HEND ⊢
        obtain ⟨hb9, ha9, hw9⟩ := HEND.out
        have y0 : W9.cell? ⟨B + 1, 0, none⟩ = some (.string ⟨#[]⟩) := hb9.cell 0
        have y1 : W9.cell? ⟨B + 1, 1, none⟩ = some (.slice none 0 0) := hb9.cell 1
        have y2 : W9.cell? ⟨B + 1, 2, none⟩ = some (.slice none 0 0) := hb9.cell 2
        have y3 : W9.cell? ⟨B + 1, 3, none⟩ = some (.slice none 0 0) := hb9.cell 3
        have y4 : W9.cell? ⟨B + 1, 4, none⟩ = some (.slice none 0 0) := hb9.cell 4
        exact bodyPost_ret (v := .tuple #[.agg #[.string ⟨#[]⟩, .slice none 0 0, .slice none 0 0, .slice none 0 0, .slice none 0 0], .int .i64 1]) (by simp [results, Try.results20, go_sem, y0, y1, y2, y3, y4]) rfl ⟨⟨none, 0, none, 0, none, 0, none, 0⟩, by rw [HE.out, HEE.out]; rfl, by rw [HE.out]; exact capT_none _, hw9 _ _ HB2.out (Nat.le_succ B)⟩
  · have HE : Hid (cutR c n = ⟨⟨#[]⟩, [], [], [], []⟩) := Lib.hid (by unfold cutR errCut; rw [if_neg he, if_neg he])
    have HEE : Hid (errCut c n = errV c) := Lib.hid (by unfold errCut; rw [if_neg he])
    obtain ⟨E, hE⟩ : ∃ E, errV c = E := ⟨_, rfl⟩
    rw [hE] at HV he HEE
    have hd : (E == 0) = false := by simpa using he
    clear hE he
    go_enter Try.func20, Try.ntmps20
    go_wp2_with fail
    clear hW0
    refine HV.out.mono ?_
    rintro e w1 ⟨rfl, hb1⟩
    have hlB : B + 1 < W0.heap.size := HZ0.out.lt
    have HB2 : Hid (Below B w w1) := Lib.hid (HK0.out.2.trans (hb1.mono (by omega)))
    have HZ2 := Lib.hid (HZ0.out.below hb1 hlB)
    clear hb1 q0 q1 q2 q3 q4 HV
    have z0 : w1.cell? ⟨B + 1, 0, none⟩ = some (.string ⟨#[]⟩) := HZ2.out.cell 0
    have zf0 : w1.frozen? ⟨B + 1, 0, none⟩ = false := HZ2.out.frozen 0
    have z1 : w1.cell? ⟨B + 1, 1, none⟩ = some (.slice none 0 0) := HZ2.out.cell 1
    have zf1 : w1.frozen? ⟨B + 1, 1, none⟩ = false := HZ2.out.frozen 1
    have z2 : w1.cell? ⟨B + 1, 2, none⟩ = some (.slice none 0 0) := HZ2.out.cell 2
    have zf2 : w1.frozen? ⟨B + 1, 2, none⟩ = false := HZ2.out.frozen 2
    have z3 : w1.cell? ⟨B + 1, 3, none⟩ = some (.slice none 0 0) := HZ2.out.cell 3
    have zf3 : w1.frozen? ⟨B + 1, 3, none⟩ = false := HZ2.out.frozen 3
    have z4 : w1.cell? ⟨B + 1, 4, none⟩ = some (.slice none 0 0) := HZ2.out.cell 4
    have zf4 : w1.frozen? ⟨B + 1, 4, none⟩ = false := HZ2.out.frozen 4
    have HEND := Lib.hid (set5 HZ2.out (.string ⟨#[]⟩) (.slice none 0 0) (.slice none 0 0) (.slice none 0 0) (.slice none 0 0))
    go_wp2
    generalize hW9 : (((((w1.setCell ⟨B + 1, 0, none⟩ (.string ⟨#[]⟩)).setCell ⟨B + 1, 1, none⟩ (.slice none 0 0)).setCell ⟨B + 1, 2, none⟩ (.slice none 0 0)).setCell ⟨B + 1, 3, none⟩ (.slice none 0 0)).setCell ⟨B + 1, 4, none⟩ (.slice none 0 0)) = W9 at HEND ⊢
    obtain ⟨hb9, ha9, hw9⟩ := HEND.out
    have y0 : W9.cell? ⟨B + 1, 0, none⟩ = some (.string ⟨#[]⟩) := hb9.cell 0
    have y1 : W9.cell? ⟨B + 1, 1, none⟩ = some (.slice none 0 0) := hb9.cell 1
    have y2 : W9.cell? ⟨B + 1, 2, none⟩ = some (.slice none 0 0) := hb9.cell 2
    have y3 : W9.cell? ⟨B + 1, 3, none⟩ = some (.slice none 0 0) := hb9.cell 3
    have y4 : W9.cell? ⟨B + 1, 4, none⟩ = some (.slice none 0 0) := hb9.cell 4
    exact bodyPost_ret (v := .tuple #[.agg #[.string ⟨#[]⟩, .slice none 0 0, .slice none 0 0, .slice none 0 0, .slice none 0 0], .int .i64 E]) (by simp [results, Try.results20, go_sem, y0, y1, y2, y3, y4]) rfl ⟨⟨none, 0, none, 0, none, 0, none, 0⟩, by rw [HE.out, HEE.out]; rfl, by rw [HE.out]; exact capT_none _, hw9 _ _ HB2.out (Nat.le_succ B)⟩
end Go.Proofs.Ytlimkckomdipkaa
