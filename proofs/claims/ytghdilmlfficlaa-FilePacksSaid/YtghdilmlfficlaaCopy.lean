/- Copy. -/
import Derived.Test.YtghdilmlfficlaaCopyR
namespace Go.Proofs.Ytghdilmlfficlaa
open Go.RowKit

set_option maxRecDepth 100000 in
set_option maxHeartbeats 8000000 in
theorem copy_any {w : World} {p : Pl} {c : Cap} (hm : CapM w w.heap.size p c) :
    Calls Try.prog 106 #[capV p c] w fun e w' => ∃ q, e = .returned (capV q c) ∧ CapO w' (w.heap.size + 2) q c ∧ Below w.heap.size w w' := by
  obtain ⟨pf, cf, pn, cn, ps, cs, pp, cp⟩ := p
  have HM := Lib.hid hm
  clear hm
  obtain ⟨B, hB⟩ : ∃ B, w.heap.size = B := ⟨_, rfl⟩
  obtain ⟨W0, hW0⟩ : ∃ W0, (w.alloc (.cells #[.string c.note, .slice pf c.faces.length cf, .slice pn c.names.length cn, .slice ps c.secs.length cs, .slice pp c.pkts.length cp] 31)).alloc (.cells #[.string ⟨#[]⟩, .slice none 0 0, .slice none 0 0, .slice none 0 0, .slice none 0 0] 31) = W0 := ⟨_, rfl⟩
  have HK0 : Hid (Blk W0 B 31 #[.string c.note, .slice pf c.faces.length cf, .slice pn c.names.length cn, .slice ps c.secs.length cs, .slice pp c.pkts.length cp] ∧ Below B w W0) := Lib.hid (by rw [← hW0, ← hB]; exact ⟨(Blk.new _ _ _).alloc _, ((Below.refl _ w).alloc (Nat.le_refl _) _).alloc (by rw [alloc_size]; omega) _⟩)
  have HZ0 : Hid (Blk W0 (B + 1) 31 zeroB) := Lib.hid (by
    have h := Blk.new (w.alloc (.cells #[.string c.note, .slice pf c.faces.length cf, .slice pn c.names.length cn, .slice ps c.secs.length cs, .slice pp c.pkts.length cp] 31)) 31 zeroB
    rw [alloc_size, hB] at h
    rw [← hW0]; exact h)
  have HS0 : Hid (B + 2 ≤ W0.heap.size) := Lib.hid (by rw [← hW0, alloc_size, alloc_size, hB]; omega)
  rw [hB] at HM ⊢
  have HBS := Lib.hid hB
  have q1 : W0.cell? ⟨B, 1, none⟩ = some (.slice pf c.faces.length cf) := HK0.out.1.cell 1
  have HC := Lib.hid (fclone_any (fun x w B vs h => facOne x w B vs h) (HM.out.faces.keep facK HK0.out.2 (by have := HS0.out; omega)) (c := cf) HM.out.lf)
  go_enter Try.func106, Try.ntmps106
  go_wp2_with fail
  clear hW0 hB
  refine HC.out.mono ?_
  clear HC
  rintro e v1 ⟨fA, fc, rf, rfl, ho1, hl1, he1, hb1⟩
  have HF1 : Hid (OwnL v1 (B + 2) 79 3 FacE (.slice fA c.faces.length fc) c.faces rf) := Lib.hid ⟨ho1.mono HS0.out, hl1, fun i h1 h2 => he1 i h1 h2, fun r hr u hu => by
    obtain ⟨i, hi, rfl⟩ := List.mem_iff_getElem.1 hr
    exact facOne _ _ _ _ (he1 i (by rw [← hl1]; exact hi) hi).2 u hu⟩
  have HK1 : Hid (Blk v1 B 31 #[.string c.note, .slice pf c.faces.length cf, .slice pn c.names.length cn, .slice ps c.secs.length cs, .slice pp c.pkts.length cp] ∧ Below B w v1) := Lib.hid ⟨HK0.out.1.below hb1 HK0.out.1.lt, HK0.out.2.trans (hb1.mono (Nat.le_of_lt HK0.out.1.lt))⟩
  have HZ1 := Lib.hid (HZ0.out.below hb1 HZ0.out.lt)
  have HS1 : Hid (B + 2 ≤ v1.heap.size) := Lib.hid (Nat.le_trans HS0.out hb1.size)
  clear ho1 hl1 he1 hb1 q1 HK0 HZ0 HS0
  -- stage 0: names
  have z1 : v1.frozen? ⟨B, 1, none⟩ = false := HK1.out.1.frozen 1
  have y1 : v1.cell? ⟨B, 1, none⟩ = some (.slice pf c.faces.length cf) := HK1.out.1.cell 1
  have x1 : v1.cell? ⟨B, 2, none⟩ = some (.slice pn c.names.length cn) := HK1.out.1.cell 2
  have HA1 : Hid (AlikeT 31 v1 (v1.setCell ⟨B, 1, none⟩ (.slice fA c.faces.length fc))) := Lib.hid (AlikeT.set HK1.out.1 _)
  have HK2 : Hid (Blk (v1.setCell ⟨B, 1, none⟩ (.slice fA c.faces.length fc)) B 31 #[.string c.note, .slice fA c.faces.length fc, .slice pn c.names.length cn, .slice ps c.secs.length cs, .slice pp c.pkts.length cp] ∧ Below B w (v1.setCell ⟨B, 1, none⟩ (.slice fA c.faces.length fc))) := Lib.hid ⟨HK1.out.1.set_ 1 _, HK1.out.2.setCell (p := ⟨B, 1, none⟩) (Nat.le_refl _) _⟩
  have HZ2 : Hid (Blk (v1.setCell ⟨B, 1, none⟩ (.slice fA c.faces.length fc)) (B + 1) 31 zeroB) := Lib.hid (HZ1.out.far (p := ⟨B, 1, none⟩) (by show B + 1 ≠ B; omega) _)
  have HS2 : Hid (B + 2 ≤ (v1.setCell ⟨B, 1, none⟩ (.slice fA c.faces.length fc)).heap.size) := Lib.hid (Nat.le_trans HS1.out HA1.out.1)
  have HF2 := Lib.hid (facL_alike (HF1.out) HA1.out (by decide))
  go_wp2_with fail
  clear HA1 z1 y1 x1 HK1 HZ1 HS1 HF1
  generalize v1.setCell ⟨B, 1, none⟩ (.slice fA c.faces.length fc) = V2 at HK2 HZ2 HS2 HF2 ⊢
  refine (nclone_any (E := fun x _ _ vs => NamE x w B vs) (fun x _ _ vs h => namOne x w B vs h) (c := cn) ((HM.out.names).fix HK2.out.2 (Nat.le_trans (by omega) HS2.out)) HM.out.ln).mono ?_
  rintro e v2 ⟨NA, Nc, rN, rfl, ho2, hl2, he2, hb2⟩
  have HL2 : Hid (OwnM namKd w v2 (B + 2) (.slice NA c.names.length Nc) c.names rN 0) := Lib.hid (OwnM.start ho2 hl2 (fun j hx hr => ⟨(he2 j hx hr).1, by rw [HBS.out]; exact (he2 j hx hr).2⟩) HS2.out)
  have HA2 : Hid (AlikeT 31 V2 v2) := Lib.hid (AlikeT.below hb2)
  have HK3 : Hid (Blk v2 B 31 #[.string c.note, .slice fA c.faces.length fc, .slice pn c.names.length cn, .slice ps c.secs.length cs, .slice pp c.pkts.length cp] ∧ Below B w v2) := Lib.hid ⟨HK2.out.1.below hb2 HK2.out.1.lt, HK2.out.2.trans (hb2.mono (Nat.le_of_lt HK2.out.1.lt))⟩
  have HZ3 := Lib.hid (HZ2.out.below hb2 HZ2.out.lt)
  have HS3 : Hid (B + 2 ≤ v2.heap.size) := Lib.hid (Nat.le_trans HS2.out hb2.size)
  have HF3 := Lib.hid (facL_alike (HF2.out) HA2.out (by decide))
  clear ho2 hl2 he2 hb2 HA2 HK2 HZ2 HS2 HF2
  have z3 : v2.frozen? ⟨B, 2, none⟩ = false := HK3.out.1.frozen 2
  have y3 : v2.cell? ⟨B, 2, none⟩ = some (.slice pn c.names.length cn) := HK3.out.1.cell 2
  have HA3 : Hid (AlikeT 31 v2 (v2.setCell ⟨B, 2, none⟩ (.slice NA c.names.length Nc))) := Lib.hid (AlikeT.set HK3.out.1 _)
  have HK4 : Hid (Blk (v2.setCell ⟨B, 2, none⟩ (.slice NA c.names.length Nc)) B 31 #[.string c.note, .slice fA c.faces.length fc, .slice NA c.names.length Nc, .slice ps c.secs.length cs, .slice pp c.pkts.length cp] ∧ Below B w (v2.setCell ⟨B, 2, none⟩ (.slice NA c.names.length Nc))) := Lib.hid ⟨HK3.out.1.set_ 2 _, HK3.out.2.setCell (p := ⟨B, 2, none⟩) (Nat.le_refl _) _⟩
  have HZ4 : Hid (Blk (v2.setCell ⟨B, 2, none⟩ (.slice NA c.names.length Nc)) (B + 1) 31 zeroB) := Lib.hid (HZ3.out.far (p := ⟨B, 2, none⟩) (by show B + 1 ≠ B; omega) _)
  have HS4 : Hid (B + 2 ≤ (v2.setCell ⟨B, 2, none⟩ (.slice NA c.names.length Nc)).heap.size) := Lib.hid (Nat.le_trans HS3.out HA3.out.1)
  have HL4 : Hid (OwnM namKd w (v2.setCell ⟨B, 2, none⟩ (.slice NA c.names.length Nc)) (B + 2) (.slice NA c.names.length Nc) c.names rN 0) := Lib.hid (HL2.out.alike HA3.out (by decide) (by decide))
  have HF4 := Lib.hid (facL_alike (HF3.out) HA3.out (by decide))
  go_wp2_with fail
  clear HA3 z3 y3 HK3 HZ3 HS3 HL2 HF3
  generalize v2.setCell ⟨B, 2, none⟩ (.slice NA c.names.length Nc) = V4 at HK4 HZ4 HS4 HL4 HF4 ⊢
  have x4 : V4.cell? ⟨B, 2, none⟩ = some (.slice NA c.names.length Nc) := HK4.out.1.cell 2
  go_wp2
  clear x4
  go_loopw [20] (fun i wr => ∃ (k : Nat) (rows : List (List Value)), i = .int .i64 k ∧ k ≤ c.names.length ∧ Hid (OwnM namKd w wr (B + 2) (.slice NA c.names.length Nc) c.names rows k) ∧ Hid (AlikeT 92 V4 wr) ∧ Hid (Below B w wr)) (fun i _ => c.names.length - (intOf i).toNat)
  case atStart => exact ⟨0, rN, rfl, Nat.zero_le _, HL4, Lib.hid (AlikeT.refl _ _), Lib.hid HK4.out.2⟩
  case round =>
    obtain ⟨k, rows, rfl, hk, HL, HA, HW⟩ := hrel
    by_cases hlt : k < c.names.length
    · obtain ⟨g, cap, gs, A2, cp2, hv, hg, hgb, hbyc, hok, hcell⟩ := HL.out.read namR hlt
      injection hv with hv1 hv2 hv3
      subst hv1
      subst hv3
      clear hv2
      have HG := Lib.hid hgb
      have c0 := hcell 0 _ rfl
      have c1 := hcell 1 _ rfl
      obtain ⟨X, hX⟩ : ∃ X, c.names[k] = X := ⟨_, rfl⟩
      obtain ⟨L, hL⟩ : ∃ L, (namKd.dat c.names[k]).length = L := ⟨_, rfl⟩
      have HLL := Lib.hid hL
      have HLX : Hid (X.addr.length = L) := Lib.hid (by rw [← hX]; exact hL)
      have HX := Lib.hid hX
      have d0 : wr.cell? ⟨g, k * 2, none⟩ = some (.slice A2 L cp2) := by (try rw [← hX]); (try rw [← hL]); exact c0
      have d1 : wr.cell? ⟨g, k * 2 + 1, none⟩ = some (.string X.text) := by (try rw [← hX]); (try rw [← hL]); exact c1
      have hbyc2 : Byc w w.heap.size A2 X.addr cp2 := by rw [← hX]; exact hbyc
      clear hbyc hX hL hcell hgb hok c0 c1
      have hBl : B + 1 < wr.heap.size := (HA.out.2 _ _ _ (by decide) HZ4.out).lt
      obtain ⟨W4, hW4⟩ : ∃ W4, wr.alloc (.cells #[.slice A2 L cp2, .string X.text] 92) = W4 := ⟨_, rfl⟩
      have hb1 : Below wr.heap.size wr W4 := by rw [← hW4]; exact (Below.refl _ wr).alloc (Nat.le_refl _) _
      have k1 : Blk W4 wr.heap.size 92 #[.slice A2 L cp2, .string X.text] := by rw [← hW4]; exact Blk.new _ _ _
      have HL4 := Lib.hid (HL.out.below hb1)
      have HA4 := Lib.hid (HA.out.trans (AlikeT.below hb1))
      have HW4 : Hid (Below B w W4) := Lib.hid (HW.out.trans (hb1.mono (by omega)))
      have HG4 := Lib.hid (HG.out.below hb1 HG.out.lt)
      have HD4 : Hid (W4.cell? ⟨g, k * 2, none⟩ = some (.slice A2 L cp2)) := Lib.hid ((hb1.cell (p := ⟨g, k * 2, none⟩) HG.out.lt).trans d0)
      obtain ⟨Nb, hN⟩ : ∃ Nb, wr.heap.size = Nb := ⟨_, rfl⟩
      have hgN : g < Nb := by have := HG.out.lt; omega
      have hBN : B + 1 < Nb := by omega
      rw [hN] at k1 hBl
      have hN4 : Nb < W4.heap.size := k1.lt
      have CL := bclone_any (w := W4.drew) (A := A2) (c := cp2) (bs := X.addr) ((hbyc2.below (by rw [HBS.out]; exact HW4.out.drew)).more (by rw [HBS.out]; show B ≤ W4.heap.size; omega))
      rw [HLX.out] at CL
      have s0 : W4.cell? ⟨Nb, 0, none⟩ = some (.slice A2 L cp2) := k1.cell 0
      have sb : W4.cell? ⟨B, 2, none⟩ = some (.slice (some ⟨g, 0, none⟩) c.names.length Nc) := (HA4.out.2 _ _ _ (by decide) HK4.out.1).cell 2
      have HCL : Hid (Calls Try.prog 89 #[.slice A2 L cp2] W4.drew fun e w' => ∃ A c9, e = .returned (.slice A L c9) ∧ w'.ownsRow W4.heap.size 5 1 (.slice A L c9) L ((namKd.dat c.names[k]).map Go.Proofs.Ytghdilmlfficlaa.u8) ∧ Below W4.heap.size W4.drew w') := Lib.hid (CL.mono (by
        rintro e w' ⟨A, c', he, ho, hb⟩
        rw [HLX.out] at he ho
        exact ⟨A, c', he, by rw [HX.out]; exact ho, hb⟩))
      have HST : Hid (∀ w5 A5 c5, w5.ownsRow W4.heap.size 5 1 (.slice A5 L c5) L ((namKd.dat c.names[k]).map Go.Proofs.Ytghdilmlfficlaa.u8) → Below W4.heap.size W4.drew w5 → _) := Lib.hid (fun w5 A5 c5 ho5 hb5 => copy_step (Ws := V4) (w5 := w5) (A5 := A5) (c5 := c5) (a := k * 2) namR rfl rfl hlt HLL.out HL4.out HW4.out HA4.out hg ho5 hb5 (by omega))
      clear CL hb1 hbyc2
      have hlt' : (k : Int) < (c.names.length : Int) := by omega
      have hk0 : (0 : Int) ≤ (k : Int) := by omega
      go_wp2_with fail
      clear hW4 hN d0 d1
      have hG5 := HG4.out
      go_region_held3 (fun w' => w'.cell? ⟨B, 2, none⟩ = some (.slice (some ⟨g, 0, none⟩) c.names.length Nc) ∧ w'.cell? ⟨Nb, 0, none⟩ = some (.slice A2 L cp2)) (first | exact ⟨sb, s0⟩ | exact ⟨tb, t0⟩ | exact ⟨pb, p0⟩) ((first
        | (go_at_call 89; ((with_reducible refine HCL.out.mono ?_); rintro e w5 ⟨A5, c5, rfl, ho5, hb5⟩); have hHR := Lib.hid (HST.out w5 A5 c5 ho5 hb5); have tb : w5.cell? ⟨B, 2, none⟩ = some (.slice (some ⟨g, 0, none⟩) c.names.length Nc) := (hb5.cell (p := ⟨B, 2, none⟩) (by show B < W4.heap.size; omega)).trans sb; have t0 : w5.cell? ⟨Nb, 0, none⟩ = some (.slice A2 L cp2) := (hb5.cell (p := ⟨Nb, 0, none⟩) hN4).trans s0; have hG5 : Blk w5 g 92 gs := HG4.out.below (Below.mk hb5.os hb5.tape hb5.output hb5.size hb5.block) (by show g < W4.heap.size; omega); have uc : w5.cell? ⟨g, k * 2, none⟩ = some (.slice A2 L cp2) := (hb5.cell (p := ⟨g, k * 2, none⟩) (by show g < W4.heap.size; omega)).trans HD4.out; have uf : w5.frozen? ⟨g, k * 2, none⟩ = false := hG5.frozen _; have pb : (w5.setCell ⟨g, k * 2, none⟩ (.slice A5 L c5)).cell? ⟨B, 2, none⟩ = some (.slice (some ⟨g, 0, none⟩) c.names.length Nc) := (World.cell?_setCell_other _ _ _ _ (fun e => by injection e; omega)).trans tb; have p0 : (w5.setCell ⟨g, k * 2, none⟩ (.slice A5 L c5)).cell? ⟨Nb, 0, none⟩ = some (.slice A2 L cp2) := (World.cell?_setCell_other _ _ _ _ (fun e => by injection e; omega)).trans t0; clear ho5 hb5)))
      obtain ⟨rows7, g1, g2, g3⟩ := hHR.out
      have HL7 := Lib.hid g1
      have HA7 : Hid (AlikeT 92 V4 _) := Lib.hid g3
      have HW7 := Lib.hid g2
      clear g1 g2 g3 hHR
      have hbig : c.names.length ≤ 140737488355328 := by have := HM.out.ln.2.1; omega
      go_wp2
      go_roundw
      case rel => exact ⟨k + 1, rows7, by go_num, by omega, HL7, HA7, HW7⟩
      case measure => simp [intOf]; omega
    · have hkn : k = c.names.length := by omega
      subst hkn
      clear hk hlt
      have HN5 := HL
      have HK5 : Hid (Blk wr B 31 #[.string c.note, .slice fA c.faces.length fc, .slice NA c.names.length Nc, .slice ps c.secs.length cs, .slice pp c.pkts.length cp] ∧ Below B w wr) := Lib.hid ⟨HA.out.2 _ _ _ (by decide) HK4.out.1, HW.out⟩
      have HZ5 : Hid (Blk wr (B + 1) 31 zeroB) := Lib.hid (HA.out.2 _ _ _ (by decide) HZ4.out)
      have HS5 : Hid (B + 2 ≤ wr.heap.size) := Lib.hid (Nat.le_trans HS4.out HA.out.1)
      have HF5 := Lib.hid (facL_alike (HF4.out) HA.out (by decide))
      clear HA HW HL HK4 HZ4 HS4 HL4 HF4
      -- stage 1: secs
      have x5 : wr.cell? ⟨B, 3, none⟩ = some (.slice ps c.secs.length cs) := HK5.out.1.cell 3
      go_wp2_with fail
      clear x5
      refine (sclone_any (E := fun x _ _ vs => SecE x w B vs) (fun x _ _ vs h => secOne x w B vs h) (c := cs) ((HM.out.secs).fix HK5.out.2 (Nat.le_trans (by omega) HS5.out)) HM.out.ls).mono ?_
      rintro e v5 ⟨SA, Sc, rS, rfl, ho5, hl5, he5, hb5⟩
      have HL5 : Hid (OwnM secKd w v5 (B + 2) (.slice SA c.secs.length Sc) c.secs rS 0) := Lib.hid (OwnM.start ho5 hl5 (fun j hx hr => ⟨(he5 j hx hr).1, by rw [HBS.out]; exact (he5 j hx hr).2⟩) HS5.out)
      have HA5 : Hid (AlikeT 31 wr v5) := Lib.hid (AlikeT.below hb5)
      have HK6 : Hid (Blk v5 B 31 #[.string c.note, .slice fA c.faces.length fc, .slice NA c.names.length Nc, .slice ps c.secs.length cs, .slice pp c.pkts.length cp] ∧ Below B w v5) := Lib.hid ⟨HK5.out.1.below hb5 HK5.out.1.lt, HK5.out.2.trans (hb5.mono (Nat.le_of_lt HK5.out.1.lt))⟩
      have HZ6 := Lib.hid (HZ5.out.below hb5 HZ5.out.lt)
      have HS6 : Hid (B + 2 ≤ v5.heap.size) := Lib.hid (Nat.le_trans HS5.out hb5.size)
      have HF6 := Lib.hid (facL_alike (HF5.out) HA5.out (by decide))
      have HN6 := Lib.hid (HN5.out.alike HA5.out (by decide) (by decide))
      clear ho5 hl5 he5 hb5 HA5 HK5 HZ5 HS5 HF5 HN5
      have z6 : v5.frozen? ⟨B, 3, none⟩ = false := HK6.out.1.frozen 3
      have y6 : v5.cell? ⟨B, 3, none⟩ = some (.slice ps c.secs.length cs) := HK6.out.1.cell 3
      have HA6 : Hid (AlikeT 31 v5 (v5.setCell ⟨B, 3, none⟩ (.slice SA c.secs.length Sc))) := Lib.hid (AlikeT.set HK6.out.1 _)
      have HK7 : Hid (Blk (v5.setCell ⟨B, 3, none⟩ (.slice SA c.secs.length Sc)) B 31 #[.string c.note, .slice fA c.faces.length fc, .slice NA c.names.length Nc, .slice SA c.secs.length Sc, .slice pp c.pkts.length cp] ∧ Below B w (v5.setCell ⟨B, 3, none⟩ (.slice SA c.secs.length Sc))) := Lib.hid ⟨HK6.out.1.set_ 3 _, HK6.out.2.setCell (p := ⟨B, 3, none⟩) (Nat.le_refl _) _⟩
      have HZ7 : Hid (Blk (v5.setCell ⟨B, 3, none⟩ (.slice SA c.secs.length Sc)) (B + 1) 31 zeroB) := Lib.hid (HZ6.out.far (p := ⟨B, 3, none⟩) (by show B + 1 ≠ B; omega) _)
      have HS7 : Hid (B + 2 ≤ (v5.setCell ⟨B, 3, none⟩ (.slice SA c.secs.length Sc)).heap.size) := Lib.hid (Nat.le_trans HS6.out HA6.out.1)
      have HL7 : Hid (OwnM secKd w (v5.setCell ⟨B, 3, none⟩ (.slice SA c.secs.length Sc)) (B + 2) (.slice SA c.secs.length Sc) c.secs rS 0) := Lib.hid (HL5.out.alike HA6.out (by decide) (by decide))
      have HF7 := Lib.hid (facL_alike (HF6.out) HA6.out (by decide))
      have HN7 := Lib.hid (HN6.out.alike HA6.out (by decide) (by decide))
      go_wp2_with fail
      clear HA6 z6 y6 HK6 HZ6 HS6 HL5 HF6 HN6
      generalize v5.setCell ⟨B, 3, none⟩ (.slice SA c.secs.length Sc) = V7 at HK7 HZ7 HS7 HL7 HF7 HN7 ⊢
      have x7 : V7.cell? ⟨B, 3, none⟩ = some (.slice SA c.secs.length Sc) := HK7.out.1.cell 3
      go_wp2
      clear x7
      go_loopw [41] (fun i wr => ∃ (k : Nat) (rows : List (List Value)), i = .int .i64 k ∧ k ≤ c.secs.length ∧ Hid (OwnM secKd w wr (B + 2) (.slice SA c.secs.length Sc) c.secs rows k) ∧ Hid (AlikeT 95 V7 wr) ∧ Hid (Below B w wr)) (fun i _ => c.secs.length - (intOf i).toNat)
      case atStart => exact ⟨0, rS, rfl, Nat.zero_le _, HL7, Lib.hid (AlikeT.refl _ _), Lib.hid HK7.out.2⟩
      case round =>
        obtain ⟨k, rows, rfl, hk, HL, HA, HW⟩ := hrel
        by_cases hlt : k < c.secs.length
        · obtain ⟨g, cap, gs, A2, cp2, hv, hg, hgb, hbyc, hok, hcell⟩ := HL.out.read secR hlt
          injection hv with hv1 hv2 hv3
          subst hv1
          subst hv3
          clear hv2
          have HG := Lib.hid hgb
          have c0 := hcell 0 _ rfl
          have c1 := hcell 1 _ rfl
          obtain ⟨X, hX⟩ : ∃ X, c.secs[k] = X := ⟨_, rfl⟩
          obtain ⟨L, hL⟩ : ∃ L, (secKd.dat c.secs[k]).length = L := ⟨_, rfl⟩
          have HLL := Lib.hid hL
          have HLX : Hid (X.key.length = L) := Lib.hid (by rw [← hX]; exact hL)
          have HX := Lib.hid hX
          have d0 : wr.cell? ⟨g, k * 2, none⟩ = some (.string X.label) := by (try rw [← hX]); (try rw [← hL]); exact c0
          have d1 : wr.cell? ⟨g, k * 2 + 1, none⟩ = some (.slice A2 L cp2) := by (try rw [← hX]); (try rw [← hL]); exact c1
          have hbyc2 : Byc w w.heap.size A2 X.key cp2 := by rw [← hX]; exact hbyc
          clear hbyc hX hL hcell hgb hok c0 c1
          have hBl : B + 1 < wr.heap.size := (HA.out.2 _ _ _ (by decide) HZ7.out).lt
          obtain ⟨W4, hW4⟩ : ∃ W4, wr.alloc (.cells #[.string X.label, .slice A2 L cp2] 95) = W4 := ⟨_, rfl⟩
          have hb1 : Below wr.heap.size wr W4 := by rw [← hW4]; exact (Below.refl _ wr).alloc (Nat.le_refl _) _
          have k1 : Blk W4 wr.heap.size 95 #[.string X.label, .slice A2 L cp2] := by rw [← hW4]; exact Blk.new _ _ _
          have HL4 := Lib.hid (HL.out.below hb1)
          have HA4 := Lib.hid (HA.out.trans (AlikeT.below hb1))
          have HW4 : Hid (Below B w W4) := Lib.hid (HW.out.trans (hb1.mono (by omega)))
          have HG4 := Lib.hid (HG.out.below hb1 HG.out.lt)
          have HD4 : Hid (W4.cell? ⟨g, k * 2 + 1, none⟩ = some (.slice A2 L cp2)) := Lib.hid ((hb1.cell (p := ⟨g, k * 2 + 1, none⟩) HG.out.lt).trans d1)
          obtain ⟨Nb, hN⟩ : ∃ Nb, wr.heap.size = Nb := ⟨_, rfl⟩
          have hgN : g < Nb := by have := HG.out.lt; omega
          have hBN : B + 1 < Nb := by omega
          rw [hN] at k1 hBl
          have hN4 : Nb < W4.heap.size := k1.lt
          have CL := bclone_any (w := W4.drew) (A := A2) (c := cp2) (bs := X.key) ((hbyc2.below (by rw [HBS.out]; exact HW4.out.drew)).more (by rw [HBS.out]; show B ≤ W4.heap.size; omega))
          rw [HLX.out] at CL
          have s1 : W4.cell? ⟨Nb, 1, none⟩ = some (.slice A2 L cp2) := k1.cell 1
          have sb : W4.cell? ⟨B, 3, none⟩ = some (.slice (some ⟨g, 0, none⟩) c.secs.length Sc) := (HA4.out.2 _ _ _ (by decide) HK7.out.1).cell 3
          have HCL : Hid (Calls Try.prog 89 #[.slice A2 L cp2] W4.drew fun e w' => ∃ A c9, e = .returned (.slice A L c9) ∧ w'.ownsRow W4.heap.size 5 1 (.slice A L c9) L ((secKd.dat c.secs[k]).map Go.Proofs.Ytghdilmlfficlaa.u8) ∧ Below W4.heap.size W4.drew w') := Lib.hid (CL.mono (by
            rintro e w' ⟨A, c', he, ho, hb⟩
            rw [HLX.out] at he ho
            exact ⟨A, c', he, by rw [HX.out]; exact ho, hb⟩))
          have HST : Hid (∀ w5 A5 c5, w5.ownsRow W4.heap.size 5 1 (.slice A5 L c5) L ((secKd.dat c.secs[k]).map Go.Proofs.Ytghdilmlfficlaa.u8) → Below W4.heap.size W4.drew w5 → _) := Lib.hid (fun w5 A5 c5 ho5 hb5 => copy_step (Ws := V7) (w5 := w5) (A5 := A5) (c5 := c5) (a := k * 2 + 1) secR rfl rfl hlt HLL.out HL4.out HW4.out HA4.out hg ho5 hb5 (by omega))
          clear CL hb1 hbyc2
          have hlt' : (k : Int) < (c.secs.length : Int) := by omega
          have hk0 : (0 : Int) ≤ (k : Int) := by omega
          go_wp2_with fail
          clear hW4 hN d0 d1
          have hG5 := HG4.out
          go_region_held3 (fun w' => w'.cell? ⟨B, 3, none⟩ = some (.slice (some ⟨g, 0, none⟩) c.secs.length Sc) ∧ w'.cell? ⟨Nb, 1, none⟩ = some (.slice A2 L cp2)) (first | exact ⟨sb, s1⟩ | exact ⟨tb, t1⟩ | exact ⟨pb, p1⟩) ((first
            | (go_at_call 89; ((with_reducible refine HCL.out.mono ?_); rintro e w5 ⟨A5, c5, rfl, ho5, hb5⟩); have hHR := Lib.hid (HST.out w5 A5 c5 ho5 hb5); have tb : w5.cell? ⟨B, 3, none⟩ = some (.slice (some ⟨g, 0, none⟩) c.secs.length Sc) := (hb5.cell (p := ⟨B, 3, none⟩) (by show B < W4.heap.size; omega)).trans sb; have t1 : w5.cell? ⟨Nb, 1, none⟩ = some (.slice A2 L cp2) := (hb5.cell (p := ⟨Nb, 1, none⟩) hN4).trans s1; have hG5 : Blk w5 g 95 gs := HG4.out.below (Below.mk hb5.os hb5.tape hb5.output hb5.size hb5.block) (by show g < W4.heap.size; omega); have uc : w5.cell? ⟨g, k * 2 + 1, none⟩ = some (.slice A2 L cp2) := (hb5.cell (p := ⟨g, k * 2 + 1, none⟩) (by show g < W4.heap.size; omega)).trans HD4.out; have uf : w5.frozen? ⟨g, k * 2 + 1, none⟩ = false := hG5.frozen _; have pb : (w5.setCell ⟨g, k * 2 + 1, none⟩ (.slice A5 L c5)).cell? ⟨B, 3, none⟩ = some (.slice (some ⟨g, 0, none⟩) c.secs.length Sc) := (World.cell?_setCell_other _ _ _ _ (fun e => by injection e; omega)).trans tb; have p1 : (w5.setCell ⟨g, k * 2 + 1, none⟩ (.slice A5 L c5)).cell? ⟨Nb, 1, none⟩ = some (.slice A2 L cp2) := (World.cell?_setCell_other _ _ _ _ (fun e => by injection e; omega)).trans t1; clear ho5 hb5)))
          obtain ⟨rows7, g1, g2, g3⟩ := hHR.out
          have HL7 := Lib.hid g1
          have HA7 : Hid (AlikeT 95 V7 _) := Lib.hid g3
          have HW7 := Lib.hid g2
          clear g1 g2 g3 hHR
          have hbig : c.secs.length ≤ 140737488355328 := by have := HM.out.ls.2.1; omega
          go_wp2
          go_roundw
          case rel => exact ⟨k + 1, rows7, by go_num, by omega, HL7, HA7, HW7⟩
          case measure => simp [intOf]; omega
        · have hkn : k = c.secs.length := by omega
          subst hkn
          clear hk hlt
          have HQ8 := HL
          have HK8 : Hid (Blk wr B 31 #[.string c.note, .slice fA c.faces.length fc, .slice NA c.names.length Nc, .slice SA c.secs.length Sc, .slice pp c.pkts.length cp] ∧ Below B w wr) := Lib.hid ⟨HA.out.2 _ _ _ (by decide) HK7.out.1, HW.out⟩
          have HZ8 : Hid (Blk wr (B + 1) 31 zeroB) := Lib.hid (HA.out.2 _ _ _ (by decide) HZ7.out)
          have HS8 : Hid (B + 2 ≤ wr.heap.size) := Lib.hid (Nat.le_trans HS7.out HA.out.1)
          have HF8 := Lib.hid (facL_alike (HF7.out) HA.out (by decide))
          have HN8 := Lib.hid (HN7.out.alike HA.out (by decide) (by decide))
          clear HA HW HL HK7 HZ7 HS7 HL7 HF7 HN7
          -- stage 2: pkts
          have x8 : wr.cell? ⟨B, 4, none⟩ = some (.slice pp c.pkts.length cp) := HK8.out.1.cell 4
          go_wp2_with fail
          clear x8
          refine (pclone_any (E := fun x _ _ vs => PktE x w B vs) (fun x _ _ vs h => pktOne x w B vs h) (c := cp) ((HM.out.pkts).fix HK8.out.2 (Nat.le_trans (by omega) HS8.out)) HM.out.lp).mono ?_
          rintro e v8 ⟨PA, Pc, rP, rfl, ho8, hl8, he8, hb8⟩
          have HL8 : Hid (OwnM pktKd w v8 (B + 2) (.slice PA c.pkts.length Pc) c.pkts rP 0) := Lib.hid (OwnM.start ho8 hl8 (fun j hx hr => ⟨(he8 j hx hr).1, by rw [HBS.out]; exact (he8 j hx hr).2⟩) HS8.out)
          have HA8 : Hid (AlikeT 31 wr v8) := Lib.hid (AlikeT.below hb8)
          have HK9 : Hid (Blk v8 B 31 #[.string c.note, .slice fA c.faces.length fc, .slice NA c.names.length Nc, .slice SA c.secs.length Sc, .slice pp c.pkts.length cp] ∧ Below B w v8) := Lib.hid ⟨HK8.out.1.below hb8 HK8.out.1.lt, HK8.out.2.trans (hb8.mono (Nat.le_of_lt HK8.out.1.lt))⟩
          have HZ9 := Lib.hid (HZ8.out.below hb8 HZ8.out.lt)
          have HS9 : Hid (B + 2 ≤ v8.heap.size) := Lib.hid (Nat.le_trans HS8.out hb8.size)
          have HF9 := Lib.hid (facL_alike (HF8.out) HA8.out (by decide))
          have HN9 := Lib.hid (HN8.out.alike HA8.out (by decide) (by decide))
          have HQ9 := Lib.hid (HQ8.out.alike HA8.out (by decide) (by decide))
          clear ho8 hl8 he8 hb8 HA8 HK8 HZ8 HS8 HF8 HN8 HQ8
          have z9 : v8.frozen? ⟨B, 4, none⟩ = false := HK9.out.1.frozen 4
          have y9 : v8.cell? ⟨B, 4, none⟩ = some (.slice pp c.pkts.length cp) := HK9.out.1.cell 4
          have HA9 : Hid (AlikeT 31 v8 (v8.setCell ⟨B, 4, none⟩ (.slice PA c.pkts.length Pc))) := Lib.hid (AlikeT.set HK9.out.1 _)
          have HK10 : Hid (Blk (v8.setCell ⟨B, 4, none⟩ (.slice PA c.pkts.length Pc)) B 31 #[.string c.note, .slice fA c.faces.length fc, .slice NA c.names.length Nc, .slice SA c.secs.length Sc, .slice PA c.pkts.length Pc] ∧ Below B w (v8.setCell ⟨B, 4, none⟩ (.slice PA c.pkts.length Pc))) := Lib.hid ⟨HK9.out.1.set_ 4 _, HK9.out.2.setCell (p := ⟨B, 4, none⟩) (Nat.le_refl _) _⟩
          have HZ10 : Hid (Blk (v8.setCell ⟨B, 4, none⟩ (.slice PA c.pkts.length Pc)) (B + 1) 31 zeroB) := Lib.hid (HZ9.out.far (p := ⟨B, 4, none⟩) (by show B + 1 ≠ B; omega) _)
          have HS10 : Hid (B + 2 ≤ (v8.setCell ⟨B, 4, none⟩ (.slice PA c.pkts.length Pc)).heap.size) := Lib.hid (Nat.le_trans HS9.out HA9.out.1)
          have HL10 : Hid (OwnM pktKd w (v8.setCell ⟨B, 4, none⟩ (.slice PA c.pkts.length Pc)) (B + 2) (.slice PA c.pkts.length Pc) c.pkts rP 0) := Lib.hid (HL8.out.alike HA9.out (by decide) (by decide))
          have HF10 := Lib.hid (facL_alike (HF9.out) HA9.out (by decide))
          have HN10 := Lib.hid (HN9.out.alike HA9.out (by decide) (by decide))
          have HQ10 := Lib.hid (HQ9.out.alike HA9.out (by decide) (by decide))
          go_wp2_with fail
          clear HA9 z9 y9 HK9 HZ9 HS9 HL8 HF9 HN9 HQ9
          generalize v8.setCell ⟨B, 4, none⟩ (.slice PA c.pkts.length Pc) = V10 at HK10 HZ10 HS10 HL10 HF10 HN10 HQ10 ⊢
          have x10 : V10.cell? ⟨B, 4, none⟩ = some (.slice PA c.pkts.length Pc) := HK10.out.1.cell 4
          go_wp2
          clear x10
          go_loopw [62] (fun i wr => ∃ (k : Nat) (rows : List (List Value)), i = .int .i64 k ∧ k ≤ c.pkts.length ∧ Hid (OwnM pktKd w wr (B + 2) (.slice PA c.pkts.length Pc) c.pkts rows k) ∧ Hid (AlikeT 50 V10 wr) ∧ Hid (Below B w wr)) (fun i _ => c.pkts.length - (intOf i).toNat)
          case atStart => exact ⟨0, rP, rfl, Nat.zero_le _, HL10, Lib.hid (AlikeT.refl _ _), Lib.hid HK10.out.2⟩
          case round =>
            obtain ⟨k, rows, rfl, hk, HL, HA, HW⟩ := hrel
            by_cases hlt : k < c.pkts.length
            · obtain ⟨g, cap, gs, A2, cp2, hv, hg, hgb, hbyc, hok, hcell⟩ := HL.out.read pktR hlt
              injection hv with hv1 hv2 hv3
              subst hv1
              subst hv3
              clear hv2
              have HG := Lib.hid hgb
              have c0 := hcell 0 _ rfl
              have c1 := hcell 1 _ rfl
              have c2 := hcell 2 _ rfl
              have c3 := hcell 3 _ rfl
              have c4 := hcell 4 _ rfl
              obtain ⟨X, hX⟩ : ∃ X, c.pkts[k] = X := ⟨_, rfl⟩
              obtain ⟨L, hL⟩ : ∃ L, (pktKd.dat c.pkts[k]).length = L := ⟨_, rfl⟩
              have HLL := Lib.hid hL
              have HLX : Hid (X.data.length = L) := Lib.hid (by rw [← hX]; exact hL)
              have HX := Lib.hid hX
              have d0 : wr.cell? ⟨g, k * 5, none⟩ = some (.int .i64 X.time) := by (try rw [← hX]); (try rw [← hL]); exact c0
              have d1 : wr.cell? ⟨g, k * 5 + 1, none⟩ = some (.int .i64 X.face) := by (try rw [← hX]); (try rw [← hL]); exact c1
              have d2 : wr.cell? ⟨g, k * 5 + 2, none⟩ = some (.int .i64 X.real) := by (try rw [← hX]); (try rw [← hL]); exact c2
              have d3 : wr.cell? ⟨g, k * 5 + 3, none⟩ = some (.slice A2 L cp2) := by (try rw [← hX]); (try rw [← hL]); exact c3
              have d4 : wr.cell? ⟨g, k * 5 + 4, none⟩ = some (.string X.note) := by (try rw [← hX]); (try rw [← hL]); exact c4
              have hbyc2 : Byc w w.heap.size A2 X.data cp2 := by rw [← hX]; exact hbyc
              clear hbyc hX hL hcell hgb hok c0 c1 c2 c3 c4
              have hBl : B + 1 < wr.heap.size := (HA.out.2 _ _ _ (by decide) HZ10.out).lt
              obtain ⟨W4, hW4⟩ : ∃ W4, wr.alloc (.cells #[.int .i64 X.time, .int .i64 X.face, .int .i64 X.real, .slice A2 L cp2, .string X.note] 50) = W4 := ⟨_, rfl⟩
              have hb1 : Below wr.heap.size wr W4 := by rw [← hW4]; exact (Below.refl _ wr).alloc (Nat.le_refl _) _
              have k1 : Blk W4 wr.heap.size 50 #[.int .i64 X.time, .int .i64 X.face, .int .i64 X.real, .slice A2 L cp2, .string X.note] := by rw [← hW4]; exact Blk.new _ _ _
              have HL4 := Lib.hid (HL.out.below hb1)
              have HA4 := Lib.hid (HA.out.trans (AlikeT.below hb1))
              have HW4 : Hid (Below B w W4) := Lib.hid (HW.out.trans (hb1.mono (by omega)))
              have HG4 := Lib.hid (HG.out.below hb1 HG.out.lt)
              have HD4 : Hid (W4.cell? ⟨g, k * 5 + 3, none⟩ = some (.slice A2 L cp2)) := Lib.hid ((hb1.cell (p := ⟨g, k * 5 + 3, none⟩) HG.out.lt).trans d3)
              obtain ⟨Nb, hN⟩ : ∃ Nb, wr.heap.size = Nb := ⟨_, rfl⟩
              have hgN : g < Nb := by have := HG.out.lt; omega
              have hBN : B + 1 < Nb := by omega
              rw [hN] at k1 hBl
              have hN4 : Nb < W4.heap.size := k1.lt
              have CL := bclone_any (w := W4.drew) (A := A2) (c := cp2) (bs := X.data) ((hbyc2.below (by rw [HBS.out]; exact HW4.out.drew)).more (by rw [HBS.out]; show B ≤ W4.heap.size; omega))
              rw [HLX.out] at CL
              have s3 : W4.cell? ⟨Nb, 3, none⟩ = some (.slice A2 L cp2) := k1.cell 3
              have sb : W4.cell? ⟨B, 4, none⟩ = some (.slice (some ⟨g, 0, none⟩) c.pkts.length Pc) := (HA4.out.2 _ _ _ (by decide) HK10.out.1).cell 4
              have HCL : Hid (Calls Try.prog 89 #[.slice A2 L cp2] W4.drew fun e w' => ∃ A c9, e = .returned (.slice A L c9) ∧ w'.ownsRow W4.heap.size 5 1 (.slice A L c9) L ((pktKd.dat c.pkts[k]).map Go.Proofs.Ytghdilmlfficlaa.u8) ∧ Below W4.heap.size W4.drew w') := Lib.hid (CL.mono (by
                rintro e w' ⟨A, c', he, ho, hb⟩
                rw [HLX.out] at he ho
                exact ⟨A, c', he, by rw [HX.out]; exact ho, hb⟩))
              have HST : Hid (∀ w5 A5 c5, w5.ownsRow W4.heap.size 5 1 (.slice A5 L c5) L ((pktKd.dat c.pkts[k]).map Go.Proofs.Ytghdilmlfficlaa.u8) → Below W4.heap.size W4.drew w5 → _) := Lib.hid (fun w5 A5 c5 ho5 hb5 => copy_step (Ws := V10) (w5 := w5) (A5 := A5) (c5 := c5) (a := k * 5 + 3) pktR rfl rfl hlt HLL.out HL4.out HW4.out HA4.out hg ho5 hb5 (by omega))
              clear CL hb1 hbyc2
              have hlt' : (k : Int) < (c.pkts.length : Int) := by omega
              have hk0 : (0 : Int) ≤ (k : Int) := by omega
              go_wp2_with fail
              clear hW4 hN d0 d1 d2 d3 d4
              have hG5 := HG4.out
              go_region_held3 (fun w' => w'.cell? ⟨B, 4, none⟩ = some (.slice (some ⟨g, 0, none⟩) c.pkts.length Pc) ∧ w'.cell? ⟨Nb, 3, none⟩ = some (.slice A2 L cp2)) (first | exact ⟨sb, s3⟩ | exact ⟨tb, t3⟩ | exact ⟨pb, p3⟩) ((first
                | (go_at_call 89; ((with_reducible refine HCL.out.mono ?_); rintro e w5 ⟨A5, c5, rfl, ho5, hb5⟩); have hHR := Lib.hid (HST.out w5 A5 c5 ho5 hb5); have tb : w5.cell? ⟨B, 4, none⟩ = some (.slice (some ⟨g, 0, none⟩) c.pkts.length Pc) := (hb5.cell (p := ⟨B, 4, none⟩) (by show B < W4.heap.size; omega)).trans sb; have t3 : w5.cell? ⟨Nb, 3, none⟩ = some (.slice A2 L cp2) := (hb5.cell (p := ⟨Nb, 3, none⟩) hN4).trans s3; have hG5 : Blk w5 g 50 gs := HG4.out.below (Below.mk hb5.os hb5.tape hb5.output hb5.size hb5.block) (by show g < W4.heap.size; omega); have uc : w5.cell? ⟨g, k * 5 + 3, none⟩ = some (.slice A2 L cp2) := (hb5.cell (p := ⟨g, k * 5 + 3, none⟩) (by show g < W4.heap.size; omega)).trans HD4.out; have uf : w5.frozen? ⟨g, k * 5 + 3, none⟩ = false := hG5.frozen _; have pb : (w5.setCell ⟨g, k * 5 + 3, none⟩ (.slice A5 L c5)).cell? ⟨B, 4, none⟩ = some (.slice (some ⟨g, 0, none⟩) c.pkts.length Pc) := (World.cell?_setCell_other _ _ _ _ (fun e => by injection e; omega)).trans tb; have p3 : (w5.setCell ⟨g, k * 5 + 3, none⟩ (.slice A5 L c5)).cell? ⟨Nb, 3, none⟩ = some (.slice A2 L cp2) := (World.cell?_setCell_other _ _ _ _ (fun e => by injection e; omega)).trans t3; clear ho5 hb5)))
              obtain ⟨rows7, g1, g2, g3⟩ := hHR.out
              have HL7 := Lib.hid g1
              have HA7 : Hid (AlikeT 50 V10 _) := Lib.hid g3
              have HW7 := Lib.hid g2
              clear g1 g2 g3 hHR
              have hbig : c.pkts.length ≤ 140737488355328 := by have := HM.out.lp.2.1; omega
              go_wp2
              go_roundw
              case rel => exact ⟨k + 1, rows7, by go_num, by omega, HL7, HA7, HW7⟩
              case measure => simp [intOf]; omega
            · have hkn : k = c.pkts.length := by omega
              subst hkn
              clear hk hlt
              have HP11 := HL
              have HK11 : Hid (Blk wr B 31 #[.string c.note, .slice fA c.faces.length fc, .slice NA c.names.length Nc, .slice SA c.secs.length Sc, .slice PA c.pkts.length Pc] ∧ Below B w wr) := Lib.hid ⟨HA.out.2 _ _ _ (by decide) HK10.out.1, HW.out⟩
              have HZ11 : Hid (Blk wr (B + 1) 31 zeroB) := Lib.hid (HA.out.2 _ _ _ (by decide) HZ10.out)
              have HS11 : Hid (B + 2 ≤ wr.heap.size) := Lib.hid (Nat.le_trans HS10.out HA.out.1)
              have HF11 := Lib.hid (facL_alike (HF10.out) HA.out (by decide))
              have HN11 := Lib.hid (HN10.out.alike HA.out (by decide) (by decide))
              have HQ11 := Lib.hid (HQ10.out.alike HA.out (by decide) (by decide))
              clear HA HW HL HK10 HZ10 HS10 HL10 HF10 HN10 HQ10
              have q0 : wr.cell? ⟨B, 0, none⟩ = some (.string c.note) := HK11.out.1.cell 0
              have q1 : wr.cell? ⟨B, 1, none⟩ = some (.slice fA c.faces.length fc) := HK11.out.1.cell 1
              have q2 : wr.cell? ⟨B, 2, none⟩ = some (.slice NA c.names.length Nc) := HK11.out.1.cell 2
              have q3 : wr.cell? ⟨B, 3, none⟩ = some (.slice SA c.secs.length Sc) := HK11.out.1.cell 3
              have q4 : wr.cell? ⟨B, 4, none⟩ = some (.slice PA c.pkts.length Pc) := HK11.out.1.cell 4
              have z0 : wr.cell? ⟨B + 1, 0, none⟩ = some (.string ⟨#[]⟩) := HZ11.out.cell 0
              have f0 : wr.frozen? ⟨B + 1, 0, none⟩ = false := HZ11.out.frozen 0
              have z1 : wr.cell? ⟨B + 1, 1, none⟩ = some (.slice none 0 0) := HZ11.out.cell 1
              have f1 : wr.frozen? ⟨B + 1, 1, none⟩ = false := HZ11.out.frozen 1
              have z2 : wr.cell? ⟨B + 1, 2, none⟩ = some (.slice none 0 0) := HZ11.out.cell 2
              have f2 : wr.frozen? ⟨B + 1, 2, none⟩ = false := HZ11.out.frozen 2
              have z3 : wr.cell? ⟨B + 1, 3, none⟩ = some (.slice none 0 0) := HZ11.out.cell 3
              have f3 : wr.frozen? ⟨B + 1, 3, none⟩ = false := HZ11.out.frozen 3
              have z4 : wr.cell? ⟨B + 1, 4, none⟩ = some (.slice none 0 0) := HZ11.out.cell 4
              have f4 : wr.frozen? ⟨B + 1, 4, none⟩ = false := HZ11.out.frozen 4
              have HE := Lib.hid (set5 HZ11.out (.string c.note) (.slice fA c.faces.length fc) (.slice NA c.names.length Nc) (.slice SA c.secs.length Sc) (.slice PA c.pkts.length Pc))
              go_wp2
              generalize hW9 : (((((wr.setCell ⟨B + 1, 0, none⟩ (.string c.note)).setCell ⟨B + 1, 1, none⟩ (.slice fA c.faces.length fc)).setCell ⟨B + 1, 2, none⟩ (.slice NA c.names.length Nc)).setCell ⟨B + 1, 3, none⟩ (.slice SA c.secs.length Sc)).setCell ⟨B + 1, 4, none⟩ (.slice PA c.pkts.length Pc)) = W9 at HE ⊢
              obtain ⟨hb9, ha9, hw9⟩ := HE.out
              have y0 : W9.cell? ⟨B + 1, 0, none⟩ = some (.string c.note) := hb9.cell 0
              have y1 : W9.cell? ⟨B + 1, 1, none⟩ = some (.slice fA c.faces.length fc) := hb9.cell 1
              have y2 : W9.cell? ⟨B + 1, 2, none⟩ = some (.slice NA c.names.length Nc) := hb9.cell 2
              have y3 : W9.cell? ⟨B + 1, 3, none⟩ = some (.slice SA c.secs.length Sc) := hb9.cell 3
              have y4 : W9.cell? ⟨B + 1, 4, none⟩ = some (.slice PA c.pkts.length Pc) := hb9.cell 4
              exact bodyPost_ret (v := .agg #[.string c.note, .slice fA c.faces.length fc, .slice NA c.names.length Nc, .slice SA c.secs.length Sc, .slice PA c.pkts.length Pc]) (by simp [results, Try.results106, go_sem, y0, y1, y2, y3, y4]) rfl ⟨⟨fA, fc, NA, Nc, SA, Sc, PA, Pc⟩, rfl, ⟨HM.out.note, ⟨_, facL_alike HF11.out ha9 (by decide)⟩, ⟨_, _, HN11.out.alike ha9 (by decide) (by decide)⟩, ⟨_, _, HQ11.out.alike ha9 (by decide) (by decide)⟩, ⟨_, _, HP11.out.alike ha9 (by decide) (by decide)⟩, HM.out.lf.2.1, HM.out.ln.2.1, HM.out.ls.2.1, HM.out.lp.2.1⟩, hw9 _ _ HK11.out.2 (by omega)⟩
end Go.Proofs.Ytghdilmlfficlaa
