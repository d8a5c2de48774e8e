/- Join: the program's. -/
import Derived.Test.YtghdilmlfficlaaJoinM
import Derived.Test.YtghdilmlfficlaaSameC
namespace Go.Proofs.Ytghdilmlfficlaa
open Go.RowKit

theorem joinE_cons (a : Cap) (r : List Cap) : joinE (a :: r) = if errL (a :: r) = 0 then (if alikeB a (a :: r) then (if 100 < sumP (a :: r) then 3 else 0) else 10) else errL (a :: r) := rfl
theorem joinR_cons (a : Cap) (r : List Cap) : joinR (a :: r) = if joinE (a :: r) = 0 then mkC a ((a :: r).flatMap (·.pkts)) else noC := rfl

set_option maxRecDepth 100000 in
set_option maxHeartbeats 16000000 in
theorem join_any {w : World} {A : Option Addr} {c : Nat} {l : List Cap} (hm : Els 5 CapE w w.heap.size A l) (hl : l.length ≤ 1300000000000):
    Calls Try.prog 26 #[.slice A l.length c] w fun e w' => ∃ q, e = .returned (.tuple #[capV q (joinR l), .int .i64 (joinE l)]) ∧ CapM w' w'.heap.size q (joinR l) ∧ Below w.heap.size w w' := by
  obtain ⟨B, hB⟩ : ∃ B, w.heap.size = B := ⟨_, rfl⟩
  obtain ⟨w0, e0, s0, g0, b0, k0⟩ := w_box hB #[.string ⟨#[]⟩, .slice none 0 0, .slice none 0 0, .slice none 0 0, .slice none 0 0] 31
  have HE0 := Lib.hid e0
  have HWB := Lib.hid hB
  have HM : Hid (∀ W, Below B w W → B ≤ W.heap.size → Els 5 CapE W W.heap.size A l) := Lib.hid (fun W h1 h2 => hm.keep capK (by rw [hB]; exact h1) (by rw [hB]; exact h2))
  have HMB : Hid (∀ W, Below B w W → Els 5 CapE W B A l) := Lib.hid (fun W h1 => by rw [← hB]; exact hm.keep capK (by rw [hB]; exact h1) (Nat.le_refl _))
  have HV := Lib.hid (vall_any (w := w0) (c := c) (hm.keep capK (by rw [hB]; exact b0) (by rw [s0]; omega)) (by omega))
  have HW0 : Hid (Blk w0 B 31 #[.string ⟨#[]⟩, .slice none 0 0, .slice none 0 0, .slice none 0 0, .slice none 0 0] ∧ Below B w w0) := Lib.hid ⟨g0, b0⟩
  clear e0 s0 g0 b0 k0 hm
  by_cases hv : errL l = 0
  rotate_left
  · have HR : Hid (joinR l = noC ∧ joinE l = errL l) := Lib.hid (by
      cases l with
      | nil => exact absurd rfl hv
      | cons a r =>
        have e : joinE (a :: r) = errL (a :: r) := by rw [joinE_cons, if_neg hv]
        exact ⟨by rw [joinR_cons, e, if_neg hv], e⟩)
    obtain ⟨E, hE⟩ : ∃ E, errL l = E := ⟨_, rfl⟩
    rw [hE] at HV hv HR
    have hne : (E != 0) = true := by rw [bne_iff_ne]; exact hv
    clear hE hv
    go_enter Try.func26, Try.ntmps26
    go_wp2_with fail
    rw [HE0.out]
    with_reducible refine HV.out.mono ?_
    rintro e v1 ⟨rfl, hb1⟩
    have HW1 : Hid (Blk v1 B 31 #[.string ⟨#[]⟩, .slice none 0 0, .slice none 0 0, .slice none 0 0, .slice none 0 0] ∧ Below B w v1) := Lib.hid ⟨HW0.out.1.below hb1 HW0.out.1.lt, HW0.out.2.trans (hb1.mono (by have := HW0.out.1.lt; omega))⟩
    clear HV hb1 HE0 HW0 hB
    have z0 : v1.cell? ⟨B, 0, none⟩ = some (.string ⟨#[]⟩) := HW1.out.1.cell 0
    have f0 : v1.frozen? ⟨B, 0, none⟩ = false := HW1.out.1.frozen 0
    have z1 : v1.cell? ⟨B, 1, none⟩ = some (.slice none 0 0) := HW1.out.1.cell 1
    have f1 : v1.frozen? ⟨B, 1, none⟩ = false := HW1.out.1.frozen 1
    have z2 : v1.cell? ⟨B, 2, none⟩ = some (.slice none 0 0) := HW1.out.1.cell 2
    have f2 : v1.frozen? ⟨B, 2, none⟩ = false := HW1.out.1.frozen 2
    have z3 : v1.cell? ⟨B, 3, none⟩ = some (.slice none 0 0) := HW1.out.1.cell 3
    have f3 : v1.frozen? ⟨B, 3, none⟩ = false := HW1.out.1.frozen 3
    have z4 : v1.cell? ⟨B, 4, none⟩ = some (.slice none 0 0) := HW1.out.1.cell 4
    have f4 : v1.frozen? ⟨B, 4, none⟩ = false := HW1.out.1.frozen 4
    have HEND := Lib.hid (set5 HW1.out.1 (.string ⟨#[]⟩) (.slice none 0 0) (.slice none 0 0) (.slice none 0 0) (.slice none 0 0))
    go_wp2
    generalize hW9 : (((((v1.setCell ⟨B, 0, none⟩ (.string ⟨#[]⟩)).setCell ⟨B, 1, none⟩ (.slice none 0 0)).setCell ⟨B, 2, none⟩ (.slice none 0 0)).setCell ⟨B, 3, none⟩ (.slice none 0 0)).setCell ⟨B, 4, none⟩ (.slice none 0 0)) = W9 at HEND ⊢
    obtain ⟨hb9, ha9, hw9⟩ := HEND.out
    have y0 : W9.cell? ⟨B, 0, none⟩ = some (.string ⟨#[]⟩) := hb9.cell 0
    have y1 : W9.cell? ⟨B, 1, none⟩ = some (.slice none 0 0) := hb9.cell 1
    have y2 : W9.cell? ⟨B, 2, none⟩ = some (.slice none 0 0) := hb9.cell 2
    have y3 : W9.cell? ⟨B, 3, none⟩ = some (.slice none 0 0) := hb9.cell 3
    have y4 : W9.cell? ⟨B, 4, none⟩ = some (.slice none 0 0) := hb9.cell 4
    exact bodyPost_ret (v := .tuple #[.agg #[.string ⟨#[]⟩, .slice none 0 0, .slice none 0 0, .slice none 0 0, .slice none 0 0], .int .i64 E]) (by simp [results, Try.results26, go_sem, y0, y1, y2, y3, y4]) rfl ⟨⟨none, 0, none, 0, none, 0, none, 0⟩, by rw [HR.out.1, HR.out.2]; rfl, by rw [HR.out.1]; exact (capT_none W9).capM, by rw [HWB.out]; exact hw9 _ _ HW1.out.2 (Nat.le_refl _)⟩
  rw [hv] at HV
  cases l with
  | nil =>
    have HR : Hid (joinR [] = noC ∧ joinE [] = 1) := Lib.hid ⟨rfl, rfl⟩
    clear hv
    simp only [List.length_nil] at HV ⊢
    go_enter Try.func26, Try.ntmps26
    go_wp2_with fail
    rw [HE0.out]
    with_reducible refine HV.out.mono ?_
    rintro e v1 ⟨rfl, hb1⟩
    have HW1 : Hid (Blk v1 B 31 #[.string ⟨#[]⟩, .slice none 0 0, .slice none 0 0, .slice none 0 0, .slice none 0 0] ∧ Below B w v1) := Lib.hid ⟨HW0.out.1.below hb1 HW0.out.1.lt, HW0.out.2.trans (hb1.mono (by have := HW0.out.1.lt; omega))⟩
    clear HV hb1 HE0 HW0 hB
    have z0 : v1.cell? ⟨B, 0, none⟩ = some (.string ⟨#[]⟩) := HW1.out.1.cell 0
    have f0 : v1.frozen? ⟨B, 0, none⟩ = false := HW1.out.1.frozen 0
    have z1 : v1.cell? ⟨B, 1, none⟩ = some (.slice none 0 0) := HW1.out.1.cell 1
    have f1 : v1.frozen? ⟨B, 1, none⟩ = false := HW1.out.1.frozen 1
    have z2 : v1.cell? ⟨B, 2, none⟩ = some (.slice none 0 0) := HW1.out.1.cell 2
    have f2 : v1.frozen? ⟨B, 2, none⟩ = false := HW1.out.1.frozen 2
    have z3 : v1.cell? ⟨B, 3, none⟩ = some (.slice none 0 0) := HW1.out.1.cell 3
    have f3 : v1.frozen? ⟨B, 3, none⟩ = false := HW1.out.1.frozen 3
    have z4 : v1.cell? ⟨B, 4, none⟩ = some (.slice none 0 0) := HW1.out.1.cell 4
    have f4 : v1.frozen? ⟨B, 4, none⟩ = false := HW1.out.1.frozen 4
    have HEND := Lib.hid (set5 HW1.out.1 (.string ⟨#[]⟩) (.slice none 0 0) (.slice none 0 0) (.slice none 0 0) (.slice none 0 0))
    go_wp2
    generalize hW9 : (((((v1.setCell ⟨B, 0, none⟩ (.string ⟨#[]⟩)).setCell ⟨B, 1, none⟩ (.slice none 0 0)).setCell ⟨B, 2, none⟩ (.slice none 0 0)).setCell ⟨B, 3, none⟩ (.slice none 0 0)).setCell ⟨B, 4, none⟩ (.slice none 0 0)) = W9 at HEND ⊢
    obtain ⟨hb9, ha9, hw9⟩ := HEND.out
    have y0 : W9.cell? ⟨B, 0, none⟩ = some (.string ⟨#[]⟩) := hb9.cell 0
    have y1 : W9.cell? ⟨B, 1, none⟩ = some (.slice none 0 0) := hb9.cell 1
    have y2 : W9.cell? ⟨B, 2, none⟩ = some (.slice none 0 0) := hb9.cell 2
    have y3 : W9.cell? ⟨B, 3, none⟩ = some (.slice none 0 0) := hb9.cell 3
    have y4 : W9.cell? ⟨B, 4, none⟩ = some (.slice none 0 0) := hb9.cell 4
    exact bodyPost_ret (v := .tuple #[.agg #[.string ⟨#[]⟩, .slice none 0 0, .slice none 0 0, .slice none 0 0, .slice none 0 0], .int .i64 1]) (by simp [results, Try.results26, go_sem, y0, y1, y2, y3, y4]) rfl ⟨⟨none, 0, none, 0, none, 0, none, 0⟩, by rw [HR.out.1, HR.out.2]; rfl, by rw [HR.out.1]; exact (capT_none W9).capM, by rw [HWB.out]; exact hw9 _ _ HW1.out.2 (Nat.le_refl _)⟩
  | cons a r =>
    obtain ⟨l, hL⟩ : ∃ l, a :: r = l := ⟨_, rfl⟩
    have hl0 : 0 < l.length := by rw [← hL]; simp
    have HA0 : Hid (∀ h : 0 < l.length, l[0] = a) := Lib.hid (by subst hL; intro _; rfl)
    have HEV : Hid (joinE l = if alikeB a l then (if 100 < sumP l then 3 else 0) else 10) := Lib.hid (by rw [← hL, joinE_cons, if_pos hv])
    have HRV : Hid (joinR l = if joinE l = 0 then mkC a (l.flatMap (·.pkts)) else noC) := Lib.hid (by rw [← hL]; rfl)
    have HALL := Lib.hid (errL_all hv)
    rw [hL] at HV HM HMB HALL hl ⊢
    clear hv hL
    have hne0 : ((l.length : Int) == 0) = false := by rw [beq_eq_false_iff_ne]; omega
    go_enter Try.func26, Try.ntmps26
    go_wp2_with fail
    rw [HE0.out]
    with_reducible refine HV.out.mono ?_
    rintro e v1 ⟨rfl, hb1⟩
    have HW1 : Hid (Blk v1 B 31 #[.string ⟨#[]⟩, .slice none 0 0, .slice none 0 0, .slice none 0 0, .slice none 0 0] ∧ Below B w v1 ∧ B + 1 ≤ v1.heap.size) := Lib.hid ⟨HW0.out.1.below hb1 HW0.out.1.lt, HW0.out.2.trans (hb1.mono (by have := HW0.out.1.lt; omega)), by have := hb1.size; have := HW0.out.1.lt; omega⟩
    clear HV hb1 HE0 HW0 hB
    obtain ⟨b, o, hA, hb, vs, hvl, ⟨⟨pf, cf, pn, cn, ps, cs, pp, cp⟩, rfl, hcap⟩, hcell⟩ := (HM.out v1 HW1.out.2.1 (by have := HW1.out.2.2; omega)).row 0 hl0
    subst hA
    rw [HA0.out hl0] at hcap hcell
    have c0 : v1.cell? ⟨b, o, none⟩ = some (.string a.note) := by simpa using hcell 0 _ rfl
    have c1 : v1.cell? ⟨b, o + 1, none⟩ = some (.slice pf a.faces.length cf) := by simpa using hcell 1 _ rfl
    have c2 : v1.cell? ⟨b, o + 2, none⟩ = some (.slice pn a.names.length cn) := by simpa using hcell 2 _ rfl
    have c3 : v1.cell? ⟨b, o + 3, none⟩ = some (.slice ps a.secs.length cs) := by simpa using hcell 3 _ rfl
    have c4 : v1.cell? ⟨b, o + 4, none⟩ = some (.slice pp a.pkts.length cp) := by simpa using hcell 4 _ rfl
    have HC : Hid (Calls Try.prog 72 #[.agg #[.string a.note, .slice pf a.faces.length cf, .slice pn a.names.length cn, .slice ps a.secs.length cs, .slice pp a.pkts.length cp], .slice none 0 0] v1 fun e w' => ∃ q : Pl, e = .returned (.agg #[.string a.note, .slice q.pf a.faces.length q.cf, .slice q.pn a.names.length q.cn, .slice q.ps a.secs.length q.cs, .slice q.pp 0 q.cp]) ∧ CapO w' v1.heap.size q (bare a) ∧ Below v1.heap.size v1 w') := Lib.hid (with_any (w := v1) (c := bare a) (p := ⟨pf, cf, pn, cn, ps, cs, none, 0⟩) (zp := pp) (zn := a.pkts.length) (zc := cp) (capM_none hcap (fun _ => rfl)))
    clear hcell hvl hcap hb
    go_wp2_with fail
    with_reducible refine HC.out.mono ?_
    rintro e v2 ⟨⟨qf, gf, qn, gn, qs, gs, qp, gp⟩, rfl, hO2, hb2⟩
    obtain ⟨F, hF⟩ : ∃ F, v2.heap.size = F := ⟨_, rfl⟩
    obtain ⟨v3, e3, s3, g3, b3, k3⟩ := w_box hF #[.string a.note, .slice qf a.faces.length gf, .slice qn a.names.length gn, .slice qs a.secs.length gs, .slice qp 0 gp] 31
    have HE3 := Lib.hid e3
    have HK : Hid (Blk v3 B 31 #[.string ⟨#[]⟩, .slice none 0 0, .slice none 0 0, .slice none 0 0, .slice none 0 0] ∧ Blk v3 F 31 #[.string a.note, .slice qf a.faces.length gf, .slice qn a.names.length gn, .slice qs a.secs.length gs, .slice qp 0 gp] ∧ Below B w v3 ∧ B + 1 ≤ F ∧ CapM v3 (F + 1) ⟨qf, gf, qn, gn, qs, gs, qp, gp⟩ (bare a)) := Lib.hid ⟨k3 _ _ _ (HW1.out.1.below hb2 HW1.out.1.lt), g3, (HW1.out.2.1.trans (hb2.mono (by have := HW1.out.2.2; omega))).trans (b3.mono (by have := hb2.size; have := HW1.out.2.2; omega)), by have := hb2.size; have := HW1.out.2.2; omega, hO2.capM.keep (by rw [hF]; exact b3) (by omega)⟩
    have HW3 : Hid (Below (F + 1) v3 v3 ∧ F + 1 ≤ v3.heap.size) := Lib.hid ⟨Below.refl _ _, by omega⟩
    clear c0 c1 c2 c3 c4 e3 s3 g3 b3 k3 hO2 hb2 HC HW1
    dsimp only
    go_wp2_with fail
    rw [HE3.out]
    clear HE3 hF
    go_loopw [27] (fun i wr => ∃ k : Nat, i = .int .i64 k ∧ k ≤ l.length ∧ Hid (alikeB a (l.take k) = true) ∧ Hid (Below (F + 1) v3 wr ∧ F + 1 ≤ wr.heap.size)) (fun i _ => l.length - (intOf i).toNat)
    case atStart => exact ⟨0, rfl, Nat.zero_le _, Lib.hid (by simp [alikeB]), HW3⟩
    case round =>
      obtain ⟨k, rfl, hk, HT, HW⟩ := hrel
      by_cases hlt : k < l.length
      · obtain ⟨b2, o2, hA, hb, vs, hvl, ⟨⟨pf, cf, pn, cn, ps, cs, pp, cp⟩, rfl, hcap⟩, hcell⟩ := (HM.out wr (HK.out.2.2.1.trans (HW.out.1.mono (by have := HK.out.2.2.2.1; omega))) (by have := HW.out.2; have := HK.out.2.2.2.1; omega)).row k hlt
        injection hA with hA; injection hA with e1 e2; subst e1; subst e2
        have htk := alike_take a l k hlt
        have hno := alike_no a l k hlt
        obtain ⟨x, hx⟩ : ∃ x, l[k] = x := ⟨_, rfl⟩
        rw [hx] at hcap hcell htk hno
        have HTK := Lib.hid htk
        have HNO := Lib.hid hno
        have c0 : wr.cell? ⟨b, o + k * 5, none⟩ = some (.string x.note) := hcell 0 _ rfl
        have c1 : wr.cell? ⟨b, o + k * 5 + 1, none⟩ = some (.slice pf x.faces.length cf) := hcell 1 _ rfl
        have c2 : wr.cell? ⟨b, o + k * 5 + 2, none⟩ = some (.slice pn x.names.length cn) := hcell 2 _ rfl
        have c3 : wr.cell? ⟨b, o + k * 5 + 3, none⟩ = some (.slice ps x.secs.length cs) := hcell 3 _ rfl
        have c4 : wr.cell? ⟨b, o + k * 5 + 4, none⟩ = some (.slice pp x.pkts.length cp) := hcell 4 _ rfl
        obtain ⟨N, hN⟩ : ∃ N, wr.heap.size = N := ⟨_, rfl⟩
        obtain ⟨v4, e4, s4, g4, b4, k4⟩ := w_box hN #[.string x.note, .slice pf x.faces.length cf, .slice pn x.names.length cn, .slice ps x.secs.length cs, .slice none 0 0] 31
        have HW4 : Hid (Below (F + 1) v3 v4 ∧ F + 1 ≤ v4.heap.size) := Lib.hid ⟨HW.out.1.trans (b4.mono (by have := HW.out.2; omega)), by have := HW.out.2; omega⟩
        have HC : Hid (Calls Try.prog 74 #[.agg #[.string x.note, .slice pf x.faces.length cf, .slice pn x.names.length cn, .slice ps x.secs.length cs, .slice none 0 0], .agg #[.string a.note, .slice qf a.faces.length gf, .slice qn a.names.length gn, .slice qs a.secs.length gs, .slice qp 0 gp]] v4 fun e w' => e = .returned (.bool (eqB (bare x) (bare a))) ∧ Below v4.heap.size v4 w') := Lib.hid (same_any (w := v4) (p := ⟨pf, cf, pn, cn, ps, cs, none, 0⟩) (q := ⟨qf, gf, qn, gn, qs, gs, qp, gp⟩) (capM_none (hcap.keep (by rw [hN]; exact b4) (by omega)) (fun _ => rfl)) (HK.out.2.2.2.2.keep HW4.out.1 HW4.out.2))
        have HE4 := Lib.hid e4
        have n0 : (wr.alloc (.cells #[.string x.note, .slice pf x.faces.length cf, .slice pn x.names.length cn, .slice ps x.secs.length cs, .slice none 0 0] 31)).cell? ⟨N, 0, none⟩ = some (.string x.note) := by rw [e4]; exact g4.cell 0
        have n1 : (wr.alloc (.cells #[.string x.note, .slice pf x.faces.length cf, .slice pn x.names.length cn, .slice ps x.secs.length cs, .slice none 0 0] 31)).cell? ⟨N, 1, none⟩ = some (.slice pf x.faces.length cf) := by rw [e4]; exact g4.cell 1
        have n2 : (wr.alloc (.cells #[.string x.note, .slice pf x.faces.length cf, .slice pn x.names.length cn, .slice ps x.secs.length cs, .slice none 0 0] 31)).cell? ⟨N, 2, none⟩ = some (.slice pn x.names.length cn) := by rw [e4]; exact g4.cell 2
        have n3 : (wr.alloc (.cells #[.string x.note, .slice pf x.faces.length cf, .slice pn x.names.length cn, .slice ps x.secs.length cs, .slice none 0 0] 31)).cell? ⟨N, 3, none⟩ = some (.slice ps x.secs.length cs) := by rw [e4]; exact g4.cell 3
        have n4 : (wr.alloc (.cells #[.string x.note, .slice pf x.faces.length cf, .slice pn x.names.length cn, .slice ps x.secs.length cs, .slice none 0 0] 31)).cell? ⟨N, 4, none⟩ = some (.slice none 0 0) := by rw [e4]; exact g4.cell 4
        have m0 : (wr.alloc (.cells #[.string x.note, .slice pf x.faces.length cf, .slice pn x.names.length cn, .slice ps x.secs.length cs, .slice none 0 0] 31)).cell? ⟨F, 0, none⟩ = some (.string a.note) := by rw [e4]; exact (HK.out.2.1.below HW4.out.1 (by omega)).cell 0
        have m1 : (wr.alloc (.cells #[.string x.note, .slice pf x.faces.length cf, .slice pn x.names.length cn, .slice ps x.secs.length cs, .slice none 0 0] 31)).cell? ⟨F, 1, none⟩ = some (.slice qf a.faces.length gf) := by rw [e4]; exact (HK.out.2.1.below HW4.out.1 (by omega)).cell 1
        have m2 : (wr.alloc (.cells #[.string x.note, .slice pf x.faces.length cf, .slice pn x.names.length cn, .slice ps x.secs.length cs, .slice none 0 0] 31)).cell? ⟨F, 2, none⟩ = some (.slice qn a.names.length gn) := by rw [e4]; exact (HK.out.2.1.below HW4.out.1 (by omega)).cell 2
        have m3 : (wr.alloc (.cells #[.string x.note, .slice pf x.faces.length cf, .slice pn x.names.length cn, .slice ps x.secs.length cs, .slice none 0 0] 31)).cell? ⟨F, 3, none⟩ = some (.slice qs a.secs.length gs) := by rw [e4]; exact (HK.out.2.1.below HW4.out.1 (by omega)).cell 3
        have m4 : (wr.alloc (.cells #[.string x.note, .slice pf x.faces.length cf, .slice pn x.names.length cn, .slice ps x.secs.length cs, .slice none 0 0] 31)).cell? ⟨F, 4, none⟩ = some (.slice qp 0 gp) := by rw [e4]; exact (HK.out.2.1.below HW4.out.1 (by omega)).cell 4
        obtain ⟨q, hq⟩ : ∃ q, eqB (bare x) (bare a) = q := ⟨_, rfl⟩
        rw [hq] at HC
        have HQ := Lib.hid hq
        clear hcell hvl hcap hb hx htk hno s4 g4 b4 k4 hq HW e4
        go_wp2_with fail
        rw [HE4.out]
        with_reducible refine HC.out.mono ?_
        rintro e v5 ⟨rfl, hb5⟩
        have HW5 : Hid (Below (F + 1) v3 v5 ∧ F + 1 ≤ v5.heap.size) := Lib.hid ⟨HW4.out.1.trans (hb5.mono HW4.out.2), Nat.le_trans HW4.out.2 hb5.size⟩
        clear hb5 HC HW4 hN HE4 n0 n1 n2 n3 n4 m0 m1 m2 m3 m4 c0 c1 c2 c3 c4
        cases q with
        | true =>
          have HT2 : Hid (alikeB a (l.take (k + 1)) = true) := Lib.hid (by rw [HTK.out, HT.out, HQ.out]; rfl)
          clear HTK HNO HQ
          go_wp2
          go_roundw
          case rel => exact ⟨k + 1, by go_num, by omega, HT2, HW5⟩
          case measure => simp [intOf]; omega
        | false =>
          have hje : joinE l = 10 := by rw [HEV.out, HNO.out HQ.out]; rfl
          have HR : Hid (joinR l = noC ∧ joinE l = 10) := Lib.hid ⟨by rw [HRV.out, hje]; rfl, hje⟩
          have HB5 := Lib.hid (HK.out.1.below HW5.out.1 (by have := HK.out.2.2.2.1; omega))
          have HBW := Lib.hid (HK.out.2.2.1.trans (HW5.out.1.mono (by have := HK.out.2.2.2.1; omega)))
          clear HTK HNO HQ hje
          have z0 : v5.cell? ⟨B, 0, none⟩ = some (.string ⟨#[]⟩) := HB5.out.cell 0
          have f0 : v5.frozen? ⟨B, 0, none⟩ = false := HB5.out.frozen 0
          have z1 : v5.cell? ⟨B, 1, none⟩ = some (.slice none 0 0) := HB5.out.cell 1
          have f1 : v5.frozen? ⟨B, 1, none⟩ = false := HB5.out.frozen 1
          have z2 : v5.cell? ⟨B, 2, none⟩ = some (.slice none 0 0) := HB5.out.cell 2
          have f2 : v5.frozen? ⟨B, 2, none⟩ = false := HB5.out.frozen 2
          have z3 : v5.cell? ⟨B, 3, none⟩ = some (.slice none 0 0) := HB5.out.cell 3
          have f3 : v5.frozen? ⟨B, 3, none⟩ = false := HB5.out.frozen 3
          have z4 : v5.cell? ⟨B, 4, none⟩ = some (.slice none 0 0) := HB5.out.cell 4
          have f4 : v5.frozen? ⟨B, 4, none⟩ = false := HB5.out.frozen 4
          have HEND := Lib.hid (set5 HB5.out (.string ⟨#[]⟩) (.slice none 0 0) (.slice none 0 0) (.slice none 0 0) (.slice none 0 0))
          go_wp2
          generalize hW9 : (((((v5.setCell ⟨B, 0, none⟩ (.string ⟨#[]⟩)).setCell ⟨B, 1, none⟩ (.slice none 0 0)).setCell ⟨B, 2, none⟩ (.slice none 0 0)).setCell ⟨B, 3, none⟩ (.slice none 0 0)).setCell ⟨B, 4, none⟩ (.slice none 0 0)) = W9 at HEND ⊢
          obtain ⟨hb9, ha9, hw9⟩ := HEND.out
          have y0 : W9.cell? ⟨B, 0, none⟩ = some (.string ⟨#[]⟩) := hb9.cell 0
          have y1 : W9.cell? ⟨B, 1, none⟩ = some (.slice none 0 0) := hb9.cell 1
          have y2 : W9.cell? ⟨B, 2, none⟩ = some (.slice none 0 0) := hb9.cell 2
          have y3 : W9.cell? ⟨B, 3, none⟩ = some (.slice none 0 0) := hb9.cell 3
          have y4 : W9.cell? ⟨B, 4, none⟩ = some (.slice none 0 0) := hb9.cell 4
          exact bodyPost_ret (v := .tuple #[.agg #[.string ⟨#[]⟩, .slice none 0 0, .slice none 0 0, .slice none 0 0, .slice none 0 0], .int .i64 10]) (by simp [results, Try.results26, go_sem, y0, y1, y2, y3, y4]) rfl ⟨⟨none, 0, none, 0, none, 0, none, 0⟩, by rw [HR.out.1, HR.out.2]; rfl, by rw [HR.out.1]; exact (capT_none W9).capM, by rw [HWB.out]; exact hw9 _ _ HBW.out (Nat.le_refl _)⟩
      · have HT2 : Hid (alikeB a l = true) := Lib.hid (by have := HT.out; rw [List.take_of_length_le (by omega)] at this; exact this)
        rename World => v6
        have HW6 := HW
        have HMY := Lib.hid (many_els (w := v6) (c := c) (HM.out v6 (HK.out.2.2.1.trans (HW6.out.1.mono (by have := HK.out.2.2.2.1; omega))) (by have := HW6.out.2; have := HK.out.2.2.2.1; omega)) hl (fun x hx => errV_plen (HALL.out x hx)))
        clear HW
        go_wp2_with fail
        with_reducible refine HMY.out.mono ?_
        rintro e v7 ⟨rfl, hb7⟩
        have HW7 : Hid (Below (F + 1) v3 v7 ∧ F + 1 ≤ v7.heap.size) := Lib.hid ⟨HW6.out.1.trans (hb7.mono HW6.out.2), Nat.le_trans HW6.out.2 hb7.size⟩
        clear hb7 HMY HW6 HT
        by_cases hs : 100 < sumP l
        · have hd : decide ((100 : Int) < (sumP l : Int)) = true := decide_eq_true (by omega)
          have hd2 : decide (100 < sumP l) = true := decide_eq_true hs
          have hje : joinE l = 3 := by rw [HEV.out, HT2.out, if_pos rfl, if_pos hs]
          have HR : Hid (joinR l = noC ∧ joinE l = 3) := Lib.hid ⟨by rw [HRV.out, hje]; rfl, hje⟩
          have HB7 := Lib.hid (HK.out.1.below HW7.out.1 (by have := HK.out.2.2.2.1; omega))
          have HBW := Lib.hid (HK.out.2.2.1.trans (HW7.out.1.mono (by have := HK.out.2.2.2.1; omega)))
          clear hs hje
          have z0 : v7.cell? ⟨B, 0, none⟩ = some (.string ⟨#[]⟩) := HB7.out.cell 0
          have f0 : v7.frozen? ⟨B, 0, none⟩ = false := HB7.out.frozen 0
          have z1 : v7.cell? ⟨B, 1, none⟩ = some (.slice none 0 0) := HB7.out.cell 1
          have f1 : v7.frozen? ⟨B, 1, none⟩ = false := HB7.out.frozen 1
          have z2 : v7.cell? ⟨B, 2, none⟩ = some (.slice none 0 0) := HB7.out.cell 2
          have f2 : v7.frozen? ⟨B, 2, none⟩ = false := HB7.out.frozen 2
          have z3 : v7.cell? ⟨B, 3, none⟩ = some (.slice none 0 0) := HB7.out.cell 3
          have f3 : v7.frozen? ⟨B, 3, none⟩ = false := HB7.out.frozen 3
          have z4 : v7.cell? ⟨B, 4, none⟩ = some (.slice none 0 0) := HB7.out.cell 4
          have f4 : v7.frozen? ⟨B, 4, none⟩ = false := HB7.out.frozen 4
          have HEND := Lib.hid (set5 HB7.out (.string ⟨#[]⟩) (.slice none 0 0) (.slice none 0 0) (.slice none 0 0) (.slice none 0 0))
          go_wp2
          generalize hW9 : (((((v7.setCell ⟨B, 0, none⟩ (.string ⟨#[]⟩)).setCell ⟨B, 1, none⟩ (.slice none 0 0)).setCell ⟨B, 2, none⟩ (.slice none 0 0)).setCell ⟨B, 3, none⟩ (.slice none 0 0)).setCell ⟨B, 4, none⟩ (.slice none 0 0)) = W9 at HEND ⊢
          obtain ⟨hb9, ha9, hw9⟩ := HEND.out
          have y0 : W9.cell? ⟨B, 0, none⟩ = some (.string ⟨#[]⟩) := hb9.cell 0
          have y1 : W9.cell? ⟨B, 1, none⟩ = some (.slice none 0 0) := hb9.cell 1
          have y2 : W9.cell? ⟨B, 2, none⟩ = some (.slice none 0 0) := hb9.cell 2
          have y3 : W9.cell? ⟨B, 3, none⟩ = some (.slice none 0 0) := hb9.cell 3
          have y4 : W9.cell? ⟨B, 4, none⟩ = some (.slice none 0 0) := hb9.cell 4
          exact bodyPost_ret (v := .tuple #[.agg #[.string ⟨#[]⟩, .slice none 0 0, .slice none 0 0, .slice none 0 0, .slice none 0 0], .int .i64 3]) (by simp [results, Try.results26, go_sem, y0, y1, y2, y3, y4]) rfl ⟨⟨none, 0, none, 0, none, 0, none, 0⟩, by rw [HR.out.1, HR.out.2]; rfl, by rw [HR.out.1]; exact (capT_none W9).capM, by rw [HWB.out]; exact hw9 _ _ HBW.out (Nat.le_refl _)⟩
        · have hd : decide ((100 : Int) < (sumP l : Int)) = false := decide_eq_false (by omega)
          have hd2 : decide (100 < sumP l) = false := decide_eq_false hs
          have hje : joinE l = 0 := by rw [HEV.out, HT2.out, if_pos rfl, if_neg hs]
          have HR : Hid (joinR l = mkC a (l.flatMap (·.pkts)) ∧ joinE l = 0) := Lib.hid ⟨by rw [HRV.out, hje]; rfl, hje⟩
          have HSUM : Hid (sumP l ≤ 100) := Lib.hid (by omega)
          clear hs hje
          go_wp2_with fail
          go_loopw [8, 43] (fun v i wr => ∃ (A2 : Option Addr) (c2 : Nat) (cur : List Pkt) (rows2 : List (List Value)) (k : Nat), v = .slice A2 cur.length c2 ∧ i = .int .i64 k ∧ k ≤ l.length ∧ Hid (cur = (l.take k).flatMap (·.pkts)) ∧ Hid (OwnL wr (F + 1) 50 5 (PB (F + 1)) (.slice A2 cur.length c2) cur rows2) ∧ Hid (Below (F + 1) v3 wr ∧ F + 1 ≤ wr.heap.size)) (fun _ i _ => l.length - (intOf i).toNat)
          case atStart => exact ⟨none, 0, [], [], 0, rfl, rfl, Nat.zero_le _, Lib.hid rfl, Lib.hid (OwnL.nil _ _ _ _ _), HW7⟩
          case round =>
            obtain ⟨A2, c2, cur, rows2, k, rfl, rfl, hk, HC2, HO, HW⟩ := hrel
            by_cases hlt : k < l.length
            · obtain ⟨b2, o2, hA, hb, vs, hvl, ⟨⟨pf, cf, pn, cn, ps, cs, pp, cp⟩, rfl, hcap⟩, hcell⟩ := (HMB.out wr (HK.out.2.2.1.trans (HW.out.1.mono (by have := HK.out.2.2.2.1; omega)))).row k hlt
              injection hA with hA; injection hA with e1 e2; subst e1; subst e2
              have hft := flat_take l k hlt
              have hsm := sumP_mono l (k + 1)
              rw [← sumP_len, hft] at hsm
              obtain ⟨x, hx⟩ : ∃ x, l[k] = x := ⟨_, rfl⟩
              rw [hx] at hcap hcell hft hsm
              have HFT := Lib.hid hft
              have hcl : cur.length + x.pkts.length ≤ 100 := by
                have h1 := HSUM.out
                rw [List.length_append, ← HC2.out] at hsm
                omega
              have c0 : wr.cell? ⟨b, o + k * 5, none⟩ = some (.string x.note) := hcell 0 _ rfl
              have c1 : wr.cell? ⟨b, o + k * 5 + 1, none⟩ = some (.slice pf x.faces.length cf) := hcell 1 _ rfl
              have c2 : wr.cell? ⟨b, o + k * 5 + 2, none⟩ = some (.slice pn x.names.length cn) := hcell 2 _ rfl
              have c3 : wr.cell? ⟨b, o + k * 5 + 3, none⟩ = some (.slice ps x.secs.length cs) := hcell 3 _ rfl
              have c4 : wr.cell? ⟨b, o + k * 5 + 4, none⟩ = some (.slice pp x.pkts.length cp) := hcell 4 _ rfl
              obtain ⟨N, hN⟩ : ∃ N, wr.heap.size = N := ⟨_, rfl⟩
              obtain ⟨v4, e4, s4, g4, b4, k4⟩ := w_box hN #[.string x.note, .slice pf x.faces.length cf, .slice pn x.names.length cn, .slice ps x.secs.length cs, .slice pp x.pkts.length cp] 31
              have HW4 : Hid (Below (F + 1) v3 v4 ∧ F + 1 ≤ v4.heap.size) := Lib.hid ⟨HW.out.1.trans (b4.mono (by have := HW.out.2; omega)), by have := HW.out.2; omega⟩
              have n4 : v4.cell? ⟨N, 4, none⟩ = some (.slice pp x.pkts.length cp) := g4.cell 4
              have hO4 := ownPB_below HO.out (by rw [hN]; exact b4) HW.out.2
              obtain ⟨v7_, w7, rows7, hrun, hO7, hB7, hA7⟩ := app_pkts hO4 (hcap.pkts.keep pktK (b4.mono (by have := HW.out.2; have := HK.out.2.2.2.1; omega)) (by have := HK.out.2.2.2.1; omega)) hcap.lp.2.2 (by omega) HW4.out.2
              obtain ⟨A7, c7, rfl, _⟩ := own_form2 hO7.own
              have HO7 := Lib.hid hO7
              have HF7 : Hid (cur ++ x.pkts = (l.take (k + 1)).flatMap (·.pkts)) := Lib.hid (by rw [HFT.out, HC2.out])
              have HWN : Hid (Below (F + 1) v3 w7 ∧ F + 1 ≤ w7.heap.size) := Lib.hid ⟨HW4.out.1.trans hB7, Nat.le_trans HW4.out.2 hB7.size⟩
              clear hcell hvl hcap hb hx hft hsm s4 g4 b4 k4 HW HW4 hO4 hO7 hB7 hA7
              go_wp2_with (at_builtin; refine Lib.wpList_append_run _ rfl _ _ _ _ rfl _ _ rfl rfl _ _ hrun ?_)
              go_roundw
              case rel => exact ⟨A7, c7, cur ++ x.pkts, rows7, k + 1, by rw [List.length_append], by go_num, by omega, HF7, HO7, HWN⟩
              case measure => simp [intOf]; omega
            · have HCE : Hid (cur = l.flatMap (·.pkts)) := Lib.hid (by rw [HC2.out, List.take_of_length_le (by omega)])
              have hcl : cur.length ≤ 100 := by rw [HCE.out, sumP_len]; exact HSUM.out
              rename World => v8
              obtain ⟨X, hX⟩ : ∃ X, mkC a cur = X := ⟨_, rfl⟩
              have HXJ : Hid (joinR l = X ∧ joinE l = 0) := Lib.hid ⟨by rw [HR.out.1, ← hX, HCE.out], HR.out.2⟩
              have HC : Hid (Calls Try.prog 72 #[.agg #[.string a.note, .slice qf a.faces.length gf, .slice qn a.names.length gn, .slice qs a.secs.length gs, .slice qp 0 gp], .slice A2 cur.length c2] v8 fun e w' => ∃ q : Pl, e = .returned (.agg #[.string X.note, .slice q.pf X.faces.length q.cf, .slice q.pn X.names.length q.cn, .slice q.ps X.secs.length q.cs, .slice q.pp X.pkts.length q.cp]) ∧ CapO w' v8.heap.size q X ∧ Below v8.heap.size v8 w') := Lib.hid (by
                rw [← hX]
                exact with_any (w := v8) (c := mkC a cur) (p := ⟨qf, gf, qn, gn, qs, gs, A2, c2⟩) (zp := qp) (zn := 0) (zc := gp) (cap_join (q := ⟨qf, gf, qn, gn, qs, gs, qp, gp⟩) (d := bare a) (HK.out.2.2.2.2.keep HW.out.1 HW.out.2) rfl rfl rfl rfl HO.out rfl (by omega) HW.out.2))
              have m0 : v8.cell? ⟨F, 0, none⟩ = some (.string a.note) := (HK.out.2.1.below HW.out.1 (by omega)).cell 0
              have m1 : v8.cell? ⟨F, 1, none⟩ = some (.slice qf a.faces.length gf) := (HK.out.2.1.below HW.out.1 (by omega)).cell 1
              have m2 : v8.cell? ⟨F, 2, none⟩ = some (.slice qn a.names.length gn) := (HK.out.2.1.below HW.out.1 (by omega)).cell 2
              have m3 : v8.cell? ⟨F, 3, none⟩ = some (.slice qs a.secs.length gs) := (HK.out.2.1.below HW.out.1 (by omega)).cell 3
              have m4 : v8.cell? ⟨F, 4, none⟩ = some (.slice qp 0 gp) := (HK.out.2.1.below HW.out.1 (by omega)).cell 4
              clear hX
              go_wp2_with fail
              with_reducible refine HC.out.mono ?_
              rintro e v9 ⟨⟨tf, uf, tn, un, ts, us, tp, up⟩, rfl, hO9, hb9_⟩
              have HO9 := Lib.hid hO9
              have HB8 := Lib.hid (HK.out.1.below HW.out.1 (by have := HK.out.2.2.2.1; omega))
              have HW9 : Hid (Blk v9 B 31 #[.string ⟨#[]⟩, .slice none 0 0, .slice none 0 0, .slice none 0 0, .slice none 0 0] ∧ Below B w v9) := Lib.hid ⟨HB8.out.below hb9_ HB8.out.lt, (HK.out.2.2.1.trans (HW.out.1.mono (by have := HK.out.2.2.2.1; omega))).trans (hb9_.mono (by have := HW.out.2; have := HK.out.2.2.2.1; omega))⟩
              clear m0 m1 m2 m3 m4 hO9 hb9_ HC HW HB8
              dsimp only
              have z0 : v9.cell? ⟨B, 0, none⟩ = some (.string ⟨#[]⟩) := HW9.out.1.cell 0
              have f0 : v9.frozen? ⟨B, 0, none⟩ = false := HW9.out.1.frozen 0
              have z1 : v9.cell? ⟨B, 1, none⟩ = some (.slice none 0 0) := HW9.out.1.cell 1
              have f1 : v9.frozen? ⟨B, 1, none⟩ = false := HW9.out.1.frozen 1
              have z2 : v9.cell? ⟨B, 2, none⟩ = some (.slice none 0 0) := HW9.out.1.cell 2
              have f2 : v9.frozen? ⟨B, 2, none⟩ = false := HW9.out.1.frozen 2
              have z3 : v9.cell? ⟨B, 3, none⟩ = some (.slice none 0 0) := HW9.out.1.cell 3
              have f3 : v9.frozen? ⟨B, 3, none⟩ = false := HW9.out.1.frozen 3
              have z4 : v9.cell? ⟨B, 4, none⟩ = some (.slice none 0 0) := HW9.out.1.cell 4
              have f4 : v9.frozen? ⟨B, 4, none⟩ = false := HW9.out.1.frozen 4
              have HEND := Lib.hid (set5 HW9.out.1 (.string X.note) (.slice tf X.faces.length uf) (.slice tn X.names.length un) (.slice ts X.secs.length us) (.slice tp X.pkts.length up))
              go_wp2
              generalize hW9 : (((((v9.setCell ⟨B, 0, none⟩ (.string X.note)).setCell ⟨B, 1, none⟩ (.slice tf X.faces.length uf)).setCell ⟨B, 2, none⟩ (.slice tn X.names.length un)).setCell ⟨B, 3, none⟩ (.slice ts X.secs.length us)).setCell ⟨B, 4, none⟩ (.slice tp X.pkts.length up)) = W9 at HEND ⊢
              obtain ⟨hb9, ha9, hw9⟩ := HEND.out
              have y0 : W9.cell? ⟨B, 0, none⟩ = some (.string X.note) := hb9.cell 0
              have y1 : W9.cell? ⟨B, 1, none⟩ = some (.slice tf X.faces.length uf) := hb9.cell 1
              have y2 : W9.cell? ⟨B, 2, none⟩ = some (.slice tn X.names.length un) := hb9.cell 2
              have y3 : W9.cell? ⟨B, 3, none⟩ = some (.slice ts X.secs.length us) := hb9.cell 3
              have y4 : W9.cell? ⟨B, 4, none⟩ = some (.slice tp X.pkts.length up) := hb9.cell 4
              exact bodyPost_ret (v := .tuple #[.agg #[.string X.note, .slice tf X.faces.length uf, .slice tn X.names.length un, .slice ts X.secs.length us, .slice tp X.pkts.length up], .int .i64 0]) (by simp [results, Try.results26, go_sem, y0, y1, y2, y3, y4]) rfl ⟨⟨tf, uf, tn, un, ts, us, tp, up⟩, by rw [HXJ.out.1, HXJ.out.2], by rw [HXJ.out.1]; exact (HO9.out.alike ha9 (by decide)).capM, by rw [HWB.out]; exact hw9 _ _ HW9.out.2 (Nat.le_refl _)⟩
end Go.Proofs.Ytghdilmlfficlaa
