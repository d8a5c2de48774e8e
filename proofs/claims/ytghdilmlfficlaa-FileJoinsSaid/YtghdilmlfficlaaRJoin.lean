/- Join: the reference's. -/
import Derived.Test.YtghdilmlfficlaaJoin
namespace Go.Proofs.Ytghdilmlfficlaa
open Go.RowKit

set_option maxRecDepth 100000 in
set_option maxHeartbeats 16000000 in
theorem rjoin_any {w : World} {A : Option Addr} {c : Nat} {l : List Cap} (hm : Els 5 CapE w w.heap.size A l) (hl : l.length ≤ 1300000000000) (hs : errL l = 0 → sumP l ≤ 50000):
    Calls Try.prog 27 #[.slice A l.length c] w fun e w' => ∃ q, e = .returned (.tuple #[capV q (joinR l), .int .i64 (joinE l)]) ∧ CapM w' w'.heap.size q (joinR l) ∧ Below w.heap.size w w' := by
  obtain ⟨B, hB⟩ : ∃ B, w.heap.size = B := ⟨_, rfl⟩
  obtain ⟨w0, e0, s0, g0, b0, k0⟩ := w_box hB #[.string ⟨#[]⟩, .slice none 0 0, .slice none 0 0, .slice none 0 0, .slice none 0 0] 31
  have HE0 := Lib.hid e0
  have HWB := Lib.hid hB
  have HM : Hid (∀ W, Below B w W → B ≤ W.heap.size → Els 5 CapE W W.heap.size A l) := Lib.hid (fun W h1 h2 => hm.keep capK (by rw [hB]; exact h1) (by rw [hB]; exact h2))
  have HMB : Hid (∀ W, Below B w W → Els 5 CapE W B A l) := Lib.hid (fun W h1 => by rw [← hB]; exact hm.keep capK (by rw [hB]; exact h1) (Nat.le_refl _))
  have HV := Lib.hid (rall_any (w := w0) (c := c) (hm.keep capK (by rw [hB]; exact b0) (by rw [s0]; omega)) (by omega))
  have HW0 : Hid (Blk w0 B 31 #[.string ⟨#[]⟩, .slice none 0 0, .slice none 0 0, .slice none 0 0, .slice none 0 0] ∧ Below B w w0) := Lib.hid ⟨g0, b0⟩
  clear e0 s0 g0 b0 k0 hm
  by_cases hv : errL l = 0
  rotate_left
  · have HR : Hid (joinR l = noC ∧ joinE l = errL l) := Lib.hid (by
      cases l with
      | nil => exact absurd rfl hv
      | cons a r =>
        have e : joinE (a :: r) = errL (a :: r) := by rw [joinE_cons, if_neg hv]
        exact ⟨by rw [joinR_cons, e, if_neg hv], e⟩)
    obtain ⟨E, hE⟩ : ∃ E, errL l = E := ⟨_, rfl⟩
    rw [hE] at HV hv HR
    have hne : (E != 0) = true := by rw [bne_iff_ne]; exact hv
    clear hE hv
    go_enter Try.func27, Try.ntmps27
    go_wp2_with fail
    rw [HE0.out]
    with_reducible refine HV.out.mono ?_
    rintro e v1 ⟨rfl, hb1⟩
    have HW1 : Hid (Blk v1 B 31 #[.string ⟨#[]⟩, .slice none 0 0, .slice none 0 0, .slice none 0 0, .slice none 0 0] ∧ Below B w v1) := Lib.hid ⟨HW0.out.1.below hb1 HW0.out.1.lt, HW0.out.2.trans (hb1.mono (by have := HW0.out.1.lt; omega))⟩
    clear HV hb1 HE0 HW0 hB
    have z0 : v1.cell? ⟨B, 0, none⟩ = some (.string ⟨#[]⟩) := HW1.out.1.cell 0
    have f0 : v1.frozen? ⟨B, 0, none⟩ = false := HW1.out.1.frozen 0
    have z1 : v1.cell? ⟨B, 1, none⟩ = some (.slice none 0 0) := HW1.out.1.cell 1
    have f1 : v1.frozen? ⟨B, 1, none⟩ = false := HW1.out.1.frozen 1
    have z2 : v1.cell? ⟨B, 2, none⟩ = some (.slice none 0 0) := HW1.out.1.cell 2
    have f2 : v1.frozen? ⟨B, 2, none⟩ = false := HW1.out.1.frozen 2
    have z3 : v1.cell? ⟨B, 3, none⟩ = some (.slice none 0 0) := HW1.out.1.cell 3
    have f3 : v1.frozen? ⟨B, 3, none⟩ = false := HW1.out.1.frozen 3
    have z4 : v1.cell? ⟨B, 4, none⟩ = some (.slice none 0 0) := HW1.out.1.cell 4
    have f4 : v1.frozen? ⟨B, 4, none⟩ = false := HW1.out.1.frozen 4
    have HEND := Lib.hid (set5 HW1.out.1 (.string ⟨#[]⟩) (.slice none 0 0) (.slice none 0 0) (.slice none 0 0) (.slice none 0 0))
    go_wp2
    generalize hW9 : (((((v1.setCell ⟨B, 0, none⟩ (.string ⟨#[]⟩)).setCell ⟨B, 1, none⟩ (.slice none 0 0)).setCell ⟨B, 2, none⟩ (.slice none 0 0)).setCell ⟨B, 3, none⟩ (.slice none 0 0)).setCell ⟨B, 4, none⟩ (.slice none 0 0)) = W9 at HEND ⊢
    obtain ⟨hb9, ha9, hw9⟩ := HEND.out
    have y0 : W9.cell? ⟨B, 0, none⟩ = some (.string ⟨#[]⟩) := hb9.cell 0
    have y1 : W9.cell? ⟨B, 1, none⟩ = some (.slice none 0 0) := hb9.cell 1
    have y2 : W9.cell? ⟨B, 2, none⟩ = some (.slice none 0 0) := hb9.cell 2
    have y3 : W9.cell? ⟨B, 3, none⟩ = some (.slice none 0 0) := hb9.cell 3
    have y4 : W9.cell? ⟨B, 4, none⟩ = some (.slice none 0 0) := hb9.cell 4
    exact bodyPost_ret (v := .tuple #[.agg #[.string ⟨#[]⟩, .slice none 0 0, .slice none 0 0, .slice none 0 0, .slice none 0 0], .int .i64 E]) (by simp [results, Try.results27, go_sem, y0, y1, y2, y3, y4]) rfl ⟨⟨none, 0, none, 0, none, 0, none, 0⟩, by rw [HR.out.1, HR.out.2]; rfl, by rw [HR.out.1]; exact (capT_none W9).capM, by rw [HWB.out]; exact hw9 _ _ HW1.out.2 (Nat.le_refl _)⟩
  rw [hv] at HV
  have hs := hs hv
  cases l with
  | nil =>
    have HR : Hid (joinR [] = noC ∧ joinE [] = 1) := Lib.hid ⟨rfl, rfl⟩
    clear hv
    simp only [List.length_nil] at HV ⊢
    go_enter Try.func27, Try.ntmps27
    go_wp2_with fail
    rw [HE0.out]
    with_reducible refine HV.out.mono ?_
    rintro e v1 ⟨rfl, hb1⟩
    have HW1 : Hid (Blk v1 B 31 #[.string ⟨#[]⟩, .slice none 0 0, .slice none 0 0, .slice none 0 0, .slice none 0 0] ∧ Below B w v1) := Lib.hid ⟨HW0.out.1.below hb1 HW0.out.1.lt, HW0.out.2.trans (hb1.mono (by have := HW0.out.1.lt; omega))⟩
    clear HV hb1 HE0 HW0 hB
    have z0 : v1.cell? ⟨B, 0, none⟩ = some (.string ⟨#[]⟩) := HW1.out.1.cell 0
    have f0 : v1.frozen? ⟨B, 0, none⟩ = false := HW1.out.1.frozen 0
    have z1 : v1.cell? ⟨B, 1, none⟩ = some (.slice none 0 0) := HW1.out.1.cell 1
    have f1 : v1.frozen? ⟨B, 1, none⟩ = false := HW1.out.1.frozen 1
    have z2 : v1.cell? ⟨B, 2, none⟩ = some (.slice none 0 0) := HW1.out.1.cell 2
    have f2 : v1.frozen? ⟨B, 2, none⟩ = false := HW1.out.1.frozen 2
    have z3 : v1.cell? ⟨B, 3, none⟩ = some (.slice none 0 0) := HW1.out.1.cell 3
    have f3 : v1.frozen? ⟨B, 3, none⟩ = false := HW1.out.1.frozen 3
    have z4 : v1.cell? ⟨B, 4, none⟩ = some (.slice none 0 0) := HW1.out.1.cell 4
    have f4 : v1.frozen? ⟨B, 4, none⟩ = false := HW1.out.1.frozen 4
    have HEND := Lib.hid (set5 HW1.out.1 (.string ⟨#[]⟩) (.slice none 0 0) (.slice none 0 0) (.slice none 0 0) (.slice none 0 0))
    go_wp2
    generalize hW9 : (((((v1.setCell ⟨B, 0, none⟩ (.string ⟨#[]⟩)).setCell ⟨B, 1, none⟩ (.slice none 0 0)).setCell ⟨B, 2, none⟩ (.slice none 0 0)).setCell ⟨B, 3, none⟩ (.slice none 0 0)).setCell ⟨B, 4, none⟩ (.slice none 0 0)) = W9 at HEND ⊢
    obtain ⟨hb9, ha9, hw9⟩ := HEND.out
    have y0 : W9.cell? ⟨B, 0, none⟩ = some (.string ⟨#[]⟩) := hb9.cell 0
    have y1 : W9.cell? ⟨B, 1, none⟩ = some (.slice none 0 0) := hb9.cell 1
    have y2 : W9.cell? ⟨B, 2, none⟩ = some (.slice none 0 0) := hb9.cell 2
    have y3 : W9.cell? ⟨B, 3, none⟩ = some (.slice none 0 0) := hb9.cell 3
    have y4 : W9.cell? ⟨B, 4, none⟩ = some (.slice none 0 0) := hb9.cell 4
    exact bodyPost_ret (v := .tuple #[.agg #[.string ⟨#[]⟩, .slice none 0 0, .slice none 0 0, .slice none 0 0, .slice none 0 0], .int .i64 1]) (by simp [results, Try.results27, go_sem, y0, y1, y2, y3, y4]) rfl ⟨⟨none, 0, none, 0, none, 0, none, 0⟩, by rw [HR.out.1, HR.out.2]; rfl, by rw [HR.out.1]; exact (capT_none W9).capM, by rw [HWB.out]; exact hw9 _ _ HW1.out.2 (Nat.le_refl _)⟩
  | cons a r =>
    obtain ⟨l, hL⟩ : ∃ l, a :: r = l := ⟨_, rfl⟩
    have hl0 : 0 < l.length := by rw [← hL]; simp
    have HA0 : Hid (∀ h : 0 < l.length, l[0] = a) := Lib.hid (by subst hL; intro _; rfl)
    have HEV : Hid (joinE l = if alikeB a l then (if 100 < sumP l then 3 else 0) else 10) := Lib.hid (by rw [← hL, joinE_cons, if_pos hv])
    have HRV : Hid (joinR l = if joinE l = 0 then mkC a (l.flatMap (·.pkts)) else noC) := Lib.hid (by rw [← hL]; rfl)
    have HALL := Lib.hid (errL_all hv)
    rw [hL] at HV HM HMB HALL hl hs ⊢
    clear hv hL
    have hne0 : ((l.length : Int) == 0) = false := by rw [beq_eq_false_iff_ne]; omega
    go_enter Try.func27, Try.ntmps27
    go_wp2_with fail
    rw [HE0.out]
    with_reducible refine HV.out.mono ?_
    rintro e v1 ⟨rfl, hb1⟩
    have HW1 : Hid (Below B w v1 ∧ Blk v1 B 31 #[.string ⟨#[]⟩, .slice none 0 0, .slice none 0 0, .slice none 0 0, .slice none 0 0] ∧ B + 1 ≤ v1.heap.size) := Lib.hid ⟨HW0.out.2.trans (hb1.mono (by have := HW0.out.1.lt; omega)), HW0.out.1.below hb1 HW0.out.1.lt, by have := hb1.size; have := HW0.out.1.lt; omega⟩
    clear HV hb1 HE0 HW0 hB
    obtain ⟨b, o, hA, hbB, vs, hvl, ⟨⟨pf0, cf0, pn0, cn0, ps0, cs0, pp0, cp0⟩, rfl, hcap0⟩, hcell0⟩ := (HMB.out v1 HW1.out.1).row 0 hl0
    subst hA
    rw [HA0.out hl0] at hcap0 hcell0
    have hz0 : v1.cell? ⟨b, o, none⟩ = some (.string a.note) := by simpa using hcell0 0 _ rfl
    have hz1 : v1.cell? ⟨b, o + 1, none⟩ = some (.slice pf0 a.faces.length cf0) := by simpa using hcell0 1 _ rfl
    have hz2 : v1.cell? ⟨b, o + 2, none⟩ = some (.slice pn0 a.names.length cn0) := by simpa using hcell0 2 _ rfl
    have hz3 : v1.cell? ⟨b, o + 3, none⟩ = some (.slice ps0 a.secs.length cs0) := by simpa using hcell0 3 _ rfl
    have hz4 : v1.cell? ⟨b, o + 4, none⟩ = some (.slice pp0 a.pkts.length cp0) := by simpa using hcell0 4 _ rfl
    have HZ := Lib.hid (And.intro hz0 (And.intro hz1 (And.intro hz2 (And.intro hz3 hz4))))
    have HC0 := Lib.hid hcap0
    clear hcell0 hvl hcap0 hz0 hz1 hz2 hz3 hz4
    go_wp2_with fail
    go_loopw [5, 6] (fun v i wr => ∃ (A2 : Option Addr) (c2 : Nat) (cur : List Pkt) (rows2 : List (List Value)) (k : Nat), v = .slice A2 cur.length c2 ∧ i = .int .i64 k ∧ k ≤ l.length ∧ Hid (alikeB a (l.take k) = true ∧ cur = (l.take k).flatMap (·.pkts)) ∧ Hid (OwnL wr B 50 5 (PB B) (.slice A2 cur.length c2) cur rows2) ∧ Hid (Below B v1 wr) ∧ Hid (Below B w wr ∧ Blk wr B 31 #[.string ⟨#[]⟩, .slice none 0 0, .slice none 0 0, .slice none 0 0, .slice none 0 0] ∧ B + 1 ≤ wr.heap.size)) (fun _ i _ => l.length - (intOf i).toNat)
    case atStart => exact ⟨none, 0, [], [], 0, rfl, rfl, Nat.zero_le _, Lib.hid ⟨by simp [alikeB], rfl⟩, Lib.hid (OwnL.nil _ _ _ _ _), Lib.hid (Below.refl _ _), HW1⟩
    case round =>
      obtain ⟨A2, c2, cur, rows2, k, rfl, rfl, hk, HT, HO, HV1, HW⟩ := hrel
      have hbw : b < wr.heap.size := by have := HW.out.2.2; omega
      have s5 : wr.cell? ⟨b, o, none⟩ = some (.string a.note) := (HV1.out.cell (p := ⟨b, o, none⟩) hbB).trans HZ.out.1
      have s6 : wr.cell? ⟨b, o + 1, none⟩ = some (.slice pf0 a.faces.length cf0) := (HV1.out.cell (p := ⟨b, o + 1, none⟩) hbB).trans HZ.out.2.1
      have s7 : wr.cell? ⟨b, o + 2, none⟩ = some (.slice pn0 a.names.length cn0) := (HV1.out.cell (p := ⟨b, o + 2, none⟩) hbB).trans HZ.out.2.2.1
      have s8 : wr.cell? ⟨b, o + 3, none⟩ = some (.slice ps0 a.secs.length cs0) := (HV1.out.cell (p := ⟨b, o + 3, none⟩) hbB).trans HZ.out.2.2.2.1
      have s9 : wr.cell? ⟨b, o + 4, none⟩ = some (.slice pp0 a.pkts.length cp0) := (HV1.out.cell (p := ⟨b, o + 4, none⟩) hbB).trans HZ.out.2.2.2.2
      have HCA : Hid (∀ W, Below wr.heap.size wr W → CapM W W.heap.size ⟨pf0, cf0, pn0, cn0, ps0, cs0, pp0, cp0⟩ a) := Lib.hid (fun W hb => HC0.out.keep (HV1.out.trans (hb.mono (by have := HW.out.2.2; omega))) (by have := hb.size; have := HW.out.2.2; omega))
      by_cases hlt : k < l.length
      · obtain ⟨b2, o2, hA, hb, vs, hvl, ⟨⟨pf, cf, pn, cn, ps, cs, pp, cp⟩, rfl, hcap⟩, hcell⟩ := (HMB.out wr HW.out.1).row k hlt
        injection hA with hA; injection hA with e1 e2; subst e1; subst e2
        have htk := alike_take a l k hlt
        have hno := alike_no a l k hlt
        have hft := flat_take l k hlt
        have hsm := sumP_mono l (k + 1)
        rw [← sumP_len, hft] at hsm
        obtain ⟨x, hx⟩ : ∃ x, l[k] = x := ⟨_, rfl⟩
        rw [hx] at hcap hcell htk hno hft hsm
        have HTK := Lib.hid htk
        have HNO := Lib.hid hno
        have HFT := Lib.hid hft
        have hcl : cur.length + x.pkts.length ≤ 50000 := by
          rw [List.length_append, ← HT.out.2] at hsm
          omega
        have s0 : wr.cell? ⟨b, o + k * 5, none⟩ = some (.string x.note) := hcell 0 _ rfl
        have s1 : wr.cell? ⟨b, o + k * 5 + 1, none⟩ = some (.slice pf x.faces.length cf) := hcell 1 _ rfl
        have s2 : wr.cell? ⟨b, o + k * 5 + 2, none⟩ = some (.slice pn x.names.length cn) := hcell 2 _ rfl
        have s3 : wr.cell? ⟨b, o + k * 5 + 3, none⟩ = some (.slice ps x.secs.length cs) := hcell 3 _ rfl
        have s4 : wr.cell? ⟨b, o + k * 5 + 4, none⟩ = some (.slice pp x.pkts.length cp) := hcell 4 _ rfl
        have HCX : Hid (∀ W, Below wr.heap.size wr W → CapM W W.heap.size ⟨pf, cf, pn, cn, ps, cs, pp, cp⟩ x) := Lib.hid (fun W hb => hcap.keep (hb.mono (by have := HW.out.2.2; omega)) (by have := hb.size; have := HW.out.2.2; omega))
        have HPX := Lib.hid hcap
        obtain ⟨q, hq⟩ : ∃ q, eqB (bare x) (bare a) = q := ⟨_, rfl⟩
        have HQ := Lib.hid hq
        clear hcell hvl hcap hb hx htk hno hft hsm hq
        cases q with
        | true =>
          have HT2 : Hid (alikeB a (l.take (k + 1)) = true) := Lib.hid (by rw [HTK.out, HT.out.1, HQ.out]; rfl)
          go_wp2_with fail
          refine wp_region_held_drew (S := (fun w' => w'.cell? ⟨b, o + k * 5, none⟩ = some (.string x.note) ∧ w'.cell? ⟨b, o + k * 5 + 1, none⟩ = some (.slice pf x.faces.length cf) ∧ w'.cell? ⟨b, o + k * 5 + 2, none⟩ = some (.slice pn x.names.length cn) ∧ w'.cell? ⟨b, o + k * 5 + 3, none⟩ = some (.slice ps x.secs.length cs) ∧ w'.cell? ⟨b, o + k * 5 + 4, none⟩ = some (.slice pp x.pkts.length cp) ∧ w'.cell? ⟨b, o, none⟩ = some (.string a.note) ∧ w'.cell? ⟨b, o + 1, none⟩ = some (.slice pf0 a.faces.length cf0) ∧ w'.cell? ⟨b, o + 2, none⟩ = some (.slice pn0 a.names.length cn0) ∧ w'.cell? ⟨b, o + 3, none⟩ = some (.slice ps0 a.secs.length cs0) ∧ w'.cell? ⟨b, o + 4, none⟩ = some (.slice pp0 a.pkts.length cp0))) (by kernel_rfl) ⟨s0, s1, s2, s3, s4, s5, s6, s7, s8, s9⟩ (fun hHeld => ?_)
          refine wpAnyH_take (i := 0) (oi := { dst := some 23, op := Go.Op.move (Go.Operand.tmp 0), type := 22, pos := "ref.go:279", after := #[], guard := none }) (v := ?_) rfl (by kernel_rfl) (by kernel_rfl) (by kernel_rfl) (fun _ _ _ h => h) (Or.inl ⟨by rfl, ?_⟩) (by assumption) ?_
          rotate_left 1
          · intro w hSw; (try dsimp only at hSw); go_simp; try with_reducible rfl
          try simp only [Act.put, List.setIfInBounds_toArray, List.set_cons_zero, List.set_cons_succ]
          refine wpAnyH_take (i := 1) (oi := { dst := some 24, op := Go.Op.move (Go.Operand.tmp 6), type := 3, pos := "ref.go:279", after := #[], guard := none }) (v := ?_) rfl (by kernel_rfl) (by kernel_rfl) (by kernel_rfl) (fun _ _ _ h => h) (Or.inl ⟨by rfl, ?_⟩) (by assumption) ?_
          rotate_left 1
          · intro w hSw; (try dsimp only at hSw); go_simp; try with_reducible rfl
          try simp only [Act.put, List.setIfInBounds_toArray, List.set_cons_zero, List.set_cons_succ]
          refine wpAnyH_take (i := 2) (oi := { dst := some 25, op := Go.Op.indexAddr 22 (Go.Operand.tmp 23) (Go.Operand.tmp 24), type := 0, pos := "ref.go:279", after := #[{ on := 0, ground := Go.Ground.data }, { on := 1, ground := Go.Ground.data }], guard := none }) (v := ?_) rfl (by kernel_rfl) (by kernel_rfl) (by kernel_rfl) (fun _ _ _ h => h) (Or.inl ⟨by rfl, ?_⟩) (by assumption) ?_
          rotate_left 1
          · intro w hSw; (try dsimp only at hSw); go_simp; try with_reducible rfl
          try simp only [Act.put, List.setIfInBounds_toArray, List.set_cons_zero, List.set_cons_succ]
          refine wpAnyH_take (i := 3) (oi := { dst := some 26, op := Go.Op.load 31 (Go.Operand.tmp 25), type := 31, pos := "ref.go:279", after := #[{ on := 2, ground := Go.Ground.data }], guard := none }) (v := ?_) rfl (by kernel_rfl) (by kernel_rfl) (by kernel_rfl) (fun _ _ _ h => h) (Or.inl ⟨by rfl, ?_⟩) (by assumption) ?_
          rotate_left 1
          · intro w hSw; (try dsimp only at hSw); go_simp; try with_reducible rfl
          try simp only [Act.put, List.setIfInBounds_toArray, List.set_cons_zero, List.set_cons_succ]
          refine wpAnyH_take (i := 5) (oi := { dst := some 28, op := Go.Op.move (Go.Operand.tmp 0), type := 22, pos := "ref.go:279", after := #[], guard := none }) (v := ?_) rfl (by kernel_rfl) (by kernel_rfl) (by kernel_rfl) (fun _ _ _ h => h) (Or.inl ⟨by rfl, ?_⟩) (by assumption) ?_
          rotate_left 1
          · intro w hSw; (try dsimp only at hSw); go_simp; try with_reducible rfl
          try simp only [Act.put, List.setIfInBounds_toArray, List.set_cons_zero, List.set_cons_succ]
          refine wpAnyH_take (i := 6) (oi := { dst := some 29, op := Go.Op.indexAddr 22 (Go.Operand.tmp 28) (Go.Operand.const (Go.Value.int Go.IntKind.i64 0)), type := 0, pos := "ref.go:279", after := #[{ on := 5, ground := Go.Ground.data }], guard := none }) (v := ?_) rfl (by kernel_rfl) (by kernel_rfl) (by kernel_rfl) (fun _ _ _ h => h) (Or.inl ⟨by rfl, ?_⟩) (by assumption) ?_
          rotate_left 1
          · intro w hSw; (try dsimp only at hSw); go_simp; try with_reducible rfl
          try simp only [Act.put, List.setIfInBounds_toArray, List.set_cons_zero, List.set_cons_succ]
          refine wpAnyH_take (i := 7) (oi := { dst := some 30, op := Go.Op.load 31 (Go.Operand.tmp 29), type := 31, pos := "ref.go:279", after := #[{ on := 6, ground := Go.Ground.data }], guard := none }) (v := ?_) rfl (by kernel_rfl) (by kernel_rfl) (by kernel_rfl) (fun _ _ _ h => h) (Or.inl ⟨by rfl, ?_⟩) (by assumption) ?_
          rotate_left 1
          · intro w hSw; (try dsimp only at hSw); go_simp; try with_reducible rfl
          try simp only [Act.put, List.setIfInBounds_toArray, List.set_cons_zero, List.set_cons_succ]
          refine wpAnyH_ready (rs := [4]) (by kernel_rfl) (by simp) ?_
          refine AllReadyH.cons (o := { dst := some 27, op := Go.Op.call { callee := Go.Callee.value (Go.Operand.func 65), args := #[Go.Operand.tmp 26, Go.Operand.const (Go.Value.slice none 0 0)], argTypes := #[31, 29] }, type := 31, pos := "ref.go:279", after := #[{ on := 3, ground := Go.Ground.data }], guard := none }) rfl (fun K hK => ?_) (AllReadyH.nil)
          go_simp
          go_at_call 65
          with_reducible refine (rwith_any x.note).mono ?_
          rintro e wa ⟨rfl, hb_wa⟩
          have hwa : Below wr.heap.size wr wa := below_undrew hb_wa
          have t0 : wa.cell? ⟨b, o + k * 5, none⟩ = some (.string x.note) := (hwa.cell (p := ⟨b, o + k * 5, none⟩) (by show b < wr.heap.size; assumption)).trans s0
          have t1 : wa.cell? ⟨b, o + k * 5 + 1, none⟩ = some (.slice pf x.faces.length cf) := (hwa.cell (p := ⟨b, o + k * 5 + 1, none⟩) (by show b < wr.heap.size; assumption)).trans s1
          have t2 : wa.cell? ⟨b, o + k * 5 + 2, none⟩ = some (.slice pn x.names.length cn) := (hwa.cell (p := ⟨b, o + k * 5 + 2, none⟩) (by show b < wr.heap.size; assumption)).trans s2
          have t3 : wa.cell? ⟨b, o + k * 5 + 3, none⟩ = some (.slice ps x.secs.length cs) := (hwa.cell (p := ⟨b, o + k * 5 + 3, none⟩) (by show b < wr.heap.size; assumption)).trans s3
          have t4 : wa.cell? ⟨b, o + k * 5 + 4, none⟩ = some (.slice pp x.pkts.length cp) := (hwa.cell (p := ⟨b, o + k * 5 + 4, none⟩) (by show b < wr.heap.size; assumption)).trans s4
          have t5 : wa.cell? ⟨b, o, none⟩ = some (.string a.note) := (hwa.cell (p := ⟨b, o, none⟩) (by show b < wr.heap.size; assumption)).trans s5
          have t6 : wa.cell? ⟨b, o + 1, none⟩ = some (.slice pf0 a.faces.length cf0) := (hwa.cell (p := ⟨b, o + 1, none⟩) (by show b < wr.heap.size; assumption)).trans s6
          have t7 : wa.cell? ⟨b, o + 2, none⟩ = some (.slice pn0 a.names.length cn0) := (hwa.cell (p := ⟨b, o + 2, none⟩) (by show b < wr.heap.size; assumption)).trans s7
          have t8 : wa.cell? ⟨b, o + 3, none⟩ = some (.slice ps0 a.secs.length cs0) := (hwa.cell (p := ⟨b, o + 3, none⟩) (by show b < wr.heap.size; assumption)).trans s8
          have t9 : wa.cell? ⟨b, o + 4, none⟩ = some (.slice pp0 a.pkts.length cp0) := (hwa.cell (p := ⟨b, o + 4, none⟩) (by show b < wr.heap.size; assumption)).trans s9
          clear hb_wa
          dsimp only
          refine hK.out _ _ ⟨t0, t1, t2, t3, t4, t5, t6, t7, t8, t9⟩ (fun hHeld => ?_)
          clear hK K
          try simp only [Act.put, List.setIfInBounds_toArray, List.set_cons_zero, List.set_cons_succ]
          refine wpAnyH_ready (rs := [8]) (by kernel_rfl) (by simp) ?_
          refine AllReadyH.cons (o := { dst := some 31, op := Go.Op.call { callee := Go.Callee.value (Go.Operand.func 65), args := #[Go.Operand.tmp 30, Go.Operand.const (Go.Value.slice none 0 0)], argTypes := #[31, 29] }, type := 31, pos := "ref.go:279", after := #[{ on := 7, ground := Go.Ground.data }, { on := 4, ground := Go.Ground.chain }], guard := none }) rfl (fun K hK => ?_) (AllReadyH.nil)
          go_simp
          go_at_call 65
          with_reducible refine (rwith_any a.note).mono ?_
          rintro e wb ⟨rfl, hb_wb⟩
          have hwb : Below wr.heap.size wr wb := hwa.trans (hb_wb.mono hwa.size)
          have v_0 : wb.cell? ⟨b, o + k * 5, none⟩ = some (.string x.note) := (hwb.cell (p := ⟨b, o + k * 5, none⟩) (by show b < wr.heap.size; assumption)).trans s0
          have v_1 : wb.cell? ⟨b, o + k * 5 + 1, none⟩ = some (.slice pf x.faces.length cf) := (hwb.cell (p := ⟨b, o + k * 5 + 1, none⟩) (by show b < wr.heap.size; assumption)).trans s1
          have v_2 : wb.cell? ⟨b, o + k * 5 + 2, none⟩ = some (.slice pn x.names.length cn) := (hwb.cell (p := ⟨b, o + k * 5 + 2, none⟩) (by show b < wr.heap.size; assumption)).trans s2
          have v_3 : wb.cell? ⟨b, o + k * 5 + 3, none⟩ = some (.slice ps x.secs.length cs) := (hwb.cell (p := ⟨b, o + k * 5 + 3, none⟩) (by show b < wr.heap.size; assumption)).trans s3
          have v_4 : wb.cell? ⟨b, o + k * 5 + 4, none⟩ = some (.slice pp x.pkts.length cp) := (hwb.cell (p := ⟨b, o + k * 5 + 4, none⟩) (by show b < wr.heap.size; assumption)).trans s4
          have v_5 : wb.cell? ⟨b, o, none⟩ = some (.string a.note) := (hwb.cell (p := ⟨b, o, none⟩) (by show b < wr.heap.size; assumption)).trans s5
          have v_6 : wb.cell? ⟨b, o + 1, none⟩ = some (.slice pf0 a.faces.length cf0) := (hwb.cell (p := ⟨b, o + 1, none⟩) (by show b < wr.heap.size; assumption)).trans s6
          have v_7 : wb.cell? ⟨b, o + 2, none⟩ = some (.slice pn0 a.names.length cn0) := (hwb.cell (p := ⟨b, o + 2, none⟩) (by show b < wr.heap.size; assumption)).trans s7
          have v_8 : wb.cell? ⟨b, o + 3, none⟩ = some (.slice ps0 a.secs.length cs0) := (hwb.cell (p := ⟨b, o + 3, none⟩) (by show b < wr.heap.size; assumption)).trans s8
          have v_9 : wb.cell? ⟨b, o + 4, none⟩ = some (.slice pp0 a.pkts.length cp0) := (hwb.cell (p := ⟨b, o + 4, none⟩) (by show b < wr.heap.size; assumption)).trans s9
          clear hb_wb
          dsimp only
          refine hK.out _ _ ⟨v_0, v_1, v_2, v_3, v_4, v_5, v_6, v_7, v_8, v_9⟩ (fun hHeld => ?_)
          clear hK K
          try simp only [Act.put, List.setIfInBounds_toArray, List.set_cons_zero, List.set_cons_succ]
          refine wpAnyH_ready (rs := [9]) (by kernel_rfl) (by simp) ?_
          refine AllReadyH.cons (o := { dst := some 32, op := Go.Op.call { callee := Go.Callee.value (Go.Operand.func 17), args := #[Go.Operand.tmp 27, Go.Operand.tmp 31], argTypes := #[31, 31] }, type := 4, pos := "ref.go:279", after := #[{ on := 4, ground := Go.Ground.data }, { on := 8, ground := Go.Ground.data }, { on := 8, ground := Go.Ground.chain }], guard := none }) rfl (fun K hK => ?_) (AllReadyH.nil)
          go_simp
          go_at_call 17
          have HC : Hid (Calls Try.prog 17 #[.agg #[.string x.note, .slice pf x.faces.length cf, .slice pn x.names.length cn, .slice ps x.secs.length cs, .slice none 0 0], .agg #[.string a.note, .slice pf0 a.faces.length cf0, .slice pn0 a.names.length cn0, .slice ps0 a.secs.length cs0, .slice none 0 0]] wb fun e w' => e = .returned (.bool (eqB (bare x) (bare a))) ∧ Below wb.heap.size wb w') := Lib.hid (rsame_any (w := wb) (p := ⟨pf, cf, pn, cn, ps, cs, none, 0⟩) (q := ⟨pf0, cf0, pn0, cn0, ps0, cs0, none, 0⟩) (c := bare x) (d := bare a) (capM_none (HCX.out wb hwb) (fun _ => rfl)) (capM_none (HCA.out wb hwb) (fun _ => rfl)))
          rw [HQ.out] at HC
          with_reducible refine HC.out.mono ?_
          rintro e w7 ⟨rfl, hb7⟩
          have h7 : Below wr.heap.size wr w7 := hwb.trans (hb7.mono hwb.size)
          have y0 : w7.cell? ⟨b, o + k * 5, none⟩ = some (.string x.note) := (h7.cell (p := ⟨b, o + k * 5, none⟩) (by show b < wr.heap.size; assumption)).trans s0
          have y1 : w7.cell? ⟨b, o + k * 5 + 1, none⟩ = some (.slice pf x.faces.length cf) := (h7.cell (p := ⟨b, o + k * 5 + 1, none⟩) (by show b < wr.heap.size; assumption)).trans s1
          have y2 : w7.cell? ⟨b, o + k * 5 + 2, none⟩ = some (.slice pn x.names.length cn) := (h7.cell (p := ⟨b, o + k * 5 + 2, none⟩) (by show b < wr.heap.size; assumption)).trans s2
          have y3 : w7.cell? ⟨b, o + k * 5 + 3, none⟩ = some (.slice ps x.secs.length cs) := (h7.cell (p := ⟨b, o + k * 5 + 3, none⟩) (by show b < wr.heap.size; assumption)).trans s3
          have y4 : w7.cell? ⟨b, o + k * 5 + 4, none⟩ = some (.slice pp x.pkts.length cp) := (h7.cell (p := ⟨b, o + k * 5 + 4, none⟩) (by show b < wr.heap.size; assumption)).trans s4
          have y5 : w7.cell? ⟨b, o, none⟩ = some (.string a.note) := (h7.cell (p := ⟨b, o, none⟩) (by show b < wr.heap.size; assumption)).trans s5
          have y6 : w7.cell? ⟨b, o + 1, none⟩ = some (.slice pf0 a.faces.length cf0) := (h7.cell (p := ⟨b, o + 1, none⟩) (by show b < wr.heap.size; assumption)).trans s6
          have y7 : w7.cell? ⟨b, o + 2, none⟩ = some (.slice pn0 a.names.length cn0) := (h7.cell (p := ⟨b, o + 2, none⟩) (by show b < wr.heap.size; assumption)).trans s7
          have y8 : w7.cell? ⟨b, o + 3, none⟩ = some (.slice ps0 a.secs.length cs0) := (h7.cell (p := ⟨b, o + 3, none⟩) (by show b < wr.heap.size; assumption)).trans s8
          have y9 : w7.cell? ⟨b, o + 4, none⟩ = some (.slice pp0 a.pkts.length cp0) := (h7.cell (p := ⟨b, o + 4, none⟩) (by show b < wr.heap.size; assumption)).trans s9
          have HW7 : Hid (Below B w w7 ∧ Blk w7 B 31 #[.string ⟨#[]⟩, .slice none 0 0, .slice none 0 0, .slice none 0 0, .slice none 0 0] ∧ Below B wr w7 ∧ B + 1 ≤ w7.heap.size) := Lib.hid ⟨HW.out.1.trans (h7.mono (by have := HW.out.2.2; omega)), HW.out.2.1.below h7 HW.out.2.1.lt, h7.mono (by have := HW.out.2.2; omega), Nat.le_trans HW.out.2.2 h7.size⟩
          have HO7 := Lib.hid (ownPB_below HO.out h7 (by have := HW.out.2.2; omega))
          clear hb7
          dsimp only
          refine hK.out _ _ ⟨y0, y1, y2, y3, y4, y5, y6, y7, y8, y9⟩ (fun hHeld => ?_)
          clear hK K
          try simp only [Act.put, List.setIfInBounds_toArray, List.set_cons_zero, List.set_cons_succ]
          refine wpAnyH_take (i := 10) (oi := { dst := some 33, op := Go.Op.unOp Go.UnOp.not 4 (Go.Operand.tmp 32), type := 4, pos := "ref.go:279", after := #[{ on := 9, ground := Go.Ground.data }], guard := none }) (v := ?_) rfl (by kernel_rfl) (by kernel_rfl) (by kernel_rfl) (fun _ _ _ h => h) (Or.inl ⟨by rfl, ?_⟩) (by assumption) ?_
          rotate_left 1
          · intro w hSw; (try dsimp only at hSw); go_simp; try with_reducible rfl
          try simp only [Act.put, List.setIfInBounds_toArray, List.set_cons_zero, List.set_cons_succ]
          refine wpAnyH_done (by kernel_rfl) ?_ _
          all_goals
            obtain ⟨v7_, w8, rows7, hrun, hO8, hB8, hA8⟩ := app_pkts HO7.out (HPX.out.pkts.keep pktK HW7.out.2.2.1 (Nat.le_refl _)) HPX.out.lp.2.2 (by omega) (by have := HW7.out.2.2.2; omega)
            obtain ⟨A8, c8, rfl, _⟩ := own_form2 hO8.own
            have HO8 := Lib.hid hO8
            have HF8 : Hid (cur ++ x.pkts = (l.take (k + 1)).flatMap (·.pkts)) := Lib.hid (by rw [HFT.out, HT.out.2])
            have HV8 : Hid (Below B v1 w8) := Lib.hid ((HV1.out.trans HW7.out.2.2.1).trans hB8)
            have HW8 : Hid (Below B w w8 ∧ Blk w8 B 31 #[.string ⟨#[]⟩, .slice none 0 0, .slice none 0 0, .slice none 0 0, .slice none 0 0] ∧ B + 1 ≤ w8.heap.size) := Lib.hid ⟨HW7.out.1.trans hB8, hA8.2 _ _ _ (by decide) HW7.out.2.1, Nat.le_trans HW7.out.2.2.2 hB8.size⟩
            clear hO8 hB8 hA8
            go_wp2_with (at_builtin; refine Lib.wpList_append_run _ rfl _ _ _ _ rfl _ _ rfl rfl _ _ hrun ?_)
            go_roundw
            case rel => exact ⟨A8, c8, cur ++ x.pkts, rows7, k + 1, by rw [List.length_append], by go_num, by omega, Lib.hid ⟨HT2.out, HF8.out⟩, HO8, HV8, HW8⟩
            case measure => simp [intOf]; omega
        | false =>
          have hje : joinE l = 10 := by rw [HEV.out, HNO.out HQ.out]; rfl
          have HR : Hid (joinR l = noC ∧ joinE l = 10) := Lib.hid ⟨by rw [HRV.out, hje]; rfl, hje⟩
          clear hje
          go_wp2_with fail
          refine wp_region_held_drew (S := (fun w' => w'.cell? ⟨b, o + k * 5, none⟩ = some (.string x.note) ∧ w'.cell? ⟨b, o + k * 5 + 1, none⟩ = some (.slice pf x.faces.length cf) ∧ w'.cell? ⟨b, o + k * 5 + 2, none⟩ = some (.slice pn x.names.length cn) ∧ w'.cell? ⟨b, o + k * 5 + 3, none⟩ = some (.slice ps x.secs.length cs) ∧ w'.cell? ⟨b, o + k * 5 + 4, none⟩ = some (.slice pp x.pkts.length cp) ∧ w'.cell? ⟨b, o, none⟩ = some (.string a.note) ∧ w'.cell? ⟨b, o + 1, none⟩ = some (.slice pf0 a.faces.length cf0) ∧ w'.cell? ⟨b, o + 2, none⟩ = some (.slice pn0 a.names.length cn0) ∧ w'.cell? ⟨b, o + 3, none⟩ = some (.slice ps0 a.secs.length cs0) ∧ w'.cell? ⟨b, o + 4, none⟩ = some (.slice pp0 a.pkts.length cp0))) (by kernel_rfl) ⟨s0, s1, s2, s3, s4, s5, s6, s7, s8, s9⟩ (fun hHeld => ?_)
          refine wpAnyH_take (i := 0) (oi := { dst := some 23, op := Go.Op.move (Go.Operand.tmp 0), type := 22, pos := "ref.go:279", after := #[], guard := none }) (v := ?_) rfl (by kernel_rfl) (by kernel_rfl) (by kernel_rfl) (fun _ _ _ h => h) (Or.inl ⟨by rfl, ?_⟩) (by assumption) ?_
          rotate_left 1
          · intro w hSw; (try dsimp only at hSw); go_simp; try with_reducible rfl
          try simp only [Act.put, List.setIfInBounds_toArray, List.set_cons_zero, List.set_cons_succ]
          refine wpAnyH_take (i := 1) (oi := { dst := some 24, op := Go.Op.move (Go.Operand.tmp 6), type := 3, pos := "ref.go:279", after := #[], guard := none }) (v := ?_) rfl (by kernel_rfl) (by kernel_rfl) (by kernel_rfl) (fun _ _ _ h => h) (Or.inl ⟨by rfl, ?_⟩) (by assumption) ?_
          rotate_left 1
          · intro w hSw; (try dsimp only at hSw); go_simp; try with_reducible rfl
          try simp only [Act.put, List.setIfInBounds_toArray, List.set_cons_zero, List.set_cons_succ]
          refine wpAnyH_take (i := 2) (oi := { dst := some 25, op := Go.Op.indexAddr 22 (Go.Operand.tmp 23) (Go.Operand.tmp 24), type := 0, pos := "ref.go:279", after := #[{ on := 0, ground := Go.Ground.data }, { on := 1, ground := Go.Ground.data }], guard := none }) (v := ?_) rfl (by kernel_rfl) (by kernel_rfl) (by kernel_rfl) (fun _ _ _ h => h) (Or.inl ⟨by rfl, ?_⟩) (by assumption) ?_
          rotate_left 1
          · intro w hSw; (try dsimp only at hSw); go_simp; try with_reducible rfl
          try simp only [Act.put, List.setIfInBounds_toArray, List.set_cons_zero, List.set_cons_succ]
          refine wpAnyH_take (i := 3) (oi := { dst := some 26, op := Go.Op.load 31 (Go.Operand.tmp 25), type := 31, pos := "ref.go:279", after := #[{ on := 2, ground := Go.Ground.data }], guard := none }) (v := ?_) rfl (by kernel_rfl) (by kernel_rfl) (by kernel_rfl) (fun _ _ _ h => h) (Or.inl ⟨by rfl, ?_⟩) (by assumption) ?_
          rotate_left 1
          · intro w hSw; (try dsimp only at hSw); go_simp; try with_reducible rfl
          try simp only [Act.put, List.setIfInBounds_toArray, List.set_cons_zero, List.set_cons_succ]
          refine wpAnyH_take (i := 5) (oi := { dst := some 28, op := Go.Op.move (Go.Operand.tmp 0), type := 22, pos := "ref.go:279", after := #[], guard := none }) (v := ?_) rfl (by kernel_rfl) (by kernel_rfl) (by kernel_rfl) (fun _ _ _ h => h) (Or.inl ⟨by rfl, ?_⟩) (by assumption) ?_
          rotate_left 1
          · intro w hSw; (try dsimp only at hSw); go_simp; try with_reducible rfl
          try simp only [Act.put, List.setIfInBounds_toArray, List.set_cons_zero, List.set_cons_succ]
          refine wpAnyH_take (i := 6) (oi := { dst := some 29, op := Go.Op.indexAddr 22 (Go.Operand.tmp 28) (Go.Operand.const (Go.Value.int Go.IntKind.i64 0)), type := 0, pos := "ref.go:279", after := #[{ on := 5, ground := Go.Ground.data }], guard := none }) (v := ?_) rfl (by kernel_rfl) (by kernel_rfl) (by kernel_rfl) (fun _ _ _ h => h) (Or.inl ⟨by rfl, ?_⟩) (by assumption) ?_
          rotate_left 1
          · intro w hSw; (try dsimp only at hSw); go_simp; try with_reducible rfl
          try simp only [Act.put, List.setIfInBounds_toArray, List.set_cons_zero, List.set_cons_succ]
          refine wpAnyH_take (i := 7) (oi := { dst := some 30, op := Go.Op.load 31 (Go.Operand.tmp 29), type := 31, pos := "ref.go:279", after := #[{ on := 6, ground := Go.Ground.data }], guard := none }) (v := ?_) rfl (by kernel_rfl) (by kernel_rfl) (by kernel_rfl) (fun _ _ _ h => h) (Or.inl ⟨by rfl, ?_⟩) (by assumption) ?_
          rotate_left 1
          · intro w hSw; (try dsimp only at hSw); go_simp; try with_reducible rfl
          try simp only [Act.put, List.setIfInBounds_toArray, List.set_cons_zero, List.set_cons_succ]
          refine wpAnyH_ready (rs := [4]) (by kernel_rfl) (by simp) ?_
          refine AllReadyH.cons (o := { dst := some 27, op := Go.Op.call { callee := Go.Callee.value (Go.Operand.func 65), args := #[Go.Operand.tmp 26, Go.Operand.const (Go.Value.slice none 0 0)], argTypes := #[31, 29] }, type := 31, pos := "ref.go:279", after := #[{ on := 3, ground := Go.Ground.data }], guard := none }) rfl (fun K hK => ?_) (AllReadyH.nil)
          go_simp
          go_at_call 65
          with_reducible refine (rwith_any x.note).mono ?_
          rintro e wa ⟨rfl, hb_wa⟩
          have hwa : Below wr.heap.size wr wa := below_undrew hb_wa
          have t0 : wa.cell? ⟨b, o + k * 5, none⟩ = some (.string x.note) := (hwa.cell (p := ⟨b, o + k * 5, none⟩) (by show b < wr.heap.size; assumption)).trans s0
          have t1 : wa.cell? ⟨b, o + k * 5 + 1, none⟩ = some (.slice pf x.faces.length cf) := (hwa.cell (p := ⟨b, o + k * 5 + 1, none⟩) (by show b < wr.heap.size; assumption)).trans s1
          have t2 : wa.cell? ⟨b, o + k * 5 + 2, none⟩ = some (.slice pn x.names.length cn) := (hwa.cell (p := ⟨b, o + k * 5 + 2, none⟩) (by show b < wr.heap.size; assumption)).trans s2
          have t3 : wa.cell? ⟨b, o + k * 5 + 3, none⟩ = some (.slice ps x.secs.length cs) := (hwa.cell (p := ⟨b, o + k * 5 + 3, none⟩) (by show b < wr.heap.size; assumption)).trans s3
          have t4 : wa.cell? ⟨b, o + k * 5 + 4, none⟩ = some (.slice pp x.pkts.length cp) := (hwa.cell (p := ⟨b, o + k * 5 + 4, none⟩) (by show b < wr.heap.size; assumption)).trans s4
          have t5 : wa.cell? ⟨b, o, none⟩ = some (.string a.note) := (hwa.cell (p := ⟨b, o, none⟩) (by show b < wr.heap.size; assumption)).trans s5
          have t6 : wa.cell? ⟨b, o + 1, none⟩ = some (.slice pf0 a.faces.length cf0) := (hwa.cell (p := ⟨b, o + 1, none⟩) (by show b < wr.heap.size; assumption)).trans s6
          have t7 : wa.cell? ⟨b, o + 2, none⟩ = some (.slice pn0 a.names.length cn0) := (hwa.cell (p := ⟨b, o + 2, none⟩) (by show b < wr.heap.size; assumption)).trans s7
          have t8 : wa.cell? ⟨b, o + 3, none⟩ = some (.slice ps0 a.secs.length cs0) := (hwa.cell (p := ⟨b, o + 3, none⟩) (by show b < wr.heap.size; assumption)).trans s8
          have t9 : wa.cell? ⟨b, o + 4, none⟩ = some (.slice pp0 a.pkts.length cp0) := (hwa.cell (p := ⟨b, o + 4, none⟩) (by show b < wr.heap.size; assumption)).trans s9
          clear hb_wa
          dsimp only
          refine hK.out _ _ ⟨t0, t1, t2, t3, t4, t5, t6, t7, t8, t9⟩ (fun hHeld => ?_)
          clear hK K
          try simp only [Act.put, List.setIfInBounds_toArray, List.set_cons_zero, List.set_cons_succ]
          refine wpAnyH_ready (rs := [8]) (by kernel_rfl) (by simp) ?_
          refine AllReadyH.cons (o := { dst := some 31, op := Go.Op.call { callee := Go.Callee.value (Go.Operand.func 65), args := #[Go.Operand.tmp 30, Go.Operand.const (Go.Value.slice none 0 0)], argTypes := #[31, 29] }, type := 31, pos := "ref.go:279", after := #[{ on := 7, ground := Go.Ground.data }, { on := 4, ground := Go.Ground.chain }], guard := none }) rfl (fun K hK => ?_) (AllReadyH.nil)
          go_simp
          go_at_call 65
          with_reducible refine (rwith_any a.note).mono ?_
          rintro e wb ⟨rfl, hb_wb⟩
          have hwb : Below wr.heap.size wr wb := hwa.trans (hb_wb.mono hwa.size)
          have v_0 : wb.cell? ⟨b, o + k * 5, none⟩ = some (.string x.note) := (hwb.cell (p := ⟨b, o + k * 5, none⟩) (by show b < wr.heap.size; assumption)).trans s0
          have v_1 : wb.cell? ⟨b, o + k * 5 + 1, none⟩ = some (.slice pf x.faces.length cf) := (hwb.cell (p := ⟨b, o + k * 5 + 1, none⟩) (by show b < wr.heap.size; assumption)).trans s1
          have v_2 : wb.cell? ⟨b, o + k * 5 + 2, none⟩ = some (.slice pn x.names.length cn) := (hwb.cell (p := ⟨b, o + k * 5 + 2, none⟩) (by show b < wr.heap.size; assumption)).trans s2
          have v_3 : wb.cell? ⟨b, o + k * 5 + 3, none⟩ = some (.slice ps x.secs.length cs) := (hwb.cell (p := ⟨b, o + k * 5 + 3, none⟩) (by show b < wr.heap.size; assumption)).trans s3
          have v_4 : wb.cell? ⟨b, o + k * 5 + 4, none⟩ = some (.slice pp x.pkts.length cp) := (hwb.cell (p := ⟨b, o + k * 5 + 4, none⟩) (by show b < wr.heap.size; assumption)).trans s4
          have v_5 : wb.cell? ⟨b, o, none⟩ = some (.string a.note) := (hwb.cell (p := ⟨b, o, none⟩) (by show b < wr.heap.size; assumption)).trans s5
          have v_6 : wb.cell? ⟨b, o + 1, none⟩ = some (.slice pf0 a.faces.length cf0) := (hwb.cell (p := ⟨b, o + 1, none⟩) (by show b < wr.heap.size; assumption)).trans s6
          have v_7 : wb.cell? ⟨b, o + 2, none⟩ = some (.slice pn0 a.names.length cn0) := (hwb.cell (p := ⟨b, o + 2, none⟩) (by show b < wr.heap.size; assumption)).trans s7
          have v_8 : wb.cell? ⟨b, o + 3, none⟩ = some (.slice ps0 a.secs.length cs0) := (hwb.cell (p := ⟨b, o + 3, none⟩) (by show b < wr.heap.size; assumption)).trans s8
          have v_9 : wb.cell? ⟨b, o + 4, none⟩ = some (.slice pp0 a.pkts.length cp0) := (hwb.cell (p := ⟨b, o + 4, none⟩) (by show b < wr.heap.size; assumption)).trans s9
          clear hb_wb
          dsimp only
          refine hK.out _ _ ⟨v_0, v_1, v_2, v_3, v_4, v_5, v_6, v_7, v_8, v_9⟩ (fun hHeld => ?_)
          clear hK K
          try simp only [Act.put, List.setIfInBounds_toArray, List.set_cons_zero, List.set_cons_succ]
          refine wpAnyH_ready (rs := [9]) (by kernel_rfl) (by simp) ?_
          refine AllReadyH.cons (o := { dst := some 32, op := Go.Op.call { callee := Go.Callee.value (Go.Operand.func 17), args := #[Go.Operand.tmp 27, Go.Operand.tmp 31], argTypes := #[31, 31] }, type := 4, pos := "ref.go:279", after := #[{ on := 4, ground := Go.Ground.data }, { on := 8, ground := Go.Ground.data }, { on := 8, ground := Go.Ground.chain }], guard := none }) rfl (fun K hK => ?_) (AllReadyH.nil)
          go_simp
          go_at_call 17
          have HC : Hid (Calls Try.prog 17 #[.agg #[.string x.note, .slice pf x.faces.length cf, .slice pn x.names.length cn, .slice ps x.secs.length cs, .slice none 0 0], .agg #[.string a.note, .slice pf0 a.faces.length cf0, .slice pn0 a.names.length cn0, .slice ps0 a.secs.length cs0, .slice none 0 0]] wb fun e w' => e = .returned (.bool (eqB (bare x) (bare a))) ∧ Below wb.heap.size wb w') := Lib.hid (rsame_any (w := wb) (p := ⟨pf, cf, pn, cn, ps, cs, none, 0⟩) (q := ⟨pf0, cf0, pn0, cn0, ps0, cs0, none, 0⟩) (c := bare x) (d := bare a) (capM_none (HCX.out wb hwb) (fun _ => rfl)) (capM_none (HCA.out wb hwb) (fun _ => rfl)))
          rw [HQ.out] at HC
          with_reducible refine HC.out.mono ?_
          rintro e w7 ⟨rfl, hb7⟩
          have h7 : Below wr.heap.size wr w7 := hwb.trans (hb7.mono hwb.size)
          have y0 : w7.cell? ⟨b, o + k * 5, none⟩ = some (.string x.note) := (h7.cell (p := ⟨b, o + k * 5, none⟩) (by show b < wr.heap.size; assumption)).trans s0
          have y1 : w7.cell? ⟨b, o + k * 5 + 1, none⟩ = some (.slice pf x.faces.length cf) := (h7.cell (p := ⟨b, o + k * 5 + 1, none⟩) (by show b < wr.heap.size; assumption)).trans s1
          have y2 : w7.cell? ⟨b, o + k * 5 + 2, none⟩ = some (.slice pn x.names.length cn) := (h7.cell (p := ⟨b, o + k * 5 + 2, none⟩) (by show b < wr.heap.size; assumption)).trans s2
          have y3 : w7.cell? ⟨b, o + k * 5 + 3, none⟩ = some (.slice ps x.secs.length cs) := (h7.cell (p := ⟨b, o + k * 5 + 3, none⟩) (by show b < wr.heap.size; assumption)).trans s3
          have y4 : w7.cell? ⟨b, o + k * 5 + 4, none⟩ = some (.slice pp x.pkts.length cp) := (h7.cell (p := ⟨b, o + k * 5 + 4, none⟩) (by show b < wr.heap.size; assumption)).trans s4
          have y5 : w7.cell? ⟨b, o, none⟩ = some (.string a.note) := (h7.cell (p := ⟨b, o, none⟩) (by show b < wr.heap.size; assumption)).trans s5
          have y6 : w7.cell? ⟨b, o + 1, none⟩ = some (.slice pf0 a.faces.length cf0) := (h7.cell (p := ⟨b, o + 1, none⟩) (by show b < wr.heap.size; assumption)).trans s6
          have y7 : w7.cell? ⟨b, o + 2, none⟩ = some (.slice pn0 a.names.length cn0) := (h7.cell (p := ⟨b, o + 2, none⟩) (by show b < wr.heap.size; assumption)).trans s7
          have y8 : w7.cell? ⟨b, o + 3, none⟩ = some (.slice ps0 a.secs.length cs0) := (h7.cell (p := ⟨b, o + 3, none⟩) (by show b < wr.heap.size; assumption)).trans s8
          have y9 : w7.cell? ⟨b, o + 4, none⟩ = some (.slice pp0 a.pkts.length cp0) := (h7.cell (p := ⟨b, o + 4, none⟩) (by show b < wr.heap.size; assumption)).trans s9
          have HW7 : Hid (Below B w w7 ∧ Blk w7 B 31 #[.string ⟨#[]⟩, .slice none 0 0, .slice none 0 0, .slice none 0 0, .slice none 0 0] ∧ Below B wr w7 ∧ B + 1 ≤ w7.heap.size) := Lib.hid ⟨HW.out.1.trans (h7.mono (by have := HW.out.2.2; omega)), HW.out.2.1.below h7 HW.out.2.1.lt, h7.mono (by have := HW.out.2.2; omega), Nat.le_trans HW.out.2.2 h7.size⟩
          have HO7 := Lib.hid (ownPB_below HO.out h7 (by have := HW.out.2.2; omega))
          clear hb7
          dsimp only
          refine hK.out _ _ ⟨y0, y1, y2, y3, y4, y5, y6, y7, y8, y9⟩ (fun hHeld => ?_)
          clear hK K
          try simp only [Act.put, List.setIfInBounds_toArray, List.set_cons_zero, List.set_cons_succ]
          refine wpAnyH_take (i := 10) (oi := { dst := some 33, op := Go.Op.unOp Go.UnOp.not 4 (Go.Operand.tmp 32), type := 4, pos := "ref.go:279", after := #[{ on := 9, ground := Go.Ground.data }], guard := none }) (v := ?_) rfl (by kernel_rfl) (by kernel_rfl) (by kernel_rfl) (fun _ _ _ h => h) (Or.inl ⟨by rfl, ?_⟩) (by assumption) ?_
          rotate_left 1
          · intro w hSw; (try dsimp only at hSw); go_simp; try with_reducible rfl
          try simp only [Act.put, List.setIfInBounds_toArray, List.set_cons_zero, List.set_cons_succ]
          refine wpAnyH_done (by kernel_rfl) ?_ _
          all_goals
            clear HO
            have z0 : w7.cell? ⟨B, 0, none⟩ = some (.string ⟨#[]⟩) := HW7.out.2.1.cell 0
            have f0 : w7.frozen? ⟨B, 0, none⟩ = false := HW7.out.2.1.frozen 0
            have z1 : w7.cell? ⟨B, 1, none⟩ = some (.slice none 0 0) := HW7.out.2.1.cell 1
            have f1 : w7.frozen? ⟨B, 1, none⟩ = false := HW7.out.2.1.frozen 1
            have z2 : w7.cell? ⟨B, 2, none⟩ = some (.slice none 0 0) := HW7.out.2.1.cell 2
            have f2 : w7.frozen? ⟨B, 2, none⟩ = false := HW7.out.2.1.frozen 2
            have z3 : w7.cell? ⟨B, 3, none⟩ = some (.slice none 0 0) := HW7.out.2.1.cell 3
            have f3 : w7.frozen? ⟨B, 3, none⟩ = false := HW7.out.2.1.frozen 3
            have z4 : w7.cell? ⟨B, 4, none⟩ = some (.slice none 0 0) := HW7.out.2.1.cell 4
            have f4 : w7.frozen? ⟨B, 4, none⟩ = false := HW7.out.2.1.frozen 4
            have HEND := Lib.hid (set5 HW7.out.2.1 (.string ⟨#[]⟩) (.slice none 0 0) (.slice none 0 0) (.slice none 0 0) (.slice none 0 0))
            go_wp2
            generalize hW9 : (((((w7.setCell ⟨B, 0, none⟩ (.string ⟨#[]⟩)).setCell ⟨B, 1, none⟩ (.slice none 0 0)).setCell ⟨B, 2, none⟩ (.slice none 0 0)).setCell ⟨B, 3, none⟩ (.slice none 0 0)).setCell ⟨B, 4, none⟩ (.slice none 0 0)) = W9 at HEND ⊢
            obtain ⟨hb9, ha9, hw9⟩ := HEND.out
            have y0 : W9.cell? ⟨B, 0, none⟩ = some (.string ⟨#[]⟩) := hb9.cell 0
            have y1 : W9.cell? ⟨B, 1, none⟩ = some (.slice none 0 0) := hb9.cell 1
            have y2 : W9.cell? ⟨B, 2, none⟩ = some (.slice none 0 0) := hb9.cell 2
            have y3 : W9.cell? ⟨B, 3, none⟩ = some (.slice none 0 0) := hb9.cell 3
            have y4 : W9.cell? ⟨B, 4, none⟩ = some (.slice none 0 0) := hb9.cell 4
            exact bodyPost_ret (v := .tuple #[.agg #[.string ⟨#[]⟩, .slice none 0 0, .slice none 0 0, .slice none 0 0, .slice none 0 0], .int .i64 10]) (by simp [results, Try.results27, go_sem, y0, y1, y2, y3, y4]) rfl ⟨⟨none, 0, none, 0, none, 0, none, 0⟩, by rw [HR.out.1, HR.out.2]; rfl, by rw [HR.out.1]; exact (capT_none W9).capM, by rw [HWB.out]; exact hw9 _ _ HW7.out.1 (Nat.le_refl _)⟩
      · have HT2 : Hid (alikeB a l = true ∧ cur = l.flatMap (·.pkts)) := Lib.hid (by have := HT.out; rw [List.take_of_length_le (by omega)] at this; exact this)
        have hcl : cur.length = sumP l := by rw [HT2.out.2, sumP_len]
        have HCL := Lib.hid hcl
        have hc5 : cur.length ≤ 50000 := by omega
        rename World => v6
        by_cases hs1 : 100 < cur.length
        · have hd : decide ((100 : Int) < (cur.length : Int)) = true := decide_eq_true (by omega)
          have hd2 : decide (100 < cur.length) = true := decide_eq_true hs1
          have hje : joinE l = 3 := by rw [HEV.out, HT2.out.1, if_pos rfl, if_pos (by omega)]
          have HR : Hid (joinR l = noC ∧ joinE l = 3) := Lib.hid ⟨by rw [HRV.out, hje]; rfl, hje⟩
          clear hs1 hje hcl
          have z0 : v6.cell? ⟨B, 0, none⟩ = some (.string ⟨#[]⟩) := HW.out.2.1.cell 0
          have f0 : v6.frozen? ⟨B, 0, none⟩ = false := HW.out.2.1.frozen 0
          have z1 : v6.cell? ⟨B, 1, none⟩ = some (.slice none 0 0) := HW.out.2.1.cell 1
          have f1 : v6.frozen? ⟨B, 1, none⟩ = false := HW.out.2.1.frozen 1
          have z2 : v6.cell? ⟨B, 2, none⟩ = some (.slice none 0 0) := HW.out.2.1.cell 2
          have f2 : v6.frozen? ⟨B, 2, none⟩ = false := HW.out.2.1.frozen 2
          have z3 : v6.cell? ⟨B, 3, none⟩ = some (.slice none 0 0) := HW.out.2.1.cell 3
          have f3 : v6.frozen? ⟨B, 3, none⟩ = false := HW.out.2.1.frozen 3
          have z4 : v6.cell? ⟨B, 4, none⟩ = some (.slice none 0 0) := HW.out.2.1.cell 4
          have f4 : v6.frozen? ⟨B, 4, none⟩ = false := HW.out.2.1.frozen 4
          have HEND := Lib.hid (set5 HW.out.2.1 (.string ⟨#[]⟩) (.slice none 0 0) (.slice none 0 0) (.slice none 0 0) (.slice none 0 0))
          go_wp2
          generalize hW9 : (((((v6.setCell ⟨B, 0, none⟩ (.string ⟨#[]⟩)).setCell ⟨B, 1, none⟩ (.slice none 0 0)).setCell ⟨B, 2, none⟩ (.slice none 0 0)).setCell ⟨B, 3, none⟩ (.slice none 0 0)).setCell ⟨B, 4, none⟩ (.slice none 0 0)) = W9 at HEND ⊢
          obtain ⟨hb9, ha9, hw9⟩ := HEND.out
          have y0 : W9.cell? ⟨B, 0, none⟩ = some (.string ⟨#[]⟩) := hb9.cell 0
          have y1 : W9.cell? ⟨B, 1, none⟩ = some (.slice none 0 0) := hb9.cell 1
          have y2 : W9.cell? ⟨B, 2, none⟩ = some (.slice none 0 0) := hb9.cell 2
          have y3 : W9.cell? ⟨B, 3, none⟩ = some (.slice none 0 0) := hb9.cell 3
          have y4 : W9.cell? ⟨B, 4, none⟩ = some (.slice none 0 0) := hb9.cell 4
          exact bodyPost_ret (v := .tuple #[.agg #[.string ⟨#[]⟩, .slice none 0 0, .slice none 0 0, .slice none 0 0, .slice none 0 0], .int .i64 3]) (by simp [results, Try.results27, go_sem, y0, y1, y2, y3, y4]) rfl ⟨⟨none, 0, none, 0, none, 0, none, 0⟩, by rw [HR.out.1, HR.out.2]; rfl, by rw [HR.out.1]; exact (capT_none W9).capM, by rw [HWB.out]; exact hw9 _ _ HW.out.1 (Nat.le_refl _)⟩
        · have hd : decide ((100 : Int) < (cur.length : Int)) = false := decide_eq_false (by omega)
          have hd2 : decide (100 < cur.length) = false := decide_eq_false hs1
          have hje : joinE l = 0 := by rw [HEV.out, HT2.out.1, if_pos rfl, if_neg (by omega)]
          have HXJ : Hid (joinR l = mkC a cur ∧ joinE l = 0) := Lib.hid ⟨by rw [HRV.out, hje, HT2.out.2]; rfl, hje⟩
          clear hs1 hje hcl
          have HC : Hid (Calls Try.prog 65 #[.agg #[.string a.note, .slice pf0 a.faces.length cf0, .slice pn0 a.names.length cn0, .slice ps0 a.secs.length cs0, .slice pp0 a.pkts.length cp0], .slice A2 cur.length c2] v6 fun e w' => e = .returned (.agg #[.string a.note, .slice pf0 a.faces.length cf0, .slice pn0 a.names.length cn0, .slice ps0 a.secs.length cs0, .slice A2 cur.length c2]) ∧ Below v6.heap.size v6 w') := Lib.hid (rwith_any a.note)
          go_wp2_with fail
          with_reducible refine HC.out.mono ?_
          rintro e v9 ⟨rfl, hb9_⟩
          have HO9 := Lib.hid (ownPB_below HO.out hb9_ (by have := HW.out.2.2; omega))
          have HW9 : Hid (Blk v9 B 31 #[.string ⟨#[]⟩, .slice none 0 0, .slice none 0 0, .slice none 0 0, .slice none 0 0] ∧ Below B w v9 ∧ B + 1 ≤ v9.heap.size) := Lib.hid ⟨HW.out.2.1.below hb9_ HW.out.2.1.lt, HW.out.1.trans (hb9_.mono (by have := HW.out.2.2; omega)), Nat.le_trans HW.out.2.2 hb9_.size⟩
          have HK9 : Hid (∀ W, AlikeT 31 v9 W → Below B v9 W → CapM W W.heap.size ⟨pf0, cf0, pn0, cn0, ps0, cs0, A2, c2⟩ (mkC a cur)) := Lib.hid (fun W h1 h2 => by
            have hsz : B ≤ W.heap.size := by have := h2.size; have := HW9.out.2.2; omega
            have h3 := HC0.out.keep ((HV1.out.trans (hb9_.mono (by have := HW.out.2.2; omega))).trans h2) hsz
            exact cap_join (q := ⟨pf0, cf0, pn0, cn0, ps0, cs0, pp0, cp0⟩) (d := a) h3 rfl rfl rfl rfl (ownPB_on HO9.out h2 (fun g cs hB => h1.2 g 50 cs (by decide) hB)) rfl (by omega) hsz)
          clear s5 s6 s7 s8 s9 hb9_ HC HW HO
          have z0 : v9.cell? ⟨B, 0, none⟩ = some (.string ⟨#[]⟩) := HW9.out.1.cell 0
          have f0 : v9.frozen? ⟨B, 0, none⟩ = false := HW9.out.1.frozen 0
          have z1 : v9.cell? ⟨B, 1, none⟩ = some (.slice none 0 0) := HW9.out.1.cell 1
          have f1 : v9.frozen? ⟨B, 1, none⟩ = false := HW9.out.1.frozen 1
          have z2 : v9.cell? ⟨B, 2, none⟩ = some (.slice none 0 0) := HW9.out.1.cell 2
          have f2 : v9.frozen? ⟨B, 2, none⟩ = false := HW9.out.1.frozen 2
          have z3 : v9.cell? ⟨B, 3, none⟩ = some (.slice none 0 0) := HW9.out.1.cell 3
          have f3 : v9.frozen? ⟨B, 3, none⟩ = false := HW9.out.1.frozen 3
          have z4 : v9.cell? ⟨B, 4, none⟩ = some (.slice none 0 0) := HW9.out.1.cell 4
          have f4 : v9.frozen? ⟨B, 4, none⟩ = false := HW9.out.1.frozen 4
          have HEND := Lib.hid (set5 HW9.out.1 (.string a.note) (.slice pf0 a.faces.length cf0) (.slice pn0 a.names.length cn0) (.slice ps0 a.secs.length cs0) (.slice A2 cur.length c2))
          go_wp2
          generalize hW9 : (((((v9.setCell ⟨B, 0, none⟩ (.string a.note)).setCell ⟨B, 1, none⟩ (.slice pf0 a.faces.length cf0)).setCell ⟨B, 2, none⟩ (.slice pn0 a.names.length cn0)).setCell ⟨B, 3, none⟩ (.slice ps0 a.secs.length cs0)).setCell ⟨B, 4, none⟩ (.slice A2 cur.length c2)) = W9 at HEND ⊢
          obtain ⟨hb9, ha9, hw9⟩ := HEND.out
          have y0 : W9.cell? ⟨B, 0, none⟩ = some (.string a.note) := hb9.cell 0
          have y1 : W9.cell? ⟨B, 1, none⟩ = some (.slice pf0 a.faces.length cf0) := hb9.cell 1
          have y2 : W9.cell? ⟨B, 2, none⟩ = some (.slice pn0 a.names.length cn0) := hb9.cell 2
          have y3 : W9.cell? ⟨B, 3, none⟩ = some (.slice ps0 a.secs.length cs0) := hb9.cell 3
          have y4 : W9.cell? ⟨B, 4, none⟩ = some (.slice A2 cur.length c2) := hb9.cell 4
          exact bodyPost_ret (v := .tuple #[.agg #[.string a.note, .slice pf0 a.faces.length cf0, .slice pn0 a.names.length cn0, .slice ps0 a.secs.length cs0, .slice A2 cur.length c2], .int .i64 0]) (by simp [results, Try.results27, go_sem, y0, y1, y2, y3, y4]) rfl ⟨⟨pf0, cf0, pn0, cn0, ps0, cs0, A2, c2⟩, by rw [HXJ.out.1, HXJ.out.2]; rfl, by rw [HXJ.out.1]; exact HK9.out W9 ha9 (hw9 _ _ (Below.refl _ _) (Nat.le_refl _)), by rw [HWB.out]; exact hw9 _ _ HW9.out.2.1 (Nat.le_refl _)⟩
end Go.Proofs.Ytghdilmlfficlaa
