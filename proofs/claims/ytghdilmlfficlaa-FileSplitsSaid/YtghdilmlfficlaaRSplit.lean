/- Split: the reference's. -/
import Derived.Test.YtghdilmlfficlaaRSplM
import Derived.Test.YtghdilmlfficlaaRVald
namespace Go.Proofs.Ytghdilmlfficlaa
open Go.RowKit

set_option maxRecDepth 100000 in
set_option maxHeartbeats 8000000 in
theorem rsplit_ok {w : World} {p : Pl} {c : Cap} {kind n : Int} (hm : CapM w w.heap.size p c) (h1 : errV c = 0) (h2 : argB kind n = false) (_ : n ≤ 9223372036854775807) :
    Calls Try.prog 24 #[capV p c, .int .i64 kind, .int .i64 n] w fun e w' => ∃ A c', e = .returned (.tuple #[.slice A (splitC c kind n).length c', .int .i64 0]) ∧ Els 5 CapE w' w'.heap.size A (splitC c kind n) ∧ Below w.heap.size w w' := by
  obtain ⟨pf, cf, pn, cn, ps, cs, pp, cp⟩ := p
  obtain ⟨B, hB⟩ : ∃ B, w.heap.size = B := ⟨_, rfl⟩
  obtain ⟨w0, e0, s0, g0, b0, k0⟩ := w_box hB #[.string c.note, .slice pf c.faces.length cf, .slice pn c.names.length cn, .slice ps c.secs.length cs, .slice pp c.pkts.length cp] 31
  have hm0 : CapM w0 w0.heap.size ⟨pf, cf, pn, cn, ps, cs, pp, cp⟩ c := hm.keep (by rw [hB]; exact b0) (by rw [s0]; omega)
  have HV := Lib.hid (rvald_any hm0)
  rw [h1] at HV
  have HM0 : Hid (CapM w0 (B + 1) ⟨pf, cf, pn, cn, ps, cs, pp, cp⟩ c) := Lib.hid (by rw [← s0]; exact hm0)
  have HS0 := Lib.hid s0
  have HG0 := Lib.hid g0
  have HB0 := Lib.hid b0
  have HE0 := Lib.hid e0
  have HPK := Lib.hid (errV_pk h1)
  have lp : c.pkts.length ≤ 100 := errV_plen h1
  have ha' := of_decide_eq_false h2
  have d1 : decide (kind < 0) = false := decide_eq_false (by omega)
  have d2 : decide (2 < kind) = false := decide_eq_false (by omega)
  have d3 : decide (n < 1) = false := decide_eq_false (by omega)
  have HA := Lib.hid h2
  clear e0 s0 g0 b0 k0 hm hm0 h1 h2 ha'
  rw [hB]
  unfold capV at HV ⊢
  go_enter Try.func24, Try.ntmps24
  go_wp2_with fail
  rw [HE0.out]
  with_reducible refine HV.out.mono ?_
  rintro e v1 ⟨rfl, hb1⟩
  have hsz1 : B + 1 ≤ v1.heap.size := by have := hb1.size; rw [HS0.out] at this; exact this
  have HB1 : Hid (Below (B + 1) w0 v1) := Lib.hid (by rw [← HS0.out]; exact hb1)
  have HG1 : Hid (Blk v1 B 31 #[.string c.note, .slice pf c.faces.length cf, .slice pn c.names.length cn, .slice ps c.secs.length cs, .slice pp c.pkts.length cp]) := Lib.hid (HG0.out.below hb1 HG0.out.lt)
  clear HE0 HV hb1 hB
  have l4 : v1.cell? ⟨B, 4, none⟩ = some (.slice pp c.pkts.length cp) := HG1.out.cell 4
  go_wp2_with fail
  go_loopw [9, 10, 11] (fun v u i wr => ∃ (A : Option Addr) (cc : Nat) (D : List Cap) (rows : List (List Value)) (A2 : Option Addr) (c2 : Nat) (cur : List Pkt) (rows2 : List (List Value)) (k : Nat), v = .slice A D.length cc ∧ u = .slice A2 cur.length c2 ∧ i = .int .i64 k ∧ k ≤ c.pkts.length ∧ Hid (OwnL wr (B + 1) 31 5 (KTE (B + 1) (Value.slice A2 cur.length c2).ownBlock) (.slice A D.length cc) D rows) ∧ Hid (OwnL wr (B + 1) 50 5 (PB (B + 1)) (.slice A2 cur.length c2) cur rows2) ∧ Hid (D.length ≤ k) ∧ cur.length ≤ k ∧ Hid (∀ p ∈ cur, PkOk p) ∧ Hid (splitC c kind n = D ++ (splitL (fullR kind n) cur (c.pkts.drop k)).map (mkC c)) ∧ Hid (Below (B + 1) w0 wr ∧ B + 1 ≤ wr.heap.size ∧ Blk wr B 31 #[.string c.note, .slice pf c.faces.length cf, .slice pn c.names.length cn, .slice ps c.secs.length cs, .slice pp c.pkts.length cp])) (fun _ _ i _ => c.pkts.length - (intOf i).toNat)
  case atStart => exact ⟨none, 0, [], [], none, 0, [], [], 0, rfl, rfl, rfl, Nat.zero_le _, Lib.hid (OwnL.nil _ _ _ _ _), Lib.hid (OwnL.nil _ _ _ _ _), Lib.hid (Nat.le_refl _), Nat.le_refl _, Lib.hid (by simp), Lib.hid rfl, Lib.hid ⟨HB1.out, hsz1, HG1.out⟩⟩
  case round =>
    obtain ⟨A, cc, D, rows, A2, c2, cur, rows2, k, rfl, rfl, rfl, hk, HO, HN, HDL, hcur, HP, HS, HW⟩ := hrel
    clear l4
    by_cases hlt : k < c.pkts.length
    · have HMr : Hid (CapM wr wr.heap.size ⟨pf, cf, pn, cn, ps, cs, pp, cp⟩ c) := Lib.hid (HM0.out.keep HW.out.1 HW.out.2.1)
      obtain ⟨b, o, hA, hb, vs, hvl, hE, hcell⟩ := HM0.out.pkts.row k hlt
      obtain ⟨Dx, dc, rfl, hby, _, _, _, _⟩ := hE
      have hcp := HMr.out.lp.1
      dsimp only at hA hcp
      subst hA
      have hxp := HPK.out _ (List.getElem_mem hlt)
      have hYes := Lib.hid (fun (hne : cur ≠ []) h => split_yes (F := fullR kind n) hlt hne h)
      have hNo := Lib.hid (fun h => split_no (F := fullR kind n) (now := cur) hlt h)
      have hpe : PktE c.pkts[k] w0 (B + 1) [.int .i64 c.pkts[k].time, .int .i64 c.pkts[k].face, .int .i64 c.pkts[k].real, .slice Dx c.pkts[k].data.length dc, .string c.pkts[k].note] := ⟨Dx, dc, rfl, hby, by assumption, by assumption, by assumption, by assumption⟩
      obtain ⟨x, hx⟩ : ∃ x, c.pkts[k] = x := ⟨_, rfl⟩
      rw [hx] at hxp hYes hNo hpe hcell
      have HE := Lib.hid hpe
      have HBW : Hid (∀ W, Below (B + 1) w0 W → Below (B + 1) w0 W) := Lib.hid (fun _ h => h)
      have HQ : Hid (∀ W, Below (B + 1) w0 W → W.cell? ⟨b, o + k * 5, none⟩ = some (.int .i64 x.time) ∧ W.cell? ⟨b, o + k * 5 + 1, none⟩ = some (.int .i64 x.face) ∧ W.cell? ⟨b, o + k * 5 + 2, none⟩ = some (.int .i64 x.real) ∧ W.cell? ⟨b, o + k * 5 + 3, none⟩ = some (.slice Dx x.data.length dc) ∧ W.cell? ⟨b, o + k * 5 + 4, none⟩ = some (.string x.note)) := Lib.hid (fun W hW =>
        ⟨(hW.cell (p := ⟨b, o + k * 5, none⟩) hb).trans (hcell 0 _ rfl), (hW.cell (p := ⟨b, o + k * 5 + 1, none⟩) hb).trans (hcell 1 _ rfl), (hW.cell (p := ⟨b, o + k * 5 + 2, none⟩) hb).trans (hcell 2 _ rfl), (hW.cell (p := ⟨b, o + k * 5 + 3, none⟩) hb).trans (hcell 3 _ rfl), (hW.cell (p := ⟨b, o + k * 5 + 4, none⟩) hb).trans (hcell 4 _ rfl)⟩)
      have HXP := Lib.hid hxp
      clear hcell hpe hxp hx hvl hby hb
      by_cases hc0 : 0 < cur.length
      · have hg1 : decide (0 < (cur.length : Int)) = true := decide_eq_true (by omega)
        have hg2 : decide (0 < cur.length) = true := decide_eq_true hc0
        have HI := Lib.hid (begins_any (w := wr) (Ax := Dx) (c := c2) (cx := dc) (kind := kind) (n := n) (x := x) (part := cur) (ownPB_els HN.out HW.out.2.1) (fun e => by rw [e] at hc0; simp at hc0) (by omega) HP.out HXP.out HA.out)
        unfold pV at HI
        have HNE : Hid (cur ≠ []) := Lib.hid (fun e => by rw [e] at hc0; simp at hc0)
        obtain ⟨q, hq⟩ : ∃ q, fullR kind n cur x = q := ⟨_, rfl⟩
        rw [hq] at HI hYes hNo
        clear hq
        have c0 := (HQ.out wr HW.out.1).1
        have c1 := (HQ.out wr HW.out.1).2.1
        have c2_ := (HQ.out wr HW.out.1).2.2.1
        have c3 := (HQ.out wr HW.out.1).2.2.2.1
        have c4 := (HQ.out wr HW.out.1).2.2.2.2
        have l0 : wr.cell? ⟨B, 0, none⟩ = some (.string c.note) := HW.out.2.2.cell 0
        have l1 : wr.cell? ⟨B, 1, none⟩ = some (.slice pf c.faces.length cf) := HW.out.2.2.cell 1
        have l2 : wr.cell? ⟨B, 2, none⟩ = some (.slice pn c.names.length cn) := HW.out.2.2.cell 2
        have l3 : wr.cell? ⟨B, 3, none⟩ = some (.slice ps c.secs.length cs) := HW.out.2.2.cell 3
        have l4 : wr.cell? ⟨B, 4, none⟩ = some (.slice (some ⟨b, o, none⟩) c.pkts.length cp) := HW.out.2.2.cell 4
        go_wp2_with fail
        with_reducible refine HI.out.mono ?_
        rintro e w2 ⟨rfl, hb2⟩
        have HO2 := Lib.hid (ownC_below HO.out hb2 HW.out.2.1)
        have HN2 := Lib.hid (ownPB_below HN.out hb2 HW.out.2.1)
        have HW2 : Hid (Below (B + 1) w0 w2 ∧ B + 1 ≤ w2.heap.size ∧ Blk w2 B 31 #[.string c.note, .slice pf c.faces.length cf, .slice pn c.names.length cn, .slice ps c.secs.length cs, .slice (some ⟨b, o, none⟩) c.pkts.length cp]) := Lib.hid ⟨HW.out.1.trans (hb2.mono HW.out.2.1), by have := hb2.size; have := HW.out.2.1; omega, HW.out.2.2.below hb2 HW.out.2.2.lt⟩
        clear HI HO HN HW HMr hb2 l0 l1 l2 l3 l4 c0 c1 c2_ c3 c4 hg1 hg2
        cases q with
        | false =>
          have HS2 : Hid (splitC c kind n = D ++ (splitL (fullR kind n) (cur ++ [x]) (c.pkts.drop (k + 1))).map (mkC c)) := Lib.hid (by rw [HS.out, hNo.out (Or.inr rfl)])
          clear HS hYes hNo
          have HE8 : Hid (PktE x w2 (B + 1) [.int .i64 x.time, .int .i64 x.face, .int .i64 x.real, .slice Dx x.data.length dc, .string x.note]) := Lib.hid (pktK _ _ _ _ _ _ HE.out (HBW.out w2 HW2.out.1) (Nat.le_refl _))
          have c0 : w2.cell? ⟨b, o + k * 5, none⟩ = some (.int .i64 x.time) := (HQ.out w2 HW2.out.1).1
          have c1 : w2.cell? ⟨b, o + k * 5 + 1, none⟩ = some (.int .i64 x.face) := (HQ.out w2 HW2.out.1).2.1
          have c2_ : w2.cell? ⟨b, o + k * 5 + 2, none⟩ = some (.int .i64 x.real) := (HQ.out w2 HW2.out.1).2.2.1
          have c3 : w2.cell? ⟨b, o + k * 5 + 3, none⟩ = some (.slice Dx x.data.length dc) := (HQ.out w2 HW2.out.1).2.2.2.1
          have c4 : w2.cell? ⟨b, o + k * 5 + 4, none⟩ = some (.string x.note) := (HQ.out w2 HW2.out.1).2.2.2.2
          have l0 : w2.cell? ⟨B, 0, none⟩ = some (.string c.note) := HW2.out.2.2.cell 0
          have l1 : w2.cell? ⟨B, 1, none⟩ = some (.slice pf c.faces.length cf) := HW2.out.2.2.cell 1
          have l2 : w2.cell? ⟨B, 2, none⟩ = some (.slice pn c.names.length cn) := HW2.out.2.2.cell 2
          have l3 : w2.cell? ⟨B, 3, none⟩ = some (.slice ps c.secs.length cs) := HW2.out.2.2.cell 3
          have l4 : w2.cell? ⟨B, 4, none⟩ = some (.slice (some ⟨b, o, none⟩) c.pkts.length cp) := HW2.out.2.2.cell 4
          obtain ⟨v8, w8, hrun8, ho8, hg8, hv8⟩ := run_own_struct w2 (B + 1) 50 5 64 29 _ Try.underlying29 info47 (by rfl) (by decide) (.slice A2 cur.length c2) _ _ HN2.out.own [.int .i64 x.time, .int .i64 x.face, .int .i64 x.real, .slice Dx x.data.length dc, .string x.note] rfl (by
            intro u hu; simp only [List.mem_cons, List.not_mem_nil, or_false] at hu; rcases hu with rfl | rfl | rfl | rfl | rfl <;> rfl) (by unfold maxLen; omega) (by omega) HW2.out.2.1
          obtain ⟨A8, c8, rfl⟩ := own_slice ho8 (by omega)
          obtain ⟨hO8, hN8, hB8⟩ := part_put (x := x) HO2.out HN2.out ho8 hg8 hv8 HE8.out rfl (by
            intro u hu; simp only [List.mem_cons, List.not_mem_nil, or_false] at hu; rcases hu with rfl | rfl | rfl | rfl | rfl <;> rfl) HW2.out.2.1
          have HO8 := Lib.hid hO8
          have HN8 := Lib.hid hN8
          have HW8 : Hid (Below (B + 1) w0 w8 ∧ B + 1 ≤ w8.heap.size ∧ Blk w8 B 31 #[.string c.note, .slice pf c.faces.length cf, .slice pn c.names.length cn, .slice ps c.secs.length cs, .slice (some ⟨b, o, none⟩) c.pkts.length cp]) := Lib.hid ⟨HW2.out.1.trans hB8, by have := hB8.size; have := HW2.out.2.1; omega, HW2.out.2.2.below hB8 (by omega)⟩
          clear ho8 hg8 hO8 hN8 hB8 hv8
          clear HO2 HN2 HW2
          go_wp2_with (at_builtin; refine Lib.wpList_append_run _ rfl _ _ _ _ rfl _ _ rfl rfl _ _ hrun8 ?_)
          go_roundw
          case rel => exact ⟨A, cc, D, rows, A8, c8, cur ++ [x], _, k + 1, rfl, by rw [List.length_append]; rfl, by go_num, by omega, Lib.hid (by rw [List.length_append]; exact HO8.out), Lib.hid (by rw [List.length_append]; exact HN8.out), Lib.hid (by have := HDL.out; omega), by rw [List.length_append]; simp; omega, Lib.hid (fun p hp => by rcases List.mem_append.1 hp with h | h; exact HP.out p h; rw [List.mem_singleton] at h; rw [h]; exact HXP.out), HS2, HW8⟩
          case measure => simp [intOf]; omega
        | true =>
          have HS2 : Hid (splitC c kind n = (D ++ [mkC c cur]) ++ (splitL (fullR kind n) [x] (c.pkts.drop (k + 1))).map (mkC c)) := Lib.hid (by rw [HS.out, hYes.out HNE.out rfl, List.map_cons]; simp)
          clear HS hYes hNo
          have HC : Hid (Calls Try.prog 65 #[.agg #[.string c.note, .slice pf c.faces.length cf, .slice pn c.names.length cn, .slice ps c.secs.length cs, .slice (some ⟨b, o, none⟩) c.pkts.length cp], .slice A2 cur.length c2] w2 fun e w' => e = .returned (.agg #[.string c.note, .slice pf c.faces.length cf, .slice pn c.names.length cn, .slice ps c.secs.length cs, .slice A2 cur.length c2]) ∧ Below w2.heap.size w2 w') := Lib.hid (rwith_any c.note)
          have l0 : w2.cell? ⟨B, 0, none⟩ = some (.string c.note) := HW2.out.2.2.cell 0
          have l1 : w2.cell? ⟨B, 1, none⟩ = some (.slice pf c.faces.length cf) := HW2.out.2.2.cell 1
          have l2 : w2.cell? ⟨B, 2, none⟩ = some (.slice pn c.names.length cn) := HW2.out.2.2.cell 2
          have l3 : w2.cell? ⟨B, 3, none⟩ = some (.slice ps c.secs.length cs) := HW2.out.2.2.cell 3
          have l4 : w2.cell? ⟨B, 4, none⟩ = some (.slice (some ⟨b, o, none⟩) c.pkts.length cp) := HW2.out.2.2.cell 4
          go_wp2_with fail
          with_reducible refine HC.out.mono ?_
          rintro e w3 ⟨rfl, hb3⟩
          have HO3 := Lib.hid (ownC_below HO2.out hb3 HW2.out.2.1)
          have HN3 := Lib.hid (ownPB_below HN2.out hb3 HW2.out.2.1)
          have HW3 : Hid (Below (B + 1) w0 w3 ∧ B + 1 ≤ w3.heap.size ∧ Blk w3 B 31 #[.string c.note, .slice pf c.faces.length cf, .slice pn c.names.length cn, .slice ps c.secs.length cs, .slice (some ⟨b, o, none⟩) c.pkts.length cp]) := Lib.hid ⟨HW2.out.1.trans (hb3.mono HW2.out.2.1), by have := hb3.size; have := HW2.out.2.1; omega, HW2.out.2.2.below hb3 HW2.out.2.2.lt⟩
          have HX3 := Lib.hid (part_kt (G := none) HM0.out HW3.out.1 HN3.out rfl (by omega) HW3.out.2.1 rfl)
          clear hb3 HC HO2 HW2 HN2 HN3 l0 l1 l2 l3 l4
          obtain ⟨v7, w7, hrun, ho7, hg7, _⟩ := run_own_struct w3 (B + 1) 31 5 112 22 _ Try.underlying22 capInfo (by rfl) (by decide) _ _ _ HO3.out.own [.string c.note, .slice pf c.faces.length cf, .slice pn c.names.length cn, .slice ps c.secs.length cs, .slice A2 cur.length c2] rfl (by
            intro u hu; simp only [List.mem_cons, List.not_mem_nil, or_false] at hu; rcases hu with rfl | rfl | rfl | rfl | rfl <;> rfl) (by have := HDL.out; unfold maxLen; omega) (by have := HDL.out; omega) HW3.out.2.1
          obtain ⟨A7, c7, rfl⟩ := own_slice ho7 (by omega)
          obtain ⟨hO7, hB7⟩ := rsplit_put HO3.out HX3.out ho7 hg7 HW3.out.2.1
          have HO7 := Lib.hid hO7
          have HW7 : Hid (Below (B + 1) w0 w7 ∧ B + 1 ≤ w7.heap.size ∧ Blk w7 B 31 #[.string c.note, .slice pf c.faces.length cf, .slice pn c.names.length cn, .slice ps c.secs.length cs, .slice (some ⟨b, o, none⟩) c.pkts.length cp]) := Lib.hid ⟨HW3.out.1.trans hB7, by have := hB7.size; have := HW3.out.2.1; omega, HW3.out.2.2.below hB7 (by omega)⟩
          clear ho7 hg7 hO7 hB7 HO3 HX3 HW3
          have HN7 : Hid (OwnL w7 (B + 1) 50 5 (PB (B + 1)) (.slice none 0 0) ([] : List Pkt) []) := Lib.hid (OwnL.nil _ _ _ _ _)
          have HE8 : Hid (PktE x w7 (B + 1) [.int .i64 x.time, .int .i64 x.face, .int .i64 x.real, .slice Dx x.data.length dc, .string x.note]) := Lib.hid (pktK _ _ _ _ _ _ HE.out (HBW.out w7 HW7.out.1) (Nat.le_refl _))
          have c0 : w7.cell? ⟨b, o + k * 5, none⟩ = some (.int .i64 x.time) := (HQ.out w7 HW7.out.1).1
          have c1 : w7.cell? ⟨b, o + k * 5 + 1, none⟩ = some (.int .i64 x.face) := (HQ.out w7 HW7.out.1).2.1
          have c2_ : w7.cell? ⟨b, o + k * 5 + 2, none⟩ = some (.int .i64 x.real) := (HQ.out w7 HW7.out.1).2.2.1
          have c3 : w7.cell? ⟨b, o + k * 5 + 3, none⟩ = some (.slice Dx x.data.length dc) := (HQ.out w7 HW7.out.1).2.2.2.1
          have c4 : w7.cell? ⟨b, o + k * 5 + 4, none⟩ = some (.string x.note) := (HQ.out w7 HW7.out.1).2.2.2.2
          have l0 : w7.cell? ⟨B, 0, none⟩ = some (.string c.note) := HW7.out.2.2.cell 0
          have l1 : w7.cell? ⟨B, 1, none⟩ = some (.slice pf c.faces.length cf) := HW7.out.2.2.cell 1
          have l2 : w7.cell? ⟨B, 2, none⟩ = some (.slice pn c.names.length cn) := HW7.out.2.2.cell 2
          have l3 : w7.cell? ⟨B, 3, none⟩ = some (.slice ps c.secs.length cs) := HW7.out.2.2.cell 3
          have l4 : w7.cell? ⟨B, 4, none⟩ = some (.slice (some ⟨b, o, none⟩) c.pkts.length cp) := HW7.out.2.2.cell 4
          obtain ⟨v8, w8, hrun8, ho8, hg8, hv8⟩ := run_own_struct w7 (B + 1) 50 5 64 29 _ Try.underlying29 info47 (by rfl) (by decide) (.slice none 0 0) _ _ HN7.out.own [.int .i64 x.time, .int .i64 x.face, .int .i64 x.real, .slice Dx x.data.length dc, .string x.note] rfl (by
            intro u hu; simp only [List.mem_cons, List.not_mem_nil, or_false] at hu; rcases hu with rfl | rfl | rfl | rfl | rfl <;> rfl) (by unfold maxLen; simp) (by simp) HW7.out.2.1
          obtain ⟨A8, c8, rfl⟩ := own_slice ho8 (by omega)
          obtain ⟨hO8, hN8, hB8⟩ := part_put (x := x) HO7.out HN7.out ho8 hg8 hv8 HE8.out rfl (by
            intro u hu; simp only [List.mem_cons, List.not_mem_nil, or_false] at hu; rcases hu with rfl | rfl | rfl | rfl | rfl <;> rfl) HW7.out.2.1
          have HO8 := Lib.hid hO8
          have HN8 := Lib.hid hN8
          have HW8 : Hid (Below (B + 1) w0 w8 ∧ B + 1 ≤ w8.heap.size ∧ Blk w8 B 31 #[.string c.note, .slice pf c.faces.length cf, .slice pn c.names.length cn, .slice ps c.secs.length cs, .slice (some ⟨b, o, none⟩) c.pkts.length cp]) := Lib.hid ⟨HW7.out.1.trans hB8, by have := hB8.size; have := HW7.out.2.1; omega, HW7.out.2.2.below hB8 (by omega)⟩
          clear ho8 hg8 hO8 hN8 hB8 hv8
          go_wp2_with (first | (at_builtin; refine Lib.wpList_append_run _ rfl _ _ _ _ rfl _ _ rfl rfl _ _ hrun ?_) | (at_builtin; refine Lib.wpList_append_run _ rfl _ _ _ _ rfl _ _ rfl rfl _ _ hrun8 ?_))
          go_roundw
          case rel => exact ⟨A7, c7, D ++ [mkC c cur], _, A8, c8, [x], _, k + 1, by rw [List.length_append]; rfl, rfl, by go_num, by omega, Lib.hid (by rw [List.length_append]; exact HO8.out), Lib.hid HN8.out, Lib.hid (by have := HDL.out; rw [List.length_append]; simp; omega), by simp, Lib.hid (fun p hp => by rw [List.mem_singleton] at hp; rw [hp]; exact HXP.out), HS2, HW8⟩
          case measure => simp [intOf]; omega
      · have hcn : cur = [] := by cases cur with | nil => rfl | cons => simp at hc0
        have HS2 : Hid (splitC c kind n = D ++ (splitL (fullR kind n) (cur ++ [x]) (c.pkts.drop (k + 1))).map (mkC c)) := Lib.hid (by rw [HS.out, hNo.out (Or.inl hcn)])
        have hg1 : decide (0 < (cur.length : Int)) = false := decide_eq_false (by omega)
        have hg2 : decide (0 < cur.length) = false := decide_eq_false hc0
        clear HS hYes hNo HMr hcn
        have HE8 : Hid (PktE x wr (B + 1) [.int .i64 x.time, .int .i64 x.face, .int .i64 x.real, .slice Dx x.data.length dc, .string x.note]) := Lib.hid (pktK _ _ _ _ _ _ HE.out (HBW.out wr HW.out.1) (Nat.le_refl _))
        have c0 : wr.cell? ⟨b, o + k * 5, none⟩ = some (.int .i64 x.time) := (HQ.out wr HW.out.1).1
        have c1 : wr.cell? ⟨b, o + k * 5 + 1, none⟩ = some (.int .i64 x.face) := (HQ.out wr HW.out.1).2.1
        have c2_ : wr.cell? ⟨b, o + k * 5 + 2, none⟩ = some (.int .i64 x.real) := (HQ.out wr HW.out.1).2.2.1
        have c3 : wr.cell? ⟨b, o + k * 5 + 3, none⟩ = some (.slice Dx x.data.length dc) := (HQ.out wr HW.out.1).2.2.2.1
        have c4 : wr.cell? ⟨b, o + k * 5 + 4, none⟩ = some (.string x.note) := (HQ.out wr HW.out.1).2.2.2.2
        have l0 : wr.cell? ⟨B, 0, none⟩ = some (.string c.note) := HW.out.2.2.cell 0
        have l1 : wr.cell? ⟨B, 1, none⟩ = some (.slice pf c.faces.length cf) := HW.out.2.2.cell 1
        have l2 : wr.cell? ⟨B, 2, none⟩ = some (.slice pn c.names.length cn) := HW.out.2.2.cell 2
        have l3 : wr.cell? ⟨B, 3, none⟩ = some (.slice ps c.secs.length cs) := HW.out.2.2.cell 3
        have l4 : wr.cell? ⟨B, 4, none⟩ = some (.slice (some ⟨b, o, none⟩) c.pkts.length cp) := HW.out.2.2.cell 4
        obtain ⟨v8, w8, hrun8, ho8, hg8, hv8⟩ := run_own_struct wr (B + 1) 50 5 64 29 _ Try.underlying29 info47 (by rfl) (by decide) (.slice A2 cur.length c2) _ _ HN.out.own [.int .i64 x.time, .int .i64 x.face, .int .i64 x.real, .slice Dx x.data.length dc, .string x.note] rfl (by
          intro u hu; simp only [List.mem_cons, List.not_mem_nil, or_false] at hu; rcases hu with rfl | rfl | rfl | rfl | rfl <;> rfl) (by unfold maxLen; omega) (by omega) HW.out.2.1
        obtain ⟨A8, c8, rfl⟩ := own_slice ho8 (by omega)
        obtain ⟨hO8, hN8, hB8⟩ := part_put (x := x) HO.out HN.out ho8 hg8 hv8 HE8.out rfl (by
          intro u hu; simp only [List.mem_cons, List.not_mem_nil, or_false] at hu; rcases hu with rfl | rfl | rfl | rfl | rfl <;> rfl) HW.out.2.1
        have HO8 := Lib.hid hO8
        have HN8 := Lib.hid hN8
        have HW8 : Hid (Below (B + 1) w0 w8 ∧ B + 1 ≤ w8.heap.size ∧ Blk w8 B 31 #[.string c.note, .slice pf c.faces.length cf, .slice pn c.names.length cn, .slice ps c.secs.length cs, .slice (some ⟨b, o, none⟩) c.pkts.length cp]) := Lib.hid ⟨HW.out.1.trans hB8, by have := hB8.size; have := HW.out.2.1; omega, HW.out.2.2.below hB8 (by omega)⟩
        clear ho8 hg8 hO8 hN8 hB8 hv8
        clear HO HN HW
        go_wp2_with (at_builtin; refine Lib.wpList_append_run _ rfl _ _ _ _ rfl _ _ rfl rfl _ _ hrun8 ?_)
        go_roundw
        case rel => exact ⟨A, cc, D, rows, A8, c8, cur ++ [x], _, k + 1, rfl, by rw [List.length_append]; rfl, by go_num, by omega, Lib.hid (by rw [List.length_append]; exact HO8.out), Lib.hid (by rw [List.length_append]; exact HN8.out), Lib.hid (by have := HDL.out; omega), by rw [List.length_append]; simp; omega, Lib.hid (fun p hp => by rcases List.mem_append.1 hp with h | h; exact HP.out p h; rw [List.mem_singleton] at h; rw [h]; exact HXP.out), HS2, HW8⟩
        case measure => simp [intOf]; omega
    · have HR : Hid (splitC c kind n = D ++ [mkC c cur]) := Lib.hid (by rw [HS.out, split_end (by omega)]; rfl)
      rename World => w2
      have HO2 := HO
      have HN2 := HN
      have HW2 := HW
      clear HO HN HW HS
      have HC : Hid (Calls Try.prog 65 #[.agg #[.string c.note, .slice pf c.faces.length cf, .slice pn c.names.length cn, .slice ps c.secs.length cs, .slice pp c.pkts.length cp], .slice A2 cur.length c2] w2 fun e w' => e = .returned (.agg #[.string c.note, .slice pf c.faces.length cf, .slice pn c.names.length cn, .slice ps c.secs.length cs, .slice A2 cur.length c2]) ∧ Below w2.heap.size w2 w') := Lib.hid (rwith_any c.note)
      have l0 : w2.cell? ⟨B, 0, none⟩ = some (.string c.note) := HW2.out.2.2.cell 0
      have l1 : w2.cell? ⟨B, 1, none⟩ = some (.slice pf c.faces.length cf) := HW2.out.2.2.cell 1
      have l2 : w2.cell? ⟨B, 2, none⟩ = some (.slice pn c.names.length cn) := HW2.out.2.2.cell 2
      have l3 : w2.cell? ⟨B, 3, none⟩ = some (.slice ps c.secs.length cs) := HW2.out.2.2.cell 3
      have l4 : w2.cell? ⟨B, 4, none⟩ = some (.slice pp c.pkts.length cp) := HW2.out.2.2.cell 4
      go_wp2_with fail
      with_reducible refine HC.out.mono ?_
      rintro e w3 ⟨rfl, hb3⟩
      have HO3 := Lib.hid (ownC_below HO2.out hb3 HW2.out.2.1)
      have HN3 := Lib.hid (ownPB_below HN2.out hb3 HW2.out.2.1)
      have HW3 : Hid (Below (B + 1) w0 w3 ∧ B + 1 ≤ w3.heap.size ∧ Blk w3 B 31 #[.string c.note, .slice pf c.faces.length cf, .slice pn c.names.length cn, .slice ps c.secs.length cs, .slice pp c.pkts.length cp]) := Lib.hid ⟨HW2.out.1.trans (hb3.mono HW2.out.2.1), by have := hb3.size; have := HW2.out.2.1; omega, HW2.out.2.2.below hb3 HW2.out.2.2.lt⟩
      have HX3 := Lib.hid (part_kt (G := none) HM0.out HW3.out.1 HN3.out rfl (by omega) HW3.out.2.1 rfl)
      clear hb3 HC HO2 HW2 HN2 HN3 l0 l1 l2 l3 l4
      obtain ⟨v7, w7, hrun, ho7, hg7, _⟩ := run_own_struct w3 (B + 1) 31 5 112 22 _ Try.underlying22 capInfo (by rfl) (by decide) _ _ _ HO3.out.own [.string c.note, .slice pf c.faces.length cf, .slice pn c.names.length cn, .slice ps c.secs.length cs, .slice A2 cur.length c2] rfl (by
        intro u hu; simp only [List.mem_cons, List.not_mem_nil, or_false] at hu; rcases hu with rfl | rfl | rfl | rfl | rfl <;> rfl) (by have := HDL.out; unfold maxLen; omega) (by have := HDL.out; omega) HW3.out.2.1
      obtain ⟨A7, c7, rfl⟩ := own_slice ho7 (by omega)
      obtain ⟨hO7, hB7⟩ := rsplit_put HO3.out HX3.out ho7 hg7 HW3.out.2.1
      have HO7 := Lib.hid hO7
      have HW7 : Hid (Below (B + 1) w0 w7 ∧ B + 1 ≤ w7.heap.size ∧ Blk w7 B 31 #[.string c.note, .slice pf c.faces.length cf, .slice pn c.names.length cn, .slice ps c.secs.length cs, .slice pp c.pkts.length cp]) := Lib.hid ⟨HW3.out.1.trans hB7, by have := hB7.size; have := HW3.out.2.1; omega, HW3.out.2.2.below hB7 (by omega)⟩
      clear ho7 hg7 hO7 hB7 HO3 HX3 HW3
      go_wp2_with (at_builtin; refine Lib.wpList_append_run _ rfl _ _ _ _ rfl _ _ rfl rfl _ _ hrun ?_)
      go_ret2
      rw [HR.out]
      refine ⟨A7, c7, by rw [List.length_append]; rfl, ownC_els (n := D.length + 1) HO7.out, ?_⟩
      exact HB0.out.trans (HW7.out.1.mono (by omega))
end Go.Proofs.Ytghdilmlfficlaa
