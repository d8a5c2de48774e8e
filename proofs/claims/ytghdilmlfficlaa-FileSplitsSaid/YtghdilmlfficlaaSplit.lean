/- Split: the program's. -/
import Derived.Test.YtghdilmlfficlaaSplM
import Derived.Test.YtghdilmlfficlaaMerge
namespace Go.Proofs.Ytghdilmlfficlaa
open Go.RowKit

/-- One more capture is appended. -/
theorem split_put {M : Nat} {w3 w7 : World} {v v7 : Value} {D : List Cap} {rows : List (List Value)} {X : Cap} {q : Pl} (h : OwnL w3 M 31 5 (KTE M none) v D rows) (hx : CapT w3 q X)
    (ho : w7.ownsRow M 31 5 v7 (D.length + 1) (rows.flatten ++ capL q X)) (hg : (w3.alloc (.cells (capL q X).toArray 31)).grownBy w7 v.ownBlock) (hM : M ≤ w3.heap.size) :
    OwnL w7 M 31 5 (KTE M none) v7 (D ++ [X]) (rows ++ [capL q X]) ∧ Below M w3 w7 := by
  have hb : Below w3.heap.size w3 (w3.alloc (.cells (capL q X).toArray 31)) := (Below.refl _ _).alloc (Nat.le_refl _) _
  have h' := ownC_below h hb hM
  have ha : AlikeT 31 (w3.alloc (.cells (capL q X).toArray 31)) w7 := AlikeT.grown h'.own hg
  have hb7 : Below M (w3.alloc (.cells (capL q X).toArray 31)) w7 := (Below.refl _ _).grown hg (by rw [alloc_size]; omega) (fun k hk => (h'.own.lt _ hk).1)
  exact ⟨ownC_snoc h' ho (KT.of_capT (hx.keep (Alike.below hb))) hb7 (fun g t cs ht _ hB => ⟨by simp, ha.2 g t cs ht hB⟩), (hb.mono hM).trans hb7⟩

set_option maxRecDepth 100000 in
set_option maxHeartbeats 8000000 in
theorem split_ok {w : World} {p : Pl} {c : Cap} {kind n : Int} (hm : CapM w w.heap.size p c) (h1 : errV c = 0) (h2 : argB kind n = false) (hn : n ≤ 9223372036854775807) :
    Calls Try.prog 23 #[capV p c, .int .i64 kind, .int .i64 n] w fun e w' => ∃ A c', e = .returned (.tuple #[.slice A (splitC c kind n).length c', .int .i64 0]) ∧ Els 5 CapE w' w'.heap.size A (splitC c kind n) ∧ Below w.heap.size w w' := by
  obtain ⟨pf, cf, pn, cn, ps, cs, pp, cp⟩ := p
  obtain ⟨B, hB⟩ : ∃ B, w.heap.size = B := ⟨_, rfl⟩
  obtain ⟨w0, e0, s0, g0, b0, k0⟩ := w_box hB #[.string c.note, .slice pf c.faces.length cf, .slice pn c.names.length cn, .slice ps c.secs.length cs, .slice pp c.pkts.length cp] 31
  have hm0 : CapM w0 w0.heap.size ⟨pf, cf, pn, cn, ps, cs, pp, cp⟩ c := hm.keep (by rw [hB]; exact b0) (by rw [s0]; omega)
  have HV := Lib.hid (vald_any hm0)
  rw [h1] at HV
  have HM0 : Hid (CapM w0 (B + 1) ⟨pf, cf, pn, cn, ps, cs, pp, cp⟩ c) := Lib.hid (by rw [← s0]; exact hm0)
  have HS0 := Lib.hid s0
  have HG0 := Lib.hid g0
  have HB0 := Lib.hid b0
  have HE0 := Lib.hid e0
  have HPK := Lib.hid (errV_pk h1)
  have lp : c.pkts.length ≤ 100 := errV_plen h1
  have ha' := of_decide_eq_false h2
  have d1 : decide (kind < 0) = false := decide_eq_false (by omega)
  have d2 : decide (2 < kind) = false := decide_eq_false (by omega)
  have d3 : decide (n < 1) = false := decide_eq_false (by omega)
  have HA := Lib.hid h2
  have HN1 : Hid (1 ≤ n) := Lib.hid (by omega)
  clear e0 s0 g0 b0 k0 hm hm0 h1 h2 ha'
  rw [hB]
  unfold capV at HV ⊢
  go_enter Try.func23, Try.ntmps23
  go_wp2_with fail
  rw [HE0.out]
  with_reducible refine HV.out.mono ?_
  rintro e v1 ⟨rfl, hb1⟩
  have hsz1 : B + 1 ≤ v1.heap.size := by have := hb1.size; rw [HS0.out] at this; exact this
  have HB1 : Hid (Below (B + 1) w0 v1) := Lib.hid (by rw [← HS0.out]; exact hb1)
  have HG1 : Hid (Blk v1 B 31 #[.string c.note, .slice pf c.faces.length cf, .slice pn c.names.length cn, .slice ps c.secs.length cs, .slice pp c.pkts.length cp]) := Lib.hid (HG0.out.below hb1 HG0.out.lt)
  clear HE0 HV hb1 hB
  have l4 : v1.cell? ⟨B, 4, none⟩ = some (.slice pp c.pkts.length cp) := HG1.out.cell 4
  go_wp2_with fail
  go_loopw [9, 10, 11] (fun v f i wr => ∃ (A : Option Addr) (cc : Nat) (D : List Cap) (rows : List (List Value)) (a k : Nat), v = .slice A D.length cc ∧ f = .int .i64 a ∧ i = .int .i64 k ∧ (a ≤ c.pkts.length ∧ a < k ∧ k ≤ c.pkts.length + 1 ∧ (a = 0 ∨ a < c.pkts.length)) ∧ Hid (OwnL wr (B + 1) 31 5 (KTE (B + 1) none) (.slice A D.length cc) D rows) ∧ Hid (D.length + 1 ≤ k) ∧ Hid (splitC c kind n = D ++ (splitL (fullR kind n) (seg c.pkts a k) (c.pkts.drop k)).map (mkC c)) ∧ Hid (kind = 0 → (k : Int) - a ≤ n) ∧ Hid (Below (B + 1) w0 wr ∧ B + 1 ≤ wr.heap.size ∧ Blk wr B 31 #[.string c.note, .slice pf c.faces.length cf, .slice pn c.names.length cn, .slice ps c.secs.length cs, .slice pp c.pkts.length cp])) (fun _ _ i _ => c.pkts.length + 1 - (intOf i).toNat)
  case atStart => exact ⟨none, 0, [], [], 0, 1, rfl, rfl, rfl, ⟨Nat.zero_le _, Nat.zero_lt_one, by omega, Or.inl rfl⟩, Lib.hid (OwnL.nil _ _ _ _ _), Lib.hid (Nat.le_refl _), Lib.hid (by unfold splitC; rw [split_start]; rfl), Lib.hid (fun _ => by have := HN1.out; omega), Lib.hid ⟨HB1.out, hsz1, HG1.out⟩⟩
  case round =>
    obtain ⟨A, cc, D, rows, a, k, rfl, rfl, rfl, ⟨ha1, ha2, ha3, ha5⟩, HO, HDL, HS, HZ, HW⟩ := hrel
    clear l4
    have l0 : wr.cell? ⟨B, 0, none⟩ = some (.string c.note) := HW.out.2.2.cell 0
    have l1 : wr.cell? ⟨B, 1, none⟩ = some (.slice pf c.faces.length cf) := HW.out.2.2.cell 1
    have l2 : wr.cell? ⟨B, 2, none⟩ = some (.slice pn c.names.length cn) := HW.out.2.2.cell 2
    have l3 : wr.cell? ⟨B, 3, none⟩ = some (.slice ps c.secs.length cs) := HW.out.2.2.cell 3
    have HMr : Hid (CapM wr wr.heap.size ⟨pf, cf, pn, cn, ps, cs, pp, cp⟩ c) := Lib.hid (HM0.out.keep HW.out.1 HW.out.2.1)
    by_cases hlt : k < c.pkts.length
    · obtain ⟨b, o, hA, hb, vs, hvl, ⟨Dx, dc, rfl, hby, _, _, _, _⟩, hcell⟩ := HMr.out.pkts.row k hlt
      have hcp := HMr.out.lp.1
      dsimp only at hA hcp
      subst hA
      have l4 : wr.cell? ⟨B, 4, none⟩ = some (.slice (some ⟨b, o, none⟩) c.pkts.length cp) := HW.out.2.2.cell 4
      have c0 : wr.cell? ⟨b, o + k * 5, none⟩ = _ := hcell 0 _ rfl
      have c1 := hcell 1 _ rfl
      have c2 := hcell 2 _ rfl
      have c3 := hcell 3 _ rfl
      have c4 := hcell 4 _ rfl
      have hxp := HPK.out _ (List.getElem_mem hlt)
      have hne : seg c.pkts a k ≠ [] := fun e => by have := seg_len c.pkts a k (by omega); rw [e] at this; simp at this; omega
      have HI := Lib.hid (isFull_any (w := wr) (Ax := Dx) (c := cp - a) (cx := dc) (kind := kind) (n := n) (els_seg HMr.out.pkts a k (by omega) (by omega)) hne (by rw [seg_len _ _ _ (by omega)]; omega) (fun p hp => HPK.out p (seg_mem hp)) hxp HA.out (fun h => by rw [seg_len _ _ _ (by omega)]; have := HZ.out h; omega))
      rw [seg_len _ _ _ (by omega)] at HI
      unfold pV at HI
      have hYes := Lib.hid (fun h => split_yes (F := fullR kind n) hlt hne h)
      have hNo := Lib.hid (fun h => split_no (F := fullR kind n) hlt (Or.inr h : seg c.pkts a k = [] ∨ _))
      have hseg := Lib.hid (seg_succ c.pkts a k (by omega) hlt)
      have hone := Lib.hid (seg_one c.pkts k hlt)
      obtain ⟨x, hx⟩ : ∃ x, c.pkts[k] = x := ⟨_, rfl⟩
      rw [hx] at c0 c1 c2 c3 c4 HI hYes hNo hseg hone
      have hfz := Lib.hid (fun (h0 : kind = 0) (hf : fullR kind n (seg c.pkts a k) x = false) => show ((k + 1 : Nat) : Int) - a ≤ n by
        unfold fullR at hf; rw [if_pos h0] at hf
        have := of_decide_eq_false hf
        rw [seg_len _ _ _ (by omega)] at this; omega)
      obtain ⟨q, hq⟩ : ∃ q, fullR kind n (seg c.pkts a k) x = q := ⟨_, rfl⟩
      rw [hq] at HI hYes hNo hfz
      clear hcell hx hxp hne hq hvl hby
      go_wp2_with fail
      with_reducible refine HI.out.mono ?_
      rintro e w2 ⟨rfl, hb2⟩
      have HO2 := Lib.hid (ownC_below HO.out hb2 HW.out.2.1)
      have HW2 : Hid (Below (B + 1) w0 w2 ∧ B + 1 ≤ w2.heap.size ∧ Blk w2 B 31 #[.string c.note, .slice pf c.faces.length cf, .slice pn c.names.length cn, .slice ps c.secs.length cs, .slice (some ⟨b, o, none⟩) c.pkts.length cp]) := Lib.hid ⟨HW.out.1.trans (hb2.mono HW.out.2.1), by have := hb2.size; have := HW.out.2.1; omega, HW.out.2.2.below hb2 HW.out.2.2.lt⟩
      clear HI HO HW HMr hb2 l0 l1 l2 l3 l4 c0 c1 c2 c3 c4
      cases q with
      | false =>
        have HS2 : Hid (splitC c kind n = D ++ (splitL (fullR kind n) (seg c.pkts a (k + 1)) (c.pkts.drop (k + 1))).map (mkC c)) := Lib.hid (by rw [HS.out, hNo.out rfl, hseg.out])
        have HZ2 : Hid (kind = 0 → ((k + 1 : Nat) : Int) - a ≤ n) := Lib.hid (fun h => hfz.out h rfl)
        clear HS hYes hNo hseg hone hfz
        go_wp2
        go_roundw
        case rel => exact ⟨A, cc, D, rows, a, k + 1, rfl, rfl, by go_num, ⟨by omega, by omega, by omega, ha5⟩, HO2, Lib.hid (by have := HDL.out; omega), HS2, HZ2, HW2⟩
        case measure => simp [intOf]; omega
      | true =>
        have l0 : w2.cell? ⟨B, 0, none⟩ = some (.string c.note) := HW2.out.2.2.cell 0
        have l1 : w2.cell? ⟨B, 1, none⟩ = some (.slice pf c.faces.length cf) := HW2.out.2.2.cell 1
        have l2 : w2.cell? ⟨B, 2, none⟩ = some (.slice pn c.names.length cn) := HW2.out.2.2.cell 2
        have l3 : w2.cell? ⟨B, 3, none⟩ = some (.slice ps c.secs.length cs) := HW2.out.2.2.cell 3
        have l4 : w2.cell? ⟨B, 4, none⟩ = some (.slice (some ⟨b, o, none⟩) c.pkts.length cp) := HW2.out.2.2.cell 4
        obtain ⟨X, hX⟩ : ∃ X, mkC c (seg c.pkts a k) = X := ⟨_, rfl⟩
        have HC : Hid (Calls Try.prog 72 #[.agg #[.string c.note, .slice pf c.faces.length cf, .slice pn c.names.length cn, .slice ps c.secs.length cs, .slice (some ⟨b, o, none⟩) c.pkts.length cp], .slice (some ⟨b, o + a * 5, none⟩) (k - a) (cp - a)] w2 fun e w' => ∃ q, e = .returned (capV q X) ∧ CapO w' w2.heap.size q X ∧ Below w2.heap.size w2 w') := Lib.hid (by
          have h := with_any (w := w2) (zp := some ⟨b, o, none⟩) (zn := c.pkts.length) (zc := cp) (capM_seg (HM0.out.keep HW2.out.1 HW2.out.2.1) rfl a k (by omega) (by omega))
          rw [hX] at h
          have hl : X.pkts.length = k - a := by rw [← hX]; exact seg_len _ _ _ (by omega)
          rw [hl] at h
          have e1 : X.note = c.note := by rw [← hX]; rfl
          have e2 : X.faces = c.faces := by rw [← hX]; rfl
          have e3 : X.names = c.names := by rw [← hX]; rfl
          have e4 : X.secs = c.secs := by rw [← hX]; rfl
          rw [e1, e2, e3, e4] at h
          exact h)
        have HS2 : Hid (splitC c kind n = (D ++ [X]) ++ (splitL (fullR kind n) (seg c.pkts k (k + 1)) (c.pkts.drop (k + 1))).map (mkC c)) := Lib.hid (by rw [HS.out, hYes.out rfl, hone.out, List.map_cons, hX]; simp)
        clear HS hYes hNo hseg hone hX hfz
        go_wp2_with fail
        with_reducible refine HC.out.mono ?_
        rintro e w3 ⟨⟨af, bf, an, bn, as_, bs, ap, bp⟩, rfl, hO3, hb3⟩
        have HO3 := Lib.hid (ownC_below HO2.out hb3 HW2.out.2.1)
        have HW3 : Hid (Below (B + 1) w0 w3 ∧ B + 1 ≤ w3.heap.size ∧ Blk w3 B 31 #[.string c.note, .slice pf c.faces.length cf, .slice pn c.names.length cn, .slice ps c.secs.length cs, .slice (some ⟨b, o, none⟩) c.pkts.length cp]) := Lib.hid ⟨HW2.out.1.trans (hb3.mono HW2.out.2.1), by have := hb3.size; have := HW2.out.2.1; omega, HW2.out.2.2.below hb3 HW2.out.2.2.lt⟩
        have HX3 := Lib.hid hO3.capT
        clear hO3 hb3 HC HO2 HW2 l0 l1 l2 l3 l4
        obtain ⟨v7, w7, hrun, ho7, hg7, _⟩ := run_own_struct w3 (B + 1) 31 5 112 22 _ Try.underlying22 capInfo (by rfl) (by decide) _ _ _ HO3.out.own [.string X.note, .slice af X.faces.length bf, .slice an X.names.length bn, .slice as_ X.secs.length bs, .slice ap X.pkts.length bp] rfl (by
          intro u hu; simp only [List.mem_cons, List.not_mem_nil, or_false] at hu; rcases hu with rfl | rfl | rfl | rfl | rfl <;> rfl) (by have := HDL.out; unfold maxLen; omega) (by have := HDL.out; omega) HW3.out.2.1
        obtain ⟨A7, c7, rfl⟩ := own_slice ho7 (by omega)
        obtain ⟨hO7, hB7⟩ := split_put HO3.out HX3.out ho7 hg7 HW3.out.2.1
        have HO7 := Lib.hid hO7
        have HB7 : Hid (Below (B + 1) w3 w7) := Lib.hid hB7
        have HW7 : Hid (Below (B + 1) w0 w7 ∧ B + 1 ≤ w7.heap.size ∧ Blk w7 B 31 #[.string c.note, .slice pf c.faces.length cf, .slice pn c.names.length cn, .slice ps c.secs.length cs, .slice (some ⟨b, o, none⟩) c.pkts.length cp]) := Lib.hid ⟨HW3.out.1.trans HB7.out, by have := HB7.out.size; have := HW3.out.2.1; omega, HW3.out.2.2.below HB7.out (by omega)⟩
        clear ho7 hg7 hO7 hB7 HO3 HX3 HW3
        go_wp2_with (at_builtin; refine Lib.wpList_append_run _ rfl _ _ _ _ rfl _ _ rfl rfl _ _ hrun ?_)
        go_roundw
        case rel => exact ⟨A7, c7, D ++ [X], _, k, k + 1, by rw [List.length_append]; rfl, rfl, by go_num, ⟨by omega, by omega, by omega, by omega⟩, Lib.hid (by rw [List.length_append]; exact HO7.out), Lib.hid (by have := HDL.out; rw [List.length_append]; simp; omega), HS2, Lib.hid (fun _ => by have := HN1.out; omega), HW7⟩
        case measure => simp [intOf]; omega
    · have HXS : Hid (seg c.pkts a k = seg c.pkts a c.pkts.length) := Lib.hid (by unfold seg; rw [List.take_of_length_le (by omega), List.take_of_length_le (Nat.le_refl _)])
      obtain ⟨X, hX⟩ : ∃ X, mkC c (seg c.pkts a c.pkts.length) = X := ⟨_, rfl⟩
      have HXD := Lib.hid hX
      have HXE : Hid (X.note = c.note ∧ X.faces = c.faces ∧ X.names = c.names ∧ X.secs = c.secs) := Lib.hid (by rw [← hX]; exact ⟨rfl, rfl, rfl, rfl⟩)
      have HR : Hid (splitC c kind n = D ++ [X]) := Lib.hid (by rw [HS.out, split_end (by omega), HXS.out, ← hX]; rfl)
      clear hX HS HZ l0 l1 l2 l3
      by_cases h0 : 0 < c.pkts.length
      · have HXL : Hid (X.pkts.length = c.pkts.length - a) := Lib.hid (by rw [← HXD.out]; exact seg_len _ _ _ (Nat.le_refl _))
        obtain ⟨b, o, hA, _⟩ := HMr.out.pkts h0
        have hcp := HMr.out.lp.1
        dsimp only at hA hcp
        subst hA
        have l4 : wr.cell? ⟨B, 4, none⟩ = some (.slice (some ⟨b, o, none⟩) c.pkts.length cp) := HW.out.2.2.cell 4
        have ha4 : a < c.pkts.length := by omega
        have hcpa : ¬ cp = a := by omega
        clear HXS
        go_wp2_with fail
        clear l4
        have HC : Hid (Calls Try.prog 72 #[.agg #[.string c.note, .slice pf c.faces.length cf, .slice pn c.names.length cn, .slice ps c.secs.length cs, .slice (some ⟨b, o, none⟩) c.pkts.length cp], .slice (some ⟨b, o + a * 5, none⟩) (c.pkts.length - a) (cp - a)] wr.drew fun e w' => ∃ q, e = .returned (capV q X) ∧ CapO w' wr.heap.size q X ∧ Below wr.heap.size wr.drew w') := Lib.hid (by
          have h := with_any (w := wr.drew) (c := X) (p := ⟨pf, cf, pn, cn, ps, cs, (some ⟨b, o + a * 5, none⟩), (cp - a)⟩) (zp := (some ⟨b, o, none⟩)) (zn := c.pkts.length) (zc := cp) (by rw [← HXD.out]; exact capM_seg (HM0.out.keep (below_drewN HW.out.1 1) HW.out.2.1) rfl a c.pkts.length (Nat.le_refl _) (by omega))
          have hl : X.pkts.length = (c.pkts.length - a) := HXL.out
          rw [hl, HXE.out.1, HXE.out.2.1, HXE.out.2.2.1, HXE.out.2.2.2] at h
          exact h)
        have s0 : wr.cell? ⟨B, 0, none⟩ = some (.string c.note) := HW.out.2.2.cell 0
        have s1 : wr.cell? ⟨B, 1, none⟩ = some (.slice pf c.faces.length cf) := HW.out.2.2.cell 1
        have s2 : wr.cell? ⟨B, 2, none⟩ = some (.slice pn c.names.length cn) := HW.out.2.2.cell 2
        have s3 : wr.cell? ⟨B, 3, none⟩ = some (.slice ps c.secs.length cs) := HW.out.2.2.cell 3
        have s4 : wr.cell? ⟨B, 4, none⟩ = some (.slice (some ⟨b, o, none⟩) c.pkts.length cp) := HW.out.2.2.cell 4
        refine wp_region_held_drew (S := (fun w' => w'.cell? ⟨B, 0, none⟩ = some (.string c.note) ∧ w'.cell? ⟨B, 1, none⟩ = some (.slice pf c.faces.length cf) ∧ w'.cell? ⟨B, 2, none⟩ = some (.slice pn c.names.length cn) ∧ w'.cell? ⟨B, 3, none⟩ = some (.slice ps c.secs.length cs) ∧ w'.cell? ⟨B, 4, none⟩ = some (.slice (some ⟨b, o, none⟩) c.pkts.length cp))) (by kernel_rfl) ⟨s0, s1, s2, s3, s4⟩ (fun hHeld => ?_)
        refine wpAnyH_take (i := 0) (oi := { dst := some 56, op := Go.Op.move (Go.Operand.tmp 9), type := 22, pos := "cut.go:65", after := #[], guard := none }) (v := ?_) rfl (by kernel_rfl) (by kernel_rfl) (by kernel_rfl) (fun _ _ _ h => h) (Or.inl ⟨by rfl, ?_⟩) (by assumption) ?_
        rotate_left 1
        · intro w hSw; (try dsimp only at hSw); go_simp; try with_reducible rfl
        try simp only [Act.put, List.setIfInBounds_toArray, List.set_cons_zero, List.set_cons_succ]
        refine wpAnyH_take (i := 1) (oi := { dst := some 57, op := Go.Op.load 31 (Go.Operand.tmp 3), type := 31, pos := "cut.go:65", after := #[], guard := none }) (v := ?_) rfl (by kernel_rfl) (by kernel_rfl) (by kernel_rfl) (fun _ _ _ h => h) (Or.inl ⟨by rfl, ?_⟩) (by assumption) ?_
        rotate_left 1
        · intro w hSw; (try dsimp only at hSw); go_simp; try with_reducible rfl
        try simp only [Act.put, List.setIfInBounds_toArray, List.set_cons_zero, List.set_cons_succ]
        refine wpAnyH_take (i := 2) (oi := { dst := some 58, op := Go.Op.fieldAddr 31 (Go.Operand.tmp 3) 4, type := 0, pos := "cut.go:65", after := #[], guard := none }) (v := ?_) rfl (by kernel_rfl) (by kernel_rfl) (by kernel_rfl) (fun _ _ _ h => h) (Or.inl ⟨by rfl, ?_⟩) (by assumption) ?_
        rotate_left 1
        · intro w hSw; (try dsimp only at hSw); go_simp; try with_reducible rfl
        try simp only [Act.put, List.setIfInBounds_toArray, List.set_cons_zero, List.set_cons_succ]
        refine wpAnyH_take (i := 3) (oi := { dst := some 59, op := Go.Op.load 29 (Go.Operand.tmp 58), type := 29, pos := "cut.go:65", after := #[{ on := 2, ground := Go.Ground.data }], guard := none }) (v := ?_) rfl (by kernel_rfl) (by kernel_rfl) (by kernel_rfl) (fun _ _ _ h => h) (Or.inl ⟨by rfl, ?_⟩) (by assumption) ?_
        rotate_left 1
        · intro w hSw; (try dsimp only at hSw); go_simp; try with_reducible rfl
        try simp only [Act.put, List.setIfInBounds_toArray, List.set_cons_zero, List.set_cons_succ]
        refine wpAnyH_take (i := 4) (oi := { dst := some 60, op := Go.Op.move (Go.Operand.tmp 10), type := 3, pos := "cut.go:65", after := #[], guard := none }) (v := ?_) rfl (by kernel_rfl) (by kernel_rfl) (by kernel_rfl) (fun _ _ _ h => h) (Or.inl ⟨by rfl, ?_⟩) (by assumption) ?_
        rotate_left 1
        · intro w hSw; (try dsimp only at hSw); go_simp; try with_reducible rfl
        try simp only [Act.put, List.setIfInBounds_toArray, List.set_cons_zero, List.set_cons_succ]
        refine wpAnyH_take (i := 5) (oi := { dst := some 61, op := Go.Op.slice 29 (Go.Operand.tmp 59) (some (Go.Operand.tmp 60)) none none, type := 29, pos := "cut.go:65", after := #[{ on := 3, ground := Go.Ground.data }, { on := 4, ground := Go.Ground.data }], guard := none }) (v := ?_) rfl (by kernel_rfl) (by kernel_rfl) (by kernel_rfl) (fun _ _ _ h => h) (Or.inl ⟨by rfl, ?_⟩) (by assumption) ?_
        rotate_left 1
        · intro w hSw; (try dsimp only at hSw); go_simp; try with_reducible rfl
        try simp only [Act.put, List.setIfInBounds_toArray, List.set_cons_zero, List.set_cons_succ]
        refine wpAnyH_ready (rs := [6]) (by kernel_rfl) (by simp) ?_
        refine AllReadyH.cons (o := { dst := some 62, op := Go.Op.call { callee := Go.Callee.value (Go.Operand.func 72), args := #[Go.Operand.tmp 57, Go.Operand.tmp 61], argTypes := #[31, 29] }, type := 31, pos := "cut.go:65", after := #[{ on := 1, ground := Go.Ground.data }, { on := 5, ground := Go.Ground.data }], guard := none }) rfl (fun K hK => ?_) (AllReadyH.nil)
        go_simp
        go_at_call 72
        with_reducible refine HC.out.mono ?_
        rintro e w3 ⟨⟨af, bf, an, bn, as_, bs, ap, bp⟩, rfl, hO3, hb3⟩
        have hb3' : Below wr.heap.size wr w3 := below_undrew hb3
        have HO3 := Lib.hid (ownC_below HO.out hb3' HW.out.2.1)
        have HW3 : Hid (Below (B + 1) w0 w3 ∧ B + 1 ≤ w3.heap.size ∧ Blk w3 B 31 #[.string c.note, .slice pf c.faces.length cf, .slice pn c.names.length cn, .slice ps c.secs.length cs, .slice (some ⟨b, o, none⟩) c.pkts.length cp]) := Lib.hid ⟨HW.out.1.trans (hb3'.mono HW.out.2.1), by have := hb3'.size; have := HW.out.2.1; omega, HW.out.2.2.below hb3' HW.out.2.2.lt⟩
        have HX3 := Lib.hid hO3.capT
        clear hO3 hb3 hb3'
        obtain ⟨v7, w7, hrun, ho7, hg7, _⟩ := run_own_struct w3 (B + 1) 31 5 112 22 _ Try.underlying22 capInfo (by rfl) (by decide) _ _ _ HO3.out.own [.string X.note, .slice af X.faces.length bf, .slice an X.names.length bn, .slice as_ X.secs.length bs, .slice ap X.pkts.length bp] rfl (by
          intro u hu; simp only [List.mem_cons, List.not_mem_nil, or_false] at hu; rcases hu with rfl | rfl | rfl | rfl | rfl <;> rfl) (by have := HDL.out; unfold maxLen; omega) (by have := HDL.out; omega) HW3.out.2.1
        obtain ⟨A7, c7, rfl⟩ := own_slice ho7 (by omega)
        obtain ⟨hO7, hB7⟩ := split_put HO3.out HX3.out ho7 hg7 HW3.out.2.1
        have HO7 := Lib.hid hO7
        have HB7 : Hid (Below (B + 1) w3 w7) := Lib.hid hB7
        have t0 : w3.cell? ⟨B, 0, none⟩ = some (.string c.note) := HW3.out.2.2.cell 0
        have t1 : w3.cell? ⟨B, 1, none⟩ = some (.slice pf c.faces.length cf) := HW3.out.2.2.cell 1
        have t2 : w3.cell? ⟨B, 2, none⟩ = some (.slice pn c.names.length cn) := HW3.out.2.2.cell 2
        have t3 : w3.cell? ⟨B, 3, none⟩ = some (.slice ps c.secs.length cs) := HW3.out.2.2.cell 3
        have t4 : w3.cell? ⟨B, 4, none⟩ = some (.slice (some ⟨b, o, none⟩) c.pkts.length cp) := HW3.out.2.2.cell 4
        have HBK := Lib.hid (HW3.out.2.2.alloc (.cells #[.string X.note, .slice af X.faces.length bf, .slice an X.names.length bn, .slice as_ X.secs.length bs, .slice ap X.pkts.length bp] 31))
        have u0 : (w3.alloc (.cells #[.string X.note, .slice af X.faces.length bf, .slice an X.names.length bn, .slice as_ X.secs.length bs, .slice ap X.pkts.length bp] 31)).cell? ⟨B, 0, none⟩ = some (.string c.note) := HBK.out.cell 0
        have u1 : (w3.alloc (.cells #[.string X.note, .slice af X.faces.length bf, .slice an X.names.length bn, .slice as_ X.secs.length bs, .slice ap X.pkts.length bp] 31)).cell? ⟨B, 1, none⟩ = some (.slice pf c.faces.length cf) := HBK.out.cell 1
        have u2 : (w3.alloc (.cells #[.string X.note, .slice af X.faces.length bf, .slice an X.names.length bn, .slice as_ X.secs.length bs, .slice ap X.pkts.length bp] 31)).cell? ⟨B, 2, none⟩ = some (.slice pn c.names.length cn) := HBK.out.cell 2
        have u3 : (w3.alloc (.cells #[.string X.note, .slice af X.faces.length bf, .slice an X.names.length bn, .slice as_ X.secs.length bs, .slice ap X.pkts.length bp] 31)).cell? ⟨B, 3, none⟩ = some (.slice ps c.secs.length cs) := HBK.out.cell 3
        have u4 : (w3.alloc (.cells #[.string X.note, .slice af X.faces.length bf, .slice an X.names.length bn, .slice as_ X.secs.length bs, .slice ap X.pkts.length bp] 31)).cell? ⟨B, 4, none⟩ = some (.slice (some ⟨b, o, none⟩) c.pkts.length cp) := HBK.out.cell 4
        have HBK7 := Lib.hid (HW3.out.2.2.below HB7.out (by omega))
        have y0 : w7.cell? ⟨B, 0, none⟩ = some (.string c.note) := HBK7.out.cell 0
        have y1 : w7.cell? ⟨B, 1, none⟩ = some (.slice pf c.faces.length cf) := HBK7.out.cell 1
        have y2 : w7.cell? ⟨B, 2, none⟩ = some (.slice pn c.names.length cn) := HBK7.out.cell 2
        have y3 : w7.cell? ⟨B, 3, none⟩ = some (.slice ps c.secs.length cs) := HBK7.out.cell 3
        have y4 : w7.cell? ⟨B, 4, none⟩ = some (.slice (some ⟨b, o, none⟩) c.pkts.length cp) := HBK7.out.cell 4
        clear ho7 hg7 hO7 hB7
        dsimp only
        refine hK.out _ _ ⟨t0, t1, t2, t3, t4⟩ (fun hHeld => ?_)
        clear hK K
        try simp only [Act.put, List.setIfInBounds_toArray, List.set_cons_zero, List.set_cons_succ]
        refine wpAnyH_ready (rs := [7]) (by kernel_rfl) (by simp) ?_
        refine AllReadyH.cons (o := { dst := some 63, op := Go.Op.buildSlice 22 1 #[(0, Go.Operand.tmp 62)], type := 22, pos := "cut.go:65", after := #[{ on := 6, ground := Go.Ground.data }], guard := none }) rfl (fun K hK => ?_) (AllReadyH.nil)
        go_simp
        refine hK.out _ _ ⟨u0, u1, u2, u3, u4⟩ (fun hHeld => ?_)
        clear hK K
        try simp only [Act.put, List.setIfInBounds_toArray, List.set_cons_zero, List.set_cons_succ]
        refine wpAnyH_ready (rs := [8]) (by kernel_rfl) (by simp) ?_
        refine AllReadyH.cons (o := { dst := some 64, op := Go.Op.call { callee := Go.Callee.builtin Go.Builtin.append, args := #[Go.Operand.tmp 56, Go.Operand.tmp 63], argTypes := #[22, 22] }, type := 22, pos := "cut.go:65", after := #[{ on := 0, ground := Go.Ground.data }, { on := 7, ground := Go.Ground.data }, { on := 6, ground := Go.Ground.chain }], guard := none }) rfl (fun K hK => ?_) (AllReadyH.nil)
        refine step_append_run _ rfl _ _ _ _ rfl _ _ (by rfl) (by rfl) _ w7 hrun ?_
        refine hK.out _ _ ⟨y0, y1, y2, y3, y4⟩ (fun hHeld => ?_)
        clear hK K
        try simp only [Act.put, List.setIfInBounds_toArray, List.set_cons_zero, List.set_cons_succ]
        refine wpAnyH_take (i := 9) (oi := { dst := some 6, op := Go.Op.assign (Go.Operand.tmp 64), type := 22, pos := "cut.go:65", after := #[{ on := 8, ground := Go.Ground.data }, { on := 8, ground := Go.Ground.chain }, { on := 0, ground := Go.Ground.phase }, { on := 1, ground := Go.Ground.phase }, { on := 2, ground := Go.Ground.phase }, { on := 3, ground := Go.Ground.phase }, { on := 4, ground := Go.Ground.phase }, { on := 5, ground := Go.Ground.phase }, { on := 6, ground := Go.Ground.phase }, { on := 7, ground := Go.Ground.phase }, { on := 8, ground := Go.Ground.phase }], guard := none }) (v := ?_) rfl (by kernel_rfl) (by kernel_rfl) (by kernel_rfl) (fun _ _ _ h => h) (Or.inl ⟨by rfl, ?_⟩) (by assumption) ?_
        rotate_left 1
        · intro w hSw; (try dsimp only at hSw); go_simp; try with_reducible rfl
        try simp only [Act.put, List.setIfInBounds_toArray, List.set_cons_zero, List.set_cons_succ]
        refine wpAnyH_take (i := 10) (oi := { dst := some 7, op := Go.Op.assign (Go.Operand.const (Go.Value.int Go.IntKind.i64 0)), type := 32, pos := "cut.go:65", after := #[{ on := 9, ground := Go.Ground.chain }, { on := 0, ground := Go.Ground.phase }, { on := 1, ground := Go.Ground.phase }, { on := 2, ground := Go.Ground.phase }, { on := 3, ground := Go.Ground.phase }, { on := 4, ground := Go.Ground.phase }, { on := 5, ground := Go.Ground.phase }, { on := 6, ground := Go.Ground.phase }, { on := 7, ground := Go.Ground.phase }, { on := 8, ground := Go.Ground.phase }, { on := 9, ground := Go.Ground.phase }], guard := none }) (v := ?_) rfl (by kernel_rfl) (by kernel_rfl) (by kernel_rfl) (fun _ _ _ h => h) (Or.inl ⟨by rfl, ?_⟩) (by assumption) ?_
        rotate_left 1
        · intro w hSw; (try dsimp only at hSw); go_simp; try with_reducible rfl
        try simp only [Act.put, List.setIfInBounds_toArray, List.set_cons_zero, List.set_cons_succ]
        refine wpAnyH_done (by kernel_rfl) ?_ _
        go_wp2
        go_ret2
        rw [HR.out]
        refine ⟨A7, c7, by rw [List.length_append]; rfl, ownC_els (n := D.length + 1) HO7.out, ?_⟩
        exact HB0.out.trans (((HW3.out.1.trans HB7.out).mono (by omega)))
      · have ha0 : a = 0 := by omega
        subst ha0
        have HXL : Hid (X.pkts.length = c.pkts.length) := Lib.hid (by rw [← HXD.out]; show (seg c.pkts 0 c.pkts.length).length = _; rw [seg_len _ _ _ (Nat.le_refl _)]; omega)
        have HXN : Hid (mkC c [] = X) := Lib.hid (by rw [← HXD.out]; have hn0 : c.pkts.length = 0 := by omega
                                                     rw [hn0]; rfl)
        have hk0 : ¬ k < c.pkts.length := hlt
        clear HXS hlt h0 ha1 ha2 ha5
        rcases pp with _ | ⟨b, o, r⟩
        · have hcz : cp = 0 := HM0.out.lp.2.2 rfl
          subst hcz
          have l4 : wr.cell? ⟨B, 4, none⟩ = some (.slice none c.pkts.length 0) := HW.out.2.2.cell 4
          go_wp2_with fail
          clear l4
          have HC : Hid (Calls Try.prog 72 #[.agg #[.string c.note, .slice pf c.faces.length cf, .slice pn c.names.length cn, .slice ps c.secs.length cs, .slice none c.pkts.length 0], .slice none c.pkts.length 0] wr.drew fun e w' => ∃ q, e = .returned (capV q X) ∧ CapO w' wr.heap.size q X ∧ Below wr.heap.size wr.drew w') := Lib.hid (by
            have h := with_any (w := wr.drew) (c := X) (p := ⟨pf, cf, pn, cn, ps, cs, none, 0⟩) (zp := none) (zn := c.pkts.length) (zc := 0) (by rw [← HXN.out]; exact capM_none (HM0.out.keep (below_drewN HW.out.1 1) HW.out.2.1) (fun _ => rfl))
            have hl : X.pkts.length = c.pkts.length := HXL.out
            rw [hl, HXE.out.1, HXE.out.2.1, HXE.out.2.2.1, HXE.out.2.2.2] at h
            exact h)
          have s0 : wr.cell? ⟨B, 0, none⟩ = some (.string c.note) := HW.out.2.2.cell 0
          have s1 : wr.cell? ⟨B, 1, none⟩ = some (.slice pf c.faces.length cf) := HW.out.2.2.cell 1
          have s2 : wr.cell? ⟨B, 2, none⟩ = some (.slice pn c.names.length cn) := HW.out.2.2.cell 2
          have s3 : wr.cell? ⟨B, 3, none⟩ = some (.slice ps c.secs.length cs) := HW.out.2.2.cell 3
          have s4 : wr.cell? ⟨B, 4, none⟩ = some (.slice none c.pkts.length 0) := HW.out.2.2.cell 4
          refine wp_region_held_drew (S := (fun w' => w'.cell? ⟨B, 0, none⟩ = some (.string c.note) ∧ w'.cell? ⟨B, 1, none⟩ = some (.slice pf c.faces.length cf) ∧ w'.cell? ⟨B, 2, none⟩ = some (.slice pn c.names.length cn) ∧ w'.cell? ⟨B, 3, none⟩ = some (.slice ps c.secs.length cs) ∧ w'.cell? ⟨B, 4, none⟩ = some (.slice none c.pkts.length 0))) (by kernel_rfl) ⟨s0, s1, s2, s3, s4⟩ (fun hHeld => ?_)
          refine wpAnyH_take (i := 0) (oi := { dst := some 56, op := Go.Op.move (Go.Operand.tmp 9), type := 22, pos := "cut.go:65", after := #[], guard := none }) (v := ?_) rfl (by kernel_rfl) (by kernel_rfl) (by kernel_rfl) (fun _ _ _ h => h) (Or.inl ⟨by rfl, ?_⟩) (by assumption) ?_
          rotate_left 1
          · intro w hSw; (try dsimp only at hSw); go_simp; try with_reducible rfl
          try simp only [Act.put, List.setIfInBounds_toArray, List.set_cons_zero, List.set_cons_succ]
          refine wpAnyH_take (i := 1) (oi := { dst := some 57, op := Go.Op.load 31 (Go.Operand.tmp 3), type := 31, pos := "cut.go:65", after := #[], guard := none }) (v := ?_) rfl (by kernel_rfl) (by kernel_rfl) (by kernel_rfl) (fun _ _ _ h => h) (Or.inl ⟨by rfl, ?_⟩) (by assumption) ?_
          rotate_left 1
          · intro w hSw; (try dsimp only at hSw); go_simp; try with_reducible rfl
          try simp only [Act.put, List.setIfInBounds_toArray, List.set_cons_zero, List.set_cons_succ]
          refine wpAnyH_take (i := 2) (oi := { dst := some 58, op := Go.Op.fieldAddr 31 (Go.Operand.tmp 3) 4, type := 0, pos := "cut.go:65", after := #[], guard := none }) (v := ?_) rfl (by kernel_rfl) (by kernel_rfl) (by kernel_rfl) (fun _ _ _ h => h) (Or.inl ⟨by rfl, ?_⟩) (by assumption) ?_
          rotate_left 1
          · intro w hSw; (try dsimp only at hSw); go_simp; try with_reducible rfl
          try simp only [Act.put, List.setIfInBounds_toArray, List.set_cons_zero, List.set_cons_succ]
          refine wpAnyH_take (i := 3) (oi := { dst := some 59, op := Go.Op.load 29 (Go.Operand.tmp 58), type := 29, pos := "cut.go:65", after := #[{ on := 2, ground := Go.Ground.data }], guard := none }) (v := ?_) rfl (by kernel_rfl) (by kernel_rfl) (by kernel_rfl) (fun _ _ _ h => h) (Or.inl ⟨by rfl, ?_⟩) (by assumption) ?_
          rotate_left 1
          · intro w hSw; (try dsimp only at hSw); go_simp; try with_reducible rfl
          try simp only [Act.put, List.setIfInBounds_toArray, List.set_cons_zero, List.set_cons_succ]
          refine wpAnyH_take (i := 4) (oi := { dst := some 60, op := Go.Op.move (Go.Operand.tmp 10), type := 3, pos := "cut.go:65", after := #[], guard := none }) (v := ?_) rfl (by kernel_rfl) (by kernel_rfl) (by kernel_rfl) (fun _ _ _ h => h) (Or.inl ⟨by rfl, ?_⟩) (by assumption) ?_
          rotate_left 1
          · intro w hSw; (try dsimp only at hSw); go_simp; try with_reducible rfl
          try simp only [Act.put, List.setIfInBounds_toArray, List.set_cons_zero, List.set_cons_succ]
          refine wpAnyH_take (i := 5) (oi := { dst := some 61, op := Go.Op.slice 29 (Go.Operand.tmp 59) (some (Go.Operand.tmp 60)) none none, type := 29, pos := "cut.go:65", after := #[{ on := 3, ground := Go.Ground.data }, { on := 4, ground := Go.Ground.data }], guard := none }) (v := ?_) rfl (by kernel_rfl) (by kernel_rfl) (by kernel_rfl) (fun _ _ _ h => h) (Or.inl ⟨by rfl, ?_⟩) (by assumption) ?_
          rotate_left 1
          · intro w hSw; (try dsimp only at hSw); go_simp; try with_reducible rfl
          try simp only [Act.put, List.setIfInBounds_toArray, List.set_cons_zero, List.set_cons_succ]
          refine wpAnyH_ready (rs := [6]) (by kernel_rfl) (by simp) ?_
          refine AllReadyH.cons (o := { dst := some 62, op := Go.Op.call { callee := Go.Callee.value (Go.Operand.func 72), args := #[Go.Operand.tmp 57, Go.Operand.tmp 61], argTypes := #[31, 29] }, type := 31, pos := "cut.go:65", after := #[{ on := 1, ground := Go.Ground.data }, { on := 5, ground := Go.Ground.data }], guard := none }) rfl (fun K hK => ?_) (AllReadyH.nil)
          go_simp
          go_at_call 72
          with_reducible refine HC.out.mono ?_
          rintro e w3 ⟨⟨af, bf, an, bn, as_, bs, ap, bp⟩, rfl, hO3, hb3⟩
          have hb3' : Below wr.heap.size wr w3 := below_undrew hb3
          have HO3 := Lib.hid (ownC_below HO.out hb3' HW.out.2.1)
          have HW3 : Hid (Below (B + 1) w0 w3 ∧ B + 1 ≤ w3.heap.size ∧ Blk w3 B 31 #[.string c.note, .slice pf c.faces.length cf, .slice pn c.names.length cn, .slice ps c.secs.length cs, .slice none c.pkts.length 0]) := Lib.hid ⟨HW.out.1.trans (hb3'.mono HW.out.2.1), by have := hb3'.size; have := HW.out.2.1; omega, HW.out.2.2.below hb3' HW.out.2.2.lt⟩
          have HX3 := Lib.hid hO3.capT
          clear hO3 hb3 hb3'
          obtain ⟨v7, w7, hrun, ho7, hg7, _⟩ := run_own_struct w3 (B + 1) 31 5 112 22 _ Try.underlying22 capInfo (by rfl) (by decide) _ _ _ HO3.out.own [.string X.note, .slice af X.faces.length bf, .slice an X.names.length bn, .slice as_ X.secs.length bs, .slice ap X.pkts.length bp] rfl (by
            intro u hu; simp only [List.mem_cons, List.not_mem_nil, or_false] at hu; rcases hu with rfl | rfl | rfl | rfl | rfl <;> rfl) (by have := HDL.out; unfold maxLen; omega) (by have := HDL.out; omega) HW3.out.2.1
          obtain ⟨A7, c7, rfl⟩ := own_slice ho7 (by omega)
          obtain ⟨hO7, hB7⟩ := split_put HO3.out HX3.out ho7 hg7 HW3.out.2.1
          have HO7 := Lib.hid hO7
          have HB7 : Hid (Below (B + 1) w3 w7) := Lib.hid hB7
          have t0 : w3.cell? ⟨B, 0, none⟩ = some (.string c.note) := HW3.out.2.2.cell 0
          have t1 : w3.cell? ⟨B, 1, none⟩ = some (.slice pf c.faces.length cf) := HW3.out.2.2.cell 1
          have t2 : w3.cell? ⟨B, 2, none⟩ = some (.slice pn c.names.length cn) := HW3.out.2.2.cell 2
          have t3 : w3.cell? ⟨B, 3, none⟩ = some (.slice ps c.secs.length cs) := HW3.out.2.2.cell 3
          have t4 : w3.cell? ⟨B, 4, none⟩ = some (.slice none c.pkts.length 0) := HW3.out.2.2.cell 4
          have HBK := Lib.hid (HW3.out.2.2.alloc (.cells #[.string X.note, .slice af X.faces.length bf, .slice an X.names.length bn, .slice as_ X.secs.length bs, .slice ap X.pkts.length bp] 31))
          have u0 : (w3.alloc (.cells #[.string X.note, .slice af X.faces.length bf, .slice an X.names.length bn, .slice as_ X.secs.length bs, .slice ap X.pkts.length bp] 31)).cell? ⟨B, 0, none⟩ = some (.string c.note) := HBK.out.cell 0
          have u1 : (w3.alloc (.cells #[.string X.note, .slice af X.faces.length bf, .slice an X.names.length bn, .slice as_ X.secs.length bs, .slice ap X.pkts.length bp] 31)).cell? ⟨B, 1, none⟩ = some (.slice pf c.faces.length cf) := HBK.out.cell 1
          have u2 : (w3.alloc (.cells #[.string X.note, .slice af X.faces.length bf, .slice an X.names.length bn, .slice as_ X.secs.length bs, .slice ap X.pkts.length bp] 31)).cell? ⟨B, 2, none⟩ = some (.slice pn c.names.length cn) := HBK.out.cell 2
          have u3 : (w3.alloc (.cells #[.string X.note, .slice af X.faces.length bf, .slice an X.names.length bn, .slice as_ X.secs.length bs, .slice ap X.pkts.length bp] 31)).cell? ⟨B, 3, none⟩ = some (.slice ps c.secs.length cs) := HBK.out.cell 3
          have u4 : (w3.alloc (.cells #[.string X.note, .slice af X.faces.length bf, .slice an X.names.length bn, .slice as_ X.secs.length bs, .slice ap X.pkts.length bp] 31)).cell? ⟨B, 4, none⟩ = some (.slice none c.pkts.length 0) := HBK.out.cell 4
          have HBK7 := Lib.hid (HW3.out.2.2.below HB7.out (by omega))
          have y0 : w7.cell? ⟨B, 0, none⟩ = some (.string c.note) := HBK7.out.cell 0
          have y1 : w7.cell? ⟨B, 1, none⟩ = some (.slice pf c.faces.length cf) := HBK7.out.cell 1
          have y2 : w7.cell? ⟨B, 2, none⟩ = some (.slice pn c.names.length cn) := HBK7.out.cell 2
          have y3 : w7.cell? ⟨B, 3, none⟩ = some (.slice ps c.secs.length cs) := HBK7.out.cell 3
          have y4 : w7.cell? ⟨B, 4, none⟩ = some (.slice none c.pkts.length 0) := HBK7.out.cell 4
          clear ho7 hg7 hO7 hB7
          dsimp only
          refine hK.out _ _ ⟨t0, t1, t2, t3, t4⟩ (fun hHeld => ?_)
          clear hK K
          try simp only [Act.put, List.setIfInBounds_toArray, List.set_cons_zero, List.set_cons_succ]
          refine wpAnyH_ready (rs := [7]) (by kernel_rfl) (by simp) ?_
          refine AllReadyH.cons (o := { dst := some 63, op := Go.Op.buildSlice 22 1 #[(0, Go.Operand.tmp 62)], type := 22, pos := "cut.go:65", after := #[{ on := 6, ground := Go.Ground.data }], guard := none }) rfl (fun K hK => ?_) (AllReadyH.nil)
          go_simp
          refine hK.out _ _ ⟨u0, u1, u2, u3, u4⟩ (fun hHeld => ?_)
          clear hK K
          try simp only [Act.put, List.setIfInBounds_toArray, List.set_cons_zero, List.set_cons_succ]
          refine wpAnyH_ready (rs := [8]) (by kernel_rfl) (by simp) ?_
          refine AllReadyH.cons (o := { dst := some 64, op := Go.Op.call { callee := Go.Callee.builtin Go.Builtin.append, args := #[Go.Operand.tmp 56, Go.Operand.tmp 63], argTypes := #[22, 22] }, type := 22, pos := "cut.go:65", after := #[{ on := 0, ground := Go.Ground.data }, { on := 7, ground := Go.Ground.data }, { on := 6, ground := Go.Ground.chain }], guard := none }) rfl (fun K hK => ?_) (AllReadyH.nil)
          refine step_append_run _ rfl _ _ _ _ rfl _ _ (by rfl) (by rfl) _ w7 hrun ?_
          refine hK.out _ _ ⟨y0, y1, y2, y3, y4⟩ (fun hHeld => ?_)
          clear hK K
          try simp only [Act.put, List.setIfInBounds_toArray, List.set_cons_zero, List.set_cons_succ]
          refine wpAnyH_take (i := 9) (oi := { dst := some 6, op := Go.Op.assign (Go.Operand.tmp 64), type := 22, pos := "cut.go:65", after := #[{ on := 8, ground := Go.Ground.data }, { on := 8, ground := Go.Ground.chain }, { on := 0, ground := Go.Ground.phase }, { on := 1, ground := Go.Ground.phase }, { on := 2, ground := Go.Ground.phase }, { on := 3, ground := Go.Ground.phase }, { on := 4, ground := Go.Ground.phase }, { on := 5, ground := Go.Ground.phase }, { on := 6, ground := Go.Ground.phase }, { on := 7, ground := Go.Ground.phase }, { on := 8, ground := Go.Ground.phase }], guard := none }) (v := ?_) rfl (by kernel_rfl) (by kernel_rfl) (by kernel_rfl) (fun _ _ _ h => h) (Or.inl ⟨by rfl, ?_⟩) (by assumption) ?_
          rotate_left 1
          · intro w hSw; (try dsimp only at hSw); go_simp; try with_reducible rfl
          try simp only [Act.put, List.setIfInBounds_toArray, List.set_cons_zero, List.set_cons_succ]
          refine wpAnyH_take (i := 10) (oi := { dst := some 7, op := Go.Op.assign (Go.Operand.const (Go.Value.int Go.IntKind.i64 0)), type := 32, pos := "cut.go:65", after := #[{ on := 9, ground := Go.Ground.chain }, { on := 0, ground := Go.Ground.phase }, { on := 1, ground := Go.Ground.phase }, { on := 2, ground := Go.Ground.phase }, { on := 3, ground := Go.Ground.phase }, { on := 4, ground := Go.Ground.phase }, { on := 5, ground := Go.Ground.phase }, { on := 6, ground := Go.Ground.phase }, { on := 7, ground := Go.Ground.phase }, { on := 8, ground := Go.Ground.phase }, { on := 9, ground := Go.Ground.phase }], guard := none }) (v := ?_) rfl (by kernel_rfl) (by kernel_rfl) (by kernel_rfl) (fun _ _ _ h => h) (Or.inl ⟨by rfl, ?_⟩) (by assumption) ?_
          rotate_left 1
          · intro w hSw; (try dsimp only at hSw); go_simp; try with_reducible rfl
          try simp only [Act.put, List.setIfInBounds_toArray, List.set_cons_zero, List.set_cons_succ]
          refine wpAnyH_done (by kernel_rfl) ?_ _
          go_wp2
          go_ret2
          rw [HR.out]
          refine ⟨A7, c7, by rw [List.length_append]; rfl, ownC_els (n := D.length + 1) HO7.out, ?_⟩
          exact HB0.out.trans (((HW3.out.1.trans HB7.out).mono (by omega)))
        · have l4 : wr.cell? ⟨B, 4, none⟩ = some (.slice (some ⟨b, o, r⟩) c.pkts.length cp) := HW.out.2.2.cell 4
          go_wp2_with fail
          clear l4
          have HC : Hid (Calls Try.prog 72 #[.agg #[.string c.note, .slice pf c.faces.length cf, .slice pn c.names.length cn, .slice ps c.secs.length cs, .slice (some ⟨b, o, r⟩) c.pkts.length cp], .slice (some ⟨b, o, r⟩) c.pkts.length cp] wr.drew fun e w' => ∃ q, e = .returned (capV q X) ∧ CapO w' wr.heap.size q X ∧ Below wr.heap.size wr.drew w') := Lib.hid (by
            have h := with_any (w := wr.drew) (c := X) (p := ⟨pf, cf, pn, cn, ps, cs, (some ⟨b, o, r⟩), cp⟩) (zp := (some ⟨b, o, r⟩)) (zn := c.pkts.length) (zc := cp) (by rw [← HXN.out]; exact capM_none (HM0.out.keep (below_drewN HW.out.1 1) HW.out.2.1) (fun h => by cases h))
            have hl : X.pkts.length = c.pkts.length := HXL.out
            rw [hl, HXE.out.1, HXE.out.2.1, HXE.out.2.2.1, HXE.out.2.2.2] at h
            exact h)
          have s0 : wr.cell? ⟨B, 0, none⟩ = some (.string c.note) := HW.out.2.2.cell 0
          have s1 : wr.cell? ⟨B, 1, none⟩ = some (.slice pf c.faces.length cf) := HW.out.2.2.cell 1
          have s2 : wr.cell? ⟨B, 2, none⟩ = some (.slice pn c.names.length cn) := HW.out.2.2.cell 2
          have s3 : wr.cell? ⟨B, 3, none⟩ = some (.slice ps c.secs.length cs) := HW.out.2.2.cell 3
          have s4 : wr.cell? ⟨B, 4, none⟩ = some (.slice (some ⟨b, o, r⟩) c.pkts.length cp) := HW.out.2.2.cell 4
          refine wp_region_held_drew (S := (fun w' => w'.cell? ⟨B, 0, none⟩ = some (.string c.note) ∧ w'.cell? ⟨B, 1, none⟩ = some (.slice pf c.faces.length cf) ∧ w'.cell? ⟨B, 2, none⟩ = some (.slice pn c.names.length cn) ∧ w'.cell? ⟨B, 3, none⟩ = some (.slice ps c.secs.length cs) ∧ w'.cell? ⟨B, 4, none⟩ = some (.slice (some ⟨b, o, r⟩) c.pkts.length cp))) (by kernel_rfl) ⟨s0, s1, s2, s3, s4⟩ (fun hHeld => ?_)
          refine wpAnyH_take (i := 0) (oi := { dst := some 56, op := Go.Op.move (Go.Operand.tmp 9), type := 22, pos := "cut.go:65", after := #[], guard := none }) (v := ?_) rfl (by kernel_rfl) (by kernel_rfl) (by kernel_rfl) (fun _ _ _ h => h) (Or.inl ⟨by rfl, ?_⟩) (by assumption) ?_
          rotate_left 1
          · intro w hSw; (try dsimp only at hSw); go_simp; try with_reducible rfl
          try simp only [Act.put, List.setIfInBounds_toArray, List.set_cons_zero, List.set_cons_succ]
          refine wpAnyH_take (i := 1) (oi := { dst := some 57, op := Go.Op.load 31 (Go.Operand.tmp 3), type := 31, pos := "cut.go:65", after := #[], guard := none }) (v := ?_) rfl (by kernel_rfl) (by kernel_rfl) (by kernel_rfl) (fun _ _ _ h => h) (Or.inl ⟨by rfl, ?_⟩) (by assumption) ?_
          rotate_left 1
          · intro w hSw; (try dsimp only at hSw); go_simp; try with_reducible rfl
          try simp only [Act.put, List.setIfInBounds_toArray, List.set_cons_zero, List.set_cons_succ]
          refine wpAnyH_take (i := 2) (oi := { dst := some 58, op := Go.Op.fieldAddr 31 (Go.Operand.tmp 3) 4, type := 0, pos := "cut.go:65", after := #[], guard := none }) (v := ?_) rfl (by kernel_rfl) (by kernel_rfl) (by kernel_rfl) (fun _ _ _ h => h) (Or.inl ⟨by rfl, ?_⟩) (by assumption) ?_
          rotate_left 1
          · intro w hSw; (try dsimp only at hSw); go_simp; try with_reducible rfl
          try simp only [Act.put, List.setIfInBounds_toArray, List.set_cons_zero, List.set_cons_succ]
          refine wpAnyH_take (i := 3) (oi := { dst := some 59, op := Go.Op.load 29 (Go.Operand.tmp 58), type := 29, pos := "cut.go:65", after := #[{ on := 2, ground := Go.Ground.data }], guard := none }) (v := ?_) rfl (by kernel_rfl) (by kernel_rfl) (by kernel_rfl) (fun _ _ _ h => h) (Or.inl ⟨by rfl, ?_⟩) (by assumption) ?_
          rotate_left 1
          · intro w hSw; (try dsimp only at hSw); go_simp; try with_reducible rfl
          try simp only [Act.put, List.setIfInBounds_toArray, List.set_cons_zero, List.set_cons_succ]
          refine wpAnyH_take (i := 4) (oi := { dst := some 60, op := Go.Op.move (Go.Operand.tmp 10), type := 3, pos := "cut.go:65", after := #[], guard := none }) (v := ?_) rfl (by kernel_rfl) (by kernel_rfl) (by kernel_rfl) (fun _ _ _ h => h) (Or.inl ⟨by rfl, ?_⟩) (by assumption) ?_
          rotate_left 1
          · intro w hSw; (try dsimp only at hSw); go_simp; try with_reducible rfl
          try simp only [Act.put, List.setIfInBounds_toArray, List.set_cons_zero, List.set_cons_succ]
          refine wpAnyH_take (i := 5) (oi := { dst := some 61, op := Go.Op.slice 29 (Go.Operand.tmp 59) (some (Go.Operand.tmp 60)) none none, type := 29, pos := "cut.go:65", after := #[{ on := 3, ground := Go.Ground.data }, { on := 4, ground := Go.Ground.data }], guard := none }) (v := ?_) rfl (by kernel_rfl) (by kernel_rfl) (by kernel_rfl) (fun _ _ _ h => h) (Or.inl ⟨by rfl, ?_⟩) (by assumption) ?_
          rotate_left 1
          · intro w hSw; (try dsimp only at hSw); go_simp; try with_reducible rfl
          try simp only [Act.put, List.setIfInBounds_toArray, List.set_cons_zero, List.set_cons_succ]
          refine wpAnyH_ready (rs := [6]) (by kernel_rfl) (by simp) ?_
          refine AllReadyH.cons (o := { dst := some 62, op := Go.Op.call { callee := Go.Callee.value (Go.Operand.func 72), args := #[Go.Operand.tmp 57, Go.Operand.tmp 61], argTypes := #[31, 29] }, type := 31, pos := "cut.go:65", after := #[{ on := 1, ground := Go.Ground.data }, { on := 5, ground := Go.Ground.data }], guard := none }) rfl (fun K hK => ?_) (AllReadyH.nil)
          go_simp
          go_at_call 72
          with_reducible refine HC.out.mono ?_
          rintro e w3 ⟨⟨af, bf, an, bn, as_, bs, ap, bp⟩, rfl, hO3, hb3⟩
          have hb3' : Below wr.heap.size wr w3 := below_undrew hb3
          have HO3 := Lib.hid (ownC_below HO.out hb3' HW.out.2.1)
          have HW3 : Hid (Below (B + 1) w0 w3 ∧ B + 1 ≤ w3.heap.size ∧ Blk w3 B 31 #[.string c.note, .slice pf c.faces.length cf, .slice pn c.names.length cn, .slice ps c.secs.length cs, .slice (some ⟨b, o, r⟩) c.pkts.length cp]) := Lib.hid ⟨HW.out.1.trans (hb3'.mono HW.out.2.1), by have := hb3'.size; have := HW.out.2.1; omega, HW.out.2.2.below hb3' HW.out.2.2.lt⟩
          have HX3 := Lib.hid hO3.capT
          clear hO3 hb3 hb3'
          obtain ⟨v7, w7, hrun, ho7, hg7, _⟩ := run_own_struct w3 (B + 1) 31 5 112 22 _ Try.underlying22 capInfo (by rfl) (by decide) _ _ _ HO3.out.own [.string X.note, .slice af X.faces.length bf, .slice an X.names.length bn, .slice as_ X.secs.length bs, .slice ap X.pkts.length bp] rfl (by
            intro u hu; simp only [List.mem_cons, List.not_mem_nil, or_false] at hu; rcases hu with rfl | rfl | rfl | rfl | rfl <;> rfl) (by have := HDL.out; unfold maxLen; omega) (by have := HDL.out; omega) HW3.out.2.1
          obtain ⟨A7, c7, rfl⟩ := own_slice ho7 (by omega)
          obtain ⟨hO7, hB7⟩ := split_put HO3.out HX3.out ho7 hg7 HW3.out.2.1
          have HO7 := Lib.hid hO7
          have HB7 : Hid (Below (B + 1) w3 w7) := Lib.hid hB7
          have t0 : w3.cell? ⟨B, 0, none⟩ = some (.string c.note) := HW3.out.2.2.cell 0
          have t1 : w3.cell? ⟨B, 1, none⟩ = some (.slice pf c.faces.length cf) := HW3.out.2.2.cell 1
          have t2 : w3.cell? ⟨B, 2, none⟩ = some (.slice pn c.names.length cn) := HW3.out.2.2.cell 2
          have t3 : w3.cell? ⟨B, 3, none⟩ = some (.slice ps c.secs.length cs) := HW3.out.2.2.cell 3
          have t4 : w3.cell? ⟨B, 4, none⟩ = some (.slice (some ⟨b, o, r⟩) c.pkts.length cp) := HW3.out.2.2.cell 4
          have HBK := Lib.hid (HW3.out.2.2.alloc (.cells #[.string X.note, .slice af X.faces.length bf, .slice an X.names.length bn, .slice as_ X.secs.length bs, .slice ap X.pkts.length bp] 31))
          have u0 : (w3.alloc (.cells #[.string X.note, .slice af X.faces.length bf, .slice an X.names.length bn, .slice as_ X.secs.length bs, .slice ap X.pkts.length bp] 31)).cell? ⟨B, 0, none⟩ = some (.string c.note) := HBK.out.cell 0
          have u1 : (w3.alloc (.cells #[.string X.note, .slice af X.faces.length bf, .slice an X.names.length bn, .slice as_ X.secs.length bs, .slice ap X.pkts.length bp] 31)).cell? ⟨B, 1, none⟩ = some (.slice pf c.faces.length cf) := HBK.out.cell 1
          have u2 : (w3.alloc (.cells #[.string X.note, .slice af X.faces.length bf, .slice an X.names.length bn, .slice as_ X.secs.length bs, .slice ap X.pkts.length bp] 31)).cell? ⟨B, 2, none⟩ = some (.slice pn c.names.length cn) := HBK.out.cell 2
          have u3 : (w3.alloc (.cells #[.string X.note, .slice af X.faces.length bf, .slice an X.names.length bn, .slice as_ X.secs.length bs, .slice ap X.pkts.length bp] 31)).cell? ⟨B, 3, none⟩ = some (.slice ps c.secs.length cs) := HBK.out.cell 3
          have u4 : (w3.alloc (.cells #[.string X.note, .slice af X.faces.length bf, .slice an X.names.length bn, .slice as_ X.secs.length bs, .slice ap X.pkts.length bp] 31)).cell? ⟨B, 4, none⟩ = some (.slice (some ⟨b, o, r⟩) c.pkts.length cp) := HBK.out.cell 4
          have HBK7 := Lib.hid (HW3.out.2.2.below HB7.out (by omega))
          have y0 : w7.cell? ⟨B, 0, none⟩ = some (.string c.note) := HBK7.out.cell 0
          have y1 : w7.cell? ⟨B, 1, none⟩ = some (.slice pf c.faces.length cf) := HBK7.out.cell 1
          have y2 : w7.cell? ⟨B, 2, none⟩ = some (.slice pn c.names.length cn) := HBK7.out.cell 2
          have y3 : w7.cell? ⟨B, 3, none⟩ = some (.slice ps c.secs.length cs) := HBK7.out.cell 3
          have y4 : w7.cell? ⟨B, 4, none⟩ = some (.slice (some ⟨b, o, r⟩) c.pkts.length cp) := HBK7.out.cell 4
          clear ho7 hg7 hO7 hB7
          dsimp only
          refine hK.out _ _ ⟨t0, t1, t2, t3, t4⟩ (fun hHeld => ?_)
          clear hK K
          try simp only [Act.put, List.setIfInBounds_toArray, List.set_cons_zero, List.set_cons_succ]
          refine wpAnyH_ready (rs := [7]) (by kernel_rfl) (by simp) ?_
          refine AllReadyH.cons (o := { dst := some 63, op := Go.Op.buildSlice 22 1 #[(0, Go.Operand.tmp 62)], type := 22, pos := "cut.go:65", after := #[{ on := 6, ground := Go.Ground.data }], guard := none }) rfl (fun K hK => ?_) (AllReadyH.nil)
          go_simp
          refine hK.out _ _ ⟨u0, u1, u2, u3, u4⟩ (fun hHeld => ?_)
          clear hK K
          try simp only [Act.put, List.setIfInBounds_toArray, List.set_cons_zero, List.set_cons_succ]
          refine wpAnyH_ready (rs := [8]) (by kernel_rfl) (by simp) ?_
          refine AllReadyH.cons (o := { dst := some 64, op := Go.Op.call { callee := Go.Callee.builtin Go.Builtin.append, args := #[Go.Operand.tmp 56, Go.Operand.tmp 63], argTypes := #[22, 22] }, type := 22, pos := "cut.go:65", after := #[{ on := 0, ground := Go.Ground.data }, { on := 7, ground := Go.Ground.data }, { on := 6, ground := Go.Ground.chain }], guard := none }) rfl (fun K hK => ?_) (AllReadyH.nil)
          refine step_append_run _ rfl _ _ _ _ rfl _ _ (by rfl) (by rfl) _ w7 hrun ?_
          refine hK.out _ _ ⟨y0, y1, y2, y3, y4⟩ (fun hHeld => ?_)
          clear hK K
          try simp only [Act.put, List.setIfInBounds_toArray, List.set_cons_zero, List.set_cons_succ]
          refine wpAnyH_take (i := 9) (oi := { dst := some 6, op := Go.Op.assign (Go.Operand.tmp 64), type := 22, pos := "cut.go:65", after := #[{ on := 8, ground := Go.Ground.data }, { on := 8, ground := Go.Ground.chain }, { on := 0, ground := Go.Ground.phase }, { on := 1, ground := Go.Ground.phase }, { on := 2, ground := Go.Ground.phase }, { on := 3, ground := Go.Ground.phase }, { on := 4, ground := Go.Ground.phase }, { on := 5, ground := Go.Ground.phase }, { on := 6, ground := Go.Ground.phase }, { on := 7, ground := Go.Ground.phase }, { on := 8, ground := Go.Ground.phase }], guard := none }) (v := ?_) rfl (by kernel_rfl) (by kernel_rfl) (by kernel_rfl) (fun _ _ _ h => h) (Or.inl ⟨by rfl, ?_⟩) (by assumption) ?_
          rotate_left 1
          · intro w hSw; (try dsimp only at hSw); go_simp; try with_reducible rfl
          try simp only [Act.put, List.setIfInBounds_toArray, List.set_cons_zero, List.set_cons_succ]
          refine wpAnyH_take (i := 10) (oi := { dst := some 7, op := Go.Op.assign (Go.Operand.const (Go.Value.int Go.IntKind.i64 0)), type := 32, pos := "cut.go:65", after := #[{ on := 9, ground := Go.Ground.chain }, { on := 0, ground := Go.Ground.phase }, { on := 1, ground := Go.Ground.phase }, { on := 2, ground := Go.Ground.phase }, { on := 3, ground := Go.Ground.phase }, { on := 4, ground := Go.Ground.phase }, { on := 5, ground := Go.Ground.phase }, { on := 6, ground := Go.Ground.phase }, { on := 7, ground := Go.Ground.phase }, { on := 8, ground := Go.Ground.phase }, { on := 9, ground := Go.Ground.phase }], guard := none }) (v := ?_) rfl (by kernel_rfl) (by kernel_rfl) (by kernel_rfl) (fun _ _ _ h => h) (Or.inl ⟨by rfl, ?_⟩) (by assumption) ?_
          rotate_left 1
          · intro w hSw; (try dsimp only at hSw); go_simp; try with_reducible rfl
          try simp only [Act.put, List.setIfInBounds_toArray, List.set_cons_zero, List.set_cons_succ]
          refine wpAnyH_done (by kernel_rfl) ?_ _
          go_wp2
          go_ret2
          rw [HR.out]
          refine ⟨A7, c7, by rw [List.length_append]; rfl, ownC_els (n := D.length + 1) HO7.out, ?_⟩
          exact HB0.out.trans (((HW3.out.1.trans HB7.out).mono (by omega)))
end Go.Proofs.Ytghdilmlfficlaa
