/- The law of sameness and copies. -/
import Derived.Test.YtlimkckomdipkaaK9
import Derived.Test.YtlimkckomdipkaaS16
import Derived.Test.YtlimkckomdipkaaSame
import Derived.Test.YtlimkckomdipkaaWeight
import Derived.Test.YtlimkckomdipkaaCopy
import Derived.Test.YtlimkckomdipkaaRCopy
import Derived.Test.YtlimkckomdipkaaTurn
namespace Go.Proofs.Ytlimkckomdipkaa
open Go.RowKit

theorem keep2 {w w1 w2 : World} {B s t : Nat} {C D : Array Value} (h : Blk w1 B s C ∧ Blk w1 (B + 1) t D ∧ Below B w w1) (hb : Below w1.heap.size w1 w2) : Blk w2 B s C ∧ Blk w2 (B + 1) t D ∧ Below B w w2 :=
  ⟨h.1.below hb h.1.lt, h.2.1.below hb h.2.1.lt, h.2.2.trans (hb.mono (Nat.le_of_lt h.1.lt))⟩
theorem below_undrew {w w' : World} (h : Below w.drew.heap.size w.drew w') : Below w.heap.size w w' := ⟨h.os, h.tape, h.output, h.size, h.block⟩

set_option maxRecDepth 100000 in
set_option maxHeartbeats 8000000 in
theorem lawSames_any {w : World} {p q : Pl} {c d : Cap} (hc : CapM w w.heap.size p c) (hd : CapM w w.heap.size q d) :
    Calls Try.prog 6 #[capV p c, capV q d] w fun e w' => e = .returned (.bool true) ∧ Below w.heap.size w w' := by
  obtain ⟨pf, cf, pn, cn, ps, cs, pp, cp⟩ := p
  obtain ⟨qf, df, qn, dn, qs, ds, qp, dp⟩ := q
  obtain ⟨B, hB⟩ : ∃ B, w.heap.size = B := ⟨_, rfl⟩
  obtain ⟨W0, hW0⟩ : ∃ W0, (w.alloc (.cells #[.string c.note, .slice pf c.faces.length cf, .slice pn c.names.length cn, .slice ps c.secs.length cs, .slice pp c.pkts.length cp] 27)).alloc (.cells #[.string d.note, .slice qf d.faces.length df, .slice qn d.names.length dn, .slice qs d.secs.length ds, .slice qp d.pkts.length dp] 27) = W0 := ⟨_, rfl⟩
  have HC0 : Hid (CapM W0 W0.heap.size ⟨pf, cf, pn, cn, ps, cs, pp, cp⟩ c) := Lib.hid (by rw [← hW0]; exact boxed (boxed hc _) _)
  have HD0 : Hid (CapM W0 W0.heap.size ⟨qf, df, qn, dn, qs, ds, qp, dp⟩ d) := Lib.hid (by rw [← hW0]; exact boxed (boxed hd _) _)
  have HK0 : Hid (Blk W0 B 27 #[.string c.note, .slice pf c.faces.length cf, .slice pn c.names.length cn, .slice ps c.secs.length cs, .slice pp c.pkts.length cp] ∧ Blk W0 (B + 1) 27 #[.string d.note, .slice qf d.faces.length df, .slice qn d.names.length dn, .slice qs d.secs.length ds, .slice qp d.pkts.length dp] ∧ Below B w W0) := Lib.hid (by
    rw [← hW0, ← hB]
    have h := Blk.new (w.alloc (.cells #[.string c.note, .slice pf c.faces.length cf, .slice pn c.names.length cn, .slice ps c.secs.length cs, .slice pp c.pkts.length cp] 27)) 27 #[.string d.note, .slice qf d.faces.length df, .slice qn d.names.length dn, .slice qs d.secs.length ds, .slice qp d.pkts.length dp]
    rw [alloc_size] at h
    exact ⟨(Blk.new _ _ _).alloc _, h, ((Below.refl _ w).alloc (Nat.le_refl _) _).alloc (by rw [alloc_size]; omega) _⟩)
  rw [hB]
  have HMA : Hid (CapM w B ⟨pf, cf, pn, cn, ps, cs, pp, cp⟩ c) := Lib.hid (by rw [← hB]; exact hc)
  clear hc hd
  have q0 : W0.cell? ⟨B, 0, none⟩ = some (.string c.note) := HK0.out.1.cell 0
  have q1 : W0.cell? ⟨B, 1, none⟩ = some (.slice pf c.faces.length cf) := HK0.out.1.cell 1
  have q2 : W0.cell? ⟨B, 2, none⟩ = some (.slice pn c.names.length cn) := HK0.out.1.cell 2
  have q3 : W0.cell? ⟨B, 3, none⟩ = some (.slice ps c.secs.length cs) := HK0.out.1.cell 3
  have q4 : W0.cell? ⟨B, 4, none⟩ = some (.slice pp c.pkts.length cp) := HK0.out.1.cell 4
  have HV := Lib.hid (over_any HC0.out)
  go_enter Try.func6, Try.ntmps6
  go_wp2_with fail
  clear hW0 hB
  refine HV.out.mono ?_
  clear HV
  rintro e w1 ⟨⟨r, rfl⟩, hb1⟩
  have HC1 := Lib.hid (HC0.out.keep hb1 hb1.size)
  have HD1 := Lib.hid (HD0.out.keep hb1 hb1.size)
  have HK1 := Lib.hid (keep2 HK0.out hb1)
  clear hb1 q0 q1 q2 q3 q4 HC0 HD0 HK0
  cases r with
  | true =>
    go_wp2_with fail
    refine (known_any w1).mono ?_
    rintro e w2 ⟨rfl, hb2⟩
    have HB2 : Hid (Below B w w2) := Lib.hid (keep2 HK1.out hb2).2.2
    clear hb2
    go_wp2
    go_ret
    exact ⟨rfl, HB2.out⟩
  | false =>
    have q0 : w1.cell? ⟨B + 1, 0, none⟩ = some (.string d.note) := HK1.out.2.1.cell 0
    have q1 : w1.cell? ⟨B + 1, 1, none⟩ = some (.slice qf d.faces.length df) := HK1.out.2.1.cell 1
    have q2 : w1.cell? ⟨B + 1, 2, none⟩ = some (.slice qn d.names.length dn) := HK1.out.2.1.cell 2
    have q3 : w1.cell? ⟨B + 1, 3, none⟩ = some (.slice qs d.secs.length ds) := HK1.out.2.1.cell 3
    have q4 : w1.cell? ⟨B + 1, 4, none⟩ = some (.slice qp d.pkts.length dp) := HK1.out.2.1.cell 4
    go_wp2_with fail
    refine (over_any HD1.out).mono ?_
    rintro e w2 ⟨⟨r, rfl⟩, hb2⟩
    have HC2 := Lib.hid (HC1.out.keep hb2 hb2.size)
    have HD2 := Lib.hid (HD1.out.keep hb2 hb2.size)
    have HK2 := Lib.hid (keep2 HK1.out hb2)
    clear hb2 q0 q1 q2 q3 q4 HC1 HD1 HK1
    cases r with
    | true =>
      go_wp2_with fail
      refine (known_any w2).mono ?_
      rintro e w3 ⟨rfl, hb3⟩
      have HB3 : Hid (Below B w w3) := Lib.hid (keep2 HK2.out hb3).2.2
      clear hb3
      go_wp2
      go_ret
      exact ⟨rfl, HB3.out⟩
    | false =>
      go_upto_region 3 with fail
      go_cut [24] (fun s24 wx => s24 = .bool false ∧ Hid (Below w2.heap.size w2 wx))
      case first =>
        obtain ⟨r0, hr0⟩ : ∃ r0, eqB c d = r0 := ⟨_, rfl⟩
        have HR0 := Lib.hid hr0
        clear hr0
        have s1 : w2.drew.cell? ⟨B, 0, none⟩ = some (.string c.note) ∧ w2.drew.cell? ⟨B, 1, none⟩ = some (.slice pf c.faces.length cf) ∧ w2.drew.cell? ⟨B, 2, none⟩ = some (.slice pn c.names.length cn) ∧ w2.drew.cell? ⟨B, 3, none⟩ = some (.slice ps c.secs.length cs) ∧ w2.drew.cell? ⟨B, 4, none⟩ = some (.slice pp c.pkts.length cp) ∧ w2.drew.cell? ⟨B + 1, 0, none⟩ = some (.string d.note) ∧ w2.drew.cell? ⟨B + 1, 1, none⟩ = some (.slice qf d.faces.length df) ∧ w2.drew.cell? ⟨B + 1, 2, none⟩ = some (.slice qn d.names.length dn) ∧ w2.drew.cell? ⟨B + 1, 3, none⟩ = some (.slice qs d.secs.length ds) ∧ w2.drew.cell? ⟨B + 1, 4, none⟩ = some (.slice qp d.pkts.length dp) := ⟨HK2.out.1.cell 0, HK2.out.1.cell 1, HK2.out.1.cell 2, HK2.out.1.cell 3, HK2.out.1.cell 4, HK2.out.2.1.cell 0, HK2.out.2.1.cell 1, HK2.out.2.1.cell 2, HK2.out.2.1.cell 3, HK2.out.2.1.cell 4⟩
        have Hs1 := Lib.hid s1
        clear s1
        have HM2 : Hid (Blk w2.drew B 27 #[.string c.note, .slice pf c.faces.length cf, .slice pn c.names.length cn, .slice ps c.secs.length cs, .slice pp c.pkts.length cp] ∧ Blk w2.drew (B + 1) 27 #[.string d.note, .slice qf d.faces.length df, .slice qn d.names.length dn, .slice qs d.secs.length ds, .slice qp d.pkts.length dp] ∧ Below B w w2.drew) := Lib.hid ⟨HK2.out.1, HK2.out.2.1, HK2.out.2.2.drew⟩
        have HCd : Hid (CapM w2.drew w2.drew.heap.size ⟨pf, cf, pn, cn, ps, cs, pp, cp⟩ c) := Lib.hid (HC2.out.keep (Below.refl _ _).drew (Nat.le_refl _))
        have HDd : Hid (CapM w2.drew w2.drew.heap.size ⟨qf, df, qn, dn, qs, ds, qp, dp⟩ d) := Lib.hid (HD2.out.keep (Below.refl _ _).drew (Nat.le_refl _))
        refine wp_region_held_drew (S := fun w' => w'.cell? ⟨B, 0, none⟩ = some (.string c.note) ∧ w'.cell? ⟨B, 1, none⟩ = some (.slice pf c.faces.length cf) ∧ w'.cell? ⟨B, 2, none⟩ = some (.slice pn c.names.length cn) ∧ w'.cell? ⟨B, 3, none⟩ = some (.slice ps c.secs.length cs) ∧ w'.cell? ⟨B, 4, none⟩ = some (.slice pp c.pkts.length cp) ∧ w'.cell? ⟨B + 1, 0, none⟩ = some (.string d.note) ∧ w'.cell? ⟨B + 1, 1, none⟩ = some (.slice qf d.faces.length df) ∧ w'.cell? ⟨B + 1, 2, none⟩ = some (.slice qn d.names.length dn) ∧ w'.cell? ⟨B + 1, 3, none⟩ = some (.slice qs d.secs.length ds) ∧ w'.cell? ⟨B + 1, 4, none⟩ = some (.slice qp d.pkts.length dp)) (by kernel_rfl) Hs1.out (fun hHeld => ?_)
        refine wpAnyH_take (i := 0) (oi := { dst := some 18, op := Go.Op.load 27 (Go.Operand.tmp 2), type := 27, pos := "law.go:113", after := #[], guard := none }) (v := ?_) rfl (by kernel_rfl) (by kernel_rfl) (by kernel_rfl) (fun _ _ _ h => h) (Or.inl ⟨by rfl, ?_⟩) (by assumption) ?_
        rotate_left 1
        · intro w hSw; (try dsimp only at hSw); go_simp; try with_reducible rfl
        try simp only [Act.put, List.setIfInBounds_toArray, List.set_cons_zero, List.set_cons_succ]
        refine wpAnyH_take (i := 1) (oi := { dst := some 19, op := Go.Op.load 27 (Go.Operand.tmp 3), type := 27, pos := "law.go:113", after := #[], guard := none }) (v := ?_) rfl (by kernel_rfl) (by kernel_rfl) (by kernel_rfl) (fun _ _ _ h => h) (Or.inl ⟨by rfl, ?_⟩) (by assumption) ?_
        rotate_left 1
        · intro w hSw; (try dsimp only at hSw); go_simp; try with_reducible rfl
        try simp only [Act.put, List.setIfInBounds_toArray, List.set_cons_zero, List.set_cons_succ]
        refine wpAnyH_take (i := 3) (oi := { dst := some 21, op := Go.Op.load 27 (Go.Operand.tmp 2), type := 27, pos := "law.go:113", after := #[], guard := none }) (v := ?_) rfl (by kernel_rfl) (by kernel_rfl) (by kernel_rfl) (fun _ _ _ h => h) (Or.inl ⟨by rfl, ?_⟩) (by assumption) ?_
        rotate_left 1
        · intro w hSw; (try dsimp only at hSw); go_simp; try with_reducible rfl
        try simp only [Act.put, List.setIfInBounds_toArray, List.set_cons_zero, List.set_cons_succ]
        refine wpAnyH_take (i := 4) (oi := { dst := some 22, op := Go.Op.load 27 (Go.Operand.tmp 3), type := 27, pos := "law.go:113", after := #[], guard := none }) (v := ?_) rfl (by kernel_rfl) (by kernel_rfl) (by kernel_rfl) (fun _ _ _ h => h) (Or.inl ⟨by rfl, ?_⟩) (by assumption) ?_
        rotate_left 1
        · intro w hSw; (try dsimp only at hSw); go_simp; try with_reducible rfl
        try simp only [Act.put, List.setIfInBounds_toArray, List.set_cons_zero, List.set_cons_succ]
        refine wpAnyH_ready (rs := [2]) (by kernel_rfl) (by simp) ?_
        refine AllReadyH.cons (o := { dst := some 20, op := Go.Op.call { callee := Go.Callee.value (Go.Operand.func 21), args := #[Go.Operand.tmp 18, Go.Operand.tmp 19], argTypes := #[27, 27] }, type := 4, pos := "law.go:113", after := #[{ on := 0, ground := Go.Ground.data }, { on := 1, ground := Go.Ground.data }], guard := none }) rfl (fun K hK => ?_) (AllReadyH.nil)
        go_simp
        go_at_call 21
        with_reducible refine (same_any HCd.out HDd.out).mono ?_
        rintro e wa ⟨rfl, hb⟩
        rw [HR0.out]
        have HCwa := Lib.hid (HCd.out.keep hb hb.size)
        have HDwa := Lib.hid (HDd.out.keep hb hb.size)
        have HKwa := Lib.hid (keep2 HM2.out hb)
        have HBwa : Hid (Below w2.heap.size w2 wa) := Lib.hid (below_undrew hb)
        have Hwa := Lib.hid (show wa.cell? ⟨B, 0, none⟩ = some (.string c.note) ∧ wa.cell? ⟨B, 1, none⟩ = some (.slice pf c.faces.length cf) ∧ wa.cell? ⟨B, 2, none⟩ = some (.slice pn c.names.length cn) ∧ wa.cell? ⟨B, 3, none⟩ = some (.slice ps c.secs.length cs) ∧ wa.cell? ⟨B, 4, none⟩ = some (.slice pp c.pkts.length cp) ∧ wa.cell? ⟨B + 1, 0, none⟩ = some (.string d.note) ∧ wa.cell? ⟨B + 1, 1, none⟩ = some (.slice qf d.faces.length df) ∧ wa.cell? ⟨B + 1, 2, none⟩ = some (.slice qn d.names.length dn) ∧ wa.cell? ⟨B + 1, 3, none⟩ = some (.slice qs d.secs.length ds) ∧ wa.cell? ⟨B + 1, 4, none⟩ = some (.slice qp d.pkts.length dp) from ⟨HKwa.out.1.cell 0, HKwa.out.1.cell 1, HKwa.out.1.cell 2, HKwa.out.1.cell 3, HKwa.out.1.cell 4, HKwa.out.2.1.cell 0, HKwa.out.2.1.cell 1, HKwa.out.2.1.cell 2, HKwa.out.2.1.cell 3, HKwa.out.2.1.cell 4⟩)
        clear hb
        go_wp2_with fail
        refine hK.out _ _ Hwa.out (fun hHeld => ?_)
        clear hK K
        try simp only [Act.put, List.setIfInBounds_toArray, List.set_cons_zero, List.set_cons_succ]
        refine wpAnyH_ready (rs := [5]) (by kernel_rfl) (by simp) ?_
        refine AllReadyH.cons (o := { dst := some 23, op := Go.Op.call { callee := Go.Callee.value (Go.Operand.func 16), args := #[Go.Operand.tmp 21, Go.Operand.tmp 22], argTypes := #[27, 27] }, type := 4, pos := "law.go:113", after := #[{ on := 3, ground := Go.Ground.data }, { on := 4, ground := Go.Ground.data }, { on := 2, ground := Go.Ground.chain }], guard := none }) rfl (fun K hK => ?_) (AllReadyH.nil)
        go_simp
        go_at_call 16
        with_reducible refine (rsame_any HCwa.out HDwa.out).mono ?_
        rintro e wb ⟨rfl, hb⟩
        rw [HR0.out]
        have HCwb := Lib.hid (HCwa.out.keep hb hb.size)
        have HDwb := Lib.hid (HDwa.out.keep hb hb.size)
        have HKwb := Lib.hid (keep2 HKwa.out hb)
        have HBwb : Hid (Below w2.heap.size w2 wb) := Lib.hid (HBwa.out.trans (hb.mono HBwa.out.size))
        have Hwb := Lib.hid (show wb.cell? ⟨B, 0, none⟩ = some (.string c.note) ∧ wb.cell? ⟨B, 1, none⟩ = some (.slice pf c.faces.length cf) ∧ wb.cell? ⟨B, 2, none⟩ = some (.slice pn c.names.length cn) ∧ wb.cell? ⟨B, 3, none⟩ = some (.slice ps c.secs.length cs) ∧ wb.cell? ⟨B, 4, none⟩ = some (.slice pp c.pkts.length cp) ∧ wb.cell? ⟨B + 1, 0, none⟩ = some (.string d.note) ∧ wb.cell? ⟨B + 1, 1, none⟩ = some (.slice qf d.faces.length df) ∧ wb.cell? ⟨B + 1, 2, none⟩ = some (.slice qn d.names.length dn) ∧ wb.cell? ⟨B + 1, 3, none⟩ = some (.slice qs d.secs.length ds) ∧ wb.cell? ⟨B + 1, 4, none⟩ = some (.slice qp d.pkts.length dp) from ⟨HKwb.out.1.cell 0, HKwb.out.1.cell 1, HKwb.out.1.cell 2, HKwb.out.1.cell 3, HKwb.out.1.cell 4, HKwb.out.2.1.cell 0, HKwb.out.2.1.cell 1, HKwb.out.2.1.cell 2, HKwb.out.2.1.cell 3, HKwb.out.2.1.cell 4⟩)
        clear hb
        go_wp2_with fail
        refine hK.out _ _ Hwb.out (fun hHeld => ?_)
        clear hK K
        try simp only [Act.put, List.setIfInBounds_toArray, List.set_cons_zero, List.set_cons_succ]
        refine wpAnyH_take (i := 6) (oi := { dst := some 24, op := Go.Op.binOp Go.BinOp.neq 4 (Go.Operand.tmp 20) (Go.Operand.tmp 23) 4, type := 4, pos := "law.go:113", after := #[{ on := 2, ground := Go.Ground.data }, { on := 5, ground := Go.Ground.data }], guard := none }) (v := ?_) rfl (by kernel_rfl) (by kernel_rfl) (by kernel_rfl) (fun _ _ _ h => h) (Or.inl ⟨by rfl, ?_⟩) (by assumption) ?_
        rotate_left 1
        · intro w hSw; (try dsimp only at hSw); go_simp; try with_reducible rfl
        try simp only [Act.put, List.setIfInBounds_toArray, List.set_cons_zero, List.set_cons_succ]
        refine wpAnyH_done (by kernel_rfl) ?_ _
        all_goals
          go_wp2_with fail
          go_meet
          exact ⟨by simp, HBwb⟩
      case rest =>
        obtain ⟨rfl, HB3⟩ := hcut
        rename World => w3
        have HC3 := Lib.hid (HC2.out.keep HB3.out HB3.out.size)
        have HK3 := Lib.hid (keep2 HK2.out HB3.out)
        clear HC2 HD2 HK2 HB3
        have q0 : w3.cell? ⟨B, 0, none⟩ = some (.string c.note) := HK3.out.1.cell 0
        have q1 : w3.cell? ⟨B, 1, none⟩ = some (.slice pf c.faces.length cf) := HK3.out.1.cell 1
        have q2 : w3.cell? ⟨B, 2, none⟩ = some (.slice pn c.names.length cn) := HK3.out.1.cell 2
        have q3 : w3.cell? ⟨B, 3, none⟩ = some (.slice ps c.secs.length cs) := HK3.out.1.cell 3
        have q4 : w3.cell? ⟨B, 4, none⟩ = some (.slice pp c.pkts.length cp) := HK3.out.1.cell 4
        go_wp2_with fail
        obtain ⟨b, hb⟩ : ∃ b, w3.heap.size + 2 = b := ⟨_, rfl⟩
        have HCP := Lib.hid (copy_any HC3.out)
        rw [hb] at HCP
        have HBB : Hid (B + 2 ≤ b) := Lib.hid (by have := HK3.out.2.1.lt; omega)
        refine HCP.out.mono ?_
        clear HCP hb
        rintro e w4 ⟨⟨xf, yf, xn, yn, xs, ys, xp, yp⟩, rfl, hx4, hb4⟩
        have HC4 := Lib.hid (HC3.out.keep hb4 hb4.size)
        have HK4 := Lib.hid (keep2 HK3.out hb4)
        have HX4 := Lib.hid hx4
        clear hx4 hb4 q0 q1 q2 q3 q4 HC3 HK3
        obtain ⟨G, hG⟩ : ∃ G, w4.heap.size = G := ⟨_, rfl⟩
        have HTOP := Lib.hid hG
        obtain ⟨w5, hw5⟩ : ∃ w5, w4.alloc (.cells #[.string c.note, .slice xf c.faces.length yf, .slice xn c.names.length yn, .slice xs c.secs.length ys, .slice xp c.pkts.length yp] 27) = w5 := ⟨_, rfl⟩
        have hb5 : Below w4.heap.size w4 w5 := by rw [← hw5]; exact (Below.refl _ _).alloc (Nat.le_refl _) _
        have HB5 := Lib.hid hb5
        have HG5 : Hid (Blk w5 G 27 #[.string c.note, .slice xf c.faces.length yf, .slice xn c.names.length yn, .slice xs c.secs.length ys, .slice xp c.pkts.length yp]) := Lib.hid (by rw [← hw5, ← hG]; exact Blk.new _ _ _)
        have HC5 := Lib.hid (HC4.out.keep hb5 hb5.size)
        have HK5 := Lib.hid (keep2 HK4.out hb5)
        have HX5 := Lib.hid (HX4.out.below hb5)
        clear hb5
        have q0 : w5.cell? ⟨B, 0, none⟩ = some (.string c.note) := HK5.out.1.cell 0
        have q1 : w5.cell? ⟨B, 1, none⟩ = some (.slice pf c.faces.length cf) := HK5.out.1.cell 1
        have q2 : w5.cell? ⟨B, 2, none⟩ = some (.slice pn c.names.length cn) := HK5.out.1.cell 2
        have q3 : w5.cell? ⟨B, 3, none⟩ = some (.slice ps c.secs.length cs) := HK5.out.1.cell 3
        have q4 : w5.cell? ⟨B, 4, none⟩ = some (.slice pp c.pkts.length cp) := HK5.out.1.cell 4
        have g0 : w5.cell? ⟨G, 0, none⟩ = some (.string c.note) := HG5.out.cell 0
        have g1 : w5.cell? ⟨G, 1, none⟩ = some (.slice xf c.faces.length yf) := HG5.out.cell 1
        have g2 : w5.cell? ⟨G, 2, none⟩ = some (.slice xn c.names.length yn) := HG5.out.cell 2
        have g3 : w5.cell? ⟨G, 3, none⟩ = some (.slice xs c.secs.length ys) := HG5.out.cell 3
        have g4 : w5.cell? ⟨G, 4, none⟩ = some (.slice xp c.pkts.length yp) := HG5.out.cell 4
        go_wp2_with fail
        clear hw5 hG
        refine (rsame_any HX5.out.capM HC5.out).mono ?_
        rintro e w6 ⟨rfl, hb6⟩
        rw [eqB_true rfl]
        have HB6 := Lib.hid (HB5.out.trans (hb6.mono HB5.out.size))
        have HG6 := Lib.hid (HG5.out.below hb6 HG5.out.lt)
        have HC6 := Lib.hid (HC5.out.keep hb6 hb6.size)
        have HK6 := Lib.hid (keep2 HK5.out hb6)
        have HX6 := Lib.hid (HX5.out.below hb6)
        clear hb6 q0 q1 q2 q3 q4 g0 g1 g2 g3 g4 HB5 HG5 HC5 HK5 HX5
        have q0 : w6.cell? ⟨B, 0, none⟩ = some (.string c.note) := HK6.out.1.cell 0
        have q1 : w6.cell? ⟨B, 1, none⟩ = some (.slice pf c.faces.length cf) := HK6.out.1.cell 1
        have q2 : w6.cell? ⟨B, 2, none⟩ = some (.slice pn c.names.length cn) := HK6.out.1.cell 2
        have q3 : w6.cell? ⟨B, 3, none⟩ = some (.slice ps c.secs.length cs) := HK6.out.1.cell 3
        have q4 : w6.cell? ⟨B, 4, none⟩ = some (.slice pp c.pkts.length cp) := HK6.out.1.cell 4
        have g0 : w6.cell? ⟨G, 0, none⟩ = some (.string c.note) := HG6.out.cell 0
        have g1 : w6.cell? ⟨G, 1, none⟩ = some (.slice xf c.faces.length yf) := HG6.out.cell 1
        have g2 : w6.cell? ⟨G, 2, none⟩ = some (.slice xn c.names.length yn) := HG6.out.cell 2
        have g3 : w6.cell? ⟨G, 3, none⟩ = some (.slice xs c.secs.length ys) := HG6.out.cell 3
        have g4 : w6.cell? ⟨G, 4, none⟩ = some (.slice xp c.pkts.length yp) := HG6.out.cell 4
        go_wp2_with fail
        refine (same_any HC6.out HX6.out.capM).mono ?_
        rintro e w7 ⟨rfl, hb7⟩
        rw [eqB_true rfl]
        have HB7 := Lib.hid (HB6.out.trans (hb7.mono HB6.out.size))
        have HG7 := Lib.hid (HG6.out.below hb7 HG6.out.lt)
        have HC7 := Lib.hid (HC6.out.keep hb7 hb7.size)
        have HK7 := Lib.hid (keep2 HK6.out hb7)
        clear hb7 q0 q1 q2 q3 q4 g0 g1 g2 g3 g4 HB6 HG6 HC6 HK6 HX6
        have q0 : w7.cell? ⟨B, 0, none⟩ = some (.string c.note) := HK7.out.1.cell 0
        have q1 : w7.cell? ⟨B, 1, none⟩ = some (.slice pf c.faces.length cf) := HK7.out.1.cell 1
        have q2 : w7.cell? ⟨B, 2, none⟩ = some (.slice pn c.names.length cn) := HK7.out.1.cell 2
        have q3 : w7.cell? ⟨B, 3, none⟩ = some (.slice ps c.secs.length cs) := HK7.out.1.cell 3
        have q4 : w7.cell? ⟨B, 4, none⟩ = some (.slice pp c.pkts.length cp) := HK7.out.1.cell 4
        go_wp2_with fail
        refine (rcopy_any HC7.out).mono ?_
        rintro e w8 ⟨⟨zf, tf, zn, tn, zs, ts, zp, tp⟩, rfl, hz8, hb8⟩
        have HB8 := Lib.hid (HB7.out.trans (hb8.mono HB7.out.size))
        have HG8 := Lib.hid (HG7.out.below hb8 HG7.out.lt)
        have HC8 := Lib.hid (HC7.out.keep hb8 hb8.size)
        have HK8 := Lib.hid (keep2 HK7.out hb8)
        have HT8 : Hid (G ≤ w7.heap.size + 2) := Lib.hid (by have := HB7.out.size; have := HTOP.out; omega)
        obtain ⟨b2, hb2⟩ : ∃ b2, w7.heap.size + 2 = b2 := ⟨_, rfl⟩
        rw [hb2] at hz8 HT8
        have HZ8 := Lib.hid hz8
        clear hz8 hb8 hb2 q0 q1 q2 q3 q4 HB7 HG7 HC7 HK7
        obtain ⟨Hb, hH⟩ : ∃ Hb, w8.heap.size = Hb := ⟨_, rfl⟩
        obtain ⟨V, hV⟩ : ∃ V, w8.alloc (.cells #[.string c.note, .slice zf c.faces.length tf, .slice zn c.names.length tn, .slice zs c.secs.length ts, .slice zp c.pkts.length tp] 27) = V := ⟨_, rfl⟩
        have hb9 : Below w8.heap.size w8 V := by rw [← hV]; exact (Below.refl _ _).alloc (Nat.le_refl _) _
        have HBV : Hid (Below G w4 V) := Lib.hid (by rw [← HTOP.out]; exact HB8.out.trans (hb9.mono HB8.out.size))
        have HHV : Hid (Blk V Hb 27 #[.string c.note, .slice zf c.faces.length tf, .slice zn c.names.length tn, .slice zs c.secs.length ts, .slice zp c.pkts.length tp]) := Lib.hid (by rw [← hV, ← hH]; exact Blk.new _ _ _)
        have HGV := Lib.hid (HG8.out.below hb9 HG8.out.lt)
        have HCV := Lib.hid (HC8.out.keep hb9 hb9.size)
        have HKV := Lib.hid (keep2 HK8.out hb9)
        have HZV := Lib.hid (HZ8.out.below hb9)
        clear hb9 HB8 HG8 HC8 HK8 HZ8
        have gv : V.cell? ⟨G, 4, none⟩ = some (.slice xp c.pkts.length yp) := HGV.out.cell 4
        go_wp2_with fail
        clear hV hH
        clear gv
        obtain ⟨w0p, rp, hrp⟩ := HX4.out.pkts
        have HOp := Lib.hid hrp
        clear hrp
        go_loopw [7] (fun i wr => ∃ k : Nat, i = .int .i64 k ∧ k ≤ c.pkts.length ∧ Hid (Turned b G V wr) ∧ Hid (Below B w wr)) (fun i _ => c.pkts.length - (intOf i).toNat)
        case atStart => exact ⟨0, rfl, Nat.zero_le _, Lib.hid (Turned.refl _ _ _), Lib.hid HKV.out.2.2⟩
        case round =>
          obtain ⟨k, rfl, hk, HT, HW⟩ := hrel
          have HG : Hid (Blk wr G 27 #[.string c.note, .slice xf c.faces.length yf, .slice xn c.names.length yn, .slice xs c.secs.length ys, .slice xp c.pkts.length yp]) := Lib.hid (HT.out.other.2 _ _ _ (by decide) HGV.out)
          have x1 : wr.cell? ⟨G, 4, none⟩ = some (.slice xp c.pkts.length yp) := HG.out.cell 4
          have hbig : c.pkts.length ≤ 140737488355328 := by have := HX4.out.lp; omega
          by_cases hlt : k < c.pkts.length
          · obtain ⟨g, cap, gs, A, cc, hv, hgb, hgk, ho, h256, hcap, hok, hcell⟩ := HOp.out.readO pktR hlt
            injection hv with hv1 hv2 hv3
            subst hv1
            subst hv3
            clear hv2
            obtain ⟨L, hL⟩ : ∃ L, (pktKd.dat c.pkts[k]).length = L := ⟨_, rfl⟩
            rw [hL] at hcell ho hcap
            have d3 : w4.cell? ⟨g, k * 5 + 3, none⟩ = some (.slice A L cc) := hcell 3 _ rfl
            have HD3 := Lib.hid (fun (wy : World) (ht : Turned b G V wy) => turned_cell hgk (Nat.le_of_eq HTOP.out) HBV.out ht (by decide) d3)
            have HBY := Lib.hid (fun (wy : World) (ht : Turned b G V wy) (j : Nat) (hj : j < L) => turned_byte ho (Nat.le_of_eq HTOP.out) HBV.out ht hj)
            have x3 : wr.cell? ⟨g, k * 5 + 3, none⟩ = some (.slice A L cc) := HD3.out _ HT.out
            clear hgk ho h256 hok hcell d3 hL hgb
            have hk0 : (0 : Int) ≤ (k : Int) := by omega
            have hlt' : (k : Int) < (c.pkts.length : Int) := by omega
            go_wp2_with fail
            clear x1 x3
            go_loopw [8] (fun i wr => ∃ j : Nat, i = .int .i64 j ∧ j ≤ L ∧ Hid (Turned b G V wr) ∧ Hid (Below B w wr)) (fun i _ => L - (intOf i).toNat)
            case atStart => exact ⟨0, rfl, Nat.zero_le _, HT, HW⟩
            case round =>
              clear HT HW HG
              obtain ⟨j, rfl, hj, HT, HW⟩ := hrel
              have HG : Hid (Blk wr G 27 #[.string c.note, .slice xf c.faces.length yf, .slice xn c.names.length yn, .slice xs c.secs.length ys, .slice (some ⟨g, 0, none⟩) c.pkts.length yp]) := Lib.hid (HT.out.other.2 _ _ _ (by decide) HGV.out)
              have x1 : wr.cell? ⟨G, 4, none⟩ = some (.slice (some ⟨g, 0, none⟩) c.pkts.length yp) := HG.out.cell 4
              have x3 : wr.cell? ⟨g, k * 5 + 3, none⟩ = some (.slice A L cc) := HD3.out _ HT.out
              by_cases hjl : j < L
              · obtain ⟨g2, cur, y, hA, hbg2, hgt2, hblk, hc5, hf5⟩ := HBY.out _ HT.out j hjl
                subst hA
                have HBL := Lib.hid hblk
                clear hblk
                have hj0 : (0 : Int) ≤ (j : Int) := by omega
                have hjl' : (j : Int) < (L : Int) := by omega
                go_wp2
                go_roundw
                case rel => exact ⟨j + 1, by go_num, by omega, Lib.hid (HT.out.set HBL.out hgt2 _), Lib.hid (HW.out.setCell (p := ⟨g2, j, none⟩) (by show B ≤ g2; have := HBB.out; omega) _)⟩
                case measure => simp [intOf]; omega
              · go_wp2
                go_roundw
                case rel => exact ⟨k + 1, by go_num, by omega, HT, HW⟩
                case measure => simp [intOf]; omega
          · rename World => U1
            clear HG
            have x2 : U1.cell? ⟨G, 2, none⟩ = some (.slice xn c.names.length yn) := (HT.out.other.2 _ _ _ (by decide) HGV.out).cell 2
            go_wp2_with fail
            clear x1 x2 hk hlt hbig
            obtain ⟨w0n, rn, hrn⟩ := HX4.out.names
            have HOn := Lib.hid hrn
            clear hrn
            go_loopw [9] (fun i wr => ∃ k : Nat, i = .int .i64 k ∧ k ≤ c.names.length ∧ Hid (Turned b G V wr) ∧ Hid (Below B w wr)) (fun i _ => c.names.length - (intOf i).toNat)
            case atStart => exact ⟨0, rfl, Nat.zero_le _, HT, HW⟩
            case round =>
              obtain ⟨k, rfl, hk, HT, HW⟩ := hrel
              have HG : Hid (Blk wr G 27 #[.string c.note, .slice xf c.faces.length yf, .slice xn c.names.length yn, .slice xs c.secs.length ys, .slice xp c.pkts.length yp]) := Lib.hid (HT.out.other.2 _ _ _ (by decide) HGV.out)
              have x1 : wr.cell? ⟨G, 2, none⟩ = some (.slice xn c.names.length yn) := HG.out.cell 2
              have hbig : c.names.length ≤ 140737488355328 := by have := HX4.out.ln; omega
              by_cases hlt : k < c.names.length
              · obtain ⟨g, cap, gs, A, cc, hv, hgb, hgk, ho, h256, hcap, hok, hcell⟩ := HOn.out.readO namR hlt
                injection hv with hv1 hv2 hv3
                subst hv1
                subst hv3
                clear hv2
                obtain ⟨L, hL⟩ : ∃ L, (namKd.dat c.names[k]).length = L := ⟨_, rfl⟩
                rw [hL] at hcell ho hcap
                have d3 : w4.cell? ⟨g, k * 2, none⟩ = some (.slice A L cc) := hcell 0 _ rfl
                have HD3 := Lib.hid (fun (wy : World) (ht : Turned b G V wy) => turned_cell hgk (Nat.le_of_eq HTOP.out) HBV.out ht (by decide) d3)
                have HBY := Lib.hid (fun (wy : World) (ht : Turned b G V wy) (j : Nat) (hj : j < L) => turned_byte ho (Nat.le_of_eq HTOP.out) HBV.out ht hj)
                have x3 : wr.cell? ⟨g, k * 2, none⟩ = some (.slice A L cc) := HD3.out _ HT.out
                clear hgk ho h256 hok hcell d3 hL hgb
                have hk0 : (0 : Int) ≤ (k : Int) := by omega
                have hlt' : (k : Int) < (c.names.length : Int) := by omega
                go_wp2_with fail
                clear x1 x3
                go_loopw [10] (fun i wr => ∃ j : Nat, i = .int .i64 j ∧ j ≤ L ∧ Hid (Turned b G V wr) ∧ Hid (Below B w wr)) (fun i _ => L - (intOf i).toNat)
                case atStart => exact ⟨0, rfl, Nat.zero_le _, HT, HW⟩
                case round =>
                  clear HT HW HG
                  obtain ⟨j, rfl, hj, HT, HW⟩ := hrel
                  have HG : Hid (Blk wr G 27 #[.string c.note, .slice xf c.faces.length yf, .slice (some ⟨g, 0, none⟩) c.names.length yn, .slice xs c.secs.length ys, .slice xp c.pkts.length yp]) := Lib.hid (HT.out.other.2 _ _ _ (by decide) HGV.out)
                  have x1 : wr.cell? ⟨G, 2, none⟩ = some (.slice (some ⟨g, 0, none⟩) c.names.length yn) := HG.out.cell 2
                  have x3 : wr.cell? ⟨g, k * 2, none⟩ = some (.slice A L cc) := HD3.out _ HT.out
                  by_cases hjl : j < L
                  · obtain ⟨g2, cur, y, hA, hbg2, hgt2, hblk, hc5, hf5⟩ := HBY.out _ HT.out j hjl
                    subst hA
                    have HBL := Lib.hid hblk
                    clear hblk
                    have hj0 : (0 : Int) ≤ (j : Int) := by omega
                    have hjl' : (j : Int) < (L : Int) := by omega
                    go_wp2
                    go_roundw
                    case rel => exact ⟨j + 1, by go_num, by omega, Lib.hid (HT.out.set HBL.out hgt2 _), Lib.hid (HW.out.setCell (p := ⟨g2, j, none⟩) (by show B ≤ g2; have := HBB.out; omega) _)⟩
                    case measure => simp [intOf]; omega
                  · go_wp2
                    go_roundw
                    case rel => exact ⟨k + 1, by go_num, by omega, HT, HW⟩
                    case measure => simp [intOf]; omega
              · rename World => U2
                clear HG
                have HMF : Hid (CapM U2 U2.heap.size ⟨pf, cf, pn, cn, ps, cs, pp, cp⟩ c) := Lib.hid (HMA.out.keep HW.out (by have := HT.out.other.1; have := HKV.out.1.lt; omega))
                have HZF : Hid (CapO U2 b2 ⟨zf, tf, zn, tn, zs, ts, zp, tp⟩ c) := Lib.hid (HZV.out.far (fun g hg => HT.out.far g (Nat.le_trans HT8.out hg)))
                have HBF : Hid (Blk U2 B 27 #[.string c.note, .slice pf c.faces.length cf, .slice pn c.names.length cn, .slice ps c.secs.length cs, .slice pp c.pkts.length cp]) := Lib.hid (HT.out.other.2 _ _ _ (by decide) HKV.out.1)
                have HHF : Hid (Blk U2 Hb 27 #[.string c.note, .slice zf c.faces.length tf, .slice zn c.names.length tn, .slice zs c.secs.length ts, .slice zp c.pkts.length tp]) := Lib.hid (HT.out.other.2 _ _ _ (by decide) HHV.out)
                have q0 : U2.cell? ⟨B, 0, none⟩ = some (.string c.note) := HBF.out.cell 0
                have q1 : U2.cell? ⟨B, 1, none⟩ = some (.slice pf c.faces.length cf) := HBF.out.cell 1
                have q2 : U2.cell? ⟨B, 2, none⟩ = some (.slice pn c.names.length cn) := HBF.out.cell 2
                have q3 : U2.cell? ⟨B, 3, none⟩ = some (.slice ps c.secs.length cs) := HBF.out.cell 3
                have q4 : U2.cell? ⟨B, 4, none⟩ = some (.slice pp c.pkts.length cp) := HBF.out.cell 4
                have h0 : U2.cell? ⟨Hb, 0, none⟩ = some (.string c.note) := HHF.out.cell 0
                have h1 : U2.cell? ⟨Hb, 1, none⟩ = some (.slice zf c.faces.length tf) := HHF.out.cell 1
                have h2 : U2.cell? ⟨Hb, 2, none⟩ = some (.slice zn c.names.length tn) := HHF.out.cell 2
                have h3 : U2.cell? ⟨Hb, 3, none⟩ = some (.slice zs c.secs.length ts) := HHF.out.cell 3
                have h4 : U2.cell? ⟨Hb, 4, none⟩ = some (.slice zp c.pkts.length tp) := HHF.out.cell 4
                go_wp2_with fail
                refine (rsame_any HMF.out HZF.out.capM).mono ?_
                rintro e ua ⟨rfl, hba⟩
                rw [eqB_true rfl]
                have HBA : Hid (Below B w ua) := Lib.hid (HW.out.trans (hba.mono (Nat.le_of_lt HBF.out.lt)))
                have HSA : Hid (B ≤ ua.heap.size) := Lib.hid (by have := hba.size; have := HBF.out.lt; omega)
                clear hba q0 q1 q2 q3 q4 h0 h1 h2 h3 h4 x1
                go_wp2_with fail
                refine (known_any ua).mono ?_
                rintro e ub ⟨rfl, hbb⟩
                have HBB2 : Hid (Below B w ub) := Lib.hid (HBA.out.trans (hbb.mono HSA.out))
                clear hbb
                go_wp2
                go_ret
                exact ⟨rfl, HBB2.out⟩
end Go.Proofs.Ytlimkckomdipkaa
