/- The reference's Copy. -/
import Derived.Test.YtlimkckomdipkaaCopyR
import Derived.Deep.DeepCutAuto
namespace Go.Proofs.Ytlimkckomdipkaa
open Go.RowKit

set_option maxRecDepth 100000 in
set_option maxHeartbeats 8000000 in
theorem rcopy_any {w : World} {p : Pl} {c : Cap} (hm : CapM w w.heap.size p c) :
    Calls Try.prog 23 #[capV p c] w fun e w' => ∃ q, e = .returned (capV q c) ∧ CapO w' (w.heap.size + 2) q c ∧ Below w.heap.size w w' := by
  obtain ⟨pf, cf, pn, cn, ps, cs, pp, cp⟩ := p
  have HM := Lib.hid hm
  clear hm
  obtain ⟨B, hB⟩ : ∃ B, w.heap.size = B := ⟨_, rfl⟩
  obtain ⟨W0, hW0⟩ : ∃ W0, (w.alloc (.cells #[.string c.note, .slice pf c.faces.length cf, .slice pn c.names.length cn, .slice ps c.secs.length cs, .slice pp c.pkts.length cp] 27)).alloc (.cells #[.string ⟨#[]⟩, .slice none 0 0, .slice none 0 0, .slice none 0 0, .slice none 0 0] 27) = W0 := ⟨_, rfl⟩
  have HK0 : Hid (Blk W0 B 27 #[.string c.note, .slice pf c.faces.length cf, .slice pn c.names.length cn, .slice ps c.secs.length cs, .slice pp c.pkts.length cp] ∧ Below B w W0) := Lib.hid (by rw [← hW0, ← hB]; exact ⟨(Blk.new _ _ _).alloc _, ((Below.refl _ w).alloc (Nat.le_refl _) _).alloc (by rw [alloc_size]; omega) _⟩)
  have HZ0 : Hid (Blk W0 (B + 1) 27 zeroB) := Lib.hid (by
    have h := Blk.new (w.alloc (.cells #[.string c.note, .slice pf c.faces.length cf, .slice pn c.names.length cn, .slice ps c.secs.length cs, .slice pp c.pkts.length cp] 27)) 27 zeroB
    rw [alloc_size, hB] at h
    rw [← hW0]; exact h)
  have HS0 : Hid (B + 2 ≤ W0.heap.size) := Lib.hid (by rw [← hW0, alloc_size, alloc_size, hB]; omega)
  rw [hB] at HM ⊢
  have HBS := Lib.hid hB
  have hlB : B < W0.heap.size := HK0.out.1.lt
  obtain ⟨fA, fc, wA, rA, hrunA, hoA, hlA, heA, hgA⟩ := run_app_rows (A := pf) W0.drew (B + 2) 54 22 3 32 _ run_app_nil22 Try.underlying22 info54 (by rfl) (by decide) (fun x w B vs h => facOne x w B vs h) (HM.out.faces.keep facK HK0.out.2.drew (by have := HS0.out; show B ≤ W0.heap.size; omega)) (c := cf) HM.out.lf (by decide) HS0.out
  obtain ⟨fB, fd, wB, rB, hrunB, hoB, hlB', heB, hgB⟩ := run_app_rows (A := pf) (W0.drew.alloc (.cells zeroB 27)) (B + 2) 54 22 3 32 _ run_app_nil22 Try.underlying22 info54 (by rfl) (by decide) (fun x w B vs h => facOne x w B vs h) (HM.out.faces.keep facK (HK0.out.2.drew.alloc (Nat.le_of_lt hlB) _) (by rw [alloc_size]; show B ≤ W0.heap.size + 1; omega)) (c := cf) HM.out.lf (by decide) (by rw [alloc_size]; have := HS0.out; show B + 2 ≤ W0.heap.size + 1; omega)
  have q0 : W0.cell? ⟨B, 0, none⟩ = some (.string c.note) := HK0.out.1.cell 0
  have q1 : W0.cell? ⟨B, 1, none⟩ = some (.slice pf c.faces.length cf) := HK0.out.1.cell 1
  have kD : Blk W0.drew B 27 #[.string c.note, .slice pf c.faces.length cf, .slice pn c.names.length cn, .slice ps c.secs.length cs, .slice pp c.pkts.length cp] := HK0.out.1
  have zD : Blk W0.drew (B + 1) 27 zeroB := HZ0.out
  have kA : Blk wA B 27 #[.string c.note, .slice pf c.faces.length cf, .slice pn c.names.length cn, .slice ps c.secs.length cs, .slice pp c.pkts.length cp] := kD.grown hgA (by simp)
  have kC : Blk (W0.drew.alloc (.cells zeroB 27)) B 27 #[.string c.note, .slice pf c.faces.length cf, .slice pn c.names.length cn, .slice ps c.secs.length cs, .slice pp c.pkts.length cp] := kD.alloc _
  have kB : Blk wB B 27 #[.string c.note, .slice pf c.faces.length cf, .slice pn c.names.length cn, .slice ps c.secs.length cs, .slice pp c.pkts.length cp] := kC.grown hgB (by simp)
  have gB : Blk wB W0.heap.size 27 zeroB := (Blk.new W0.drew 27 zeroB).grown hgB (by simp)
  have zA : Blk wA (B + 1) 27 zeroB := zD.grown hgA (by simp)
  have zB : Blk wB (B + 1) 27 zeroB := (zD.alloc _).grown hgB (by simp)
  have bA : Below B w wA := HK0.out.2.drew.grown hgA (Nat.le_of_lt hlB) (fun k h => by cases h)
  have bB : Below B w wB := (HK0.out.2.drew.alloc (Nat.le_of_lt hlB) (.cells zeroB 27)).grown hgB (by rw [alloc_size]; show B ≤ W0.heap.size + 1; omega) (fun k h => by cases h)
  have a0 : wA.cell? ⟨B, 0, none⟩ = some (.string c.note) := kA.cell 0
  have a1 : wA.cell? ⟨B, 1, none⟩ = some (.slice pf c.faces.length cf) := kA.cell 1
  have b0 : wB.cell? ⟨B, 0, none⟩ = some (.string c.note) := kB.cell 0
  have b1 : wB.cell? ⟨B, 1, none⟩ = some (.slice pf c.faces.length cf) := kB.cell 1
  have c0 : (W0.drew.alloc (.cells zeroB 27)).cell? ⟨B, 0, none⟩ = some (.string c.note) := kC.cell 0
  have c1 : (W0.drew.alloc (.cells zeroB 27)).cell? ⟨B, 1, none⟩ = some (.slice pf c.faces.length cf) := kC.cell 1
  have d0 : (wA.alloc (.cells zeroB 27)).cell? ⟨B, 0, none⟩ = some (.string c.note) := (kA.alloc _).cell 0
  have d1 : (wA.alloc (.cells zeroB 27)).cell? ⟨B, 1, none⟩ = some (.slice pf c.faces.length cf) := (kA.alloc _).cell 1
  have e0 : wB.cell? ⟨W0.heap.size, 0, none⟩ = some (.string ⟨#[]⟩) := gB.cell 0
  have f0 : wB.frozen? ⟨W0.heap.size, 0, none⟩ = false := gB.frozen 0
  have e1 : wB.cell? ⟨W0.heap.size, 1, none⟩ = some (.slice none 0 0) := gB.cell 1
  have f1 : wB.frozen? ⟨W0.heap.size, 1, none⟩ = false := gB.frozen 1
  have e2 : wB.cell? ⟨W0.heap.size, 2, none⟩ = some (.slice none 0 0) := gB.cell 2
  have f2 : wB.frozen? ⟨W0.heap.size, 2, none⟩ = false := gB.frozen 2
  have e3 : wB.cell? ⟨W0.heap.size, 3, none⟩ = some (.slice none 0 0) := gB.cell 3
  have f3 : wB.frozen? ⟨W0.heap.size, 3, none⟩ = false := gB.frozen 3
  have e4 : wB.cell? ⟨W0.heap.size, 4, none⟩ = some (.slice none 0 0) := gB.cell 4
  have f4 : wB.frozen? ⟨W0.heap.size, 4, none⟩ = false := gB.frozen 4
  have FA : Hid (OwnL wA (B + 2) 54 3 FacE (.slice fA c.faces.length fc) c.faces rA) := Lib.hid ⟨hoA, hlA, fun i h1 h2 => heA i h1 h2, fun r hr u hu => by
    obtain ⟨i, hi, rfl⟩ := List.mem_iff_getElem.1 hr
    exact facOne _ _ _ _ (heA i (by rw [← hlA]; exact hi) hi).2 u hu⟩
  have FB : Hid (OwnL wB (B + 2) 54 3 FacE (.slice fB c.faces.length fd) c.faces rB) := Lib.hid ⟨hoB, hlB', fun i h1 h2 => heB i h1 h2, fun r hr u hu => by
    obtain ⟨i, hi, rfl⟩ := List.mem_iff_getElem.1 hr
    exact facOne _ _ _ _ (heB i (by rw [← hlB']; exact hi) hi).2 u hu⟩
  have HG5 := Lib.hid (set5 gB (.string c.note) (.slice fB c.faces.length fd) (.slice none 0 0) (.slice none 0 0) (.slice none 0 0))
  have hne : B ≠ W0.heap.size := Nat.ne_of_lt hlB
  have kB5 : Blk (((((wB.setCell ⟨W0.heap.size, 0, none⟩ (.string c.note)).setCell ⟨W0.heap.size, 1, none⟩ (.slice fB c.faces.length fd)).setCell ⟨W0.heap.size, 2, none⟩ (.slice none 0 0)).setCell ⟨W0.heap.size, 3, none⟩ (.slice none 0 0)).setCell ⟨W0.heap.size, 4, none⟩ (.slice none 0 0)) B 27 #[.string c.note, .slice pf c.faces.length cf, .slice pn c.names.length cn, .slice ps c.secs.length cs, .slice pp c.pkts.length cp] := ((((kB.far (p := ⟨W0.heap.size, 0, none⟩) hne _).far (p := ⟨W0.heap.size, 1, none⟩) hne _).far (p := ⟨W0.heap.size, 2, none⟩) hne _).far (p := ⟨W0.heap.size, 3, none⟩) hne _).far (p := ⟨W0.heap.size, 4, none⟩) hne _
  have KB5 := Lib.hid kB5
  have hne1 : B + 1 ≠ W0.heap.size := by have := HS0.out; omega
  have ZB5 := Lib.hid (((((zB.far (p := ⟨W0.heap.size, 0, none⟩) hne1 (.string c.note)).far (p := ⟨W0.heap.size, 1, none⟩) hne1 (.slice fB c.faces.length fd)).far (p := ⟨W0.heap.size, 2, none⟩) hne1 (.slice none 0 0)).far (p := ⟨W0.heap.size, 3, none⟩) hne1 (.slice none 0 0)).far (p := ⟨W0.heap.size, 4, none⟩) hne1 (.slice none 0 0))
  have KA := Lib.hid kA
  have KB := Lib.hid kB
  have ZA := Lib.hid zA
  have ZB := Lib.hid zB
  have GB := Lib.hid gB
  have BA := Lib.hid bA
  have BB := Lib.hid bB
  have SA : Hid (B + 2 ≤ wA.heap.size ∧ W0.heap.size ≤ wA.heap.size ∧ W0.heap.size + 1 ≤ wB.heap.size) := Lib.hid (by
    have h1 := hgA.size
    have h2 := hgB.size
    have h3 := HS0.out
    rw [alloc_size] at h2
    exact ⟨Nat.le_trans h3 h1, h1, h2⟩)
  clear hoA hlA heA hgA hoB hlB' heB hgB kA kB kC kD zA zB zD gB bA bB kB5 hne hne1
  go_enter Try.func23, Try.ntmps23
  go_upto_region 1 with fail
  clear hW0
  go_cut [3] (fun s3 wx => ∃ (G : Nat) (A : Option Addr) (k : Nat) (rows : List (List Value)), s3 = .pointer (some ⟨G, 0, none⟩) ∧ Hid (Blk wx G 27 #[.string c.note, .slice A c.faces.length k, .slice none 0 0, .slice none 0 0, .slice none 0 0]) ∧ Hid (Blk wx B 27 #[.string c.note, .slice pf c.faces.length cf, .slice pn c.names.length cn, .slice ps c.secs.length cs, .slice pp c.pkts.length cp] ∧ Below B w wx) ∧ Hid (Blk wx (B + 1) 27 zeroB) ∧ Hid (OwnL wx (B + 2) 54 3 FacE (.slice A c.faces.length k) c.faces rows) ∧ Hid (B + 2 ≤ G))
  case first =>
    refine wp_region_held_drew (S := fun w' => w'.cell? ⟨B, 0, none⟩ = some (.string c.note) ∧ w'.cell? ⟨B, 1, none⟩ = some (.slice pf c.faces.length cf)) (by kernel_rfl) ⟨q0, q1⟩ (fun hHeld => ?_)
    refine wpAnyH_take (i := 0) (oi := { dst := some 7, op := Go.Op.fieldAddr 27 (Go.Operand.tmp 1) 0, type := 0, pos := "ref.go:460", after := #[], guard := none }) (v := ?_) rfl (by kernel_rfl) (by kernel_rfl) (by kernel_rfl) (fun _ _ _ h => h) (Or.inl ⟨by rfl, ?_⟩) (by assumption) ?_
    rotate_left 1
    · intro w hSw; (try dsimp only at hSw); go_simp; try with_reducible rfl
    try simp only [Act.put, List.setIfInBounds_toArray, List.set_cons_zero, List.set_cons_succ]
    refine wpAnyH_take (i := 1) (oi := { dst := some 8, op := Go.Op.load 9 (Go.Operand.tmp 7), type := 9, pos := "ref.go:460", after := #[{ on := 0, ground := Go.Ground.data }], guard := none }) (v := ?_) rfl (by kernel_rfl) (by kernel_rfl) (by kernel_rfl) (fun _ _ _ h => h) (Or.inl ⟨by rfl, ?_⟩) (by assumption) ?_
    rotate_left 1
    · intro w hSw; (try dsimp only at hSw); go_simp; try with_reducible rfl
    try simp only [Act.put, List.setIfInBounds_toArray, List.set_cons_zero, List.set_cons_succ]
    refine wpAnyH_take (i := 2) (oi := { dst := some 9, op := Go.Op.fieldAddr 27 (Go.Operand.tmp 1) 1, type := 0, pos := "ref.go:460", after := #[], guard := none }) (v := ?_) rfl (by kernel_rfl) (by kernel_rfl) (by kernel_rfl) (fun _ _ _ h => h) (Or.inl ⟨by rfl, ?_⟩) (by assumption) ?_
    rotate_left 1
    · intro w hSw; (try dsimp only at hSw); go_simp; try with_reducible rfl
    try simp only [Act.put, List.setIfInBounds_toArray, List.set_cons_zero, List.set_cons_succ]
    refine wpAnyH_take (i := 3) (oi := { dst := some 10, op := Go.Op.load 22 (Go.Operand.tmp 9), type := 22, pos := "ref.go:460", after := #[{ on := 2, ground := Go.Ground.data }], guard := none }) (v := ?_) rfl (by kernel_rfl) (by kernel_rfl) (by kernel_rfl) (fun _ _ _ h => h) (Or.inl ⟨by rfl, ?_⟩) (by assumption) ?_
    rotate_left 1
    · intro w hSw; (try dsimp only at hSw); go_simp; try with_reducible rfl
    try simp only [Act.put, List.setIfInBounds_toArray, List.set_cons_zero, List.set_cons_succ]
    refine wpAnyH_ready (rs := [4, 6]) (by kernel_rfl) (by simp) ?_
    refine AllReadyH.cons (o := { dst := some 11, op := Go.Op.call { callee := Go.Callee.builtin Go.Builtin.append, args := #[Go.Operand.const (Go.Value.slice none 0 0), Go.Operand.tmp 10], argTypes := #[22, 22] }, type := 22, pos := "ref.go:460", after := #[{ on := 3, ground := Go.Ground.data }], guard := none }) rfl (fun K hK => ?_) (AllReadyH.cons (o := { dst := some 3, op := Go.Op.alloc 27, type := 0, pos := "ref.go:460", after := #[], guard := none }) rfl (fun K hK => ?_) (AllReadyH.nil))
    first | (refine step_append_run _ rfl _ _ _ _ rfl _ _ (by rfl) (by rfl) _ wA hrunA ?_) | (refine step_append_run _ rfl _ _ _ _ rfl _ _ (by rfl) (by rfl) _ wB hrunB ?_)
    refine hK.out _ _ ⟨a0, a1⟩ (fun hHeld => ?_)
    clear hK K
    try simp only [Act.put, List.setIfInBounds_toArray, List.set_cons_zero, List.set_cons_succ]
    refine wpAnyH_take (i := 5) (oi := { dst := some 12, op := Go.Op.build 27 #[(0, Go.Operand.tmp 8), (1, Go.Operand.tmp 11)], type := 27, pos := "ref.go:460", after := #[{ on := 1, ground := Go.Ground.data }, { on := 4, ground := Go.Ground.data }], guard := none }) (v := ?_) rfl (by kernel_rfl) (by kernel_rfl) (by kernel_rfl) (fun _ _ _ h => h) (Or.inl ⟨by rfl, ?_⟩) (by assumption) ?_
    rotate_left 1
    · intro w hSw; (try dsimp only at hSw); go_simp; try with_reducible rfl
    try simp only [Act.put, List.setIfInBounds_toArray, List.set_cons_zero, List.set_cons_succ]
    refine wpAnyH_ready (rs := [6]) (by kernel_rfl) (by simp) ?_
    refine AllReadyH.cons (o := { dst := some 3, op := Go.Op.alloc 27, type := 0, pos := "ref.go:460", after := #[], guard := none }) rfl (fun K hK => ?_) (AllReadyH.nil)
    go_simp
    refine hK.out _ _ ⟨d0, d1⟩ (fun hHeld => ?_)
    clear hK K
    try simp only [Act.put, List.setIfInBounds_toArray, List.set_cons_zero, List.set_cons_succ]
    refine wpAnyH_ready (rs := [7]) (by kernel_rfl) (by simp) ?_
    refine AllReadyH.cons (o := { dst := none, op := Go.Op.store 27 (Go.Operand.tmp 3) (Go.Operand.tmp 12), type := 0, pos := "ref.go:460", after := #[{ on := 6, ground := Go.Ground.data }, { on := 5, ground := Go.Ground.data }, { on := 4, ground := Go.Ground.chain }, { on := 0, ground := Go.Ground.phase }, { on := 1, ground := Go.Ground.phase }, { on := 2, ground := Go.Ground.phase }, { on := 3, ground := Go.Ground.phase }, { on := 4, ground := Go.Ground.phase }, { on := 5, ground := Go.Ground.phase }, { on := 6, ground := Go.Ground.phase }], guard := none }) rfl (fun K hK => ?_) (AllReadyH.nil)
    go_simp
    refine hK.out _ _ ⟨(KA.out.alloc _).cell 0, (KA.out.alloc _).cell 1⟩ (fun hHeld => ?_)
    clear hK K
    try simp only [Act.put, List.setIfInBounds_toArray, List.set_cons_zero, List.set_cons_succ]
    refine wpAnyH_done (by kernel_rfl) ?_ _
    rotate_left 1
    go_simp
    refine hK.out _ _ ⟨c0, c1⟩ (fun hHeld => ?_)
    clear hK K
    try simp only [Act.put, List.setIfInBounds_toArray, List.set_cons_zero, List.set_cons_succ]
    refine wpAnyH_ready (rs := [4]) (by kernel_rfl) (by simp) ?_
    refine AllReadyH.cons (o := { dst := some 11, op := Go.Op.call { callee := Go.Callee.builtin Go.Builtin.append, args := #[Go.Operand.const (Go.Value.slice none 0 0), Go.Operand.tmp 10], argTypes := #[22, 22] }, type := 22, pos := "ref.go:460", after := #[{ on := 3, ground := Go.Ground.data }], guard := none }) rfl (fun K hK => ?_) (AllReadyH.nil)
    first | (refine step_append_run _ rfl _ _ _ _ rfl _ _ (by rfl) (by rfl) _ wA hrunA ?_) | (refine step_append_run _ rfl _ _ _ _ rfl _ _ (by rfl) (by rfl) _ wB hrunB ?_)
    refine hK.out _ _ ⟨b0, b1⟩ (fun hHeld => ?_)
    clear hK K
    try simp only [Act.put, List.setIfInBounds_toArray, List.set_cons_zero, List.set_cons_succ]
    refine wpAnyH_take (i := 5) (oi := { dst := some 12, op := Go.Op.build 27 #[(0, Go.Operand.tmp 8), (1, Go.Operand.tmp 11)], type := 27, pos := "ref.go:460", after := #[{ on := 1, ground := Go.Ground.data }, { on := 4, ground := Go.Ground.data }], guard := none }) (v := ?_) rfl (by kernel_rfl) (by kernel_rfl) (by kernel_rfl) (fun _ _ _ h => h) (Or.inl ⟨by rfl, ?_⟩) (by assumption) ?_
    rotate_left 1
    · intro w hSw; (try dsimp only at hSw); go_simp; try with_reducible rfl
    try simp only [Act.put, List.setIfInBounds_toArray, List.set_cons_zero, List.set_cons_succ]
    refine wpAnyH_ready (rs := [7]) (by kernel_rfl) (by simp) ?_
    refine AllReadyH.cons (o := { dst := none, op := Go.Op.store 27 (Go.Operand.tmp 3) (Go.Operand.tmp 12), type := 0, pos := "ref.go:460", after := #[{ on := 6, ground := Go.Ground.data }, { on := 5, ground := Go.Ground.data }, { on := 4, ground := Go.Ground.chain }, { on := 0, ground := Go.Ground.phase }, { on := 1, ground := Go.Ground.phase }, { on := 2, ground := Go.Ground.phase }, { on := 3, ground := Go.Ground.phase }, { on := 4, ground := Go.Ground.phase }, { on := 5, ground := Go.Ground.phase }, { on := 6, ground := Go.Ground.phase }], guard := none }) rfl (fun K hK => ?_) (AllReadyH.nil)
    go_simp
    refine hK.out _ _ ⟨KB5.out.cell 0, KB5.out.cell 1⟩ (fun hHeld => ?_)
    clear hK K
    try simp only [Act.put, List.setIfInBounds_toArray, List.set_cons_zero, List.set_cons_succ]
    refine wpAnyH_done (by kernel_rfl) ?_ _
    · go_wp2_with fail
      go_meet
      exact ⟨W0.heap.size, fB, fd, rB, rfl, Lib.hid HG5.out.1, Lib.hid ⟨KB5.out, HG5.out.2.2 _ _ BB.out (Nat.le_of_lt hlB)⟩, Lib.hid ZB5.out, Lib.hid (facL_alike FB.out HG5.out.2.1 (by decide)), HS0⟩
    · go_wp2_with fail
      go_meet
      exact ⟨wA.heap.size, fA, fc, rA, rfl, Lib.hid (Blk.new _ _ _), Lib.hid ⟨KA.out.alloc _, BA.out.alloc (by have := SA.out; omega) _⟩, Lib.hid (ZA.out.alloc _), Lib.hid (facL_alike (t := 27) FA.out (AlikeT.below ((Below.refl _ _).alloc (Nat.le_refl _) _)) (by decide)), Lib.hid SA.out.1⟩
  case rest =>
    obtain ⟨G, gA, gc, rf, rfl, HO1, HK1, HZ1, HF1, HGB⟩ := hcut
    clear a0 a1 b0 b1 c0 c1 d0 d1 e0 e1 e2 e3 e4 f0 f1 f2 f3 f4 FA FB KA KB ZA ZB GB BA BB SA HG5 KB5 ZB5 hrunA hrunB q0 q1 HK0 HZ0 HS0 hlB hB
    have x1 : wc.cell? ⟨B, 2, none⟩ = some (.slice pn c.names.length cn) := HK1.out.1.cell 2
    go_wp2_with fail
    clear x1
    go_loopw [4] (fun i wr => ∃ (k : Nat) (v : Value) (rows : List (List Value)), i = .int .i64 k ∧ k ≤ c.names.length ∧ Hid (OwnM namKd w wr (B + 2) v (c.names.take k) rows (c.names.take k).length) ∧ Hid (Blk wr G 27 #[.string c.note, .slice gA c.faces.length gc, v, .slice none 0 0, .slice none 0 0]) ∧ Hid (Blk wr (B + 1) 27 zeroB) ∧ Hid (Blk wr B 27 #[.string c.note, .slice pf c.faces.length cf, .slice pn c.names.length cn, .slice ps c.secs.length cs, .slice pp c.pkts.length cp] ∧ Below B w wr) ∧ Hid (Alike2 49 wc wr)) (fun i _ => c.names.length - (intOf i).toNat)
    case atStart => exact ⟨0, .slice none 0 0, [], rfl, Nat.zero_le _, Lib.hid (OwnM.nil _ _ _ _), HO1, HZ1, HK1, Lib.hid (Alike2.refl _ _)⟩
    case round =>
      obtain ⟨k, v, rows, rfl, hk, HL, HO, HZ, HW, HA⟩ := hrel
      have xB : wr.cell? ⟨B, 2, none⟩ = some (.slice pn c.names.length cn) := HW.out.1.cell 2
      by_cases hlt : k < c.names.length
      · obtain ⟨b, o, hA, hb, vs, hl, hE, hcell⟩ := (HM.out.names.keep namK HW.out.2 (Nat.le_refl _)).row k hlt
        change pn = _ at hA
        subst hA
        have hbig : c.names.length * 40 ≤ 140737488355328 := HM.out.ln.2.1
        have HTK : Hid (c.names.take (k + 1) = c.names.take k ++ [c.names[k]]) := Lib.hid (List.take_succ_eq_append_getElem hlt)
        have HTL : Hid ((c.names.take k).length = k) := Lib.hid (by rw [List.length_take]; omega)
        obtain ⟨X, hX⟩ : ∃ X, c.names[k] = X := ⟨_, rfl⟩
        rw [hX] at hE HTK
        clear hX
        obtain ⟨A2, cp2, rfl, hbyc, hok⟩ := hE
        obtain ⟨L, hL⟩ : ∃ L, X.addr.length = L := ⟨_, rfl⟩
        have HLL := Lib.hid hL
        have HX2 : Hid (∃ Y, X.addr = Y) := Lib.hid ⟨_, rfl⟩
        have c0 : wr.cell? ⟨b, o + k * 2, none⟩ = some (.slice A2 L cp2) := by first | (rw [← hL]; exact hcell 0 _ rfl) | exact hcell 0 _ rfl
        have c1 : wr.cell? ⟨b, o + k * 2 + 1, none⟩ = some (.string X.text) := by first | (rw [← hL]; exact hcell 1 _ rfl) | exact hcell 1 _ rfl
        have hcap := hbyc.cap
        have hlt256 := hbyc.byt.lt
        obtain ⟨A5, c5, w5, hrun5, ho5, hg5⟩ := run_app_byt wr.drew (B + 2) (Byc.more (hbyc.below ((Below.refl B wr).drew)) (by have := HW.out.1.lt; show B ≤ wr.heap.size; omega)) (by have := HZ.out.lt; show B + 2 ≤ wr.heap.size; omega)
        rw [hL] at hrun5 ho5
        have hg5' : wr.grownBy w5 none := ⟨hg5.os, hg5.tape, hg5.output, hg5.size, hg5.block⟩
        obtain ⟨A7, n7, c7, w7, hrun7, t5, t6, t7, t8, tE⟩ := rcopy_step (f := 2) (bytes := 40) namR Try.underlying23 info49 (by rfl) (by decide) (by decide) hL HL.out HO.out HZ.out HW.out HA.out HGB.out ho5 hg5' hlt256 hcap hok (by rw [HTL.out]; omega)
        have hrun7' : Sem.run Try.prog (Builtin.append_ #[23, 23] 23 #[v, .slice (some ⟨w5.heap.size, 0, none⟩) 1 1]) (w5.alloc (.cells #[.slice A5 L c5, .string X.text] 49)) = .ok (.slice A7 n7 c7) w7 := hrun7
        have TE := Lib.hid tE
        have HCB := Lib.hid t8.1
        have lo1 : wr.cell? ⟨G, 2, none⟩ = some v := HO.out.cell 2
        have lo2 : w5.cell? ⟨G, 2, none⟩ = some v := t5.1.cell 2
        have lo3 : (w5.alloc (.cells #[.slice A5 L c5, .string X.text] 49)).cell? ⟨G, 2, none⟩ = some v := t6.1.cell 2
        have lo4 : w7.cell? ⟨G, 2, none⟩ = some v := t7.1.cell 2
        have rz : w7.frozen? ⟨G, 2, none⟩ = false := t7.1.frozen 2
        have s1 : wr.drew.cell? ⟨B, 2, none⟩ = some (.slice (some ⟨b, o, none⟩) c.names.length cn) ∧ wr.drew.cell? ⟨b, o + k * 2, none⟩ = some (.slice A2 L cp2) ∧ wr.drew.cell? ⟨b, o + k * 2 + 1, none⟩ = some (.string X.text) := ⟨xB, c0, c1⟩
        have f5 : w5.cell? ⟨B, 2, none⟩ = some (.slice (some ⟨b, o, none⟩) c.names.length cn) ∧ w5.cell? ⟨b, o + k * 2, none⟩ = some (.slice A2 L cp2) ∧ w5.cell? ⟨b, o + k * 2 + 1, none⟩ = some (.string X.text) := ⟨t5.2.1.cell 2, (t5.2.2.cell (p := ⟨b, o + k * 2, none⟩) hb).trans c0, (t5.2.2.cell (p := ⟨b, o + k * 2 + 1, none⟩) hb).trans c1⟩
        have f6 : (w5.alloc (.cells #[.slice A5 L c5, .string X.text] 49)).cell? ⟨B, 2, none⟩ = some (.slice (some ⟨b, o, none⟩) c.names.length cn) ∧ (w5.alloc (.cells #[.slice A5 L c5, .string X.text] 49)).cell? ⟨b, o + k * 2, none⟩ = some (.slice A2 L cp2) ∧ (w5.alloc (.cells #[.slice A5 L c5, .string X.text] 49)).cell? ⟨b, o + k * 2 + 1, none⟩ = some (.string X.text) := ⟨t6.2.1.cell 2, (t6.2.2.cell (p := ⟨b, o + k * 2, none⟩) hb).trans c0, (t6.2.2.cell (p := ⟨b, o + k * 2 + 1, none⟩) hb).trans c1⟩
        have f7 : w7.cell? ⟨B, 2, none⟩ = some (.slice (some ⟨b, o, none⟩) c.names.length cn) ∧ w7.cell? ⟨b, o + k * 2, none⟩ = some (.slice A2 L cp2) ∧ w7.cell? ⟨b, o + k * 2 + 1, none⟩ = some (.string X.text) := ⟨t7.2.1.cell 2, (t7.2.2.cell (p := ⟨b, o + k * 2, none⟩) hb).trans c0, (t7.2.2.cell (p := ⟨b, o + k * 2 + 1, none⟩) hb).trans c1⟩
        have f8 : (w7.setCell ⟨G, 2, none⟩ (.slice A7 n7 c7)).cell? ⟨B, 2, none⟩ = some (.slice (some ⟨b, o, none⟩) c.names.length cn) ∧ (w7.setCell ⟨G, 2, none⟩ (.slice A7 n7 c7)).cell? ⟨b, o + k * 2, none⟩ = some (.slice A2 L cp2) ∧ (w7.setCell ⟨G, 2, none⟩ (.slice A7 n7 c7)).cell? ⟨b, o + k * 2 + 1, none⟩ = some (.string X.text) := ⟨t8.1.cell 2, (t8.2.cell (p := ⟨b, o + k * 2, none⟩) hb).trans c0, (t8.2.cell (p := ⟨b, o + k * 2 + 1, none⟩) hb).trans c1⟩
        have Hs1 := Lib.hid s1
        have Hf5 := Lib.hid f5
        have Hf6 := Lib.hid f6
        have Hf7 := Lib.hid f7
        have Hf8 := Lib.hid f8
        clear hbyc hok hrun7 t5 t6 t7 t8 tE ho5 hg5 hg5' hlt256 hcap hcell s1 f5 f6 f7 f8 hL
        have hk0 : (0 : Int) ≤ (k : Int) := by omega
        have hlt' : (k : Int) < (c.names.length : Int) := by omega
        go_wp2_with fail
        clear c0 c1 xB
        refine wp_region_held_drew (S := fun w' => w'.cell? ⟨B, 2, none⟩ = some (.slice (some ⟨b, o, none⟩) c.names.length cn) ∧ w'.cell? ⟨b, o + k * 2, none⟩ = some (.slice A2 L cp2) ∧ w'.cell? ⟨b, o + k * 2 + 1, none⟩ = some (.string X.text)) (by kernel_rfl) Hs1.out (fun hHeld => ?_)
        refine wpAnyH_take (i := 0) (oi := { dst := some 20, op := Go.Op.fieldAddr 27 (Go.Operand.tmp 3) 2, type := 0, pos := "ref.go:462", after := #[], guard := none }) (v := ?_) rfl (by kernel_rfl) (by kernel_rfl) (by kernel_rfl) (fun _ _ _ h => h) (Or.inl ⟨by rfl, ?_⟩) (by assumption) ?_
        rotate_left 1
        · intro w hSw; (try dsimp only at hSw); go_simp; try with_reducible rfl
        try simp only [Act.put, List.setIfInBounds_toArray, List.set_cons_zero, List.set_cons_succ]
        refine wpAnyH_take (i := 2) (oi := { dst := some 22, op := Go.Op.fieldAddr 27 (Go.Operand.tmp 1) 2, type := 0, pos := "ref.go:462", after := #[], guard := none }) (v := ?_) rfl (by kernel_rfl) (by kernel_rfl) (by kernel_rfl) (fun _ _ _ h => h) (Or.inl ⟨by rfl, ?_⟩) (by assumption) ?_
        rotate_left 1
        · intro w hSw; (try dsimp only at hSw); go_simp; try with_reducible rfl
        try simp only [Act.put, List.setIfInBounds_toArray, List.set_cons_zero, List.set_cons_succ]
        refine wpAnyH_take (i := 3) (oi := { dst := some 23, op := Go.Op.load 23 (Go.Operand.tmp 22), type := 23, pos := "ref.go:462", after := #[{ on := 2, ground := Go.Ground.data }], guard := none }) (v := ?_) rfl (by kernel_rfl) (by kernel_rfl) (by kernel_rfl) (fun _ _ _ h => h) (Or.inl ⟨by rfl, ?_⟩) (by assumption) ?_
        rotate_left 1
        · intro w hSw; (try dsimp only at hSw); go_simp; try with_reducible rfl
        try simp only [Act.put, List.setIfInBounds_toArray, List.set_cons_zero, List.set_cons_succ]
        refine wpAnyH_take (i := 4) (oi := { dst := some 24, op := Go.Op.move (Go.Operand.tmp 4), type := 3, pos := "ref.go:462", after := #[], guard := none }) (v := ?_) rfl (by kernel_rfl) (by kernel_rfl) (by kernel_rfl) (fun _ _ _ h => h) (Or.inl ⟨by rfl, ?_⟩) (by assumption) ?_
        rotate_left 1
        · intro w hSw; (try dsimp only at hSw); go_simp; try with_reducible rfl
        try simp only [Act.put, List.setIfInBounds_toArray, List.set_cons_zero, List.set_cons_succ]
        refine wpAnyH_take (i := 5) (oi := { dst := some 25, op := Go.Op.indexAddr 23 (Go.Operand.tmp 23) (Go.Operand.tmp 24), type := 0, pos := "ref.go:462", after := #[{ on := 3, ground := Go.Ground.data }, { on := 4, ground := Go.Ground.data }], guard := none }) (v := ?_) rfl (by kernel_rfl) (by kernel_rfl) (by kernel_rfl) (fun _ _ _ h => h) (Or.inl ⟨by rfl, ?_⟩) (by assumption) ?_
        rotate_left 1
        · intro w hSw; (try dsimp only at hSw); go_simp; try with_reducible rfl
        try simp only [Act.put, List.setIfInBounds_toArray, List.set_cons_zero, List.set_cons_succ]
        refine wpAnyH_take (i := 6) (oi := { dst := some 26, op := Go.Op.fieldAddr 49 (Go.Operand.tmp 25) 0, type := 0, pos := "ref.go:462", after := #[{ on := 5, ground := Go.Ground.data }], guard := none }) (v := ?_) rfl (by kernel_rfl) (by kernel_rfl) (by kernel_rfl) (fun _ _ _ h => h) (Or.inl ⟨by rfl, ?_⟩) (by assumption) ?_
        rotate_left 1
        · intro w hSw; (try dsimp only at hSw); go_simp; try with_reducible rfl
        try simp only [Act.put, List.setIfInBounds_toArray, List.set_cons_zero, List.set_cons_succ]
        refine wpAnyH_take (i := 7) (oi := { dst := some 27, op := Go.Op.load 30 (Go.Operand.tmp 26), type := 30, pos := "ref.go:462", after := #[{ on := 6, ground := Go.Ground.data }], guard := none }) (v := ?_) rfl (by kernel_rfl) (by kernel_rfl) (by kernel_rfl) (fun _ _ _ h => h) (Or.inl ⟨by rfl, ?_⟩) (by assumption) ?_
        rotate_left 1
        · intro w hSw; (try dsimp only at hSw); go_simp; try with_reducible rfl
        try simp only [Act.put, List.setIfInBounds_toArray, List.set_cons_zero, List.set_cons_succ]
        refine wpAnyH_take (i := 9) (oi := { dst := some 29, op := Go.Op.fieldAddr 27 (Go.Operand.tmp 1) 2, type := 0, pos := "ref.go:462", after := #[], guard := none }) (v := ?_) rfl (by kernel_rfl) (by kernel_rfl) (by kernel_rfl) (fun _ _ _ h => h) (Or.inl ⟨by rfl, ?_⟩) (by assumption) ?_
        rotate_left 1
        · intro w hSw; (try dsimp only at hSw); go_simp; try with_reducible rfl
        try simp only [Act.put, List.setIfInBounds_toArray, List.set_cons_zero, List.set_cons_succ]
        refine wpAnyH_take (i := 10) (oi := { dst := some 30, op := Go.Op.load 23 (Go.Operand.tmp 29), type := 23, pos := "ref.go:462", after := #[{ on := 9, ground := Go.Ground.data }], guard := none }) (v := ?_) rfl (by kernel_rfl) (by kernel_rfl) (by kernel_rfl) (fun _ _ _ h => h) (Or.inl ⟨by rfl, ?_⟩) (by assumption) ?_
        rotate_left 1
        · intro w hSw; (try dsimp only at hSw); go_simp; try with_reducible rfl
        try simp only [Act.put, List.setIfInBounds_toArray, List.set_cons_zero, List.set_cons_succ]
        refine wpAnyH_take (i := 11) (oi := { dst := some 31, op := Go.Op.move (Go.Operand.tmp 4), type := 3, pos := "ref.go:462", after := #[], guard := none }) (v := ?_) rfl (by kernel_rfl) (by kernel_rfl) (by kernel_rfl) (fun _ _ _ h => h) (Or.inl ⟨by rfl, ?_⟩) (by assumption) ?_
        rotate_left 1
        · intro w hSw; (try dsimp only at hSw); go_simp; try with_reducible rfl
        try simp only [Act.put, List.setIfInBounds_toArray, List.set_cons_zero, List.set_cons_succ]
        refine wpAnyH_take (i := 12) (oi := { dst := some 32, op := Go.Op.indexAddr 23 (Go.Operand.tmp 30) (Go.Operand.tmp 31), type := 0, pos := "ref.go:462", after := #[{ on := 10, ground := Go.Ground.data }, { on := 11, ground := Go.Ground.data }], guard := none }) (v := ?_) rfl (by kernel_rfl) (by kernel_rfl) (by kernel_rfl) (fun _ _ _ h => h) (Or.inl ⟨by rfl, ?_⟩) (by assumption) ?_
        rotate_left 1
        · intro w hSw; (try dsimp only at hSw); go_simp; try with_reducible rfl
        try simp only [Act.put, List.setIfInBounds_toArray, List.set_cons_zero, List.set_cons_succ]
        refine wpAnyH_take (i := 13) (oi := { dst := some 33, op := Go.Op.fieldAddr 49 (Go.Operand.tmp 32) 1, type := 0, pos := "ref.go:462", after := #[{ on := 12, ground := Go.Ground.data }], guard := none }) (v := ?_) rfl (by kernel_rfl) (by kernel_rfl) (by kernel_rfl) (fun _ _ _ h => h) (Or.inl ⟨by rfl, ?_⟩) (by assumption) ?_
        rotate_left 1
        · intro w hSw; (try dsimp only at hSw); go_simp; try with_reducible rfl
        try simp only [Act.put, List.setIfInBounds_toArray, List.set_cons_zero, List.set_cons_succ]
        refine wpAnyH_take (i := 14) (oi := { dst := some 34, op := Go.Op.load 9 (Go.Operand.tmp 33), type := 9, pos := "ref.go:462", after := #[{ on := 13, ground := Go.Ground.data }], guard := none }) (v := ?_) rfl (by kernel_rfl) (by kernel_rfl) (by kernel_rfl) (fun _ _ _ h => h) (Or.inl ⟨by rfl, ?_⟩) (by assumption) ?_
        rotate_left 1
        · intro w hSw; (try dsimp only at hSw); go_simp; try with_reducible rfl
        try simp only [Act.put, List.setIfInBounds_toArray, List.set_cons_zero, List.set_cons_succ]
        refine wpAnyH_ready (rs := [1, 8]) (by kernel_rfl) (by simp) ?_
        refine AllReadyH.cons (o := { dst := some 21, op := Go.Op.load 23 (Go.Operand.tmp 20), type := 23, pos := "ref.go:462", after := #[{ on := 0, ground := Go.Ground.data }], guard := none }) rfl (fun K hK => ?_) (AllReadyH.cons (o := { dst := some 28, op := Go.Op.call { callee := Go.Callee.builtin Go.Builtin.append, args := #[Go.Operand.const (Go.Value.slice none 0 0), Go.Operand.tmp 27], argTypes := #[30, 30] }, type := 30, pos := "ref.go:462", after := #[{ on := 7, ground := Go.Ground.data }], guard := none }) rfl (fun K hK => ?_) (AllReadyH.nil))
        go_simp
        refine hK.out _ _ Hs1.out (fun hHeld => ?_)
        clear hK K
        try simp only [Act.put, List.setIfInBounds_toArray, List.set_cons_zero, List.set_cons_succ]
        refine wpAnyH_ready (rs := [8]) (by kernel_rfl) (by simp) ?_
        refine AllReadyH.cons (o := { dst := some 28, op := Go.Op.call { callee := Go.Callee.builtin Go.Builtin.append, args := #[Go.Operand.const (Go.Value.slice none 0 0), Go.Operand.tmp 27], argTypes := #[30, 30] }, type := 30, pos := "ref.go:462", after := #[{ on := 7, ground := Go.Ground.data }], guard := none }) rfl (fun K hK => ?_) (AllReadyH.nil)
        refine step_append_run _ rfl _ _ _ _ rfl _ _ (by rfl) (by rfl) _ w5 hrun5 ?_
        refine hK.out _ _ Hf5.out (fun hHeld => ?_)
        clear hK K
        try simp only [Act.put, List.setIfInBounds_toArray, List.set_cons_zero, List.set_cons_succ]
        refine wpAnyH_take (i := 15) (oi := { dst := some 35, op := Go.Op.build 49 #[(0, Go.Operand.tmp 28), (1, Go.Operand.tmp 34)], type := 49, pos := "ref.go:462", after := #[{ on := 8, ground := Go.Ground.data }, { on := 14, ground := Go.Ground.data }], guard := none }) (v := ?_) rfl (by kernel_rfl) (by kernel_rfl) (by kernel_rfl) (fun _ _ _ h => h) (Or.inl ⟨by rfl, ?_⟩) (by assumption) ?_
        rotate_left 1
        · intro w hSw; (try dsimp only at hSw); go_simp; try with_reducible rfl
        try simp only [Act.put, List.setIfInBounds_toArray, List.set_cons_zero, List.set_cons_succ]
        refine wpAnyH_ready (rs := [16]) (by kernel_rfl) (by simp) ?_
        refine AllReadyH.cons (o := { dst := some 36, op := Go.Op.buildSlice 23 1 #[(0, Go.Operand.tmp 35)], type := 23, pos := "ref.go:462", after := #[{ on := 15, ground := Go.Ground.data }], guard := none }) rfl (fun K hK => ?_) (AllReadyH.nil)
        go_simp
        refine hK.out _ _ Hf6.out (fun hHeld => ?_)
        clear hK K
        try simp only [Act.put, List.setIfInBounds_toArray, List.set_cons_zero, List.set_cons_succ]
        refine wpAnyH_ready (rs := [17]) (by kernel_rfl) (by simp) ?_
        refine AllReadyH.cons (o := { dst := some 37, op := Go.Op.call { callee := Go.Callee.builtin Go.Builtin.append, args := #[Go.Operand.tmp 21, Go.Operand.tmp 36], argTypes := #[23, 23] }, type := 23, pos := "ref.go:462", after := #[{ on := 1, ground := Go.Ground.data }, { on := 16, ground := Go.Ground.data }, { on := 8, ground := Go.Ground.chain }], guard := none }) rfl (fun K hK => ?_) (AllReadyH.nil)
        refine step_append_run _ rfl _ _ _ _ rfl _ _ (by rfl) (by rfl) _ w7 hrun7' ?_
        refine hK.out _ _ Hf7.out (fun hHeld => ?_)
        clear hK K
        try simp only [Act.put, List.setIfInBounds_toArray, List.set_cons_zero, List.set_cons_succ]
        refine wpAnyH_take (i := 18) (oi := { dst := some 38, op := Go.Op.fieldAddr 27 (Go.Operand.tmp 3) 2, type := 0, pos := "ref.go:462", after := #[{ on := 0, ground := Go.Ground.phase }, { on := 1, ground := Go.Ground.phase }, { on := 2, ground := Go.Ground.phase }, { on := 3, ground := Go.Ground.phase }, { on := 4, ground := Go.Ground.phase }, { on := 5, ground := Go.Ground.phase }, { on := 6, ground := Go.Ground.phase }, { on := 7, ground := Go.Ground.phase }, { on := 8, ground := Go.Ground.phase }, { on := 9, ground := Go.Ground.phase }, { on := 10, ground := Go.Ground.phase }, { on := 11, ground := Go.Ground.phase }, { on := 12, ground := Go.Ground.phase }, { on := 13, ground := Go.Ground.phase }, { on := 14, ground := Go.Ground.phase }, { on := 15, ground := Go.Ground.phase }, { on := 16, ground := Go.Ground.phase }, { on := 17, ground := Go.Ground.phase }], guard := none }) (v := ?_) rfl (by kernel_rfl) (by kernel_rfl) (by kernel_rfl) (fun _ _ _ h => h) (Or.inl ⟨by rfl, ?_⟩) (by assumption) ?_
        rotate_left 1
        · intro w hSw; (try dsimp only at hSw); go_simp; try with_reducible rfl
        try simp only [Act.put, List.setIfInBounds_toArray, List.set_cons_zero, List.set_cons_succ]
        refine wpAnyH_ready (rs := [19]) (by kernel_rfl) (by simp) ?_
        refine AllReadyH.cons (o := { dst := none, op := Go.Op.store 23 (Go.Operand.tmp 38) (Go.Operand.tmp 37), type := 0, pos := "ref.go:462", after := #[{ on := 18, ground := Go.Ground.data }, { on := 17, ground := Go.Ground.data }, { on := 17, ground := Go.Ground.chain }, { on := 0, ground := Go.Ground.phase }, { on := 1, ground := Go.Ground.phase }, { on := 2, ground := Go.Ground.phase }, { on := 3, ground := Go.Ground.phase }, { on := 4, ground := Go.Ground.phase }, { on := 5, ground := Go.Ground.phase }, { on := 6, ground := Go.Ground.phase }, { on := 7, ground := Go.Ground.phase }, { on := 8, ground := Go.Ground.phase }, { on := 9, ground := Go.Ground.phase }, { on := 10, ground := Go.Ground.phase }, { on := 11, ground := Go.Ground.phase }, { on := 12, ground := Go.Ground.phase }, { on := 13, ground := Go.Ground.phase }, { on := 14, ground := Go.Ground.phase }, { on := 15, ground := Go.Ground.phase }, { on := 16, ground := Go.Ground.phase }, { on := 17, ground := Go.Ground.phase }], guard := none }) rfl (fun K hK => ?_) (AllReadyH.nil)
        go_simp
        refine hK.out _ _ Hf8.out (fun hHeld => ?_)
        clear hK K
        try simp only [Act.put, List.setIfInBounds_toArray, List.set_cons_zero, List.set_cons_succ]
        refine wpAnyH_done (by kernel_rfl) ?_ _
        rotate_left 1
        refine step_append_run _ rfl _ _ _ _ rfl _ _ (by rfl) (by rfl) _ w5 hrun5 ?_
        refine hK.out _ _ Hf5.out (fun hHeld => ?_)
        clear hK K
        try simp only [Act.put, List.setIfInBounds_toArray, List.set_cons_zero, List.set_cons_succ]
        refine wpAnyH_take (i := 15) (oi := { dst := some 35, op := Go.Op.build 49 #[(0, Go.Operand.tmp 28), (1, Go.Operand.tmp 34)], type := 49, pos := "ref.go:462", after := #[{ on := 8, ground := Go.Ground.data }, { on := 14, ground := Go.Ground.data }], guard := none }) (v := ?_) rfl (by kernel_rfl) (by kernel_rfl) (by kernel_rfl) (fun _ _ _ h => h) (Or.inl ⟨by rfl, ?_⟩) (by assumption) ?_
        rotate_left 1
        · intro w hSw; (try dsimp only at hSw); go_simp; try with_reducible rfl
        try simp only [Act.put, List.setIfInBounds_toArray, List.set_cons_zero, List.set_cons_succ]
        refine wpAnyH_ready (rs := [1, 16]) (by kernel_rfl) (by simp) ?_
        refine AllReadyH.cons (o := { dst := some 21, op := Go.Op.load 23 (Go.Operand.tmp 20), type := 23, pos := "ref.go:462", after := #[{ on := 0, ground := Go.Ground.data }], guard := none }) rfl (fun K hK => ?_) (AllReadyH.cons (o := { dst := some 36, op := Go.Op.buildSlice 23 1 #[(0, Go.Operand.tmp 35)], type := 23, pos := "ref.go:462", after := #[{ on := 15, ground := Go.Ground.data }], guard := none }) rfl (fun K hK => ?_) (AllReadyH.nil))
        go_simp
        refine hK.out _ _ Hf5.out (fun hHeld => ?_)
        clear hK K
        try simp only [Act.put, List.setIfInBounds_toArray, List.set_cons_zero, List.set_cons_succ]
        refine wpAnyH_ready (rs := [16]) (by kernel_rfl) (by simp) ?_
        refine AllReadyH.cons (o := { dst := some 36, op := Go.Op.buildSlice 23 1 #[(0, Go.Operand.tmp 35)], type := 23, pos := "ref.go:462", after := #[{ on := 15, ground := Go.Ground.data }], guard := none }) rfl (fun K hK => ?_) (AllReadyH.nil)
        go_simp
        refine hK.out _ _ Hf6.out (fun hHeld => ?_)
        clear hK K
        try simp only [Act.put, List.setIfInBounds_toArray, List.set_cons_zero, List.set_cons_succ]
        refine wpAnyH_ready (rs := [17]) (by kernel_rfl) (by simp) ?_
        refine AllReadyH.cons (o := { dst := some 37, op := Go.Op.call { callee := Go.Callee.builtin Go.Builtin.append, args := #[Go.Operand.tmp 21, Go.Operand.tmp 36], argTypes := #[23, 23] }, type := 23, pos := "ref.go:462", after := #[{ on := 1, ground := Go.Ground.data }, { on := 16, ground := Go.Ground.data }, { on := 8, ground := Go.Ground.chain }], guard := none }) rfl (fun K hK => ?_) (AllReadyH.nil)
        refine step_append_run _ rfl _ _ _ _ rfl _ _ (by rfl) (by rfl) _ w7 hrun7' ?_
        refine hK.out _ _ Hf7.out (fun hHeld => ?_)
        clear hK K
        try simp only [Act.put, List.setIfInBounds_toArray, List.set_cons_zero, List.set_cons_succ]
        refine wpAnyH_take (i := 18) (oi := { dst := some 38, op := Go.Op.fieldAddr 27 (Go.Operand.tmp 3) 2, type := 0, pos := "ref.go:462", after := #[{ on := 0, ground := Go.Ground.phase }, { on := 1, ground := Go.Ground.phase }, { on := 2, ground := Go.Ground.phase }, { on := 3, ground := Go.Ground.phase }, { on := 4, ground := Go.Ground.phase }, { on := 5, ground := Go.Ground.phase }, { on := 6, ground := Go.Ground.phase }, { on := 7, ground := Go.Ground.phase }, { on := 8, ground := Go.Ground.phase }, { on := 9, ground := Go.Ground.phase }, { on := 10, ground := Go.Ground.phase }, { on := 11, ground := Go.Ground.phase }, { on := 12, ground := Go.Ground.phase }, { on := 13, ground := Go.Ground.phase }, { on := 14, ground := Go.Ground.phase }, { on := 15, ground := Go.Ground.phase }, { on := 16, ground := Go.Ground.phase }, { on := 17, ground := Go.Ground.phase }], guard := none }) (v := ?_) rfl (by kernel_rfl) (by kernel_rfl) (by kernel_rfl) (fun _ _ _ h => h) (Or.inl ⟨by rfl, ?_⟩) (by assumption) ?_
        rotate_left 1
        · intro w hSw; (try dsimp only at hSw); go_simp; try with_reducible rfl
        try simp only [Act.put, List.setIfInBounds_toArray, List.set_cons_zero, List.set_cons_succ]
        refine wpAnyH_ready (rs := [19]) (by kernel_rfl) (by simp) ?_
        refine AllReadyH.cons (o := { dst := none, op := Go.Op.store 23 (Go.Operand.tmp 38) (Go.Operand.tmp 37), type := 0, pos := "ref.go:462", after := #[{ on := 18, ground := Go.Ground.data }, { on := 17, ground := Go.Ground.data }, { on := 17, ground := Go.Ground.chain }, { on := 0, ground := Go.Ground.phase }, { on := 1, ground := Go.Ground.phase }, { on := 2, ground := Go.Ground.phase }, { on := 3, ground := Go.Ground.phase }, { on := 4, ground := Go.Ground.phase }, { on := 5, ground := Go.Ground.phase }, { on := 6, ground := Go.Ground.phase }, { on := 7, ground := Go.Ground.phase }, { on := 8, ground := Go.Ground.phase }, { on := 9, ground := Go.Ground.phase }, { on := 10, ground := Go.Ground.phase }, { on := 11, ground := Go.Ground.phase }, { on := 12, ground := Go.Ground.phase }, { on := 13, ground := Go.Ground.phase }, { on := 14, ground := Go.Ground.phase }, { on := 15, ground := Go.Ground.phase }, { on := 16, ground := Go.Ground.phase }, { on := 17, ground := Go.Ground.phase }], guard := none }) rfl (fun K hK => ?_) (AllReadyH.nil)
        go_simp
        refine hK.out _ _ Hf8.out (fun hHeld => ?_)
        clear hK K
        try simp only [Act.put, List.setIfInBounds_toArray, List.set_cons_zero, List.set_cons_succ]
        refine wpAnyH_done (by kernel_rfl) ?_ _
        rotate_left 1
        go_simp
        refine hK.out _ _ Hf6.out (fun hHeld => ?_)
        clear hK K
        try simp only [Act.put, List.setIfInBounds_toArray, List.set_cons_zero, List.set_cons_succ]
        refine wpAnyH_ready (rs := [1]) (by kernel_rfl) (by simp) ?_
        refine AllReadyH.cons (o := { dst := some 21, op := Go.Op.load 23 (Go.Operand.tmp 20), type := 23, pos := "ref.go:462", after := #[{ on := 0, ground := Go.Ground.data }], guard := none }) rfl (fun K hK => ?_) (AllReadyH.nil)
        go_simp
        refine hK.out _ _ Hf6.out (fun hHeld => ?_)
        clear hK K
        try simp only [Act.put, List.setIfInBounds_toArray, List.set_cons_zero, List.set_cons_succ]
        refine wpAnyH_ready (rs := [17]) (by kernel_rfl) (by simp) ?_
        refine AllReadyH.cons (o := { dst := some 37, op := Go.Op.call { callee := Go.Callee.builtin Go.Builtin.append, args := #[Go.Operand.tmp 21, Go.Operand.tmp 36], argTypes := #[23, 23] }, type := 23, pos := "ref.go:462", after := #[{ on := 1, ground := Go.Ground.data }, { on := 16, ground := Go.Ground.data }, { on := 8, ground := Go.Ground.chain }], guard := none }) rfl (fun K hK => ?_) (AllReadyH.nil)
        refine step_append_run _ rfl _ _ _ _ rfl _ _ (by rfl) (by rfl) _ w7 hrun7' ?_
        refine hK.out _ _ Hf7.out (fun hHeld => ?_)
        clear hK K
        try simp only [Act.put, List.setIfInBounds_toArray, List.set_cons_zero, List.set_cons_succ]
        refine wpAnyH_take (i := 18) (oi := { dst := some 38, op := Go.Op.fieldAddr 27 (Go.Operand.tmp 3) 2, type := 0, pos := "ref.go:462", after := #[{ on := 0, ground := Go.Ground.phase }, { on := 1, ground := Go.Ground.phase }, { on := 2, ground := Go.Ground.phase }, { on := 3, ground := Go.Ground.phase }, { on := 4, ground := Go.Ground.phase }, { on := 5, ground := Go.Ground.phase }, { on := 6, ground := Go.Ground.phase }, { on := 7, ground := Go.Ground.phase }, { on := 8, ground := Go.Ground.phase }, { on := 9, ground := Go.Ground.phase }, { on := 10, ground := Go.Ground.phase }, { on := 11, ground := Go.Ground.phase }, { on := 12, ground := Go.Ground.phase }, { on := 13, ground := Go.Ground.phase }, { on := 14, ground := Go.Ground.phase }, { on := 15, ground := Go.Ground.phase }, { on := 16, ground := Go.Ground.phase }, { on := 17, ground := Go.Ground.phase }], guard := none }) (v := ?_) rfl (by kernel_rfl) (by kernel_rfl) (by kernel_rfl) (fun _ _ _ h => h) (Or.inl ⟨by rfl, ?_⟩) (by assumption) ?_
        rotate_left 1
        · intro w hSw; (try dsimp only at hSw); go_simp; try with_reducible rfl
        try simp only [Act.put, List.setIfInBounds_toArray, List.set_cons_zero, List.set_cons_succ]
        refine wpAnyH_ready (rs := [19]) (by kernel_rfl) (by simp) ?_
        refine AllReadyH.cons (o := { dst := none, op := Go.Op.store 23 (Go.Operand.tmp 38) (Go.Operand.tmp 37), type := 0, pos := "ref.go:462", after := #[{ on := 18, ground := Go.Ground.data }, { on := 17, ground := Go.Ground.data }, { on := 17, ground := Go.Ground.chain }, { on := 0, ground := Go.Ground.phase }, { on := 1, ground := Go.Ground.phase }, { on := 2, ground := Go.Ground.phase }, { on := 3, ground := Go.Ground.phase }, { on := 4, ground := Go.Ground.phase }, { on := 5, ground := Go.Ground.phase }, { on := 6, ground := Go.Ground.phase }, { on := 7, ground := Go.Ground.phase }, { on := 8, ground := Go.Ground.phase }, { on := 9, ground := Go.Ground.phase }, { on := 10, ground := Go.Ground.phase }, { on := 11, ground := Go.Ground.phase }, { on := 12, ground := Go.Ground.phase }, { on := 13, ground := Go.Ground.phase }, { on := 14, ground := Go.Ground.phase }, { on := 15, ground := Go.Ground.phase }, { on := 16, ground := Go.Ground.phase }, { on := 17, ground := Go.Ground.phase }], guard := none }) rfl (fun K hK => ?_) (AllReadyH.nil)
        go_simp
        refine hK.out _ _ Hf8.out (fun hHeld => ?_)
        clear hK K
        try simp only [Act.put, List.setIfInBounds_toArray, List.set_cons_zero, List.set_cons_succ]
        refine wpAnyH_done (by kernel_rfl) ?_ _
        all_goals
          obtain ⟨rows7, g1, g2, g3, g4, g5⟩ := TE.out
          have HL7 : Hid (OwnM namKd w (w7.setCell ⟨G, 2, none⟩ (.slice A7 n7 c7)) (B + 2) (.slice A7 n7 c7) (c.names.take (k + 1)) rows7 (c.names.take (k + 1)).length) := Lib.hid (by rw [HTK.out]; exact g1)
          have HO7 : Hid (Blk (w7.setCell ⟨G, 2, none⟩ (.slice A7 n7 c7)) G 27 #[.string c.note, .slice gA c.faces.length gc, .slice A7 n7 c7, .slice none 0 0, .slice none 0 0]) := Lib.hid g2
          have HZ7 := Lib.hid g3
          have HW7 : Hid (Blk (w7.setCell ⟨G, 2, none⟩ (.slice A7 n7 c7)) B 27 #[.string c.note, .slice pf c.faces.length cf, .slice (some ⟨b, o, none⟩) c.names.length cn, .slice ps c.secs.length cs, .slice pp c.pkts.length cp] ∧ Below B w (w7.setCell ⟨G, 2, none⟩ (.slice A7 n7 c7))) := Lib.hid ⟨HCB.out, g4⟩
          have HA7 : Hid (Alike2 49 wc (w7.setCell ⟨G, 2, none⟩ (.slice A7 n7 c7))) := Lib.hid g5
          clear g1 g2 g3 g4 g5 TE
          go_wp2
          go_roundw
          case rel => exact ⟨k + 1, .slice A7 n7 c7, rows7, by go_num, by omega, HL7, HO7, HZ7, HW7, HA7⟩
          case measure => simp [intOf]; omega
      · have hkn : k = c.names.length := by omega
        subst hkn
        obtain ⟨NA, Nc, rfl, hle, hnil⟩ := own_form2 HL.out.own
        rw [List.take_length] at HL HO
        have HN2 := HL
        have HO2 := HO
        have HK2 := HW
        have HZ2 := HZ
        have HF2 := Lib.hid (facL_alike2 HF1.out HA.out (by decide))
        rename World => V2
        clear HA HW HL HO HZ HK1 HZ1 HO1 hk hlt hle hnil HF1
        have x2 : V2.cell? ⟨B, 3, none⟩ = some (.slice ps c.secs.length cs) := HK2.out.1.cell 3
        go_wp2_with fail
        clear x2 xB
        go_loopw [5] (fun i wr => ∃ (k : Nat) (v : Value) (rows : List (List Value)), i = .int .i64 k ∧ k ≤ c.secs.length ∧ Hid (OwnM secKd w wr (B + 2) v (c.secs.take k) rows (c.secs.take k).length) ∧ Hid (Blk wr G 27 #[.string c.note, .slice gA c.faces.length gc, .slice NA c.names.length Nc, v, .slice none 0 0]) ∧ Hid (Blk wr (B + 1) 27 zeroB) ∧ Hid (Blk wr B 27 #[.string c.note, .slice pf c.faces.length cf, .slice pn c.names.length cn, .slice ps c.secs.length cs, .slice pp c.pkts.length cp] ∧ Below B w wr) ∧ Hid (Alike2 65 V2 wr)) (fun i _ => c.secs.length - (intOf i).toNat)
        case atStart => exact ⟨0, .slice none 0 0, [], rfl, Nat.zero_le _, Lib.hid (OwnM.nil _ _ _ _), HO2, HZ2, HK2, Lib.hid (Alike2.refl _ _)⟩
        case round =>
          obtain ⟨k, v, rows, rfl, hk, HL, HO, HZ, HW, HA⟩ := hrel
          have xB : wr.cell? ⟨B, 3, none⟩ = some (.slice ps c.secs.length cs) := HW.out.1.cell 3
          by_cases hlt : k < c.secs.length
          · obtain ⟨b, o, hA, hb, vs, hl, hE, hcell⟩ := (HM.out.secs.keep secK HW.out.2 (Nat.le_refl _)).row k hlt
            change ps = _ at hA
            subst hA
            have hbig : c.secs.length * 40 ≤ 140737488355328 := HM.out.ls.2.1
            have HTK : Hid (c.secs.take (k + 1) = c.secs.take k ++ [c.secs[k]]) := Lib.hid (List.take_succ_eq_append_getElem hlt)
            have HTL : Hid ((c.secs.take k).length = k) := Lib.hid (by rw [List.length_take]; omega)
            obtain ⟨X, hX⟩ : ∃ X, c.secs[k] = X := ⟨_, rfl⟩
            rw [hX] at hE HTK
            clear hX
            obtain ⟨A2, cp2, rfl, hbyc, hok⟩ := hE
            obtain ⟨L, hL⟩ : ∃ L, X.key.length = L := ⟨_, rfl⟩
            have HLL := Lib.hid hL
            have HX2 : Hid (∃ Y, X.key = Y) := Lib.hid ⟨_, rfl⟩
            have c0 : wr.cell? ⟨b, o + k * 2, none⟩ = some (.string X.label) := by first | (rw [← hL]; exact hcell 0 _ rfl) | exact hcell 0 _ rfl
            have c1 : wr.cell? ⟨b, o + k * 2 + 1, none⟩ = some (.slice A2 L cp2) := by first | (rw [← hL]; exact hcell 1 _ rfl) | exact hcell 1 _ rfl
            have hcap := hbyc.cap
            have hlt256 := hbyc.byt.lt
            obtain ⟨A5, c5, w5, hrun5, ho5, hg5⟩ := run_app_byt wr.drew (B + 2) (Byc.more (hbyc.below ((Below.refl B wr).drew)) (by have := HW.out.1.lt; show B ≤ wr.heap.size; omega)) (by have := HZ.out.lt; show B + 2 ≤ wr.heap.size; omega)
            rw [hL] at hrun5 ho5
            have hg5' : wr.grownBy w5 none := ⟨hg5.os, hg5.tape, hg5.output, hg5.size, hg5.block⟩
            obtain ⟨A7, n7, c7, w7, hrun7, t5, t6, t7, t8, tE⟩ := rcopy_step (f := 3) (bytes := 40) secR Try.underlying24 info65 (by rfl) (by decide) (by decide) hL HL.out HO.out HZ.out HW.out HA.out HGB.out ho5 hg5' hlt256 hcap hok (by rw [HTL.out]; omega)
            have hrun7' : Sem.run Try.prog (Builtin.append_ #[24, 24] 24 #[v, .slice (some ⟨w5.heap.size, 0, none⟩) 1 1]) (w5.alloc (.cells #[.string X.label, .slice A5 L c5] 65)) = .ok (.slice A7 n7 c7) w7 := hrun7
            have TE := Lib.hid tE
            have HCB := Lib.hid t8.1
            have lo1 : wr.cell? ⟨G, 3, none⟩ = some v := HO.out.cell 3
            have lo2 : w5.cell? ⟨G, 3, none⟩ = some v := t5.1.cell 3
            have lo3 : (w5.alloc (.cells #[.string X.label, .slice A5 L c5] 65)).cell? ⟨G, 3, none⟩ = some v := t6.1.cell 3
            have lo4 : w7.cell? ⟨G, 3, none⟩ = some v := t7.1.cell 3
            have rz : w7.frozen? ⟨G, 3, none⟩ = false := t7.1.frozen 3
            have s1 : wr.drew.cell? ⟨B, 3, none⟩ = some (.slice (some ⟨b, o, none⟩) c.secs.length cs) ∧ wr.drew.cell? ⟨b, o + k * 2, none⟩ = some (.string X.label) ∧ wr.drew.cell? ⟨b, o + k * 2 + 1, none⟩ = some (.slice A2 L cp2) := ⟨xB, c0, c1⟩
            have f5 : w5.cell? ⟨B, 3, none⟩ = some (.slice (some ⟨b, o, none⟩) c.secs.length cs) ∧ w5.cell? ⟨b, o + k * 2, none⟩ = some (.string X.label) ∧ w5.cell? ⟨b, o + k * 2 + 1, none⟩ = some (.slice A2 L cp2) := ⟨t5.2.1.cell 3, (t5.2.2.cell (p := ⟨b, o + k * 2, none⟩) hb).trans c0, (t5.2.2.cell (p := ⟨b, o + k * 2 + 1, none⟩) hb).trans c1⟩
            have f6 : (w5.alloc (.cells #[.string X.label, .slice A5 L c5] 65)).cell? ⟨B, 3, none⟩ = some (.slice (some ⟨b, o, none⟩) c.secs.length cs) ∧ (w5.alloc (.cells #[.string X.label, .slice A5 L c5] 65)).cell? ⟨b, o + k * 2, none⟩ = some (.string X.label) ∧ (w5.alloc (.cells #[.string X.label, .slice A5 L c5] 65)).cell? ⟨b, o + k * 2 + 1, none⟩ = some (.slice A2 L cp2) := ⟨t6.2.1.cell 3, (t6.2.2.cell (p := ⟨b, o + k * 2, none⟩) hb).trans c0, (t6.2.2.cell (p := ⟨b, o + k * 2 + 1, none⟩) hb).trans c1⟩
            have f7 : w7.cell? ⟨B, 3, none⟩ = some (.slice (some ⟨b, o, none⟩) c.secs.length cs) ∧ w7.cell? ⟨b, o + k * 2, none⟩ = some (.string X.label) ∧ w7.cell? ⟨b, o + k * 2 + 1, none⟩ = some (.slice A2 L cp2) := ⟨t7.2.1.cell 3, (t7.2.2.cell (p := ⟨b, o + k * 2, none⟩) hb).trans c0, (t7.2.2.cell (p := ⟨b, o + k * 2 + 1, none⟩) hb).trans c1⟩
            have f8 : (w7.setCell ⟨G, 3, none⟩ (.slice A7 n7 c7)).cell? ⟨B, 3, none⟩ = some (.slice (some ⟨b, o, none⟩) c.secs.length cs) ∧ (w7.setCell ⟨G, 3, none⟩ (.slice A7 n7 c7)).cell? ⟨b, o + k * 2, none⟩ = some (.string X.label) ∧ (w7.setCell ⟨G, 3, none⟩ (.slice A7 n7 c7)).cell? ⟨b, o + k * 2 + 1, none⟩ = some (.slice A2 L cp2) := ⟨t8.1.cell 3, (t8.2.cell (p := ⟨b, o + k * 2, none⟩) hb).trans c0, (t8.2.cell (p := ⟨b, o + k * 2 + 1, none⟩) hb).trans c1⟩
            have Hs1 := Lib.hid s1
            have Hf5 := Lib.hid f5
            have Hf6 := Lib.hid f6
            have Hf7 := Lib.hid f7
            have Hf8 := Lib.hid f8
            clear hbyc hok hrun7 t5 t6 t7 t8 tE ho5 hg5 hg5' hlt256 hcap hcell s1 f5 f6 f7 f8 hL
            have hk0 : (0 : Int) ≤ (k : Int) := by omega
            have hlt' : (k : Int) < (c.secs.length : Int) := by omega
            go_wp2_with fail
            clear c0 c1 xB
            refine wp_region_held_drew (S := fun w' => w'.cell? ⟨B, 3, none⟩ = some (.slice (some ⟨b, o, none⟩) c.secs.length cs) ∧ w'.cell? ⟨b, o + k * 2, none⟩ = some (.string X.label) ∧ w'.cell? ⟨b, o + k * 2 + 1, none⟩ = some (.slice A2 L cp2)) (by kernel_rfl) Hs1.out (fun hHeld => ?_)
            refine wpAnyH_take (i := 0) (oi := { dst := some 46, op := Go.Op.fieldAddr 27 (Go.Operand.tmp 3) 3, type := 0, pos := "ref.go:465", after := #[], guard := none }) (v := ?_) rfl (by kernel_rfl) (by kernel_rfl) (by kernel_rfl) (fun _ _ _ h => h) (Or.inl ⟨by rfl, ?_⟩) (by assumption) ?_
            rotate_left 1
            · intro w hSw; (try dsimp only at hSw); go_simp; try with_reducible rfl
            try simp only [Act.put, List.setIfInBounds_toArray, List.set_cons_zero, List.set_cons_succ]
            refine wpAnyH_take (i := 2) (oi := { dst := some 48, op := Go.Op.fieldAddr 27 (Go.Operand.tmp 1) 3, type := 0, pos := "ref.go:465", after := #[], guard := none }) (v := ?_) rfl (by kernel_rfl) (by kernel_rfl) (by kernel_rfl) (fun _ _ _ h => h) (Or.inl ⟨by rfl, ?_⟩) (by assumption) ?_
            rotate_left 1
            · intro w hSw; (try dsimp only at hSw); go_simp; try with_reducible rfl
            try simp only [Act.put, List.setIfInBounds_toArray, List.set_cons_zero, List.set_cons_succ]
            refine wpAnyH_take (i := 3) (oi := { dst := some 49, op := Go.Op.load 24 (Go.Operand.tmp 48), type := 24, pos := "ref.go:465", after := #[{ on := 2, ground := Go.Ground.data }], guard := none }) (v := ?_) rfl (by kernel_rfl) (by kernel_rfl) (by kernel_rfl) (fun _ _ _ h => h) (Or.inl ⟨by rfl, ?_⟩) (by assumption) ?_
            rotate_left 1
            · intro w hSw; (try dsimp only at hSw); go_simp; try with_reducible rfl
            try simp only [Act.put, List.setIfInBounds_toArray, List.set_cons_zero, List.set_cons_succ]
            refine wpAnyH_take (i := 4) (oi := { dst := some 50, op := Go.Op.move (Go.Operand.tmp 5), type := 3, pos := "ref.go:465", after := #[], guard := none }) (v := ?_) rfl (by kernel_rfl) (by kernel_rfl) (by kernel_rfl) (fun _ _ _ h => h) (Or.inl ⟨by rfl, ?_⟩) (by assumption) ?_
            rotate_left 1
            · intro w hSw; (try dsimp only at hSw); go_simp; try with_reducible rfl
            try simp only [Act.put, List.setIfInBounds_toArray, List.set_cons_zero, List.set_cons_succ]
            refine wpAnyH_take (i := 5) (oi := { dst := some 51, op := Go.Op.indexAddr 24 (Go.Operand.tmp 49) (Go.Operand.tmp 50), type := 0, pos := "ref.go:465", after := #[{ on := 3, ground := Go.Ground.data }, { on := 4, ground := Go.Ground.data }], guard := none }) (v := ?_) rfl (by kernel_rfl) (by kernel_rfl) (by kernel_rfl) (fun _ _ _ h => h) (Or.inl ⟨by rfl, ?_⟩) (by assumption) ?_
            rotate_left 1
            · intro w hSw; (try dsimp only at hSw); go_simp; try with_reducible rfl
            try simp only [Act.put, List.setIfInBounds_toArray, List.set_cons_zero, List.set_cons_succ]
            refine wpAnyH_take (i := 6) (oi := { dst := some 52, op := Go.Op.fieldAddr 65 (Go.Operand.tmp 51) 0, type := 0, pos := "ref.go:465", after := #[{ on := 5, ground := Go.Ground.data }], guard := none }) (v := ?_) rfl (by kernel_rfl) (by kernel_rfl) (by kernel_rfl) (fun _ _ _ h => h) (Or.inl ⟨by rfl, ?_⟩) (by assumption) ?_
            rotate_left 1
            · intro w hSw; (try dsimp only at hSw); go_simp; try with_reducible rfl
            try simp only [Act.put, List.setIfInBounds_toArray, List.set_cons_zero, List.set_cons_succ]
            refine wpAnyH_take (i := 7) (oi := { dst := some 53, op := Go.Op.load 9 (Go.Operand.tmp 52), type := 9, pos := "ref.go:465", after := #[{ on := 6, ground := Go.Ground.data }], guard := none }) (v := ?_) rfl (by kernel_rfl) (by kernel_rfl) (by kernel_rfl) (fun _ _ _ h => h) (Or.inl ⟨by rfl, ?_⟩) (by assumption) ?_
            rotate_left 1
            · intro w hSw; (try dsimp only at hSw); go_simp; try with_reducible rfl
            try simp only [Act.put, List.setIfInBounds_toArray, List.set_cons_zero, List.set_cons_succ]
            refine wpAnyH_take (i := 8) (oi := { dst := some 54, op := Go.Op.fieldAddr 27 (Go.Operand.tmp 1) 3, type := 0, pos := "ref.go:465", after := #[], guard := none }) (v := ?_) rfl (by kernel_rfl) (by kernel_rfl) (by kernel_rfl) (fun _ _ _ h => h) (Or.inl ⟨by rfl, ?_⟩) (by assumption) ?_
            rotate_left 1
            · intro w hSw; (try dsimp only at hSw); go_simp; try with_reducible rfl
            try simp only [Act.put, List.setIfInBounds_toArray, List.set_cons_zero, List.set_cons_succ]
            refine wpAnyH_take (i := 9) (oi := { dst := some 55, op := Go.Op.load 24 (Go.Operand.tmp 54), type := 24, pos := "ref.go:465", after := #[{ on := 8, ground := Go.Ground.data }], guard := none }) (v := ?_) rfl (by kernel_rfl) (by kernel_rfl) (by kernel_rfl) (fun _ _ _ h => h) (Or.inl ⟨by rfl, ?_⟩) (by assumption) ?_
            rotate_left 1
            · intro w hSw; (try dsimp only at hSw); go_simp; try with_reducible rfl
            try simp only [Act.put, List.setIfInBounds_toArray, List.set_cons_zero, List.set_cons_succ]
            refine wpAnyH_take (i := 10) (oi := { dst := some 56, op := Go.Op.move (Go.Operand.tmp 5), type := 3, pos := "ref.go:465", after := #[], guard := none }) (v := ?_) rfl (by kernel_rfl) (by kernel_rfl) (by kernel_rfl) (fun _ _ _ h => h) (Or.inl ⟨by rfl, ?_⟩) (by assumption) ?_
            rotate_left 1
            · intro w hSw; (try dsimp only at hSw); go_simp; try with_reducible rfl
            try simp only [Act.put, List.setIfInBounds_toArray, List.set_cons_zero, List.set_cons_succ]
            refine wpAnyH_take (i := 11) (oi := { dst := some 57, op := Go.Op.indexAddr 24 (Go.Operand.tmp 55) (Go.Operand.tmp 56), type := 0, pos := "ref.go:465", after := #[{ on := 9, ground := Go.Ground.data }, { on := 10, ground := Go.Ground.data }], guard := none }) (v := ?_) rfl (by kernel_rfl) (by kernel_rfl) (by kernel_rfl) (fun _ _ _ h => h) (Or.inl ⟨by rfl, ?_⟩) (by assumption) ?_
            rotate_left 1
            · intro w hSw; (try dsimp only at hSw); go_simp; try with_reducible rfl
            try simp only [Act.put, List.setIfInBounds_toArray, List.set_cons_zero, List.set_cons_succ]
            refine wpAnyH_take (i := 12) (oi := { dst := some 58, op := Go.Op.fieldAddr 65 (Go.Operand.tmp 57) 1, type := 0, pos := "ref.go:465", after := #[{ on := 11, ground := Go.Ground.data }], guard := none }) (v := ?_) rfl (by kernel_rfl) (by kernel_rfl) (by kernel_rfl) (fun _ _ _ h => h) (Or.inl ⟨by rfl, ?_⟩) (by assumption) ?_
            rotate_left 1
            · intro w hSw; (try dsimp only at hSw); go_simp; try with_reducible rfl
            try simp only [Act.put, List.setIfInBounds_toArray, List.set_cons_zero, List.set_cons_succ]
            refine wpAnyH_take (i := 13) (oi := { dst := some 59, op := Go.Op.load 30 (Go.Operand.tmp 58), type := 30, pos := "ref.go:465", after := #[{ on := 12, ground := Go.Ground.data }], guard := none }) (v := ?_) rfl (by kernel_rfl) (by kernel_rfl) (by kernel_rfl) (fun _ _ _ h => h) (Or.inl ⟨by rfl, ?_⟩) (by assumption) ?_
            rotate_left 1
            · intro w hSw; (try dsimp only at hSw); go_simp; try with_reducible rfl
            try simp only [Act.put, List.setIfInBounds_toArray, List.set_cons_zero, List.set_cons_succ]
            refine wpAnyH_ready (rs := [1, 14]) (by kernel_rfl) (by simp) ?_
            refine AllReadyH.cons (o := { dst := some 47, op := Go.Op.load 24 (Go.Operand.tmp 46), type := 24, pos := "ref.go:465", after := #[{ on := 0, ground := Go.Ground.data }], guard := none }) rfl (fun K hK => ?_) (AllReadyH.cons (o := { dst := some 60, op := Go.Op.call { callee := Go.Callee.builtin Go.Builtin.append, args := #[Go.Operand.const (Go.Value.slice none 0 0), Go.Operand.tmp 59], argTypes := #[30, 30] }, type := 30, pos := "ref.go:465", after := #[{ on := 13, ground := Go.Ground.data }], guard := none }) rfl (fun K hK => ?_) (AllReadyH.nil))
            go_simp
            refine hK.out _ _ Hs1.out (fun hHeld => ?_)
            clear hK K
            try simp only [Act.put, List.setIfInBounds_toArray, List.set_cons_zero, List.set_cons_succ]
            refine wpAnyH_ready (rs := [14]) (by kernel_rfl) (by simp) ?_
            refine AllReadyH.cons (o := { dst := some 60, op := Go.Op.call { callee := Go.Callee.builtin Go.Builtin.append, args := #[Go.Operand.const (Go.Value.slice none 0 0), Go.Operand.tmp 59], argTypes := #[30, 30] }, type := 30, pos := "ref.go:465", after := #[{ on := 13, ground := Go.Ground.data }], guard := none }) rfl (fun K hK => ?_) (AllReadyH.nil)
            refine step_append_run _ rfl _ _ _ _ rfl _ _ (by rfl) (by rfl) _ w5 hrun5 ?_
            refine hK.out _ _ Hf5.out (fun hHeld => ?_)
            clear hK K
            try simp only [Act.put, List.setIfInBounds_toArray, List.set_cons_zero, List.set_cons_succ]
            refine wpAnyH_take (i := 15) (oi := { dst := some 61, op := Go.Op.build 65 #[(0, Go.Operand.tmp 53), (1, Go.Operand.tmp 60)], type := 65, pos := "ref.go:465", after := #[{ on := 7, ground := Go.Ground.data }, { on := 14, ground := Go.Ground.data }], guard := none }) (v := ?_) rfl (by kernel_rfl) (by kernel_rfl) (by kernel_rfl) (fun _ _ _ h => h) (Or.inl ⟨by rfl, ?_⟩) (by assumption) ?_
            rotate_left 1
            · intro w hSw; (try dsimp only at hSw); go_simp; try with_reducible rfl
            try simp only [Act.put, List.setIfInBounds_toArray, List.set_cons_zero, List.set_cons_succ]
            refine wpAnyH_ready (rs := [16]) (by kernel_rfl) (by simp) ?_
            refine AllReadyH.cons (o := { dst := some 62, op := Go.Op.buildSlice 24 1 #[(0, Go.Operand.tmp 61)], type := 24, pos := "ref.go:465", after := #[{ on := 15, ground := Go.Ground.data }], guard := none }) rfl (fun K hK => ?_) (AllReadyH.nil)
            go_simp
            refine hK.out _ _ Hf6.out (fun hHeld => ?_)
            clear hK K
            try simp only [Act.put, List.setIfInBounds_toArray, List.set_cons_zero, List.set_cons_succ]
            refine wpAnyH_ready (rs := [17]) (by kernel_rfl) (by simp) ?_
            refine AllReadyH.cons (o := { dst := some 63, op := Go.Op.call { callee := Go.Callee.builtin Go.Builtin.append, args := #[Go.Operand.tmp 47, Go.Operand.tmp 62], argTypes := #[24, 24] }, type := 24, pos := "ref.go:465", after := #[{ on := 1, ground := Go.Ground.data }, { on := 16, ground := Go.Ground.data }, { on := 14, ground := Go.Ground.chain }], guard := none }) rfl (fun K hK => ?_) (AllReadyH.nil)
            refine step_append_run _ rfl _ _ _ _ rfl _ _ (by rfl) (by rfl) _ w7 hrun7' ?_
            refine hK.out _ _ Hf7.out (fun hHeld => ?_)
            clear hK K
            try simp only [Act.put, List.setIfInBounds_toArray, List.set_cons_zero, List.set_cons_succ]
            refine wpAnyH_take (i := 18) (oi := { dst := some 64, op := Go.Op.fieldAddr 27 (Go.Operand.tmp 3) 3, type := 0, pos := "ref.go:465", after := #[{ on := 0, ground := Go.Ground.phase }, { on := 1, ground := Go.Ground.phase }, { on := 2, ground := Go.Ground.phase }, { on := 3, ground := Go.Ground.phase }, { on := 4, ground := Go.Ground.phase }, { on := 5, ground := Go.Ground.phase }, { on := 6, ground := Go.Ground.phase }, { on := 7, ground := Go.Ground.phase }, { on := 8, ground := Go.Ground.phase }, { on := 9, ground := Go.Ground.phase }, { on := 10, ground := Go.Ground.phase }, { on := 11, ground := Go.Ground.phase }, { on := 12, ground := Go.Ground.phase }, { on := 13, ground := Go.Ground.phase }, { on := 14, ground := Go.Ground.phase }, { on := 15, ground := Go.Ground.phase }, { on := 16, ground := Go.Ground.phase }, { on := 17, ground := Go.Ground.phase }], guard := none }) (v := ?_) rfl (by kernel_rfl) (by kernel_rfl) (by kernel_rfl) (fun _ _ _ h => h) (Or.inl ⟨by rfl, ?_⟩) (by assumption) ?_
            rotate_left 1
            · intro w hSw; (try dsimp only at hSw); go_simp; try with_reducible rfl
            try simp only [Act.put, List.setIfInBounds_toArray, List.set_cons_zero, List.set_cons_succ]
            refine wpAnyH_ready (rs := [19]) (by kernel_rfl) (by simp) ?_
            refine AllReadyH.cons (o := { dst := none, op := Go.Op.store 24 (Go.Operand.tmp 64) (Go.Operand.tmp 63), type := 0, pos := "ref.go:465", after := #[{ on := 18, ground := Go.Ground.data }, { on := 17, ground := Go.Ground.data }, { on := 17, ground := Go.Ground.chain }, { on := 0, ground := Go.Ground.phase }, { on := 1, ground := Go.Ground.phase }, { on := 2, ground := Go.Ground.phase }, { on := 3, ground := Go.Ground.phase }, { on := 4, ground := Go.Ground.phase }, { on := 5, ground := Go.Ground.phase }, { on := 6, ground := Go.Ground.phase }, { on := 7, ground := Go.Ground.phase }, { on := 8, ground := Go.Ground.phase }, { on := 9, ground := Go.Ground.phase }, { on := 10, ground := Go.Ground.phase }, { on := 11, ground := Go.Ground.phase }, { on := 12, ground := Go.Ground.phase }, { on := 13, ground := Go.Ground.phase }, { on := 14, ground := Go.Ground.phase }, { on := 15, ground := Go.Ground.phase }, { on := 16, ground := Go.Ground.phase }, { on := 17, ground := Go.Ground.phase }], guard := none }) rfl (fun K hK => ?_) (AllReadyH.nil)
            go_simp
            refine hK.out _ _ Hf8.out (fun hHeld => ?_)
            clear hK K
            try simp only [Act.put, List.setIfInBounds_toArray, List.set_cons_zero, List.set_cons_succ]
            refine wpAnyH_done (by kernel_rfl) ?_ _
            rotate_left 1
            refine step_append_run _ rfl _ _ _ _ rfl _ _ (by rfl) (by rfl) _ w5 hrun5 ?_
            refine hK.out _ _ Hf5.out (fun hHeld => ?_)
            clear hK K
            try simp only [Act.put, List.setIfInBounds_toArray, List.set_cons_zero, List.set_cons_succ]
            refine wpAnyH_take (i := 15) (oi := { dst := some 61, op := Go.Op.build 65 #[(0, Go.Operand.tmp 53), (1, Go.Operand.tmp 60)], type := 65, pos := "ref.go:465", after := #[{ on := 7, ground := Go.Ground.data }, { on := 14, ground := Go.Ground.data }], guard := none }) (v := ?_) rfl (by kernel_rfl) (by kernel_rfl) (by kernel_rfl) (fun _ _ _ h => h) (Or.inl ⟨by rfl, ?_⟩) (by assumption) ?_
            rotate_left 1
            · intro w hSw; (try dsimp only at hSw); go_simp; try with_reducible rfl
            try simp only [Act.put, List.setIfInBounds_toArray, List.set_cons_zero, List.set_cons_succ]
            refine wpAnyH_ready (rs := [1, 16]) (by kernel_rfl) (by simp) ?_
            refine AllReadyH.cons (o := { dst := some 47, op := Go.Op.load 24 (Go.Operand.tmp 46), type := 24, pos := "ref.go:465", after := #[{ on := 0, ground := Go.Ground.data }], guard := none }) rfl (fun K hK => ?_) (AllReadyH.cons (o := { dst := some 62, op := Go.Op.buildSlice 24 1 #[(0, Go.Operand.tmp 61)], type := 24, pos := "ref.go:465", after := #[{ on := 15, ground := Go.Ground.data }], guard := none }) rfl (fun K hK => ?_) (AllReadyH.nil))
            go_simp
            refine hK.out _ _ Hf5.out (fun hHeld => ?_)
            clear hK K
            try simp only [Act.put, List.setIfInBounds_toArray, List.set_cons_zero, List.set_cons_succ]
            refine wpAnyH_ready (rs := [16]) (by kernel_rfl) (by simp) ?_
            refine AllReadyH.cons (o := { dst := some 62, op := Go.Op.buildSlice 24 1 #[(0, Go.Operand.tmp 61)], type := 24, pos := "ref.go:465", after := #[{ on := 15, ground := Go.Ground.data }], guard := none }) rfl (fun K hK => ?_) (AllReadyH.nil)
            go_simp
            refine hK.out _ _ Hf6.out (fun hHeld => ?_)
            clear hK K
            try simp only [Act.put, List.setIfInBounds_toArray, List.set_cons_zero, List.set_cons_succ]
            refine wpAnyH_ready (rs := [17]) (by kernel_rfl) (by simp) ?_
            refine AllReadyH.cons (o := { dst := some 63, op := Go.Op.call { callee := Go.Callee.builtin Go.Builtin.append, args := #[Go.Operand.tmp 47, Go.Operand.tmp 62], argTypes := #[24, 24] }, type := 24, pos := "ref.go:465", after := #[{ on := 1, ground := Go.Ground.data }, { on := 16, ground := Go.Ground.data }, { on := 14, ground := Go.Ground.chain }], guard := none }) rfl (fun K hK => ?_) (AllReadyH.nil)
            refine step_append_run _ rfl _ _ _ _ rfl _ _ (by rfl) (by rfl) _ w7 hrun7' ?_
            refine hK.out _ _ Hf7.out (fun hHeld => ?_)
            clear hK K
            try simp only [Act.put, List.setIfInBounds_toArray, List.set_cons_zero, List.set_cons_succ]
            refine wpAnyH_take (i := 18) (oi := { dst := some 64, op := Go.Op.fieldAddr 27 (Go.Operand.tmp 3) 3, type := 0, pos := "ref.go:465", after := #[{ on := 0, ground := Go.Ground.phase }, { on := 1, ground := Go.Ground.phase }, { on := 2, ground := Go.Ground.phase }, { on := 3, ground := Go.Ground.phase }, { on := 4, ground := Go.Ground.phase }, { on := 5, ground := Go.Ground.phase }, { on := 6, ground := Go.Ground.phase }, { on := 7, ground := Go.Ground.phase }, { on := 8, ground := Go.Ground.phase }, { on := 9, ground := Go.Ground.phase }, { on := 10, ground := Go.Ground.phase }, { on := 11, ground := Go.Ground.phase }, { on := 12, ground := Go.Ground.phase }, { on := 13, ground := Go.Ground.phase }, { on := 14, ground := Go.Ground.phase }, { on := 15, ground := Go.Ground.phase }, { on := 16, ground := Go.Ground.phase }, { on := 17, ground := Go.Ground.phase }], guard := none }) (v := ?_) rfl (by kernel_rfl) (by kernel_rfl) (by kernel_rfl) (fun _ _ _ h => h) (Or.inl ⟨by rfl, ?_⟩) (by assumption) ?_
            rotate_left 1
            · intro w hSw; (try dsimp only at hSw); go_simp; try with_reducible rfl
            try simp only [Act.put, List.setIfInBounds_toArray, List.set_cons_zero, List.set_cons_succ]
            refine wpAnyH_ready (rs := [19]) (by kernel_rfl) (by simp) ?_
            refine AllReadyH.cons (o := { dst := none, op := Go.Op.store 24 (Go.Operand.tmp 64) (Go.Operand.tmp 63), type := 0, pos := "ref.go:465", after := #[{ on := 18, ground := Go.Ground.data }, { on := 17, ground := Go.Ground.data }, { on := 17, ground := Go.Ground.chain }, { on := 0, ground := Go.Ground.phase }, { on := 1, ground := Go.Ground.phase }, { on := 2, ground := Go.Ground.phase }, { on := 3, ground := Go.Ground.phase }, { on := 4, ground := Go.Ground.phase }, { on := 5, ground := Go.Ground.phase }, { on := 6, ground := Go.Ground.phase }, { on := 7, ground := Go.Ground.phase }, { on := 8, ground := Go.Ground.phase }, { on := 9, ground := Go.Ground.phase }, { on := 10, ground := Go.Ground.phase }, { on := 11, ground := Go.Ground.phase }, { on := 12, ground := Go.Ground.phase }, { on := 13, ground := Go.Ground.phase }, { on := 14, ground := Go.Ground.phase }, { on := 15, ground := Go.Ground.phase }, { on := 16, ground := Go.Ground.phase }, { on := 17, ground := Go.Ground.phase }], guard := none }) rfl (fun K hK => ?_) (AllReadyH.nil)
            go_simp
            refine hK.out _ _ Hf8.out (fun hHeld => ?_)
            clear hK K
            try simp only [Act.put, List.setIfInBounds_toArray, List.set_cons_zero, List.set_cons_succ]
            refine wpAnyH_done (by kernel_rfl) ?_ _
            rotate_left 1
            go_simp
            refine hK.out _ _ Hf6.out (fun hHeld => ?_)
            clear hK K
            try simp only [Act.put, List.setIfInBounds_toArray, List.set_cons_zero, List.set_cons_succ]
            refine wpAnyH_ready (rs := [1]) (by kernel_rfl) (by simp) ?_
            refine AllReadyH.cons (o := { dst := some 47, op := Go.Op.load 24 (Go.Operand.tmp 46), type := 24, pos := "ref.go:465", after := #[{ on := 0, ground := Go.Ground.data }], guard := none }) rfl (fun K hK => ?_) (AllReadyH.nil)
            go_simp
            refine hK.out _ _ Hf6.out (fun hHeld => ?_)
            clear hK K
            try simp only [Act.put, List.setIfInBounds_toArray, List.set_cons_zero, List.set_cons_succ]
            refine wpAnyH_ready (rs := [17]) (by kernel_rfl) (by simp) ?_
            refine AllReadyH.cons (o := { dst := some 63, op := Go.Op.call { callee := Go.Callee.builtin Go.Builtin.append, args := #[Go.Operand.tmp 47, Go.Operand.tmp 62], argTypes := #[24, 24] }, type := 24, pos := "ref.go:465", after := #[{ on := 1, ground := Go.Ground.data }, { on := 16, ground := Go.Ground.data }, { on := 14, ground := Go.Ground.chain }], guard := none }) rfl (fun K hK => ?_) (AllReadyH.nil)
            refine step_append_run _ rfl _ _ _ _ rfl _ _ (by rfl) (by rfl) _ w7 hrun7' ?_
            refine hK.out _ _ Hf7.out (fun hHeld => ?_)
            clear hK K
            try simp only [Act.put, List.setIfInBounds_toArray, List.set_cons_zero, List.set_cons_succ]
            refine wpAnyH_take (i := 18) (oi := { dst := some 64, op := Go.Op.fieldAddr 27 (Go.Operand.tmp 3) 3, type := 0, pos := "ref.go:465", after := #[{ on := 0, ground := Go.Ground.phase }, { on := 1, ground := Go.Ground.phase }, { on := 2, ground := Go.Ground.phase }, { on := 3, ground := Go.Ground.phase }, { on := 4, ground := Go.Ground.phase }, { on := 5, ground := Go.Ground.phase }, { on := 6, ground := Go.Ground.phase }, { on := 7, ground := Go.Ground.phase }, { on := 8, ground := Go.Ground.phase }, { on := 9, ground := Go.Ground.phase }, { on := 10, ground := Go.Ground.phase }, { on := 11, ground := Go.Ground.phase }, { on := 12, ground := Go.Ground.phase }, { on := 13, ground := Go.Ground.phase }, { on := 14, ground := Go.Ground.phase }, { on := 15, ground := Go.Ground.phase }, { on := 16, ground := Go.Ground.phase }, { on := 17, ground := Go.Ground.phase }], guard := none }) (v := ?_) rfl (by kernel_rfl) (by kernel_rfl) (by kernel_rfl) (fun _ _ _ h => h) (Or.inl ⟨by rfl, ?_⟩) (by assumption) ?_
            rotate_left 1
            · intro w hSw; (try dsimp only at hSw); go_simp; try with_reducible rfl
            try simp only [Act.put, List.setIfInBounds_toArray, List.set_cons_zero, List.set_cons_succ]
            refine wpAnyH_ready (rs := [19]) (by kernel_rfl) (by simp) ?_
            refine AllReadyH.cons (o := { dst := none, op := Go.Op.store 24 (Go.Operand.tmp 64) (Go.Operand.tmp 63), type := 0, pos := "ref.go:465", after := #[{ on := 18, ground := Go.Ground.data }, { on := 17, ground := Go.Ground.data }, { on := 17, ground := Go.Ground.chain }, { on := 0, ground := Go.Ground.phase }, { on := 1, ground := Go.Ground.phase }, { on := 2, ground := Go.Ground.phase }, { on := 3, ground := Go.Ground.phase }, { on := 4, ground := Go.Ground.phase }, { on := 5, ground := Go.Ground.phase }, { on := 6, ground := Go.Ground.phase }, { on := 7, ground := Go.Ground.phase }, { on := 8, ground := Go.Ground.phase }, { on := 9, ground := Go.Ground.phase }, { on := 10, ground := Go.Ground.phase }, { on := 11, ground := Go.Ground.phase }, { on := 12, ground := Go.Ground.phase }, { on := 13, ground := Go.Ground.phase }, { on := 14, ground := Go.Ground.phase }, { on := 15, ground := Go.Ground.phase }, { on := 16, ground := Go.Ground.phase }, { on := 17, ground := Go.Ground.phase }], guard := none }) rfl (fun K hK => ?_) (AllReadyH.nil)
            go_simp
            refine hK.out _ _ Hf8.out (fun hHeld => ?_)
            clear hK K
            try simp only [Act.put, List.setIfInBounds_toArray, List.set_cons_zero, List.set_cons_succ]
            refine wpAnyH_done (by kernel_rfl) ?_ _
            all_goals
              obtain ⟨rows7, g1, g2, g3, g4, g5⟩ := TE.out
              have HL7 : Hid (OwnM secKd w (w7.setCell ⟨G, 3, none⟩ (.slice A7 n7 c7)) (B + 2) (.slice A7 n7 c7) (c.secs.take (k + 1)) rows7 (c.secs.take (k + 1)).length) := Lib.hid (by rw [HTK.out]; exact g1)
              have HO7 : Hid (Blk (w7.setCell ⟨G, 3, none⟩ (.slice A7 n7 c7)) G 27 #[.string c.note, .slice gA c.faces.length gc, .slice NA c.names.length Nc, .slice A7 n7 c7, .slice none 0 0]) := Lib.hid g2
              have HZ7 := Lib.hid g3
              have HW7 : Hid (Blk (w7.setCell ⟨G, 3, none⟩ (.slice A7 n7 c7)) B 27 #[.string c.note, .slice pf c.faces.length cf, .slice pn c.names.length cn, .slice (some ⟨b, o, none⟩) c.secs.length cs, .slice pp c.pkts.length cp] ∧ Below B w (w7.setCell ⟨G, 3, none⟩ (.slice A7 n7 c7))) := Lib.hid ⟨HCB.out, g4⟩
              have HA7 : Hid (Alike2 65 V2 (w7.setCell ⟨G, 3, none⟩ (.slice A7 n7 c7))) := Lib.hid g5
              clear g1 g2 g3 g4 g5 TE
              go_wp2
              go_roundw
              case rel => exact ⟨k + 1, .slice A7 n7 c7, rows7, by go_num, by omega, HL7, HO7, HZ7, HW7, HA7⟩
              case measure => simp [intOf]; omega
          · have hkn : k = c.secs.length := by omega
            subst hkn
            obtain ⟨QA, Qc, rfl, hle, hnil⟩ := own_form2 HL.out.own
            rw [List.take_length] at HL HO
            have HQ3 := HL
            have HO3 := HO
            have HK3 := HW
            have HZ3 := HZ
            have HF3 := Lib.hid (facL_alike2 HF2.out HA.out (by decide))
            have HN3 := Lib.hid (HN2.out.alike2 HA.out (by decide) (by decide) (by decide))
            rename World => V3
            clear HA HW HL HO HZ HK2 HZ2 HO2 hk hlt hle hnil HF2 HN2
            have x3 : V3.cell? ⟨B, 4, none⟩ = some (.slice pp c.pkts.length cp) := HK3.out.1.cell 4
            go_wp2_with fail
            clear x3 xB
            go_loopw [6] (fun i wr => ∃ (k : Nat) (v : Value) (rows : List (List Value)), i = .int .i64 k ∧ k ≤ c.pkts.length ∧ Hid (OwnM pktKd w wr (B + 2) v (c.pkts.take k) rows (c.pkts.take k).length) ∧ Hid (Blk wr G 27 #[.string c.note, .slice gA c.faces.length gc, .slice NA c.names.length Nc, .slice QA c.secs.length Qc, v]) ∧ Hid (Blk wr (B + 1) 27 zeroB) ∧ Hid (Blk wr B 27 #[.string c.note, .slice pf c.faces.length cf, .slice pn c.names.length cn, .slice ps c.secs.length cs, .slice pp c.pkts.length cp] ∧ Below B w wr) ∧ Hid (Alike2 47 V3 wr)) (fun i _ => c.pkts.length - (intOf i).toNat)
            case atStart => exact ⟨0, .slice none 0 0, [], rfl, Nat.zero_le _, Lib.hid (OwnM.nil _ _ _ _), HO3, HZ3, HK3, Lib.hid (Alike2.refl _ _)⟩
            case round =>
              obtain ⟨k, v, rows, rfl, hk, HL, HO, HZ, HW, HA⟩ := hrel
              have xB : wr.cell? ⟨B, 4, none⟩ = some (.slice pp c.pkts.length cp) := HW.out.1.cell 4
              by_cases hlt : k < c.pkts.length
              · obtain ⟨b, o, hA, hb, vs, hl, hE, hcell⟩ := (HM.out.pkts.keep pktK HW.out.2 (Nat.le_refl _)).row k hlt
                change pp = _ at hA
                subst hA
                have hbig : c.pkts.length * 64 ≤ 140737488355328 := HM.out.lp.2.1
                have HTK : Hid (c.pkts.take (k + 1) = c.pkts.take k ++ [c.pkts[k]]) := Lib.hid (List.take_succ_eq_append_getElem hlt)
                have HTL : Hid ((c.pkts.take k).length = k) := Lib.hid (by rw [List.length_take]; omega)
                obtain ⟨X, hX⟩ : ∃ X, c.pkts[k] = X := ⟨_, rfl⟩
                rw [hX] at hE HTK
                clear hX
                obtain ⟨A2, cp2, rfl, hbyc, hok⟩ := hE
                obtain ⟨L, hL⟩ : ∃ L, X.data.length = L := ⟨_, rfl⟩
                have HLL := Lib.hid hL
                have HX2 : Hid (∃ Y, X.data = Y) := Lib.hid ⟨_, rfl⟩
                have c0 : wr.cell? ⟨b, o + k * 5, none⟩ = some (.int .i64 X.time) := by first | (rw [← hL]; exact hcell 0 _ rfl) | exact hcell 0 _ rfl
                have c1 : wr.cell? ⟨b, o + k * 5 + 1, none⟩ = some (.int .i64 X.face) := by first | (rw [← hL]; exact hcell 1 _ rfl) | exact hcell 1 _ rfl
                have c2 : wr.cell? ⟨b, o + k * 5 + 2, none⟩ = some (.int .i64 X.real) := by first | (rw [← hL]; exact hcell 2 _ rfl) | exact hcell 2 _ rfl
                have c3 : wr.cell? ⟨b, o + k * 5 + 3, none⟩ = some (.slice A2 L cp2) := by first | (rw [← hL]; exact hcell 3 _ rfl) | exact hcell 3 _ rfl
                have c4 : wr.cell? ⟨b, o + k * 5 + 4, none⟩ = some (.string X.note) := by first | (rw [← hL]; exact hcell 4 _ rfl) | exact hcell 4 _ rfl
                have hcap := hbyc.cap
                have hlt256 := hbyc.byt.lt
                have CL := copyp_any (w := wr.drew) (A := A2) (c := cp2) (p := X) (Byc.more (hbyc.below ((Below.refl B wr).drew)) (by have := HW.out.1.lt; show B ≤ wr.heap.size; omega))
                rw [hL] at CL
                have hw2 := HZ.out.lt
                have HCL : Hid (Calls Try.prog 43 #[.agg #[.int .i64 X.time, .int .i64 X.face, .int .i64 X.real, .slice A2 L cp2, .string X.note]] wr.drew fun e w' => ∃ A c9, e = .returned (.agg #[.int .i64 X.time, .int .i64 X.face, .int .i64 X.real, .slice A L c9, .string X.note]) ∧ w'.ownsRow (B + 2) 5 1 (.slice A L c9) L (X.data.map Go.Proofs.Ytlimkckomdipkaa.u8) ∧ wr.grownBy w' none) := Lib.hid (CL.mono (by
                  rintro e w' ⟨A, c9, he, ho, hb'⟩
                  exact ⟨A, c9, he, own_mono ho (by show B + 2 ≤ wr.heap.size; omega), ⟨hb'.os, hb'.tape, hb'.output, hb'.size, fun k hk _ => hb'.block k hk⟩⟩))
                have HST : Hid (∀ w5 A5 c5, w5.ownsRow (B + 2) 5 1 (.slice A5 L c5) L (X.data.map Go.Proofs.Ytlimkckomdipkaa.u8) → wr.grownBy w5 none → _) := Lib.hid (fun w5 A5 c5 ho5 hg5 => rcopy_step (w5 := w5) (A5 := A5) (c5 := c5) (f := 4) (bytes := 64) pktR Try.underlying25 info47 (by rfl) (by decide) (by decide) hL HL.out HO.out HZ.out HW.out HA.out HGB.out ho5 hg5 hlt256 hcap hok (by rw [HTL.out]; omega))
                have HC : Hid (wr.cell? ⟨b, o + k * 5, none⟩ = some (.int .i64 X.time) ∧ wr.cell? ⟨b, o + k * 5 + 1, none⟩ = some (.int .i64 X.face) ∧ wr.cell? ⟨b, o + k * 5 + 2, none⟩ = some (.int .i64 X.real) ∧ wr.cell? ⟨b, o + k * 5 + 3, none⟩ = some (.slice A2 L cp2) ∧ wr.cell? ⟨b, o + k * 5 + 4, none⟩ = some (.string X.note)) := Lib.hid ⟨c0, c1, c2, c3, c4⟩
                have s1 : wr.drew.cell? ⟨B, 4, none⟩ = some (.slice (some ⟨b, o, none⟩) c.pkts.length cp) ∧ wr.drew.cell? ⟨b, o + k * 5, none⟩ = some (.int .i64 X.time) ∧ wr.drew.cell? ⟨b, o + k * 5 + 1, none⟩ = some (.int .i64 X.face) ∧ wr.drew.cell? ⟨b, o + k * 5 + 2, none⟩ = some (.int .i64 X.real) ∧ wr.drew.cell? ⟨b, o + k * 5 + 3, none⟩ = some (.slice A2 L cp2) ∧ wr.drew.cell? ⟨b, o + k * 5 + 4, none⟩ = some (.string X.note) := ⟨xB, c0, c1, c2, c3, c4⟩
                have Hs1 := Lib.hid s1
                have lo1 : wr.cell? ⟨G, 4, none⟩ = some v := HO.out.cell 4
                have hk0 : (0 : Int) ≤ (k : Int) := by omega
                have hlt' : (k : Int) < (c.pkts.length : Int) := by omega
                clear CL hbyc hok hlt256 hcap hcell hL s1 hw2
                go_wp2_with fail
                clear c0 c1 c2 c3 c4 xB
                refine wp_region_held_drew (S := fun w' => w'.cell? ⟨B, 4, none⟩ = some (.slice (some ⟨b, o, none⟩) c.pkts.length cp) ∧ w'.cell? ⟨b, o + k * 5, none⟩ = some (.int .i64 X.time) ∧ w'.cell? ⟨b, o + k * 5 + 1, none⟩ = some (.int .i64 X.face) ∧ w'.cell? ⟨b, o + k * 5 + 2, none⟩ = some (.int .i64 X.real) ∧ w'.cell? ⟨b, o + k * 5 + 3, none⟩ = some (.slice A2 L cp2) ∧ w'.cell? ⟨b, o + k * 5 + 4, none⟩ = some (.string X.note)) (by kernel_rfl) Hs1.out (fun hHeld => ?_)
                refine wpAnyH_take (i := 0) (oi := { dst := some 72, op := Go.Op.fieldAddr 27 (Go.Operand.tmp 3) 4, type := 0, pos := "ref.go:468", after := #[], guard := none }) (v := ?_) rfl (by kernel_rfl) (by kernel_rfl) (by kernel_rfl) (fun _ _ _ h => h) (Or.inl ⟨by rfl, ?_⟩) (by assumption) ?_
                rotate_left 1
                · intro w hSw; (try dsimp only at hSw); go_simp; try with_reducible rfl
                try simp only [Act.put, List.setIfInBounds_toArray, List.set_cons_zero, List.set_cons_succ]
                refine wpAnyH_take (i := 2) (oi := { dst := some 74, op := Go.Op.fieldAddr 27 (Go.Operand.tmp 1) 4, type := 0, pos := "ref.go:468", after := #[], guard := none }) (v := ?_) rfl (by kernel_rfl) (by kernel_rfl) (by kernel_rfl) (fun _ _ _ h => h) (Or.inl ⟨by rfl, ?_⟩) (by assumption) ?_
                rotate_left 1
                · intro w hSw; (try dsimp only at hSw); go_simp; try with_reducible rfl
                try simp only [Act.put, List.setIfInBounds_toArray, List.set_cons_zero, List.set_cons_succ]
                refine wpAnyH_take (i := 3) (oi := { dst := some 75, op := Go.Op.load 25 (Go.Operand.tmp 74), type := 25, pos := "ref.go:468", after := #[{ on := 2, ground := Go.Ground.data }], guard := none }) (v := ?_) rfl (by kernel_rfl) (by kernel_rfl) (by kernel_rfl) (fun _ _ _ h => h) (Or.inl ⟨by rfl, ?_⟩) (by assumption) ?_
                rotate_left 1
                · intro w hSw; (try dsimp only at hSw); go_simp; try with_reducible rfl
                try simp only [Act.put, List.setIfInBounds_toArray, List.set_cons_zero, List.set_cons_succ]
                refine wpAnyH_take (i := 4) (oi := { dst := some 76, op := Go.Op.move (Go.Operand.tmp 6), type := 3, pos := "ref.go:468", after := #[], guard := none }) (v := ?_) rfl (by kernel_rfl) (by kernel_rfl) (by kernel_rfl) (fun _ _ _ h => h) (Or.inl ⟨by rfl, ?_⟩) (by assumption) ?_
                rotate_left 1
                · intro w hSw; (try dsimp only at hSw); go_simp; try with_reducible rfl
                try simp only [Act.put, List.setIfInBounds_toArray, List.set_cons_zero, List.set_cons_succ]
                refine wpAnyH_take (i := 5) (oi := { dst := some 77, op := Go.Op.indexAddr 25 (Go.Operand.tmp 75) (Go.Operand.tmp 76), type := 0, pos := "ref.go:468", after := #[{ on := 3, ground := Go.Ground.data }, { on := 4, ground := Go.Ground.data }], guard := none }) (v := ?_) rfl (by kernel_rfl) (by kernel_rfl) (by kernel_rfl) (fun _ _ _ h => h) (Or.inl ⟨by rfl, ?_⟩) (by assumption) ?_
                rotate_left 1
                · intro w hSw; (try dsimp only at hSw); go_simp; try with_reducible rfl
                try simp only [Act.put, List.setIfInBounds_toArray, List.set_cons_zero, List.set_cons_succ]
                refine wpAnyH_take (i := 6) (oi := { dst := some 78, op := Go.Op.load 47 (Go.Operand.tmp 77), type := 47, pos := "ref.go:468", after := #[{ on := 5, ground := Go.Ground.data }], guard := none }) (v := ?_) rfl (by kernel_rfl) (by kernel_rfl) (by kernel_rfl) (fun _ _ _ h => h) (Or.inl ⟨by rfl, ?_⟩) (by assumption) ?_
                rotate_left 1
                · intro w hSw; (try dsimp only at hSw); go_simp; try with_reducible rfl
                try simp only [Act.put, List.setIfInBounds_toArray, List.set_cons_zero, List.set_cons_succ]
                refine wpAnyH_ready (rs := [1, 7]) (by kernel_rfl) (by simp) ?_
                refine AllReadyH.cons (o := { dst := some 73, op := Go.Op.load 25 (Go.Operand.tmp 72), type := 25, pos := "ref.go:468", after := #[{ on := 0, ground := Go.Ground.data }], guard := none }) rfl (fun K hK => ?_) (AllReadyH.cons (o := { dst := some 79, op := Go.Op.call { callee := Go.Callee.value (Go.Operand.func 43), args := #[Go.Operand.tmp 78], argTypes := #[47] }, type := 47, pos := "ref.go:468", after := #[{ on := 6, ground := Go.Ground.data }], guard := none }) rfl (fun K hK => ?_) (AllReadyH.nil))
                go_simp
                refine hK.out _ _ Hs1.out (fun hHeld => ?_)
                clear hK K
                try simp only [Act.put, List.setIfInBounds_toArray, List.set_cons_zero, List.set_cons_succ]
                refine wpAnyH_ready (rs := [7]) (by kernel_rfl) (by simp) ?_
                refine AllReadyH.cons (o := { dst := some 79, op := Go.Op.call { callee := Go.Callee.value (Go.Operand.func 43), args := #[Go.Operand.tmp 78], argTypes := #[47] }, type := 47, pos := "ref.go:468", after := #[{ on := 6, ground := Go.Ground.data }], guard := none }) rfl (fun K hK => ?_) (AllReadyH.nil)
                go_simp
                go_at_call 43
                with_reducible refine HCL.out.mono ?_
                rintro e w5 ⟨A5, c5, rfl, ho5, hg5⟩
                obtain ⟨A7, n7, c7, w7, hrun7, t5, t6, t7, t8, tE⟩ := HST.out w5 A5 c5 ho5 hg5
                have hrun7' : Sem.run Try.prog (Builtin.append_ #[25, 25] 25 #[v, .slice (some ⟨w5.heap.size, 0, none⟩) 1 1]) (w5.alloc (.cells #[.int .i64 X.time, .int .i64 X.face, .int .i64 X.real, .slice A5 L c5, .string X.note] 47)) = .ok (.slice A7 n7 c7) w7 := hrun7
                have TE := Lib.hid tE
                have HCB := Lib.hid t8.1
                have lo2 : w5.cell? ⟨G, 4, none⟩ = some v := t5.1.cell 4
                have lo3 : (w5.alloc (.cells #[.int .i64 X.time, .int .i64 X.face, .int .i64 X.real, .slice A5 L c5, .string X.note] 47)).cell? ⟨G, 4, none⟩ = some v := t6.1.cell 4
                have lo4 : w7.cell? ⟨G, 4, none⟩ = some v := t7.1.cell 4
                have rz : w7.frozen? ⟨G, 4, none⟩ = false := t7.1.frozen 4
                have f5 : w5.cell? ⟨B, 4, none⟩ = some (.slice (some ⟨b, o, none⟩) c.pkts.length cp) ∧ w5.cell? ⟨b, o + k * 5, none⟩ = some (.int .i64 X.time) ∧ w5.cell? ⟨b, o + k * 5 + 1, none⟩ = some (.int .i64 X.face) ∧ w5.cell? ⟨b, o + k * 5 + 2, none⟩ = some (.int .i64 X.real) ∧ w5.cell? ⟨b, o + k * 5 + 3, none⟩ = some (.slice A2 L cp2) ∧ w5.cell? ⟨b, o + k * 5 + 4, none⟩ = some (.string X.note) := ⟨t5.2.1.cell 4, (t5.2.2.cell (p := ⟨b, o + k * 5, none⟩) hb).trans HC.out.1, (t5.2.2.cell (p := ⟨b, o + k * 5 + 1, none⟩) hb).trans HC.out.2.1, (t5.2.2.cell (p := ⟨b, o + k * 5 + 2, none⟩) hb).trans HC.out.2.2.1, (t5.2.2.cell (p := ⟨b, o + k * 5 + 3, none⟩) hb).trans HC.out.2.2.2.1, (t5.2.2.cell (p := ⟨b, o + k * 5 + 4, none⟩) hb).trans HC.out.2.2.2.2⟩
                have f6 : (w5.alloc (.cells #[.int .i64 X.time, .int .i64 X.face, .int .i64 X.real, .slice A5 L c5, .string X.note] 47)).cell? ⟨B, 4, none⟩ = some (.slice (some ⟨b, o, none⟩) c.pkts.length cp) ∧ (w5.alloc (.cells #[.int .i64 X.time, .int .i64 X.face, .int .i64 X.real, .slice A5 L c5, .string X.note] 47)).cell? ⟨b, o + k * 5, none⟩ = some (.int .i64 X.time) ∧ (w5.alloc (.cells #[.int .i64 X.time, .int .i64 X.face, .int .i64 X.real, .slice A5 L c5, .string X.note] 47)).cell? ⟨b, o + k * 5 + 1, none⟩ = some (.int .i64 X.face) ∧ (w5.alloc (.cells #[.int .i64 X.time, .int .i64 X.face, .int .i64 X.real, .slice A5 L c5, .string X.note] 47)).cell? ⟨b, o + k * 5 + 2, none⟩ = some (.int .i64 X.real) ∧ (w5.alloc (.cells #[.int .i64 X.time, .int .i64 X.face, .int .i64 X.real, .slice A5 L c5, .string X.note] 47)).cell? ⟨b, o + k * 5 + 3, none⟩ = some (.slice A2 L cp2) ∧ (w5.alloc (.cells #[.int .i64 X.time, .int .i64 X.face, .int .i64 X.real, .slice A5 L c5, .string X.note] 47)).cell? ⟨b, o + k * 5 + 4, none⟩ = some (.string X.note) := ⟨t6.2.1.cell 4, (t6.2.2.cell (p := ⟨b, o + k * 5, none⟩) hb).trans HC.out.1, (t6.2.2.cell (p := ⟨b, o + k * 5 + 1, none⟩) hb).trans HC.out.2.1, (t6.2.2.cell (p := ⟨b, o + k * 5 + 2, none⟩) hb).trans HC.out.2.2.1, (t6.2.2.cell (p := ⟨b, o + k * 5 + 3, none⟩) hb).trans HC.out.2.2.2.1, (t6.2.2.cell (p := ⟨b, o + k * 5 + 4, none⟩) hb).trans HC.out.2.2.2.2⟩
                have f7 : w7.cell? ⟨B, 4, none⟩ = some (.slice (some ⟨b, o, none⟩) c.pkts.length cp) ∧ w7.cell? ⟨b, o + k * 5, none⟩ = some (.int .i64 X.time) ∧ w7.cell? ⟨b, o + k * 5 + 1, none⟩ = some (.int .i64 X.face) ∧ w7.cell? ⟨b, o + k * 5 + 2, none⟩ = some (.int .i64 X.real) ∧ w7.cell? ⟨b, o + k * 5 + 3, none⟩ = some (.slice A2 L cp2) ∧ w7.cell? ⟨b, o + k * 5 + 4, none⟩ = some (.string X.note) := ⟨t7.2.1.cell 4, (t7.2.2.cell (p := ⟨b, o + k * 5, none⟩) hb).trans HC.out.1, (t7.2.2.cell (p := ⟨b, o + k * 5 + 1, none⟩) hb).trans HC.out.2.1, (t7.2.2.cell (p := ⟨b, o + k * 5 + 2, none⟩) hb).trans HC.out.2.2.1, (t7.2.2.cell (p := ⟨b, o + k * 5 + 3, none⟩) hb).trans HC.out.2.2.2.1, (t7.2.2.cell (p := ⟨b, o + k * 5 + 4, none⟩) hb).trans HC.out.2.2.2.2⟩
                have f8 : (w7.setCell ⟨G, 4, none⟩ (.slice A7 n7 c7)).cell? ⟨B, 4, none⟩ = some (.slice (some ⟨b, o, none⟩) c.pkts.length cp) ∧ (w7.setCell ⟨G, 4, none⟩ (.slice A7 n7 c7)).cell? ⟨b, o + k * 5, none⟩ = some (.int .i64 X.time) ∧ (w7.setCell ⟨G, 4, none⟩ (.slice A7 n7 c7)).cell? ⟨b, o + k * 5 + 1, none⟩ = some (.int .i64 X.face) ∧ (w7.setCell ⟨G, 4, none⟩ (.slice A7 n7 c7)).cell? ⟨b, o + k * 5 + 2, none⟩ = some (.int .i64 X.real) ∧ (w7.setCell ⟨G, 4, none⟩ (.slice A7 n7 c7)).cell? ⟨b, o + k * 5 + 3, none⟩ = some (.slice A2 L cp2) ∧ (w7.setCell ⟨G, 4, none⟩ (.slice A7 n7 c7)).cell? ⟨b, o + k * 5 + 4, none⟩ = some (.string X.note) := ⟨t8.1.cell 4, (t8.2.cell (p := ⟨b, o + k * 5, none⟩) hb).trans HC.out.1, (t8.2.cell (p := ⟨b, o + k * 5 + 1, none⟩) hb).trans HC.out.2.1, (t8.2.cell (p := ⟨b, o + k * 5 + 2, none⟩) hb).trans HC.out.2.2.1, (t8.2.cell (p := ⟨b, o + k * 5 + 3, none⟩) hb).trans HC.out.2.2.2.1, (t8.2.cell (p := ⟨b, o + k * 5 + 4, none⟩) hb).trans HC.out.2.2.2.2⟩
                have Hf5 := Lib.hid f5
                have Hf6 := Lib.hid f6
                have Hf7 := Lib.hid f7
                have Hf8 := Lib.hid f8
                clear t5 t6 t7 t8 tE ho5 hg5 hrun7 f5 f6 f7 f8
                go_wp2_with fail
                refine hK.out _ _ Hf5.out (fun hHeld => ?_)
                clear hK K
                try simp only [Act.put, List.setIfInBounds_toArray, List.set_cons_zero, List.set_cons_succ]
                refine wpAnyH_ready (rs := [8]) (by kernel_rfl) (by simp) ?_
                refine AllReadyH.cons (o := { dst := some 80, op := Go.Op.buildSlice 25 1 #[(0, Go.Operand.tmp 79)], type := 25, pos := "ref.go:468", after := #[{ on := 7, ground := Go.Ground.data }], guard := none }) rfl (fun K hK => ?_) (AllReadyH.nil)
                go_simp
                refine hK.out _ _ Hf6.out (fun hHeld => ?_)
                clear hK K
                try simp only [Act.put, List.setIfInBounds_toArray, List.set_cons_zero, List.set_cons_succ]
                refine wpAnyH_ready (rs := [9]) (by kernel_rfl) (by simp) ?_
                refine AllReadyH.cons (o := { dst := some 81, op := Go.Op.call { callee := Go.Callee.builtin Go.Builtin.append, args := #[Go.Operand.tmp 73, Go.Operand.tmp 80], argTypes := #[25, 25] }, type := 25, pos := "ref.go:468", after := #[{ on := 1, ground := Go.Ground.data }, { on := 8, ground := Go.Ground.data }, { on := 7, ground := Go.Ground.chain }], guard := none }) rfl (fun K hK => ?_) (AllReadyH.nil)
                refine step_append_run _ rfl _ _ _ _ rfl _ _ (by rfl) (by rfl) _ w7 hrun7' ?_
                refine hK.out _ _ Hf7.out (fun hHeld => ?_)
                clear hK K
                try simp only [Act.put, List.setIfInBounds_toArray, List.set_cons_zero, List.set_cons_succ]
                refine wpAnyH_take (i := 10) (oi := { dst := some 82, op := Go.Op.fieldAddr 27 (Go.Operand.tmp 3) 4, type := 0, pos := "ref.go:468", after := #[{ on := 0, ground := Go.Ground.phase }, { on := 1, ground := Go.Ground.phase }, { on := 2, ground := Go.Ground.phase }, { on := 3, ground := Go.Ground.phase }, { on := 4, ground := Go.Ground.phase }, { on := 5, ground := Go.Ground.phase }, { on := 6, ground := Go.Ground.phase }, { on := 7, ground := Go.Ground.phase }, { on := 8, ground := Go.Ground.phase }, { on := 9, ground := Go.Ground.phase }], guard := none }) (v := ?_) rfl (by kernel_rfl) (by kernel_rfl) (by kernel_rfl) (fun _ _ _ h => h) (Or.inl ⟨by rfl, ?_⟩) (by assumption) ?_
                rotate_left 1
                · intro w hSw; (try dsimp only at hSw); go_simp; try with_reducible rfl
                try simp only [Act.put, List.setIfInBounds_toArray, List.set_cons_zero, List.set_cons_succ]
                refine wpAnyH_ready (rs := [11]) (by kernel_rfl) (by simp) ?_
                refine AllReadyH.cons (o := { dst := none, op := Go.Op.store 25 (Go.Operand.tmp 82) (Go.Operand.tmp 81), type := 0, pos := "ref.go:468", after := #[{ on := 10, ground := Go.Ground.data }, { on := 9, ground := Go.Ground.data }, { on := 9, ground := Go.Ground.chain }, { on := 0, ground := Go.Ground.phase }, { on := 1, ground := Go.Ground.phase }, { on := 2, ground := Go.Ground.phase }, { on := 3, ground := Go.Ground.phase }, { on := 4, ground := Go.Ground.phase }, { on := 5, ground := Go.Ground.phase }, { on := 6, ground := Go.Ground.phase }, { on := 7, ground := Go.Ground.phase }, { on := 8, ground := Go.Ground.phase }, { on := 9, ground := Go.Ground.phase }], guard := none }) rfl (fun K hK => ?_) (AllReadyH.nil)
                go_simp
                refine hK.out _ _ Hf8.out (fun hHeld => ?_)
                clear hK K
                try simp only [Act.put, List.setIfInBounds_toArray, List.set_cons_zero, List.set_cons_succ]
                refine wpAnyH_done (by kernel_rfl) ?_ _
                rotate_left 1
                go_simp
                go_at_call 43
                with_reducible refine HCL.out.mono ?_
                rintro e w5 ⟨A5, c5, rfl, ho5, hg5⟩
                obtain ⟨A7, n7, c7, w7, hrun7, t5, t6, t7, t8, tE⟩ := HST.out w5 A5 c5 ho5 hg5
                have hrun7' : Sem.run Try.prog (Builtin.append_ #[25, 25] 25 #[v, .slice (some ⟨w5.heap.size, 0, none⟩) 1 1]) (w5.alloc (.cells #[.int .i64 X.time, .int .i64 X.face, .int .i64 X.real, .slice A5 L c5, .string X.note] 47)) = .ok (.slice A7 n7 c7) w7 := hrun7
                have TE := Lib.hid tE
                have HCB := Lib.hid t8.1
                have lo2 : w5.cell? ⟨G, 4, none⟩ = some v := t5.1.cell 4
                have lo3 : (w5.alloc (.cells #[.int .i64 X.time, .int .i64 X.face, .int .i64 X.real, .slice A5 L c5, .string X.note] 47)).cell? ⟨G, 4, none⟩ = some v := t6.1.cell 4
                have lo4 : w7.cell? ⟨G, 4, none⟩ = some v := t7.1.cell 4
                have rz : w7.frozen? ⟨G, 4, none⟩ = false := t7.1.frozen 4
                have f5 : w5.cell? ⟨B, 4, none⟩ = some (.slice (some ⟨b, o, none⟩) c.pkts.length cp) ∧ w5.cell? ⟨b, o + k * 5, none⟩ = some (.int .i64 X.time) ∧ w5.cell? ⟨b, o + k * 5 + 1, none⟩ = some (.int .i64 X.face) ∧ w5.cell? ⟨b, o + k * 5 + 2, none⟩ = some (.int .i64 X.real) ∧ w5.cell? ⟨b, o + k * 5 + 3, none⟩ = some (.slice A2 L cp2) ∧ w5.cell? ⟨b, o + k * 5 + 4, none⟩ = some (.string X.note) := ⟨t5.2.1.cell 4, (t5.2.2.cell (p := ⟨b, o + k * 5, none⟩) hb).trans HC.out.1, (t5.2.2.cell (p := ⟨b, o + k * 5 + 1, none⟩) hb).trans HC.out.2.1, (t5.2.2.cell (p := ⟨b, o + k * 5 + 2, none⟩) hb).trans HC.out.2.2.1, (t5.2.2.cell (p := ⟨b, o + k * 5 + 3, none⟩) hb).trans HC.out.2.2.2.1, (t5.2.2.cell (p := ⟨b, o + k * 5 + 4, none⟩) hb).trans HC.out.2.2.2.2⟩
                have f6 : (w5.alloc (.cells #[.int .i64 X.time, .int .i64 X.face, .int .i64 X.real, .slice A5 L c5, .string X.note] 47)).cell? ⟨B, 4, none⟩ = some (.slice (some ⟨b, o, none⟩) c.pkts.length cp) ∧ (w5.alloc (.cells #[.int .i64 X.time, .int .i64 X.face, .int .i64 X.real, .slice A5 L c5, .string X.note] 47)).cell? ⟨b, o + k * 5, none⟩ = some (.int .i64 X.time) ∧ (w5.alloc (.cells #[.int .i64 X.time, .int .i64 X.face, .int .i64 X.real, .slice A5 L c5, .string X.note] 47)).cell? ⟨b, o + k * 5 + 1, none⟩ = some (.int .i64 X.face) ∧ (w5.alloc (.cells #[.int .i64 X.time, .int .i64 X.face, .int .i64 X.real, .slice A5 L c5, .string X.note] 47)).cell? ⟨b, o + k * 5 + 2, none⟩ = some (.int .i64 X.real) ∧ (w5.alloc (.cells #[.int .i64 X.time, .int .i64 X.face, .int .i64 X.real, .slice A5 L c5, .string X.note] 47)).cell? ⟨b, o + k * 5 + 3, none⟩ = some (.slice A2 L cp2) ∧ (w5.alloc (.cells #[.int .i64 X.time, .int .i64 X.face, .int .i64 X.real, .slice A5 L c5, .string X.note] 47)).cell? ⟨b, o + k * 5 + 4, none⟩ = some (.string X.note) := ⟨t6.2.1.cell 4, (t6.2.2.cell (p := ⟨b, o + k * 5, none⟩) hb).trans HC.out.1, (t6.2.2.cell (p := ⟨b, o + k * 5 + 1, none⟩) hb).trans HC.out.2.1, (t6.2.2.cell (p := ⟨b, o + k * 5 + 2, none⟩) hb).trans HC.out.2.2.1, (t6.2.2.cell (p := ⟨b, o + k * 5 + 3, none⟩) hb).trans HC.out.2.2.2.1, (t6.2.2.cell (p := ⟨b, o + k * 5 + 4, none⟩) hb).trans HC.out.2.2.2.2⟩
                have f7 : w7.cell? ⟨B, 4, none⟩ = some (.slice (some ⟨b, o, none⟩) c.pkts.length cp) ∧ w7.cell? ⟨b, o + k * 5, none⟩ = some (.int .i64 X.time) ∧ w7.cell? ⟨b, o + k * 5 + 1, none⟩ = some (.int .i64 X.face) ∧ w7.cell? ⟨b, o + k * 5 + 2, none⟩ = some (.int .i64 X.real) ∧ w7.cell? ⟨b, o + k * 5 + 3, none⟩ = some (.slice A2 L cp2) ∧ w7.cell? ⟨b, o + k * 5 + 4, none⟩ = some (.string X.note) := ⟨t7.2.1.cell 4, (t7.2.2.cell (p := ⟨b, o + k * 5, none⟩) hb).trans HC.out.1, (t7.2.2.cell (p := ⟨b, o + k * 5 + 1, none⟩) hb).trans HC.out.2.1, (t7.2.2.cell (p := ⟨b, o + k * 5 + 2, none⟩) hb).trans HC.out.2.2.1, (t7.2.2.cell (p := ⟨b, o + k * 5 + 3, none⟩) hb).trans HC.out.2.2.2.1, (t7.2.2.cell (p := ⟨b, o + k * 5 + 4, none⟩) hb).trans HC.out.2.2.2.2⟩
                have f8 : (w7.setCell ⟨G, 4, none⟩ (.slice A7 n7 c7)).cell? ⟨B, 4, none⟩ = some (.slice (some ⟨b, o, none⟩) c.pkts.length cp) ∧ (w7.setCell ⟨G, 4, none⟩ (.slice A7 n7 c7)).cell? ⟨b, o + k * 5, none⟩ = some (.int .i64 X.time) ∧ (w7.setCell ⟨G, 4, none⟩ (.slice A7 n7 c7)).cell? ⟨b, o + k * 5 + 1, none⟩ = some (.int .i64 X.face) ∧ (w7.setCell ⟨G, 4, none⟩ (.slice A7 n7 c7)).cell? ⟨b, o + k * 5 + 2, none⟩ = some (.int .i64 X.real) ∧ (w7.setCell ⟨G, 4, none⟩ (.slice A7 n7 c7)).cell? ⟨b, o + k * 5 + 3, none⟩ = some (.slice A2 L cp2) ∧ (w7.setCell ⟨G, 4, none⟩ (.slice A7 n7 c7)).cell? ⟨b, o + k * 5 + 4, none⟩ = some (.string X.note) := ⟨t8.1.cell 4, (t8.2.cell (p := ⟨b, o + k * 5, none⟩) hb).trans HC.out.1, (t8.2.cell (p := ⟨b, o + k * 5 + 1, none⟩) hb).trans HC.out.2.1, (t8.2.cell (p := ⟨b, o + k * 5 + 2, none⟩) hb).trans HC.out.2.2.1, (t8.2.cell (p := ⟨b, o + k * 5 + 3, none⟩) hb).trans HC.out.2.2.2.1, (t8.2.cell (p := ⟨b, o + k * 5 + 4, none⟩) hb).trans HC.out.2.2.2.2⟩
                have Hf5 := Lib.hid f5
                have Hf6 := Lib.hid f6
                have Hf7 := Lib.hid f7
                have Hf8 := Lib.hid f8
                clear t5 t6 t7 t8 tE ho5 hg5 hrun7 f5 f6 f7 f8
                go_wp2_with fail
                refine hK.out _ _ Hf5.out (fun hHeld => ?_)
                clear hK K
                try simp only [Act.put, List.setIfInBounds_toArray, List.set_cons_zero, List.set_cons_succ]
                refine wpAnyH_ready (rs := [1, 8]) (by kernel_rfl) (by simp) ?_
                refine AllReadyH.cons (o := { dst := some 73, op := Go.Op.load 25 (Go.Operand.tmp 72), type := 25, pos := "ref.go:468", after := #[{ on := 0, ground := Go.Ground.data }], guard := none }) rfl (fun K hK => ?_) (AllReadyH.cons (o := { dst := some 80, op := Go.Op.buildSlice 25 1 #[(0, Go.Operand.tmp 79)], type := 25, pos := "ref.go:468", after := #[{ on := 7, ground := Go.Ground.data }], guard := none }) rfl (fun K hK => ?_) (AllReadyH.nil))
                go_simp
                refine hK.out _ _ Hf5.out (fun hHeld => ?_)
                clear hK K
                try simp only [Act.put, List.setIfInBounds_toArray, List.set_cons_zero, List.set_cons_succ]
                refine wpAnyH_ready (rs := [8]) (by kernel_rfl) (by simp) ?_
                refine AllReadyH.cons (o := { dst := some 80, op := Go.Op.buildSlice 25 1 #[(0, Go.Operand.tmp 79)], type := 25, pos := "ref.go:468", after := #[{ on := 7, ground := Go.Ground.data }], guard := none }) rfl (fun K hK => ?_) (AllReadyH.nil)
                go_simp
                refine hK.out _ _ Hf6.out (fun hHeld => ?_)
                clear hK K
                try simp only [Act.put, List.setIfInBounds_toArray, List.set_cons_zero, List.set_cons_succ]
                refine wpAnyH_ready (rs := [9]) (by kernel_rfl) (by simp) ?_
                refine AllReadyH.cons (o := { dst := some 81, op := Go.Op.call { callee := Go.Callee.builtin Go.Builtin.append, args := #[Go.Operand.tmp 73, Go.Operand.tmp 80], argTypes := #[25, 25] }, type := 25, pos := "ref.go:468", after := #[{ on := 1, ground := Go.Ground.data }, { on := 8, ground := Go.Ground.data }, { on := 7, ground := Go.Ground.chain }], guard := none }) rfl (fun K hK => ?_) (AllReadyH.nil)
                refine step_append_run _ rfl _ _ _ _ rfl _ _ (by rfl) (by rfl) _ w7 hrun7' ?_
                refine hK.out _ _ Hf7.out (fun hHeld => ?_)
                clear hK K
                try simp only [Act.put, List.setIfInBounds_toArray, List.set_cons_zero, List.set_cons_succ]
                refine wpAnyH_take (i := 10) (oi := { dst := some 82, op := Go.Op.fieldAddr 27 (Go.Operand.tmp 3) 4, type := 0, pos := "ref.go:468", after := #[{ on := 0, ground := Go.Ground.phase }, { on := 1, ground := Go.Ground.phase }, { on := 2, ground := Go.Ground.phase }, { on := 3, ground := Go.Ground.phase }, { on := 4, ground := Go.Ground.phase }, { on := 5, ground := Go.Ground.phase }, { on := 6, ground := Go.Ground.phase }, { on := 7, ground := Go.Ground.phase }, { on := 8, ground := Go.Ground.phase }, { on := 9, ground := Go.Ground.phase }], guard := none }) (v := ?_) rfl (by kernel_rfl) (by kernel_rfl) (by kernel_rfl) (fun _ _ _ h => h) (Or.inl ⟨by rfl, ?_⟩) (by assumption) ?_
                rotate_left 1
                · intro w hSw; (try dsimp only at hSw); go_simp; try with_reducible rfl
                try simp only [Act.put, List.setIfInBounds_toArray, List.set_cons_zero, List.set_cons_succ]
                refine wpAnyH_ready (rs := [11]) (by kernel_rfl) (by simp) ?_
                refine AllReadyH.cons (o := { dst := none, op := Go.Op.store 25 (Go.Operand.tmp 82) (Go.Operand.tmp 81), type := 0, pos := "ref.go:468", after := #[{ on := 10, ground := Go.Ground.data }, { on := 9, ground := Go.Ground.data }, { on := 9, ground := Go.Ground.chain }, { on := 0, ground := Go.Ground.phase }, { on := 1, ground := Go.Ground.phase }, { on := 2, ground := Go.Ground.phase }, { on := 3, ground := Go.Ground.phase }, { on := 4, ground := Go.Ground.phase }, { on := 5, ground := Go.Ground.phase }, { on := 6, ground := Go.Ground.phase }, { on := 7, ground := Go.Ground.phase }, { on := 8, ground := Go.Ground.phase }, { on := 9, ground := Go.Ground.phase }], guard := none }) rfl (fun K hK => ?_) (AllReadyH.nil)
                go_simp
                refine hK.out _ _ Hf8.out (fun hHeld => ?_)
                clear hK K
                try simp only [Act.put, List.setIfInBounds_toArray, List.set_cons_zero, List.set_cons_succ]
                refine wpAnyH_done (by kernel_rfl) ?_ _
                rotate_left 1
                go_simp
                refine hK.out _ _ Hf6.out (fun hHeld => ?_)
                clear hK K
                try simp only [Act.put, List.setIfInBounds_toArray, List.set_cons_zero, List.set_cons_succ]
                refine wpAnyH_ready (rs := [1]) (by kernel_rfl) (by simp) ?_
                refine AllReadyH.cons (o := { dst := some 73, op := Go.Op.load 25 (Go.Operand.tmp 72), type := 25, pos := "ref.go:468", after := #[{ on := 0, ground := Go.Ground.data }], guard := none }) rfl (fun K hK => ?_) (AllReadyH.nil)
                go_simp
                refine hK.out _ _ Hf6.out (fun hHeld => ?_)
                clear hK K
                try simp only [Act.put, List.setIfInBounds_toArray, List.set_cons_zero, List.set_cons_succ]
                refine wpAnyH_ready (rs := [9]) (by kernel_rfl) (by simp) ?_
                refine AllReadyH.cons (o := { dst := some 81, op := Go.Op.call { callee := Go.Callee.builtin Go.Builtin.append, args := #[Go.Operand.tmp 73, Go.Operand.tmp 80], argTypes := #[25, 25] }, type := 25, pos := "ref.go:468", after := #[{ on := 1, ground := Go.Ground.data }, { on := 8, ground := Go.Ground.data }, { on := 7, ground := Go.Ground.chain }], guard := none }) rfl (fun K hK => ?_) (AllReadyH.nil)
                refine step_append_run _ rfl _ _ _ _ rfl _ _ (by rfl) (by rfl) _ w7 hrun7' ?_
                refine hK.out _ _ Hf7.out (fun hHeld => ?_)
                clear hK K
                try simp only [Act.put, List.setIfInBounds_toArray, List.set_cons_zero, List.set_cons_succ]
                refine wpAnyH_take (i := 10) (oi := { dst := some 82, op := Go.Op.fieldAddr 27 (Go.Operand.tmp 3) 4, type := 0, pos := "ref.go:468", after := #[{ on := 0, ground := Go.Ground.phase }, { on := 1, ground := Go.Ground.phase }, { on := 2, ground := Go.Ground.phase }, { on := 3, ground := Go.Ground.phase }, { on := 4, ground := Go.Ground.phase }, { on := 5, ground := Go.Ground.phase }, { on := 6, ground := Go.Ground.phase }, { on := 7, ground := Go.Ground.phase }, { on := 8, ground := Go.Ground.phase }, { on := 9, ground := Go.Ground.phase }], guard := none }) (v := ?_) rfl (by kernel_rfl) (by kernel_rfl) (by kernel_rfl) (fun _ _ _ h => h) (Or.inl ⟨by rfl, ?_⟩) (by assumption) ?_
                rotate_left 1
                · intro w hSw; (try dsimp only at hSw); go_simp; try with_reducible rfl
                try simp only [Act.put, List.setIfInBounds_toArray, List.set_cons_zero, List.set_cons_succ]
                refine wpAnyH_ready (rs := [11]) (by kernel_rfl) (by simp) ?_
                refine AllReadyH.cons (o := { dst := none, op := Go.Op.store 25 (Go.Operand.tmp 82) (Go.Operand.tmp 81), type := 0, pos := "ref.go:468", after := #[{ on := 10, ground := Go.Ground.data }, { on := 9, ground := Go.Ground.data }, { on := 9, ground := Go.Ground.chain }, { on := 0, ground := Go.Ground.phase }, { on := 1, ground := Go.Ground.phase }, { on := 2, ground := Go.Ground.phase }, { on := 3, ground := Go.Ground.phase }, { on := 4, ground := Go.Ground.phase }, { on := 5, ground := Go.Ground.phase }, { on := 6, ground := Go.Ground.phase }, { on := 7, ground := Go.Ground.phase }, { on := 8, ground := Go.Ground.phase }, { on := 9, ground := Go.Ground.phase }], guard := none }) rfl (fun K hK => ?_) (AllReadyH.nil)
                go_simp
                refine hK.out _ _ Hf8.out (fun hHeld => ?_)
                clear hK K
                try simp only [Act.put, List.setIfInBounds_toArray, List.set_cons_zero, List.set_cons_succ]
                refine wpAnyH_done (by kernel_rfl) ?_ _
                all_goals
                  obtain ⟨rows7, g1, g2, g3, g4, g5⟩ := TE.out
                  have HL7 : Hid (OwnM pktKd w (w7.setCell ⟨G, 4, none⟩ (.slice A7 n7 c7)) (B + 2) (.slice A7 n7 c7) (c.pkts.take (k + 1)) rows7 (c.pkts.take (k + 1)).length) := Lib.hid (by rw [HTK.out]; exact g1)
                  have HO7 : Hid (Blk (w7.setCell ⟨G, 4, none⟩ (.slice A7 n7 c7)) G 27 #[.string c.note, .slice gA c.faces.length gc, .slice NA c.names.length Nc, .slice QA c.secs.length Qc, .slice A7 n7 c7]) := Lib.hid g2
                  have HZ7 := Lib.hid g3
                  have HW7 : Hid (Blk (w7.setCell ⟨G, 4, none⟩ (.slice A7 n7 c7)) B 27 #[.string c.note, .slice pf c.faces.length cf, .slice pn c.names.length cn, .slice ps c.secs.length cs, .slice (some ⟨b, o, none⟩) c.pkts.length cp] ∧ Below B w (w7.setCell ⟨G, 4, none⟩ (.slice A7 n7 c7))) := Lib.hid ⟨HCB.out, g4⟩
                  have HA7 : Hid (Alike2 47 V3 (w7.setCell ⟨G, 4, none⟩ (.slice A7 n7 c7))) := Lib.hid g5
                  clear g1 g2 g3 g4 g5 TE
                  go_wp2
                  go_roundw
                  case rel => exact ⟨k + 1, .slice A7 n7 c7, rows7, by go_num, by omega, HL7, HO7, HZ7, HW7, HA7⟩
                  case measure => simp [intOf]; omega
              · have hkn : k = c.pkts.length := by omega
                subst hkn
                obtain ⟨PA, Pc, rfl, hle, hnil⟩ := own_form2 HL.out.own
                rw [List.take_length] at HL HO
                have HP4 := HL
                have HO4 := HO
                have HK4 := HW
                have HZ4 := HZ
                have HF4 := Lib.hid (facL_alike2 HF3.out HA.out (by decide))
                have HN4 := Lib.hid (HN3.out.alike2 HA.out (by decide) (by decide) (by decide))
                have HQ4 := Lib.hid (HQ3.out.alike2 HA.out (by decide) (by decide) (by decide))
                rename World => V4
                clear HA HW HL HO HZ HK3 HZ3 HO3 hk hlt hle hnil HF3 HN3 HQ3
                have q0 : V4.cell? ⟨G, 0, none⟩ = some (.string c.note) := HO4.out.cell 0
                have q1 : V4.cell? ⟨G, 1, none⟩ = some (.slice gA c.faces.length gc) := HO4.out.cell 1
                have q2 : V4.cell? ⟨G, 2, none⟩ = some (.slice NA c.names.length Nc) := HO4.out.cell 2
                have q3 : V4.cell? ⟨G, 3, none⟩ = some (.slice QA c.secs.length Qc) := HO4.out.cell 3
                have q4 : V4.cell? ⟨G, 4, none⟩ = some (.slice PA c.pkts.length Pc) := HO4.out.cell 4
                have z0 : V4.cell? ⟨B + 1, 0, none⟩ = some (.string ⟨#[]⟩) := HZ4.out.cell 0
                have f0 : V4.frozen? ⟨B + 1, 0, none⟩ = false := HZ4.out.frozen 0
                have z1 : V4.cell? ⟨B + 1, 1, none⟩ = some (.slice none 0 0) := HZ4.out.cell 1
                have f1 : V4.frozen? ⟨B + 1, 1, none⟩ = false := HZ4.out.frozen 1
                have z2 : V4.cell? ⟨B + 1, 2, none⟩ = some (.slice none 0 0) := HZ4.out.cell 2
                have f2 : V4.frozen? ⟨B + 1, 2, none⟩ = false := HZ4.out.frozen 2
                have z3 : V4.cell? ⟨B + 1, 3, none⟩ = some (.slice none 0 0) := HZ4.out.cell 3
                have f3 : V4.frozen? ⟨B + 1, 3, none⟩ = false := HZ4.out.frozen 3
                have z4 : V4.cell? ⟨B + 1, 4, none⟩ = some (.slice none 0 0) := HZ4.out.cell 4
                have f4 : V4.frozen? ⟨B + 1, 4, none⟩ = false := HZ4.out.frozen 4
                have HE := Lib.hid (set5 HZ4.out (.string c.note) (.slice gA c.faces.length gc) (.slice NA c.names.length Nc) (.slice QA c.secs.length Qc) (.slice PA c.pkts.length Pc))
                go_wp2
                generalize hW9 : (((((V4.setCell ⟨B + 1, 0, none⟩ (.string c.note)).setCell ⟨B + 1, 1, none⟩ (.slice gA c.faces.length gc)).setCell ⟨B + 1, 2, none⟩ (.slice NA c.names.length Nc)).setCell ⟨B + 1, 3, none⟩ (.slice QA c.secs.length Qc)).setCell ⟨B + 1, 4, none⟩ (.slice PA c.pkts.length Pc)) = W9 at HE ⊢
                obtain ⟨hb9, ha9, hw9⟩ := HE.out
                have y0 : W9.cell? ⟨B + 1, 0, none⟩ = some (.string c.note) := hb9.cell 0
                have y1 : W9.cell? ⟨B + 1, 1, none⟩ = some (.slice gA c.faces.length gc) := hb9.cell 1
                have y2 : W9.cell? ⟨B + 1, 2, none⟩ = some (.slice NA c.names.length Nc) := hb9.cell 2
                have y3 : W9.cell? ⟨B + 1, 3, none⟩ = some (.slice QA c.secs.length Qc) := hb9.cell 3
                have y4 : W9.cell? ⟨B + 1, 4, none⟩ = some (.slice PA c.pkts.length Pc) := hb9.cell 4
                exact bodyPost_ret (v := .agg #[.string c.note, .slice gA c.faces.length gc, .slice NA c.names.length Nc, .slice QA c.secs.length Qc, .slice PA c.pkts.length Pc]) (by simp [results, Try.results23, go_sem, y0, y1, y2, y3, y4]) rfl ⟨⟨gA, gc, NA, Nc, QA, Qc, PA, Pc⟩, rfl, ⟨HM.out.note, ⟨_, facL_alike HF4.out ha9 (by decide)⟩, ⟨_, _, HN4.out.alike ha9 (by decide) (by decide)⟩, ⟨_, _, HQ4.out.alike ha9 (by decide) (by decide)⟩, ⟨_, _, HP4.out.alike ha9 (by decide) (by decide)⟩, HM.out.lf.2.1, HM.out.ln.2.1, HM.out.ls.2.1, HM.out.lp.2.1⟩, hw9 _ _ HK4.out.2 (by omega)⟩
end Go.Proofs.Ytlimkckomdipkaa
