/- Whether a capture is the begin of another one. -/
import Derived.Test.YtlimkckomdipkaaS16
import Derived.Test.YtlimkckomdipkaaCopyR
import Derived.Test.YtlimkckomdipkaaMem
namespace Go.Proofs.Ytlimkckomdipkaa
open Go.RowKit

theorem els_take {α : Type} {k : Nat} {E : α → World → Nat → List Value → Prop} {w : World} {B : Nat} {A : Option Addr} {xs : List α} (h : Els k E w B A xs) (n : Nat) : Els k E w B A (xs.take n) := by
  intro hn
  have hl : (xs.take n).length ≤ xs.length := by rw [List.length_take]; omega
  obtain ⟨b, o, e, hb, hi⟩ := h (by omega)
  refine ⟨b, o, e, hb, fun i hx => ?_⟩
  obtain ⟨vs, h1, h2, h3⟩ := hi i (by omega)
  exact ⟨vs, h1, by rw [List.getElem_take]; exact h2, h3⟩
/-- The begin of a capture, as long as another one. -/
def beginC (a c : Cap) : Cap := ⟨c.note, c.faces, c.names.take a.names.length, c.secs.take a.secs.length, c.pkts.take a.pkts.length⟩
theorem capM_begin {w : World} {B : Nat} {q : Pl} {c : Cap} (h : CapM w B q c) (a : Cap) : CapM w B q (beginC a c) := by
  have h1 : (c.names.take a.names.length).length ≤ c.names.length := by rw [List.length_take]; omega
  have h2 : (c.secs.take a.secs.length).length ≤ c.secs.length := by rw [List.length_take]; omega
  have h3 : (c.pkts.take a.pkts.length).length ≤ c.pkts.length := by rw [List.length_take]; omega
  have a2 := h.ln
  have a3 := h.ls
  have a4 := h.lp
  exact ⟨h.note, h.faces, els_take h.names _, els_take h.secs _, els_take h.pkts _, h.lf, ⟨by show (c.names.take _).length ≤ _; omega, by show (c.names.take _).length * 40 ≤ _; omega, h.ln.2.2⟩, ⟨by show (c.secs.take _).length ≤ _; omega, by show (c.secs.take _).length * 40 ≤ _; omega, h.ls.2.2⟩, ⟨by show (c.pkts.take _).length ≤ _; omega, by show (c.pkts.take _).length * 64 ≤ _; omega, h.lp.2.2⟩⟩

set_option maxRecDepth 100000 in
set_option maxHeartbeats 4000000 in
theorem begins_any {w : World} {p q : Pl} {a c : Cap} (ha : CapM w w.heap.size p a) (hc : CapM w w.heap.size q c) (h1 : a.names.length ≤ c.names.length) (h2 : a.secs.length ≤ c.secs.length) (h3 : a.pkts.length ≤ c.pkts.length)
    (h4 : a.names.length < c.names.length → a.secs.length = 0) (h5 : a.secs.length < c.secs.length → a.pkts.length = 0) :
    Calls Try.prog 24 #[capV p a, capV q c] w fun e w' => e = .returned (.bool (eqB a (beginC a c))) ∧ Below w.heap.size w w' := by
  obtain ⟨pf, cf, pn, cn, ps, cs, pp, cp⟩ := p
  obtain ⟨qf, df, qn, dn, qs, ds, qp, dp⟩ := q
  have HA := Lib.hid ha
  have HC := Lib.hid (capM_begin hc a)
  have hbn : c.names.length ≤ dn := hc.ln.1
  have hbs : c.secs.length ≤ ds := hc.ls.1
  have hbp : c.pkts.length ≤ dp := hc.lp.1
  obtain ⟨B, hB⟩ : ∃ B, w.heap.size = B := ⟨_, rfl⟩
  obtain ⟨W0, hW0⟩ : ∃ W0, (w.alloc (.cells #[.string a.note, .slice pf a.faces.length cf, .slice pn a.names.length cn, .slice ps a.secs.length cs, .slice pp a.pkts.length cp] 27)).alloc (.cells #[.string c.note, .slice qf c.faces.length df, .slice qn c.names.length dn, .slice qs c.secs.length ds, .slice qp c.pkts.length dp] 27) = W0 := ⟨_, rfl⟩
  have HK0 : Hid (Blk W0 B 27 #[.string a.note, .slice pf a.faces.length cf, .slice pn a.names.length cn, .slice ps a.secs.length cs, .slice pp a.pkts.length cp] ∧ Below B w W0) := Lib.hid (by rw [← hW0, ← hB]; exact ⟨(Blk.new _ _ _).alloc _, ((Below.refl _ w).alloc (Nat.le_refl _) _).alloc (by rw [alloc_size]; omega) _⟩)
  have HZ0 : Hid (Blk W0 (B + 1) 27 #[.string c.note, .slice qf c.faces.length df, .slice qn c.names.length dn, .slice qs c.secs.length ds, .slice qp c.pkts.length dp]) := Lib.hid (by
    have h := Blk.new (w.alloc (.cells #[.string a.note, .slice pf a.faces.length cf, .slice pn a.names.length cn, .slice ps a.secs.length cs, .slice pp a.pkts.length cp] 27)) 27 #[.string c.note, .slice qf c.faces.length df, .slice qn c.names.length dn, .slice qs c.secs.length ds, .slice qp c.pkts.length dp]
    rw [alloc_size, hB] at h
    rw [← hW0]; exact h)
  rw [hB] at HA HC ⊢
  have l1 : (beginC a c).names.length = a.names.length := by show (c.names.take _).length = _; rw [List.length_take]; omega
  have l2 : (beginC a c).secs.length = a.secs.length := by show (c.secs.take _).length = _; rw [List.length_take]; omega
  have l3 : (beginC a c).pkts.length = a.pkts.length := by show (c.pkts.take _).length = _; rw [List.length_take]; omega
  have HEND := Lib.hid (fun w' (hw : Below B w w') => rsame_any (w := w') (p := ⟨pf, cf, pn, cn, ps, cs, pp, cp⟩) (q := ⟨qf, df, qn, dn, qs, ds, qp, dp⟩) (c := a) (d := beginC a c) (HA.out.keep hw (by have := hw.size; omega)) (HC.out.keep hw (by have := hw.size; omega)))
  unfold capV at HEND
  rw [l1, l2, l3] at HEND
  change Hid (∀ w', Below B w w' → Calls Try.prog 16 #[_, .agg #[.string c.note, .slice qf c.faces.length df, .slice qn a.names.length dn, .slice qs a.secs.length ds, .slice qp a.pkts.length dp]] w' _) at HEND
  have r0 : W0.cell? ⟨B, 0, none⟩ = some (.string a.note) := HK0.out.1.cell 0
  have s0 : W0.cell? ⟨B + 1, 0, none⟩ = some (.string c.note) := HZ0.out.cell 0
  have sf0 : W0.frozen? ⟨B + 1, 0, none⟩ = false := HZ0.out.frozen 0
  have r1 : W0.cell? ⟨B, 1, none⟩ = some (.slice pf a.faces.length cf) := HK0.out.1.cell 1
  have s1 : W0.cell? ⟨B + 1, 1, none⟩ = some (.slice qf c.faces.length df) := HZ0.out.cell 1
  have sf1 : W0.frozen? ⟨B + 1, 1, none⟩ = false := HZ0.out.frozen 1
  have r2 : W0.cell? ⟨B, 2, none⟩ = some (.slice pn a.names.length cn) := HK0.out.1.cell 2
  have s2 : W0.cell? ⟨B + 1, 2, none⟩ = some (.slice qn c.names.length dn) := HZ0.out.cell 2
  have sf2 : W0.frozen? ⟨B + 1, 2, none⟩ = false := HZ0.out.frozen 2
  have r3 : W0.cell? ⟨B, 3, none⟩ = some (.slice ps a.secs.length cs) := HK0.out.1.cell 3
  have s3 : W0.cell? ⟨B + 1, 3, none⟩ = some (.slice qs c.secs.length ds) := HZ0.out.cell 3
  have sf3 : W0.frozen? ⟨B + 1, 3, none⟩ = false := HZ0.out.frozen 3
  have r4 : W0.cell? ⟨B, 4, none⟩ = some (.slice pp a.pkts.length cp) := HK0.out.1.cell 4
  have s4 : W0.cell? ⟨B + 1, 4, none⟩ = some (.slice qp c.pkts.length dp) := HZ0.out.cell 4
  have sf4 : W0.frozen? ⟨B + 1, 4, none⟩ = false := HZ0.out.frozen 4
  have g1 : decide (c.names.length < a.names.length) = false := by simp; omega
  have g2 : decide (c.secs.length < a.secs.length) = false := by simp; omega
  have g3 : decide (c.pkts.length < a.pkts.length) = false := by simp; omega
  have q1 : (a.names.length : Int) ≤ (dn : Int) := by omega
  have q2 : (a.secs.length : Int) ≤ (ds : Int) := by omega
  have q3 : (a.pkts.length : Int) ≤ (dp : Int) := by omega
  have hm0 : ∀ (o : Option Addr), Option.map (fun x => x.add 0) o = o := fun o => by cases o with
    | none => rfl
    | some x => rfl
  have hne : ∀ i j, (⟨B, i, none⟩ : Addr) ≠ ⟨B + 1, j, none⟩ := fun i j e => by injection e with e _ _; omega
  have s0 : (fun W => W.cell? ⟨B, 2, none⟩ = some (.slice pn a.names.length cn) ∧ W.cell? ⟨B, 3, none⟩ = some (.slice ps a.secs.length cs) ∧ W.cell? ⟨B, 4, none⟩ = some (.slice pp a.pkts.length cp)) W0.drew := ⟨r2, r3, r4⟩
  have kk1 : Blk (W0.drew.setCell ⟨B + 1, 2, none⟩ (.slice qn a.names.length dn)) B 27 #[.string a.note, .slice pf a.faces.length cf, .slice pn a.names.length cn, .slice ps a.secs.length cs, .slice pp a.pkts.length cp] := by
    exact (HK0.out.1.far (p := ⟨B + 1, 2, none⟩) (by show B ≠ B + 1; omega) _)
  have s1 : (fun W => W.cell? ⟨B, 2, none⟩ = some (.slice pn a.names.length cn) ∧ W.cell? ⟨B, 3, none⟩ = some (.slice ps a.secs.length cs) ∧ W.cell? ⟨B, 4, none⟩ = some (.slice pp a.pkts.length cp)) (W0.drew.setCell ⟨B + 1, 2, none⟩ (.slice qn a.names.length dn)) := ⟨kk1.cell 2, kk1.cell 3, kk1.cell 4⟩
  have kk2 : Blk ((W0.drew.setCell ⟨B + 1, 2, none⟩ (.slice qn a.names.length dn)).setCell ⟨B + 1, 3, none⟩ (.slice qs a.secs.length ds)) B 27 #[.string a.note, .slice pf a.faces.length cf, .slice pn a.names.length cn, .slice ps a.secs.length cs, .slice pp a.pkts.length cp] := by
    exact ((HK0.out.1.far (p := ⟨B + 1, 2, none⟩) (by show B ≠ B + 1; omega) _).far (p := ⟨B + 1, 3, none⟩) (by show B ≠ B + 1; omega) _)
  have s2 : (fun W => W.cell? ⟨B, 2, none⟩ = some (.slice pn a.names.length cn) ∧ W.cell? ⟨B, 3, none⟩ = some (.slice ps a.secs.length cs) ∧ W.cell? ⟨B, 4, none⟩ = some (.slice pp a.pkts.length cp)) ((W0.drew.setCell ⟨B + 1, 2, none⟩ (.slice qn a.names.length dn)).setCell ⟨B + 1, 3, none⟩ (.slice qs a.secs.length ds)) := ⟨kk2.cell 2, kk2.cell 3, kk2.cell 4⟩
  have kk3 : Blk (((W0.drew.setCell ⟨B + 1, 2, none⟩ (.slice qn a.names.length dn)).setCell ⟨B + 1, 3, none⟩ (.slice qs a.secs.length ds)).setCell ⟨B + 1, 4, none⟩ (.slice qp a.pkts.length dp)) B 27 #[.string a.note, .slice pf a.faces.length cf, .slice pn a.names.length cn, .slice ps a.secs.length cs, .slice pp a.pkts.length cp] := by
    exact (((HK0.out.1.far (p := ⟨B + 1, 2, none⟩) (by show B ≠ B + 1; omega) _).far (p := ⟨B + 1, 3, none⟩) (by show B ≠ B + 1; omega) _).far (p := ⟨B + 1, 4, none⟩) (by show B ≠ B + 1; omega) _)
  have s3 : (fun W => W.cell? ⟨B, 2, none⟩ = some (.slice pn a.names.length cn) ∧ W.cell? ⟨B, 3, none⟩ = some (.slice ps a.secs.length cs) ∧ W.cell? ⟨B, 4, none⟩ = some (.slice pp a.pkts.length cp)) (((W0.drew.setCell ⟨B + 1, 2, none⟩ (.slice qn a.names.length dn)).setCell ⟨B + 1, 3, none⟩ (.slice qs a.secs.length ds)).setCell ⟨B + 1, 4, none⟩ (.slice qp a.pkts.length dp)) := ⟨kk3.cell 2, kk3.cell 3, kk3.cell 4⟩
  have HZ3 : Hid (Blk (((W0.setCell ⟨B + 1, 2, none⟩ (.slice qn a.names.length dn)).setCell ⟨B + 1, 3, none⟩ (.slice qs a.secs.length ds)).setCell ⟨B + 1, 4, none⟩ (.slice qp a.pkts.length dp)).drew (B + 1) 27 #[.string c.note, .slice qf c.faces.length df, .slice qn a.names.length dn, .slice qs a.secs.length ds, .slice qp a.pkts.length dp]) := Lib.hid (by
    have h := ((HZ0.out.set_ 2 (.slice qn a.names.length dn)).set_ 3 (.slice qs a.secs.length ds)).set_ 4 (.slice qp a.pkts.length dp)
    have h2 : Blk (((W0.setCell ⟨B + 1, 2, none⟩ (.slice qn a.names.length dn)).setCell ⟨B + 1, 3, none⟩ (.slice qs a.secs.length ds)).setCell ⟨B + 1, 4, none⟩ (.slice qp a.pkts.length dp)) (B + 1) 27 #[.string c.note, .slice qf c.faces.length df, .slice qn a.names.length dn, .slice qs a.secs.length ds, .slice qp a.pkts.length dp] := by simpa using h
    exact h2)
  have HK3 : Hid (Blk (((W0.setCell ⟨B + 1, 2, none⟩ (.slice qn a.names.length dn)).setCell ⟨B + 1, 3, none⟩ (.slice qs a.secs.length ds)).setCell ⟨B + 1, 4, none⟩ (.slice qp a.pkts.length dp)).drew B 27 #[.string a.note, .slice pf a.faces.length cf, .slice pn a.names.length cn, .slice ps a.secs.length cs, .slice pp a.pkts.length cp] ∧ Below B w (((W0.setCell ⟨B + 1, 2, none⟩ (.slice qn a.names.length dn)).setCell ⟨B + 1, 3, none⟩ (.slice qs a.secs.length ds)).setCell ⟨B + 1, 4, none⟩ (.slice qp a.pkts.length dp)).drew) := Lib.hid ⟨kk3, (((HK0.out.2.setCell (p := ⟨B + 1, 2, none⟩) (by show B ≤ B + 1; omega) _).setCell (p := ⟨B + 1, 3, none⟩) (by show B ≤ B + 1; omega) _).setCell (p := ⟨B + 1, 4, none⟩) (by show B ≤ B + 1; omega) _).drew⟩
  clear ha hc kk1 kk2 kk3
  have hx1 : (decide (a.names.length < c.names.length) = true ∧ decide (0 < a.secs.length) = false) ∨ decide (a.names.length < c.names.length) = false := by
    rcases Nat.lt_or_ge a.names.length c.names.length with h | h
    · left; exact ⟨decide_eq_true h, decide_eq_false (by have := h4 h; omega)⟩
    · right; exact decide_eq_false (by omega)
  have hx2 : (decide (a.secs.length < c.secs.length) = true ∧ decide (0 < a.pkts.length) = false) ∨ decide (a.secs.length < c.secs.length) = false := by
    rcases Nat.lt_or_ge a.secs.length c.secs.length with h | h
    · left; exact ⟨decide_eq_true h, decide_eq_false (by have := h5 h; omega)⟩
    · right; exact decide_eq_false (by omega)
  have HN1 := Lib.hid (And.intro h1 (And.intro h2 (And.intro h3 (And.intro h4 h5))))
  clear h1 h2 h3 h4 h5 hbn hbs hbp l1 l2 l3
  go_enter Try.func24, Try.ntmps24
  rcases hx1 with ⟨x1, x2⟩ | x1 <;> rcases hx2 with ⟨x3, x4⟩ | x3
  all_goals (
    go_wp2_with fail
    refine wp_region_held_drew (S := fun W => W.cell? ⟨B, 2, none⟩ = some (.slice pn a.names.length cn) ∧ W.cell? ⟨B, 3, none⟩ = some (.slice ps a.secs.length cs) ∧ W.cell? ⟨B, 4, none⟩ = some (.slice pp a.pkts.length cp)) (by kernel_rfl) s0 (fun hHeld => ?_)
    refine tk 0 ?_
    repeat (rw [putL]; simp only [List.set])
    refine tk 2 ?_
    repeat (rw [putL]; simp only [List.set])
    refine tk 3 ?_
    repeat (rw [putL]; simp only [List.set])
    refine tk 4 ?_
    repeat (rw [putL]; simp only [List.set])
    refine tk 6 ?_
    repeat (rw [putL]; simp only [List.set])
    refine tk 8 ?_
    repeat (rw [putL]; simp only [List.set])
    refine tk 9 ?_
    repeat (rw [putL]; simp only [List.set])
    refine tk 10 ?_
    repeat (rw [putL]; simp only [List.set])
    refine tk 12 ?_
    repeat (rw [putL]; simp only [List.set])
    refine tk 14 ?_
    repeat (rw [putL]; simp only [List.set])
    refine tk 15 ?_
    repeat (rw [putL]; simp only [List.set])
    refine tk 16 ?_
    repeat (rw [putL]; simp only [List.set])
    refine wpAnyH_ready (rs := [1, 7, 13]) (by kernel_rfl) (by simp) ?_
    refine AllReadyH.cons rfl (fun K hK => ?_) (AllReadyH.cons rfl (fun K hK => ?_) (AllReadyH.cons rfl (fun K hK => ?_) (AllReadyH.nil)))
    go_simp
    refine hK.out _ _ s0 (fun hHeld => ?_)
    clear hK K
    repeat (rw [putL]; simp only [List.set])
    refine tk 5 ?_
    repeat (rw [putL]; simp only [List.set])
    refine wpAnyH_ready (rs := [7, 13]) (by kernel_rfl) (by simp) ?_
    refine AllReadyH.cons rfl (fun K hK => ?_) (AllReadyH.cons rfl (fun K hK => ?_) (AllReadyH.nil))
    go_simp
    refine hK.out _ _ s0 (fun hHeld => ?_)
    clear hK K
    repeat (rw [putL]; simp only [List.set])
    refine tk 11 ?_
    repeat (rw [putL]; simp only [List.set])
    refine wpAnyH_ready (rs := [13]) (by kernel_rfl) (by simp) ?_
    refine AllReadyH.cons rfl (fun K hK => ?_) (AllReadyH.nil)
    go_simp
    refine hK.out _ _ s0 (fun hHeld => ?_)
    clear hK K
    repeat (rw [putL]; simp only [List.set])
    refine tk 17 ?_
    repeat (rw [putL]; simp only [List.set])
    refine tk 18 ?_
    repeat (rw [putL]; simp only [List.set])
    refine wpAnyH_ready (rs := [19]) (by kernel_rfl) (by simp) ?_
    refine AllReadyH.cons rfl (fun K hK => ?_) (AllReadyH.nil)
    go_simp
    refine hK.out _ _ s1 (fun hHeld => ?_)
    clear hK K
    repeat (rw [putL]; simp only [List.set])
    refine tk 20 ?_
    repeat (rw [putL]; simp only [List.set])
    refine wpAnyH_ready (rs := [21]) (by kernel_rfl) (by simp) ?_
    refine AllReadyH.cons rfl (fun K hK => ?_) (AllReadyH.nil)
    go_simp
    refine hK.out _ _ s2 (fun hHeld => ?_)
    clear hK K
    repeat (rw [putL]; simp only [List.set])
    refine tk 22 ?_
    repeat (rw [putL]; simp only [List.set])
    refine wpAnyH_ready (rs := [23]) (by kernel_rfl) (by simp) ?_
    refine AllReadyH.cons rfl (fun K hK => ?_) (AllReadyH.nil)
    go_simp
    refine hK.out _ _ s3 (fun hHeld => ?_)
    clear hK K
    repeat (rw [putL]; simp only [List.set])
    refine wpAnyH_done (by kernel_rfl) ?_ _
    rotate_left 1
    go_simp
    refine hK.out _ _ s0 (fun hHeld => ?_)
    clear hK K
    repeat (rw [putL]; simp only [List.set])
    refine tk 17 ?_
    repeat (rw [putL]; simp only [List.set])
    refine wpAnyH_ready (rs := [7]) (by kernel_rfl) (by simp) ?_
    refine AllReadyH.cons rfl (fun K hK => ?_) (AllReadyH.nil)
    go_simp
    refine hK.out _ _ s0 (fun hHeld => ?_)
    clear hK K
    repeat (rw [putL]; simp only [List.set])
    refine tk 11 ?_
    repeat (rw [putL]; simp only [List.set])
    refine tk 18 ?_
    repeat (rw [putL]; simp only [List.set])
    refine wpAnyH_ready (rs := [19]) (by kernel_rfl) (by simp) ?_
    refine AllReadyH.cons rfl (fun K hK => ?_) (AllReadyH.nil)
    go_simp
    refine hK.out _ _ s1 (fun hHeld => ?_)
    clear hK K
    repeat (rw [putL]; simp only [List.set])
    refine tk 20 ?_
    repeat (rw [putL]; simp only [List.set])
    refine wpAnyH_ready (rs := [21]) (by kernel_rfl) (by simp) ?_
    refine AllReadyH.cons rfl (fun K hK => ?_) (AllReadyH.nil)
    go_simp
    refine hK.out _ _ s2 (fun hHeld => ?_)
    clear hK K
    repeat (rw [putL]; simp only [List.set])
    refine tk 22 ?_
    repeat (rw [putL]; simp only [List.set])
    refine wpAnyH_ready (rs := [23]) (by kernel_rfl) (by simp) ?_
    refine AllReadyH.cons rfl (fun K hK => ?_) (AllReadyH.nil)
    go_simp
    refine hK.out _ _ s3 (fun hHeld => ?_)
    clear hK K
    repeat (rw [putL]; simp only [List.set])
    refine wpAnyH_done (by kernel_rfl) ?_ _
    rotate_left 1
    go_simp
    refine hK.out _ _ s0 (fun hHeld => ?_)
    clear hK K
    repeat (rw [putL]; simp only [List.set])
    refine tk 11 ?_
    repeat (rw [putL]; simp only [List.set])
    refine wpAnyH_ready (rs := [1, 13]) (by kernel_rfl) (by simp) ?_
    refine AllReadyH.cons rfl (fun K hK => ?_) (AllReadyH.cons rfl (fun K hK => ?_) (AllReadyH.nil))
    go_simp
    refine hK.out _ _ s0 (fun hHeld => ?_)
    clear hK K
    repeat (rw [putL]; simp only [List.set])
    refine tk 5 ?_
    repeat (rw [putL]; simp only [List.set])
    refine wpAnyH_ready (rs := [13]) (by kernel_rfl) (by simp) ?_
    refine AllReadyH.cons rfl (fun K hK => ?_) (AllReadyH.nil)
    go_simp
    refine hK.out _ _ s0 (fun hHeld => ?_)
    clear hK K
    repeat (rw [putL]; simp only [List.set])
    refine tk 17 ?_
    repeat (rw [putL]; simp only [List.set])
    refine tk 18 ?_
    repeat (rw [putL]; simp only [List.set])
    refine wpAnyH_ready (rs := [19]) (by kernel_rfl) (by simp) ?_
    refine AllReadyH.cons rfl (fun K hK => ?_) (AllReadyH.nil)
    go_simp
    refine hK.out _ _ s1 (fun hHeld => ?_)
    clear hK K
    repeat (rw [putL]; simp only [List.set])
    refine tk 20 ?_
    repeat (rw [putL]; simp only [List.set])
    refine wpAnyH_ready (rs := [21]) (by kernel_rfl) (by simp) ?_
    refine AllReadyH.cons rfl (fun K hK => ?_) (AllReadyH.nil)
    go_simp
    refine hK.out _ _ s2 (fun hHeld => ?_)
    clear hK K
    repeat (rw [putL]; simp only [List.set])
    refine tk 22 ?_
    repeat (rw [putL]; simp only [List.set])
    refine wpAnyH_ready (rs := [23]) (by kernel_rfl) (by simp) ?_
    refine AllReadyH.cons rfl (fun K hK => ?_) (AllReadyH.nil)
    go_simp
    refine hK.out _ _ s3 (fun hHeld => ?_)
    clear hK K
    repeat (rw [putL]; simp only [List.set])
    refine wpAnyH_done (by kernel_rfl) ?_ _
    rotate_left 1
    go_simp
    refine hK.out _ _ s0 (fun hHeld => ?_)
    clear hK K
    repeat (rw [putL]; simp only [List.set])
    refine tk 17 ?_
    repeat (rw [putL]; simp only [List.set])
    refine wpAnyH_ready (rs := [1]) (by kernel_rfl) (by simp) ?_
    refine AllReadyH.cons rfl (fun K hK => ?_) (AllReadyH.nil)
    go_simp
    refine hK.out _ _ s0 (fun hHeld => ?_)
    clear hK K
    repeat (rw [putL]; simp only [List.set])
    refine tk 5 ?_
    repeat (rw [putL]; simp only [List.set])
    refine tk 18 ?_
    repeat (rw [putL]; simp only [List.set])
    refine wpAnyH_ready (rs := [19]) (by kernel_rfl) (by simp) ?_
    refine AllReadyH.cons rfl (fun K hK => ?_) (AllReadyH.nil)
    go_simp
    refine hK.out _ _ s1 (fun hHeld => ?_)
    clear hK K
    repeat (rw [putL]; simp only [List.set])
    refine tk 20 ?_
    repeat (rw [putL]; simp only [List.set])
    refine wpAnyH_ready (rs := [21]) (by kernel_rfl) (by simp) ?_
    refine AllReadyH.cons rfl (fun K hK => ?_) (AllReadyH.nil)
    go_simp
    refine hK.out _ _ s2 (fun hHeld => ?_)
    clear hK K
    repeat (rw [putL]; simp only [List.set])
    refine tk 22 ?_
    repeat (rw [putL]; simp only [List.set])
    refine wpAnyH_ready (rs := [23]) (by kernel_rfl) (by simp) ?_
    refine AllReadyH.cons rfl (fun K hK => ?_) (AllReadyH.nil)
    go_simp
    refine hK.out _ _ s3 (fun hHeld => ?_)
    clear hK K
    repeat (rw [putL]; simp only [List.set])
    refine wpAnyH_done (by kernel_rfl) ?_ _
    rotate_left 1
    go_simp
    refine hK.out _ _ s0 (fun hHeld => ?_)
    clear hK K
    repeat (rw [putL]; simp only [List.set])
    refine tk 17 ?_
    repeat (rw [putL]; simp only [List.set])
    refine wpAnyH_ready (rs := [1, 7]) (by kernel_rfl) (by simp) ?_
    refine AllReadyH.cons rfl (fun K hK => ?_) (AllReadyH.cons rfl (fun K hK => ?_) (AllReadyH.nil))
    go_simp
    refine hK.out _ _ s0 (fun hHeld => ?_)
    clear hK K
    repeat (rw [putL]; simp only [List.set])
    refine tk 5 ?_
    repeat (rw [putL]; simp only [List.set])
    refine wpAnyH_ready (rs := [7]) (by kernel_rfl) (by simp) ?_
    refine AllReadyH.cons rfl (fun K hK => ?_) (AllReadyH.nil)
    go_simp
    refine hK.out _ _ s0 (fun hHeld => ?_)
    clear hK K
    repeat (rw [putL]; simp only [List.set])
    refine tk 11 ?_
    repeat (rw [putL]; simp only [List.set])
    refine tk 18 ?_
    repeat (rw [putL]; simp only [List.set])
    refine wpAnyH_ready (rs := [19]) (by kernel_rfl) (by simp) ?_
    refine AllReadyH.cons rfl (fun K hK => ?_) (AllReadyH.nil)
    go_simp
    refine hK.out _ _ s1 (fun hHeld => ?_)
    clear hK K
    repeat (rw [putL]; simp only [List.set])
    refine tk 20 ?_
    repeat (rw [putL]; simp only [List.set])
    refine wpAnyH_ready (rs := [21]) (by kernel_rfl) (by simp) ?_
    refine AllReadyH.cons rfl (fun K hK => ?_) (AllReadyH.nil)
    go_simp
    refine hK.out _ _ s2 (fun hHeld => ?_)
    clear hK K
    repeat (rw [putL]; simp only [List.set])
    refine tk 22 ?_
    repeat (rw [putL]; simp only [List.set])
    refine wpAnyH_ready (rs := [23]) (by kernel_rfl) (by simp) ?_
    refine AllReadyH.cons rfl (fun K hK => ?_) (AllReadyH.nil)
    go_simp
    refine hK.out _ _ s3 (fun hHeld => ?_)
    clear hK K
    repeat (rw [putL]; simp only [List.set])
    refine wpAnyH_done (by kernel_rfl) ?_ _
    rotate_left 1
    go_simp
    refine hK.out _ _ s0 (fun hHeld => ?_)
    clear hK K
    repeat (rw [putL]; simp only [List.set])
    refine tk 11 ?_
    repeat (rw [putL]; simp only [List.set])
    refine wpAnyH_ready (rs := [1]) (by kernel_rfl) (by simp) ?_
    refine AllReadyH.cons rfl (fun K hK => ?_) (AllReadyH.nil)
    go_simp
    refine hK.out _ _ s0 (fun hHeld => ?_)
    clear hK K
    repeat (rw [putL]; simp only [List.set])
    refine tk 5 ?_
    repeat (rw [putL]; simp only [List.set])
    refine tk 18 ?_
    repeat (rw [putL]; simp only [List.set])
    refine wpAnyH_ready (rs := [19]) (by kernel_rfl) (by simp) ?_
    refine AllReadyH.cons rfl (fun K hK => ?_) (AllReadyH.nil)
    go_simp
    refine hK.out _ _ s1 (fun hHeld => ?_)
    clear hK K
    repeat (rw [putL]; simp only [List.set])
    refine tk 20 ?_
    repeat (rw [putL]; simp only [List.set])
    refine wpAnyH_ready (rs := [21]) (by kernel_rfl) (by simp) ?_
    refine AllReadyH.cons rfl (fun K hK => ?_) (AllReadyH.nil)
    go_simp
    refine hK.out _ _ s2 (fun hHeld => ?_)
    clear hK K
    repeat (rw [putL]; simp only [List.set])
    refine tk 22 ?_
    repeat (rw [putL]; simp only [List.set])
    refine wpAnyH_ready (rs := [23]) (by kernel_rfl) (by simp) ?_
    refine AllReadyH.cons rfl (fun K hK => ?_) (AllReadyH.nil)
    go_simp
    refine hK.out _ _ s3 (fun hHeld => ?_)
    clear hK K
    repeat (rw [putL]; simp only [List.set])
    refine wpAnyH_done (by kernel_rfl) ?_ _
    all_goals (
      clear s0 s1 s2 s3
      generalize (((W0.setCell ⟨B + 1, 2, none⟩ (.slice qn a.names.length dn)).setCell ⟨B + 1, 3, none⟩ (.slice qs a.secs.length ds)).setCell ⟨B + 1, 4, none⟩ (.slice qp a.pkts.length dp)).drew = W9 at HZ3 HK3 ⊢
      have y0 : W9.cell? ⟨B, 0, none⟩ = some (.string a.note) := HK3.out.1.cell 0
      have y1 : W9.cell? ⟨B, 1, none⟩ = some (.slice pf a.faces.length cf) := HK3.out.1.cell 1
      have y2 : W9.cell? ⟨B, 2, none⟩ = some (.slice pn a.names.length cn) := HK3.out.1.cell 2
      have y3 : W9.cell? ⟨B, 3, none⟩ = some (.slice ps a.secs.length cs) := HK3.out.1.cell 3
      have y4 : W9.cell? ⟨B, 4, none⟩ = some (.slice pp a.pkts.length cp) := HK3.out.1.cell 4
      have u0 : W9.cell? ⟨B + 1, 0, none⟩ = some (.string c.note) := HZ3.out.cell 0
      have u1 : W9.cell? ⟨B + 1, 1, none⟩ = some (.slice qf c.faces.length df) := HZ3.out.cell 1
      have u2 : W9.cell? ⟨B + 1, 2, none⟩ = some (.slice qn a.names.length dn) := HZ3.out.cell 2
      have u3 : W9.cell? ⟨B + 1, 3, none⟩ = some (.slice qs a.secs.length ds) := HZ3.out.cell 3
      have u4 : W9.cell? ⟨B + 1, 4, none⟩ = some (.slice qp a.pkts.length dp) := HZ3.out.cell 4
      go_wp2_with fail
      refine (HEND.out W9 HK3.out.2).mono ?_
      rintro e w9 ⟨rfl, hb9⟩
      have HB9 : Hid (Below B w w9) := Lib.hid (HK3.out.2.trans (hb9.mono (Nat.le_of_lt HK3.out.1.lt)))
      clear hb9
      go_wp2
      go_ret
      exact ⟨rfl, HB9.out⟩))
end Go.Proofs.Ytlimkckomdipkaa
