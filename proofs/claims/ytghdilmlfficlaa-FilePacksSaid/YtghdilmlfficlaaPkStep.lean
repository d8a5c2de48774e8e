/- The packer's step. -/
import Derived.Test.YtghdilmlfficlaaPkFew
import Derived.Maps.Views
namespace Go.Proofs.Ytghdilmlfficlaa
open Go.RowKit Go.Maps

theorem law3P : Keyed Try.prog 3 := int_keyed Try.underlying3
/-- The packer's map: where some four bytes stood. -/
def MapOk (w : World) (b n : Nat) (bs : List Nat) (lim : Nat) : Prop :=
  ∃ D : DataW Unit, w.ownsMap Try.prog 3 (plainElem Try.prog 3) b n D ∧ ∀ x : Nat, Maps.has D (.int .i64 x) = true → ∃ f : Nat, D.atKey (.int .i64 x) (.lit (.int .i64 0)) = .lit (.int .i64 f) ∧ f + 4 ≤ bs.length ∧ f < lim ∧ fewN bs f = x
theorem wf_nat {n : Nat} (h : n ≤ 9223372036854775807) : (Lit.int .i64 (n : Int)).wf = true := by
  show (decide (IntKind.min .i64 ≤ (n : Int)) && decide ((n : Int) ≤ IntKind.max .i64)) = true
  have h1 : IntKind.min .i64 = -9223372036854775808 := by decide
  have h2 : IntKind.max .i64 = 9223372036854775807 := by decide
  rw [h1, h2, Bool.and_eq_true, decide_eq_true_eq, decide_eq_true_eq]
  omega
theorem MapOk.put {w w' : World} {b n lim : Nat} {bs : List Nat} (hD : ∃ D : DataW Unit, w'.ownsMap Try.prog 3 (plainElem Try.prog 3) b (n + 1) (D.put (.int .i64 (fewN bs lim : Nat)) (.lit (.int .i64 (lim : Nat)))) ∧ IsMap D ∧ ∀ x : Nat, Maps.has D (.int .i64 x) = true → ∃ f : Nat, D.atKey (.int .i64 x) (.lit (.int .i64 0)) = .lit (.int .i64 f) ∧ f + 4 ≤ bs.length ∧ f < lim ∧ fewN bs f = x) (h4 : lim + 4 ≤ bs.length) : MapOk w' b (n + 1) bs (lim + 1) := by
  obtain ⟨D, ho, hi, hx⟩ := hD
  refine ⟨_, ho, fun x hh => ?_⟩
  by_cases hxe : x = fewN bs lim
  · subst hxe
    exact ⟨lim, by rw [atKey_put_same hi (show WideAt.IsKeyLit (.int .i64 _) from trivial)], h4, by omega, rfl⟩
  · have hne : (Lit.int .i64 (x : Int)) ≠ (Lit.int .i64 ((fewN bs lim : Nat) : Int)) := by intro e; injection e with e1 e2; omega
    rw [has_put_other hne] at hh
    obtain ⟨f, h1, h2, h3, h5⟩ := hx x hh
    exact ⟨f, by rw [atKey_put_other hne]; exact h1, h2, by omega, h5⟩
theorem MapOk.below {w w' : World} {b n lim : Nat} {bs : List Nat} (h : MapOk w b n bs lim) (hb : Below w.heap.size w w') : MapOk w' b n bs lim := by
  obtain ⟨D, ⟨es, clock, he, hr⟩, hx⟩ := h
  have hlt : b < w.heap.size := by
    rcases Nat.lt_or_ge b w.heap.size with h | h
    · exact h
    · rw [Array.getElem?_eq_none h] at he; cases he
  exact ⟨D, ⟨es, clock, (hb.block b hlt).trans he, hr⟩, hx⟩
theorem MapOk.lt {w : World} {b n lim : Nat} {bs : List Nat} (h : MapOk w b n bs lim) : b < w.heap.size := by
  obtain ⟨D, ⟨es, clock, he, hr⟩, hx⟩ := h
  rcases Nat.lt_or_ge b w.heap.size with h | h
  · exact h
  · rw [Array.getElem?_eq_none h] at he; cases he
theorem MapOk.set {w : World} {b n lim : Nat} {bs : List Nat} (h : MapOk w b n bs lim) {a : Addr} (ha : b ≠ a.block) (u : Value) : MapOk (w.setCell a u) b n bs lim := by
  obtain ⟨D, ho, hx⟩ := h
  exact ⟨D, ho.setCell ha u, hx⟩
theorem MapOk.more {w : World} {b n lim lim' : Nat} {bs : List Nat} (h : MapOk w b n bs lim) (hl : lim ≤ lim') : MapOk w b n bs lim' := by
  obtain ⟨D, ho, hx⟩ := h
  exact ⟨D, ho, fun x hh => by obtain ⟨f, h1, h2, h3, h4⟩ := hx x hh; exact ⟨f, h1, h2, by omega, h4⟩⟩
theorem blk_map_ne {w : World} {b n lim g t : Nat} {bs : List Nat} {cs : Array Value} (h : MapOk w b n bs lim) (hg : Blk w g t cs) : g ≠ b := by
  obtain ⟨D, ⟨es, clock, he, hr⟩, hx⟩ := h
  intro e
  subst e
  rw [show w.heap[g]? = some (.cells cs t (0, 0)) from hg] at he
  cases he

/-- What a step leaves. -/
def StepP (B g bm n at_ : Nat) (A : Option Addr) (bs : List Nat) (c : Nat) (w : World) (w' : World) : Prop :=
  Blk w' g 116 #[.slice A bs.length c, .int .i64 ((at_ + 1 : Nat) : Int), .map (some bm)] ∧ MapOk w' bm (n + 1) bs (at_ + 1) ∧ Below B w w' ∧ ∀ x t cs, x ≠ g → Blk w x t cs → Blk w' x t cs
theorem MapOk.size {w : World} {b n n' lim : Nat} {bs : List Nat} (h : MapOk w b n bs lim) (hl : n ≤ n') : MapOk w b n' bs lim := by
  obtain ⟨D, ⟨es, clock, he, hr, hs, hd⟩, hx⟩ := h
  exact ⟨D, ⟨es, clock, he, hr, by omega, hd⟩, hx⟩

set_option maxRecDepth 100000 in
set_option maxHeartbeats 4000000 in
theorem step_any {w : World} {B g c at_ bm n : Nat} {A : Option Addr} {bs : List Nat} (hg : Blk w g 116 #[.slice A bs.length c, .int .i64 at_, .map (some bm)]) (hm : MapOk w bm n bs at_) (hn : n < maxLen) (hb : S1.Byt w B A bs) (hBg : B ≤ g) (hBm : B ≤ bm) (hc : bs.length ≤ c) (hL : bs.length ≤ 1000000) (ha : at_ < bs.length) :
    Calls Try.prog 86 #[.pointer (some ⟨g, 0, none⟩)] w fun e w' => e = .returned (.tuple #[]) ∧ StepP B g bm n at_ A bs c w w' := by
  have hgl := hg.lt
  have HF := Lib.hid (few_any hg (hb.more (by omega)) hc hL (by omega))
  have HG := Lib.hid hg
  have HM := Lib.hid hm
  have hadd : IntKind.i64.wrap ((at_ : Int) + 1) = ((at_ + 1 : Nat) : Int) := by rw [IntKind.wrap_i64]; omega
  cases h4 : fewB bs at_ with
  | false =>
    rw [h4] at HF
    clear hg hm hb hc hL ha h4
    go_enter Try.func86, Try.ntmps86
    go_wp2_with fail
    with_reducible refine HF.out.mono ?_
    rintro e w2 ⟨rfl, hb2⟩
    have HG2 := Lib.hid (HG.out.below hb2 hgl)
    have HM2 := Lib.hid (HM.out.below hb2)
    have HB2 := Lib.hid hb2
    have t1 : w2.cell? ⟨g, 1, none⟩ = some (.int .i64 at_) := HG2.out.cell 1
    have f1 : w2.frozen? ⟨g, 1, none⟩ = false := HG2.out.frozen 1
    clear hb2 HF
    go_wp2
    go_end0
    refine ⟨rfl, ?_, ((HM2.out.set (blk_map_ne HM2.out HG2.out).symm _).more (by omega)).size (by omega), ?_, ?_⟩
    · have := HG2.out.set_ 1 (.int .i64 ((at_ + 1 : Nat) : Int))
      simpa using this
    · exact (HB2.out.mono (by omega)).setCell (p := ⟨g, 1, none⟩) hBg _
    · intro x t cs hx hB
      exact (hB.below HB2.out hB.lt).far (p := ⟨g, 1, none⟩) hx _
  | true =>
    have h5 : at_ + 4 ≤ bs.length := of_decide_eq_true h4
    rw [h4] at HF
    clear hg hm hb hc h4
    go_enter Try.func86, Try.ntmps86
    go_wp2_with fail
    with_reducible refine HF.out.mono ?_
    rintro e w2 ⟨rfl, hb2⟩
    have HG2 := Lib.hid (HG.out.below hb2 hgl)
    have hm2 := HM.out.below hb2
    have HNE := Lib.hid (blk_map_ne hm2 HG2.out)
    have HML := Lib.hid hm2.lt
    obtain ⟨D, ho, hx⟩ := hm2
    have hk := keyOf_int_mk (P := Try.prog) Try.underlying3 (wf_nat (n := fewN bs at_) (by have := fewN_lt bs at_; omega))
    obtain ⟨w5, hrun, ho5, hturn⟩ := World.ownsMap.store (w := w2.drew) (t := 114) ho law3P Try.underlying114 hn hk (plainElem_int Try.underlying3 (wf_nat (n := at_) (by omega)))
    have hg5 := hturn.grown
    have hblk : ∀ x t cs, x ≠ bm → Blk w2 x t cs → Blk w5 x t cs := fun x t cs hx hB => (hg5.block x hB.lt (fun e => hx (Option.some.inj e))).trans hB
    have HG5 := Lib.hid (hblk _ _ _ HNE.out HG2.out)
    have HM5 : Hid (MapOk w5 bm (n + 1) bs (at_ + 1)) := Lib.hid (MapOk.put (w := w2) ⟨D, ho5, ho.isMap, hx⟩ h5)
    have HB5 : Hid (Below B w w5) := Lib.hid ((hb2.mono (by omega)).trans ⟨hg5.os, hg5.tape, hg5.output, hg5.size, fun k hk => hg5.block k (by show k < w2.heap.size; have := hb2.size; omega) (fun e => by have := Option.some.inj e; omega)⟩)
    have HBL : Hid (∀ x t cs, x ≠ bm → Blk w x t cs → Blk w5 x t cs) := Lib.hid (fun x t cs hx hB => hblk x t cs hx (hB.below hb2 hB.lt))
    have HNB : Hid (∀ x t cs, Blk w x t cs → x ≠ bm) := Lib.hid (fun x t cs hB => blk_map_ne HM.out hB)
    have t0 : w2.cell? ⟨g, 0, none⟩ = some (.slice A bs.length c) := HG2.out.cell 0
    have t1 : w2.cell? ⟨g, 1, none⟩ = some (.int .i64 at_) := HG2.out.cell 1
    have t2 : w2.cell? ⟨g, 2, none⟩ = some (.map (some bm)) := HG2.out.cell 2
    have u0 : w5.cell? ⟨g, 0, none⟩ = some (.slice A bs.length c) := HG5.out.cell 0
    have u1 : w5.cell? ⟨g, 1, none⟩ = some (.int .i64 at_) := HG5.out.cell 1
    have u2 : w5.cell? ⟨g, 2, none⟩ = some (.map (some bm)) := HG5.out.cell 2
    have f1 : w5.frozen? ⟨g, 1, none⟩ = false := HG5.out.frozen 1
    clear hb2 HF hx ho5 ho hturn hg5 hblk hk ha h5 hL
    go_wp2_with fail
    refine wp_region_held_drew (S := (fun w' => w'.cell? ⟨g, 0, none⟩ = some (.slice A bs.length c) ∧ w'.cell? ⟨g, 1, none⟩ = some (.int .i64 at_) ∧ w'.cell? ⟨g, 2, none⟩ = some (.map (some bm)))) (by kernel_rfl) ⟨t0, t1, t2⟩ (fun hHeld => ?_)
    refine wpAnyH_take (i := 0) (oi := { dst := some 10, op := Go.Op.move (Go.Operand.tmp 0), type := 160, pos := "pack.go:102", after := #[], guard := none }) (v := ?_) rfl (by kernel_rfl) (by kernel_rfl) (by kernel_rfl) (fun _ _ _ h => h) (Or.inl ⟨by rfl, ?_⟩) (by assumption) ?_
    rotate_left 1
    · intro w hSw; (try dsimp only at hSw); go_simp; try with_reducible rfl
    try simp only [Act.put, List.setIfInBounds_toArray, List.set_cons_zero, List.set_cons_succ]
    refine wpAnyH_take (i := 1) (oi := { dst := some 11, op := Go.Op.nilCheck (Go.Operand.tmp 10), type := 0, pos := "pack.go:102", after := #[{ on := 0, ground := Go.Ground.data }], guard := none }) (v := ?_) rfl (by kernel_rfl) (by kernel_rfl) (by kernel_rfl) (fun _ _ _ h => h) (Or.inl ⟨by rfl, ?_⟩) (by assumption) ?_
    rotate_left 1
    · intro w hSw; (try dsimp only at hSw); go_simp; try with_reducible rfl
    try simp only [Act.put, List.setIfInBounds_toArray, List.set_cons_zero, List.set_cons_succ]
    refine wpAnyH_take (i := 2) (oi := { dst := some 12, op := Go.Op.fieldAddr 116 (Go.Operand.tmp 11) 2, type := 0, pos := "pack.go:102", after := #[{ on := 1, ground := Go.Ground.data }], guard := none }) (v := ?_) rfl (by kernel_rfl) (by kernel_rfl) (by kernel_rfl) (fun _ _ _ h => h) (Or.inl ⟨by rfl, ?_⟩) (by assumption) ?_
    rotate_left 1
    · intro w hSw; (try dsimp only at hSw); go_simp; try with_reducible rfl
    try simp only [Act.put, List.setIfInBounds_toArray, List.set_cons_zero, List.set_cons_succ]
    refine wpAnyH_take (i := 3) (oi := { dst := some 13, op := Go.Op.load 114 (Go.Operand.tmp 12), type := 114, pos := "pack.go:102", after := #[{ on := 2, ground := Go.Ground.data }], guard := none }) (v := ?_) rfl (by kernel_rfl) (by kernel_rfl) (by kernel_rfl) (fun _ _ _ h => h) (Or.inl ⟨by rfl, ?_⟩) (by assumption) ?_
    rotate_left 1
    · intro w hSw; (try dsimp only at hSw); go_simp; try with_reducible rfl
    try simp only [Act.put, List.setIfInBounds_toArray, List.set_cons_zero, List.set_cons_succ]
    refine wpAnyH_take (i := 4) (oi := { dst := some 14, op := Go.Op.move (Go.Operand.tmp 2), type := 3, pos := "pack.go:102", after := #[], guard := none }) (v := ?_) rfl (by kernel_rfl) (by kernel_rfl) (by kernel_rfl) (fun _ _ _ h => h) (Or.inl ⟨by rfl, ?_⟩) (by assumption) ?_
    rotate_left 1
    · intro w hSw; (try dsimp only at hSw); go_simp; try with_reducible rfl
    try simp only [Act.put, List.setIfInBounds_toArray, List.set_cons_zero, List.set_cons_succ]
    refine wpAnyH_take (i := 5) (oi := { dst := some 15, op := Go.Op.move (Go.Operand.tmp 0), type := 160, pos := "pack.go:102", after := #[], guard := none }) (v := ?_) rfl (by kernel_rfl) (by kernel_rfl) (by kernel_rfl) (fun _ _ _ h => h) (Or.inl ⟨by rfl, ?_⟩) (by assumption) ?_
    rotate_left 1
    · intro w hSw; (try dsimp only at hSw); go_simp; try with_reducible rfl
    try simp only [Act.put, List.setIfInBounds_toArray, List.set_cons_zero, List.set_cons_succ]
    refine wpAnyH_take (i := 6) (oi := { dst := some 16, op := Go.Op.nilCheck (Go.Operand.tmp 15), type := 0, pos := "pack.go:102", after := #[{ on := 5, ground := Go.Ground.data }], guard := none }) (v := ?_) rfl (by kernel_rfl) (by kernel_rfl) (by kernel_rfl) (fun _ _ _ h => h) (Or.inl ⟨by rfl, ?_⟩) (by assumption) ?_
    rotate_left 1
    · intro w hSw; (try dsimp only at hSw); go_simp; try with_reducible rfl
    try simp only [Act.put, List.setIfInBounds_toArray, List.set_cons_zero, List.set_cons_succ]
    refine wpAnyH_take (i := 7) (oi := { dst := some 17, op := Go.Op.fieldAddr 116 (Go.Operand.tmp 16) 1, type := 0, pos := "pack.go:102", after := #[{ on := 6, ground := Go.Ground.data }], guard := none }) (v := ?_) rfl (by kernel_rfl) (by kernel_rfl) (by kernel_rfl) (fun _ _ _ h => h) (Or.inl ⟨by rfl, ?_⟩) (by assumption) ?_
    rotate_left 1
    · intro w hSw; (try dsimp only at hSw); go_simp; try with_reducible rfl
    try simp only [Act.put, List.setIfInBounds_toArray, List.set_cons_zero, List.set_cons_succ]
    refine wpAnyH_take (i := 8) (oi := { dst := some 18, op := Go.Op.load 3 (Go.Operand.tmp 17), type := 3, pos := "pack.go:102", after := #[{ on := 7, ground := Go.Ground.data }], guard := none }) (v := ?_) rfl (by kernel_rfl) (by kernel_rfl) (by kernel_rfl) (fun _ _ _ h => h) (Or.inl ⟨by rfl, ?_⟩) (by assumption) ?_
    rotate_left 1
    · intro w hSw; (try dsimp only at hSw); go_simp; try with_reducible rfl
    try simp only [Act.put, List.setIfInBounds_toArray, List.set_cons_zero, List.set_cons_succ]
    refine wpAnyH_ready (rs := [9]) (by kernel_rfl) (by simp) ?_
    refine AllReadyH.cons (o := { dst := none, op := Go.Op.mapUpdate 114 (Go.Operand.tmp 13) (Go.Operand.tmp 14) (Go.Operand.tmp 18), type := 0, pos := "pack.go:102", after := #[{ on := 3, ground := Go.Ground.data }, { on := 4, ground := Go.Ground.data }, { on := 8, ground := Go.Ground.data }, { on := 0, ground := Go.Ground.phase }, { on := 1, ground := Go.Ground.phase }, { on := 2, ground := Go.Ground.phase }, { on := 3, ground := Go.Ground.phase }, { on := 4, ground := Go.Ground.phase }, { on := 5, ground := Go.Ground.phase }, { on := 6, ground := Go.Ground.phase }, { on := 7, ground := Go.Ground.phase }, { on := 8, ground := Go.Ground.phase }], guard := none }) rfl (fun K hK => ?_) (AllReadyH.nil)
    go_simp
    refine hK.out _ _ ⟨u0, u1, u2⟩ (fun hHeld => ?_)
    clear hK K
    try simp only [Act.put, List.setIfInBounds_toArray, List.set_cons_zero, List.set_cons_succ]
    refine wpAnyH_done (by kernel_rfl) ?_ _
    go_wp2
    go_end0
    refine ⟨rfl, ?_, HM5.out.set HNE.out.symm _, ?_, ?_⟩
    · have := HG5.out.set_ 1 (.int .i64 ((at_ + 1 : Nat) : Int))
      simpa using this
    · exact HB5.out.setCell (p := ⟨g, 1, none⟩) hBg _
    · intro x t cs hx hB
      exact (HBL.out x t cs (HNB.out x t cs hB) hB).far (p := ⟨g, 1, none⟩) hx _
end Go.Proofs.Ytghdilmlfficlaa
