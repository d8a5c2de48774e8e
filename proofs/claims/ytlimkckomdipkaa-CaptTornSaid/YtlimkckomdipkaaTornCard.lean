/- For all captures, kinds, orders and numbers of bytes CaptTorn returns true, and its arguments read behind the call as they read before: the given row.
   Conditions: none but the row's own. -/
import Derived.Test.YtlimkckomdipkaaOpen
import Derived.Test.YtlimkckomdipkaaL7
namespace Go.Proofs.Ytlimkckomdipkaa
open Go.ChangeShapes Go.WideShapes Go.ChangeAt Go.WideMaps Go.WideElems Go.RowKit

set_option maxRecDepth 100000 in
theorem open_bool2 {H : Type} {enc : TypeId × Value → H} {W : World} {r : Reach} {b0 : Nat} {v : Value} {d : DataW H} {p : List MemPlace} (hv : Value.okWide Try.prog W r b0 50 v) (h : DataW.Trod enc Try.prog W 0 (fun _ => true) true 50 v d p) : ∃ a b, v = .agg #[.bool a, .bool b] := by
  simp only [Value.okWide, Try.underlying50] at hv
  obtain ⟨cs, rfl, hsz, _⟩ := hv
  obtain ⟨fuel, hf⟩ := h
  obtain ⟨xs, m, _, _, hl, hx, hi⟩ := DataW.trod_array Try.underlying50 hf
  have hc1 : Try.prog.cellsOf 4 = 1 := by kernel_rfl
  have h2 : cs.toList.length = 2 := hl.trans (by kernel_rfl)
  rw [hc1] at hi
  obtain ⟨l⟩ := cs
  match l, h2 with
  | [x, y], _ =>
    have e0 : xs[0]? = some (xs[0]'(by omega)) := List.getElem?_eq_getElem (by omega)
    have e1 : xs[1]? = some (xs[1]'(by omega)) := List.getElem?_eq_getElem (by omega)
    have i0 := (hi 0 (by omega)).trans e0
    have i1 := (hi 1 (by omega)).trans e1
    obtain ⟨a, ha, _⟩ := DataW.trod_bool Try.underlying4 i0
    obtain ⟨b, hb, _⟩ := DataW.trod_bool Try.underlying4 i1
    simp [Value.cells] at ha hb
    subst ha; subst hb
    exact ⟨a, b, rfl⟩

set_option maxRecDepth 100000 in
theorem captTorn_lifted (os : Os) (started : os.Started) (H : Type) (enc : TypeId × Value → H) :
    ReturnsInHanded {} Try.checked os 7 .any (Rows.captTornSpec.pre6 enc Try.prog Try.f7 [] false) (Rows.captTornSpec.post enc Try.prog Try.f7 false true false false) := by
  refine returnsInHanded_of_change_sized (C := Try.checked) own started (by kernel_rfl) Try.func7
    (ChangeSpec.witness6 (enc := enc) (C := Try.checked) false ⟨#[], #[.agg #[.string ⟨#[]⟩, .slice none 0 0, .slice none 0 0, .slice none 0 0, .slice none 0 0], .agg #[.bool false, .bool false], .int .i64 0], []⟩ 8 (by kernel_rfl) (by kernel_rfl) (by kernel_rfl) (by kernel_rfl)) ?_
  intro W base args ds gs before hval0 hW _ hsz0 _
  have hval : ∀ (j : Nat) t v, Try.f7.params[j]? = some t → args[j]? = some v → Value.okWide Try.prog W .any base t v := hval0
  have hW' := hW
  obtain ⟨p, q, hA0, hV, rfl, hfz, hnd⟩ := hW
  have hA : DataW.TrodAll enc Try.prog W 0 (fun _ => true) true Try.f7.params.toList args.toList ds p := hA0
  rw [Try.params7] at hA hval
  obtain ⟨v0, v1, v2, d0, d1, d2, p0, p1, p2, rfl, rfl, rfl, h0, h1, h2⟩ := trodAll_three hA
  obtain ⟨rfl, rfl⟩ := trodVars_none hV
  have hsz : (DataW.weightsEach Try.prog [27, 50, 3] [d0, d1, d2]).all (fun x => decide (x ≤ reachBytes)) = true := hsz0
  obtain ⟨qc, c, rfl, mc⟩ := open_cap (hval 0 27 v0 rfl rfl) h0 (lite_of hsz 0 rfl rfl)
  obtain ⟨old, low, rfl⟩ := open_bool2 (hval 1 50 v1 rfl rfl) h1
  obtain ⟨n, rfl, rfl, rfl, wn⟩ := open_int Try.underlying3 (hval 2 3 v2 rfl rfl) h2
  clear hA0 hval0
  refine (lawTorn_any mc).mono fun e W' ⟨he, hb⟩ => ?_
  subst he
  exact ⟨_, rfl, law_post hW' rfl rfl rfl (by kernel_rfl) (by kernel_rfl) hb⟩

theorem captTorn_holds : Rows.CaptTornSaid :=
  OpenClaim.holds_of_wide 7 Try.f7 rfl rfl rfl rfl rfl rfl rfl ⟨rfl, rfl, rfl, rfl, rfl⟩ rfl rfl rfl rfl rfl (by kernel_rfl) Try.func7 (by kernel_rfl)
    (of_decide_eq_true (by kernel_rfl)) (by unfold Func.isWrapper; first | (rw [if_pos (by decide +kernel)]; kernel_rfl) | (rw [if_neg (by decide +kernel)]; exact ⟨rfl, rfl⟩))
    (fun os started H enc _ => captTorn_lifted os started H enc)
end Go.Proofs.Ytlimkckomdipkaa
