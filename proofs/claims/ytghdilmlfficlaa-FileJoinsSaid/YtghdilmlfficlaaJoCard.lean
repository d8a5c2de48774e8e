/- For all captures FileJoins returns true, and its argument reads behind the call as it read before: the given row.
   Conditions: none but the row's own. -/
import Derived.Test.YtghdilmlfficlaaOpen
import Derived.Test.YtghdilmlfficlaaLawJo
namespace Go.Proofs.Ytghdilmlfficlaa
open Go.Joins Go.ChangeShapes Go.WideShapes Go.ChangeAt Go.WideMaps Go.WideElems Go.RowKit Go.Deep

theorem read_caps {H : Type} {enc : TypeId × Value → H} {W : World} {n : Nat} {v : Value} {y : DataW H × List MemPlace} (h : DataW.trod enc Try.prog W 0 (fun _ => true) true n 22 [v] = some y) (hl : Lite Try.prog 22 y.1) :
    ∃ (A : Option Addr) (xs : List Cap) (c : Nat), v = .slice A xs.length c ∧ Els 5 CapE W W.heap.size A xs ∧ (xs.length ≤ c ∧ xs.length * 112 ≤ 140737488355328 ∧ (A = none → c = 0)) := by
  refine read_list Try.underlying22 Try.underlying31 (by kernel_rfl) (by kernel_rfl) rfl (by decide) (by kernel_rfl) (fun vs m hvl hf => ?_) h hl
  obtain ⟨v0, y0, e0, t0, l0⟩ := hf 0 _ rfl
  obtain ⟨v1, y1, e1, t1, l1⟩ := hf 1 _ rfl
  obtain ⟨v2, y2, e2, t2, l2⟩ := hf 2 _ rfl
  obtain ⟨v3, y3, e3, t3, l3⟩ := hf 3 _ rfl
  obtain ⟨v4, y4, e4, t4, l4⟩ := hf 4 _ rfl
  obtain ⟨s, rfl, hs⟩ := read_str t0 l0
  obtain ⟨pf, fs, cf, rfl, mf, lf⟩ := read_faces t1 l1
  obtain ⟨pn, ns, cn, rfl, mn, ln⟩ := read_names t2 l2
  obtain ⟨ps, ss, cs, rfl, ms, ls⟩ := read_secs t3 l3
  obtain ⟨pp, qs, cp, rfl, mp, lp⟩ := read_pkts t4 l4
  match vs, hvl with
  | [u0, u1, u2, u3, u4], _ =>
    simp only [List.getElem?_cons_zero, List.getElem?_cons_succ, Option.some.injEq] at e0 e1 e2 e3 e4
    subst e0; subst e1; subst e2; subst e3; subst e4
    exact ⟨⟨s, fs, ns, ss, qs⟩, ⟨pf, cf, pn, cn, ps, cs, pp, cp⟩, rfl, ⟨hs, mf, mn, ms, mp, lf, ln, ls, lp⟩⟩

set_option maxRecDepth 100000 in
theorem open_caps {H : Type} {enc : TypeId × Value → H} {W : World} {r : Reach} {b0 : Nat} {v : Value} {d : DataW H} {p : List MemPlace} (hv : Value.okWide Try.prog W r b0 22 v) (h : DataW.Trod enc Try.prog W 0 (fun _ => true) true 22 v d p) (hl : Lite Try.prog 22 d) :
    ∃ (A : Option Addr) (xs : List Cap) (c : Nat), v = .slice A xs.length c ∧ Els 5 CapE W W.heap.size A xs ∧ xs.length ≤ 1300000000000 := by
  obtain ⟨fuel, hf⟩ := h
  have hc : v.cells.toList = [v] := by
    obtain ⟨a, l, c, rfl⟩ := okWide_slice Try.underlying22 hv
    rfl
  rw [hc] at hf
  obtain ⟨A, xs, c, e, hm, h1, h2, _⟩ := read_caps hf hl
  exact ⟨A, xs, c, e, hm, by omega⟩

set_option maxRecDepth 100000 in
theorem fileJoins_lifted (os : Os) (started : os.Started) (H : Type) (enc : TypeId × Value → H) :
    ReturnsInHanded {} Try.checked os 6 .any (Rows.fileJoinsSpec.pre6 enc Try.prog Try.f6 [] false) (Rows.fileJoinsSpec.post enc Try.prog Try.f6 false true false false) := by
  refine returnsInHanded_of_change_sized (C := Try.checked) own started (by kernel_rfl) Try.func6
    (ChangeSpec.witness6 (enc := enc) (C := Try.checked) false ⟨#[], #[.slice none 0 0], []⟩ 8 (by kernel_rfl) (by kernel_rfl) (by kernel_rfl) (by kernel_rfl)) ?_
  intro W base args ds gs before hval0 hW _ hsz0 _
  have hval : ∀ (j : Nat) t v, Try.f6.params[j]? = some t → args[j]? = some v → Value.okWide Try.prog W .any base t v := hval0
  have hW' := hW
  obtain ⟨p, q, hA0, hV, rfl, hfz, hnd⟩ := hW
  have hA : DataW.TrodAll enc Try.prog W 0 (fun _ => true) true Try.f6.params.toList args.toList ds p := hA0
  rw [Try.params6] at hA hval
  obtain ⟨v0, d0, rfl, rfl, h0⟩ := trodAll_one hA
  obtain ⟨rfl, rfl⟩ := trodVars_none hV
  have hsz : (DataW.weightsEach Try.prog [22] [d0]).all (fun x => decide (x ≤ reachBytes)) = true := hsz0
  obtain ⟨A, xs, c, rfl, mx, lx⟩ := open_caps (hval 0 22 v0 rfl rfl) h0 (lite_of hsz 0 rfl rfl)
  clear hA0 hval0
  refine (lawJo_any mx lx).mono fun e W' ⟨he, hb⟩ => ?_
  subst he
  exact ⟨_, rfl, law_post hW' rfl rfl rfl (by kernel_rfl) (by kernel_rfl) hb⟩

theorem fileJoins_holds : Rows.FileJoinsSaid :=
  OpenClaim.holds_of_wide 6 Try.f6 rfl rfl rfl rfl rfl rfl rfl ⟨rfl, rfl, rfl, rfl, rfl⟩ rfl rfl rfl rfl rfl (by kernel_rfl) Try.func6 (by kernel_rfl)
    (of_decide_eq_true (by kernel_rfl)) (by unfold Func.isWrapper; first | (rw [if_pos (by decide +kernel)]; kernel_rfl) | (rw [if_neg (by decide +kernel)]; exact ⟨rfl, rfl⟩))
    (fun os started H enc _ => fileJoins_lifted os started H enc)
end Go.Proofs.Ytghdilmlfficlaa
