/- For all captures, times and lists of pairs FileSeeks returns true, and its arguments read behind the call as they read before: the given row.
   Conditions: none but the row's own. -/
import Derived.Test.YtghdilmlfficlaaOpen
import Derived.Test.YtghdilmlfficlaaLawSk
import Derived.OpenShut
namespace Go.Proofs.Ytghdilmlfficlaa
open Go.Joins Go.ChangeShapes Go.WideShapes Go.ChangeAt Go.WideMaps Go.WideElems Go.RowKit Go.Deep

set_option maxRecDepth 100000 in
theorem read_prs {H : Type} {enc : TypeId × Value → H} {W : World} {n : Nat} {v : Value} {y : DataW H × List MemPlace} (h : DataW.trod enc Try.prog W 0 (fun _ => true) true n 56 [v] = some y) (hl : Lite Try.prog 56 y.1) :
    ∃ (A : Option Addr) (xs : List Pr) (c : Nat), v = .slice A xs.length c ∧ Els 2 PrE W W.heap.size A xs ∧ xs.length ≤ 140737488355328 := by
  have hC : Try.prog.cellsOf 59 = 2 := by kernel_rfl
  have hC3 : Try.prog.cellsOf 3 = 1 := by kernel_rfl
  have hu : Try.prog.underlying 59 = some (.array 2 3) := by kernel_rfl
  have hby : Try.prog.bytesOf 59 = 16 := by kernel_rfl
  rcases open_slice Try.underlying56 h with ⟨hcs, _⟩ | ⟨a, len, cap, m, k, D, Pl, hcs, _, hle, _, hmm, hx, hi⟩
  · exact ⟨none, [], 0, by simpa using hcs, els_nil, Nat.zero_le _⟩
  · have hmc : m = cap := by simpa using hmm
    subst hmc
    obtain ⟨yd, yp⟩ := y
    simp only [Prod.mk.injEq] at hx
    obtain ⟨rfl, rfl⟩ := hx
    obtain ⟨hw, _⟩ := lite_slice Try.underlying56 hl
    rw [hby] at hw
    simp only [List.length_map, List.length_range] at hw
    have hrow : ∀ i, i < len → ∃ x : Pr, W.cell? (a.add (i * 2)) = some (.int .i64 x.1) ∧ W.cell? (a.add (i * 2 + 1)) = some (.int .i64 x.2) := by
      intro i hil
      obtain ⟨cs', hc, ht'⟩ := hi i (by omega)
      rw [hC] at hc
      obtain ⟨_, hcl, hat⟩ := World.cells?_some hc
      obtain ⟨ys, n', _, _, hlen, hyl, hf⟩ := DataW.trod_array hu ht'
      rw [hC] at hlen
      match cs', hlen with
      | [u0, u1], _ =>
        have f0 := hf 0 (by omega)
        have f1 := hf 1 (by omega)
        rw [hC3] at f0 f1
        have g0 : DataW.trod enc Try.prog W 0 (fun _ => true) true n' 3 [u0] = some (ys[0]'(by omega)) := f0.trans (List.getElem?_eq_getElem (by omega))
        have g1 : DataW.trod enc Try.prog W 0 (fun _ => true) true n' 3 [u1] = some (ys[1]'(by omega)) := f1.trans (List.getElem?_eq_getElem (by omega))
        obtain ⟨b0, rfl, _⟩ := read_i64 g0
        obtain ⟨b1, rfl, _⟩ := read_i64 g1
        refine ⟨(b0, b1), ?_, ?_⟩
        · have := hat 0 (by omega)
          rw [Go.Deep.add_add] at this
          exact this
        · have := hat 1 (by omega)
          rw [Go.Deep.add_add] at this
          exact this
    refine ⟨some a, List.ofFn fun i : Fin len => Classical.choose (hrow i i.2), m, by simpa using hcs, ?_, by simp; omega⟩
    intro hn
    rw [List.length_ofFn] at hn
    obtain ⟨b, o, spot⟩ := a
    obtain ⟨x0, h0, _⟩ := hrow 0 hn
    have hspot : spot = none := by simpa [Addr.add] using World.cell?_spot h0
    subst hspot
    rw [Go.WideShapes.add_plain] at h0
    refine ⟨b, o, rfl, block_of_cell h0, fun i hi => ?_⟩
    rw [List.length_ofFn] at hi
    have hsp := Classical.choose_spec (hrow i hi)
    rw [List.getElem_ofFn]
    obtain ⟨s0, s1⟩ := hsp
    refine ⟨_, rfl, rfl, fun j v hj => ?_⟩
    have hjk : j < 2 := by
      rcases Nat.lt_or_ge j 2 with h | h
      · exact h
      · rw [List.getElem?_eq_none (by exact h)] at hj; cases hj
    rw [← Go.WideShapes.add_plain]
    rcases (by omega : j = 0 ∨ j = 1) with rfl | rfl
    · exact s0.trans hj
    · exact s1.trans hj

set_option maxRecDepth 100000 in
theorem open_prs {H : Type} {enc : TypeId × Value → H} {W : World} {r : Reach} {b0 : Nat} {v : Value} {d : DataW H} {p : List MemPlace} (hv : Value.okWide Try.prog W r b0 56 v) (h : DataW.Trod enc Try.prog W 0 (fun _ => true) true 56 v d p) (hl : Lite Try.prog 56 d) :
    ∃ (A : Option Addr) (xs : List Pr) (c : Nat), v = .slice A xs.length c ∧ Els 2 PrE W W.heap.size A xs ∧ xs.length ≤ 140737488355328 := by
  obtain ⟨fuel, hf⟩ := h
  have hc : v.cells.toList = [v] := by
    obtain ⟨a, l, c, rfl⟩ := okWide_slice Try.underlying56 hv
    rfl
  rw [hc] at hf
  exact read_prs hf hl

set_option maxRecDepth 100000 in
theorem fileSeeks_lifted (os : Os) (started : os.Started) (H : Type) (enc : TypeId × Value → H) :
    ReturnsInHanded {} Try.checked os 9 .any (Rows.fileSeeksSpec.pre6 enc Try.prog Try.f9 [] false) (Rows.fileSeeksSpec.post enc Try.prog Try.f9 false true false false) := by
  refine returnsInHanded_of_change_sized (C := Try.checked) own started (by kernel_rfl) Try.func9
    (ChangeSpec.witness6 (enc := enc) (C := Try.checked) false ⟨#[], #[.agg #[.string ⟨#[]⟩, .slice none 0 0, .slice none 0 0, .slice none 0 0, .slice none 0 0], .int .i64 0, .slice none 0 0], []⟩ 8 (by kernel_rfl) (by kernel_rfl) (by kernel_rfl) (by kernel_rfl)) ?_
  intro W base args ds gs before hval0 hW _ hsz0 _
  have hval : ∀ (j : Nat) t v, Try.f9.params[j]? = some t → args[j]? = some v → Value.okWide Try.prog W .any base t v := hval0
  have hW' := hW
  obtain ⟨p, q, hA0, hV, rfl, hfz, hnd⟩ := hW
  have hA : DataW.TrodAll enc Try.prog W 0 (fun _ => true) true Try.f9.params.toList args.toList ds p := hA0
  rw [Try.params9] at hA hval
  obtain ⟨v0, v1, v2, d0, d1, d2, p0, p1, p2, rfl, rfl, rfl, h0, h1, h2⟩ := trodAll_three hA
  obtain ⟨rfl, rfl⟩ := trodVars_none hV
  have hsz : (DataW.weightsEach Try.prog [31, 3, 56] [d0, d1, d2]).all (fun x => decide (x ≤ reachBytes)) = true := hsz0
  obtain ⟨qc, c, rfl, mc⟩ := open_cap (hval 0 31 v0 rfl rfl) h0 (lite_of hsz 0 rfl rfl)
  obtain ⟨a, rfl, rfl, rfl, wa⟩ := open_int Try.underlying3 (hval 1 3 v1 rfl rfl) h1
  obtain ⟨A3, x, c3, rfl, mx, lx⟩ := open_prs (hval 2 56 v2 rfl rfl) h2 (lite_of hsz 2 rfl rfl)
  clear hA0 hval0
  refine (lawSk_any mc mx lx).mono fun e W' ⟨he, hb⟩ => ?_
  subst he
  exact ⟨_, rfl, law_post hW' rfl rfl rfl (by kernel_rfl) (by kernel_rfl) hb⟩

theorem fileSeeks_holds : Rows.FileSeeksSaid :=
  OpenClaim.holds_of_wide 9 Try.f9 rfl rfl rfl rfl rfl rfl rfl ⟨rfl, rfl, rfl, rfl, rfl⟩ rfl rfl rfl rfl rfl (by kernel_rfl) Try.func9 (by kernel_rfl)
    (of_decide_eq_true (by kernel_rfl)) (by unfold Func.isWrapper; first | (rw [if_pos (by decide +kernel)]; kernel_rfl) | (rw [if_neg (by decide +kernel)]; exact ⟨rfl, rfl⟩))
    (fun os started H enc _ => fileSeeks_lifted os started H enc)
end Go.Proofs.Ytghdilmlfficlaa
