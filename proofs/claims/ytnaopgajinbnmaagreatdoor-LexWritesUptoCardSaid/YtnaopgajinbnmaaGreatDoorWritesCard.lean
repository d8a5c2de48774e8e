/- For all tokens of bulk at most 1048576 LexWrites returns true, and its arguments read behind the call as they read before: the given row of the second form, and the given tied card over it.
   Conditions: none but the row's own: the bulk, and that the package variables that the row lists hold what the program's text lays in them (the card ties that). -/
import Derived.Test.YtnaopgajinbnmaaGreatDoorFrame
import Derived.Test.YtnaopgajinbnmaaGreatDoorCards
import Derived.Test.YtnaopgajinbnmaaGreatDoorOpen
import Derived.Test.YtnaopgajinbnmaaGreatDoorWritesLaw
namespace Go.Proofs.YtnaopgajinbnmaaGreatDoor
open Go.ChangeShapes Go.WideShapes Go.ChangeAt Go.WideMaps Go.WideElems Go.RowKit

set_option maxRecDepth 100000 in
theorem lexWrites_lifted (os : Os) (started : os.Started) (H : Type) (enc : TypeId × Value → H) (F : Stop.Interp) :
    ReturnsInHanded {} Tryz.checked os 3 .any ((Rows.OpenSpec.upto Rows.lexWritesSpec).preRow enc Tryz.prog Tryz.f3 [] false tabs)
      (((Rows.OpenSpec.upto Rows.lexWritesSpec).at F).post enc Tryz.prog Tryz.f3 false true false false) := by
  refine returnsInHanded_of_row own started (by kernel_rfl) Tryz.func3 ?wit ?_
  case wit =>
    refine ⟨World.laidAll Tryz.prog os tabs, fun _ _ => 0, ⟨#[], #[.slice none 0 0, .slice none 0 0], []⟩, World.laidAll_os _ _ _, World.shaped_of_ZipB (by kernel_rfl) (by kernel_rfl), rfl, (Input.okWide_of_okWideB (by kernel_rfl)).2,
      ⟨⟨(OpenSpec.pre_some rfl _ _ _ _).2 ⟨[.nil, .nil], [], [], DataW.Whole_of_whole (fuel := 8) (x := ([.nil, .nil], [], [])) (by kernel_rfl), rfl, by kernel_rfl⟩, zip_ok os _⟩, sizedMet_of_sizedB (fuel := 8) (by kernel_rfl)⟩, ?_⟩
    simp only [Assume.holds]
    exact ⟨by simp, by simp, fun _ => Modest.zero, by simp, by simp⟩
  intro W base args ds gs before hval0 hW _ hk hz hlaid hsh _
  have hk2 : Rows.uptoBulkAll (ds ++ gs) ≤ 1048576 := of_decide_eq_true (hk _ rfl)
  have hL := laid_of hlaid hsh
  have hval : ∀ (j : Nat) t v, Tryz.f3.params[j]? = some t → args[j]? = some v → Value.okWide Tryz.prog W .any base t v := hval0
  have hW' := hW
  obtain ⟨p, q, hA0, hV, rfl, hfz, hnd⟩ := hW
  have hA : DataW.TrodAll enc Tryz.prog W 0 (fun _ => true) true Tryz.f3.params.toList args.toList ds p := hA0
  rw [Tryz.params3] at hA hval
  obtain ⟨v0, v1, d0, d1, p0, p1, rfl, rfl, rfl, h0, h1⟩ := trodAll_two hA
  obtain ⟨rfl, rfl⟩ := trodVars_none hV
  simp only [List.append_nil, Rows.uptoBulkAll] at hk2
  obtain ⟨A, xs, c1, rfl, ha, okx, hx, sx⟩ := open_toks (hval 0 22 v0 rfl rfl) h0 (by omega)
  obtain ⟨C, ys, c2, rfl, hc, oky, hy, sy⟩ := open_toks (hval 1 22 v1 rfl rfl) h1 (by omega)
  clear hA0 hval0
  refine (writes_law xs ys A C c1 c2 hx hy sx sy okx ha hc hL).mono fun e W' ⟨he, hb⟩ => ?_
  subst he
  exact ⟨_, rfl, law_post hW' rfl rfl rfl (by kernel_rfl) (by kernel_rfl) hb⟩

theorem lexWritesUpto_holds : Rows.LexWritesUptoSaid :=
  OpenClaim.holds_of_cond 3 Tryz.f3 rfl rfl rfl rfl rfl rfl rfl ⟨rfl, rfl, rfl, rfl, rfl⟩ rfl rfl rfl rfl rfl (by kernel_rfl) Tryz.func3 (by kernel_rfl)
    (of_decide_eq_true (by kernel_rfl)) (by unfold Func.isWrapper; first | (rw [if_pos (by decide +kernel)]; kernel_rfl) | (rw [if_neg (by decide +kernel)]; exact ⟨rfl, rfl⟩))
    (fun os started H enc _ F => by rw [OpenClaim.pre_eq_preRow]; exact lexWrites_lifted os started H enc F)

theorem lexWritesUpto_card_holds : Rows.LexWritesUptoCardSaid :=
  Claim7.holds_tied_plain_at .later [] [.data, .data, .data, .data, .sentinel, .sentinel, .data, .pinned] true (true, "f9151fcdaddb66e25d8d943725f71c2e9d2e00895366fbc487f58a72965a45cb") true
    lexWritesUpto_holds (fun _ h => by cases h) (by kernel_rfl) (fun _ h => by cases h) lexWritesUpto_row_tie rfl ⟨rfl, rfl⟩ (by kernel_rfl) rfl
    (fun f fn hf hfn => by
      obtain rfl : f = 3 := Option.some.inj ((show Tryz.prog.funcNamed "wireglass/wireglasslaw04.LexWrites" = some 3 by kernel_rfl).symm.trans hf) |>.symm
      obtain rfl : fn = Tryz.f3 := (Option.some.inj (Tryz.func3.symm.trans hfn)).symm
      exact ⟨by kernel_rfl, fun j t ht => by
        rw [Tryz.params3] at ht
        have hm : t ∈ [22, 22] := by simpa using Array.mem_of_getElem? ht
        have hall : ([22, 22].all fun u => !Tryz.prog.wantsStandIn u) = true := by kernel_rfl
        exact (show Tryz.prog.wantsStandIn t = false by simpa using List.all_eq_true.1 hall t hm)⟩)
    (by kernel_rfl)
end Go.Proofs.YtnaopgajinbnmaaGreatDoor
