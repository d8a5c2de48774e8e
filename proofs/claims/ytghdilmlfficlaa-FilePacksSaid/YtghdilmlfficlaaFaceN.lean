/- Interfaces: equal ones, where one stands in a list, and lists with those of another one that are not there. -/
import Derived.Test.YtghdilmlfficlaaShift2
import Derived.Test.YtghdilmlfficlaaEq
namespace Go.Proofs.Ytghdilmlfficlaa
open Go.RowKit

abbrev facW (f : Fac) : Array Value := #[.string f.name, .int .i64 f.link, .int .i64 f.snap]
theorem cell_lt {W : World} {b o : Nat} {v : Value} (h : W.cell? ⟨b, o, none⟩ = some v) : b < W.heap.size := by
  rcases Nat.lt_or_ge b W.heap.size with h0 | h0
  · exact h0
  · simp [World.cell?, Array.getElem?_eq_none h0] at h

set_option maxRecDepth 20000 in
theorem eql_fac (f g : Fac) (w : World) : Sem.run Try.prog (binOp .eql 79 (.agg (facW f)) (.agg (facW g))) w = .ok (.bool (eqB f g)) w := by
  have u3 := Try.underlying3
  have u9 := Try.underlying9
  have a3 := Try.isAgg3
  have a9 := Try.isAgg9
  have z3 := Try.sizeOf3
  have z9 := Try.sizeOf9
  have hS : Try.prog.underlying 79 = some (.struct (Try.prog.fieldsOf 79)) := by kernel_rfl
  have hp : Try.prog.stoodInHeld 79 = false := by kernel_rfl
  rw [run_eql_struct, show (10000 : Nat) = 9999 + 1 from rfl, run_equalIn_agg w 9999 79 _ _ hS hp]
  simp only [Program.fieldsOf, Try.underlying79]
  go_simp
  by_cases h1 : f.name = g.name
  rotate_left
  · have h1' : ¬ f.name.toList = g.name.toList := beq_eq_false_iff_ne.1 (str_ne h1)
    rw [eqB_false (fun e => h1 (by rw [e]))]; simp [h1']
  by_cases h2 : f.link = g.link
  rotate_left
  · rw [eqB_false (fun e => h2 (by rw [e])), h1]; simp [h2]
  by_cases h3 : f.snap = g.snap
  rotate_left
  · rw [eqB_false (fun e => h3 (by rw [e])), h1]; simp [h2, h3]
  rw [eqB_true (by cases f; cases g; simp only at h1 h2 h3; rw [h1, h2, h3]), h1]
  simp [h2, h3]
theorem grd_fac2 (f g : Fac) (a b : Operand) (w : World) : (eqGuard .eql 79 a b (.agg (facW f)) (.agg (facW g))).run Try.prog w = .ok () w :=
  run_eqGuard_agg w .eql 79 a b _ _ (by kernel_rfl)

/-- The first place, from k on, of what is as p says; -1 if there is none. -/
def idxB {α : Type} (p : α → Bool) : List α → Nat → Int
  | [], _ => -1
  | a :: l, k => if p a then (k : Int) else idxB p l (k + 1)
theorem idxB_drop {α : Type} (p : α → Bool) (xs : List α) (k : Nat) (h : k < xs.length) : idxB p (xs.drop k) k = if p xs[k] then (k : Int) else idxB p (xs.drop (k + 1)) (k + 1) := by
  rw [List.drop_eq_getElem_cons h]; rfl
theorem idxB_any {α : Type} (p : α → Bool) : ∀ (xs : List α) (k : Nat), decide (0 ≤ idxB p xs k) = xs.any p
  | [], k => by simp [idxB]
  | a :: l, k => by
    rw [List.any_cons, idxB]
    cases h : p a
    · simpa using idxB_any p l (k + 1)
    · simp
theorem idxB_rng {α : Type} (p : α → Bool) : ∀ (xs : List α) (k : Nat), -1 ≤ idxB p xs k ∧ idxB p xs k < k + xs.length
  | [], k => by simp [idxB]; omega
  | a :: l, k => by
    have := idxB_rng p l (k + 1)
    rw [idxB]
    split <;> simp <;> omega

set_option maxRecDepth 100000 in
set_option maxHeartbeats 2000000 in
theorem samef_any (f g : Fac) (w : World) :
    Calls Try.prog 95 #[.agg (facW f), .agg (facW g)] w fun e w' => e = .returned (.bool (eqB f g)) ∧ Below w.heap.size w w' := by
  have hnq := fun w => eql_fac f g w
  have hgd := fun a b w => grd_fac2 f g a b w
  have hb : Below w.heap.size w ((w.alloc (.cells (facW f) 79)).alloc (.cells (facW g) 79)) := ((Below.refl _ _).alloc (Nat.le_refl _) _).alloc (by rw [alloc_size]; omega) _
  have HB := Lib.hid hb
  unfold facW at hnq hgd HB ⊢
  clear hb
  go_enter Try.func95, Try.ntmps95
  go_wp2
  go_ret
  exact ⟨rfl, HB.out⟩
set_option maxRecDepth 100000 in
set_option maxHeartbeats 2000000 in
theorem closf_any {w : World} {s x : Nat} (y f : Fac) (hs : w.cell? ⟨s, 0, none⟩ = some (.func (.func 95) #[] #[])) (hx : Blk w x 79 (facW f)) :
    Calls Try.prog 130 #[.agg (facW y), .pointer (some ⟨s, 0, none⟩), .pointer (some ⟨x, 0, none⟩)] w fun e w' => e = .returned (.bool (eqB f y)) ∧ Below w.heap.size w w' := by
  obtain ⟨B, hB⟩ : ∃ B, w.heap.size = B := ⟨_, rfl⟩
  obtain ⟨W0, hW0⟩ : ∃ W0, w.alloc (.cells #[.string y.name, .int .i64 y.link, .int .i64 y.snap] 79) = W0 := ⟨_, rfl⟩
  have hsb : s < B := by rw [← hB]; exact cell_lt hs
  have hxb : x < B := by rw [← hB]; exact hx.lt
  have hb0 : Below B w W0 := by rw [← hW0, ← hB]; exact (Below.refl _ _).alloc (Nat.le_refl _) _
  have hk : Blk W0 B 79 #[.string y.name, .int .i64 y.link, .int .i64 y.snap] := by rw [← hW0, ← hB]; exact Blk.new _ _ _
  have q0 := hk.cell 0
  have q1 := hk.cell 1
  have q2 := hk.cell 2
  have hx0 : Blk W0 x 79 #[.string f.name, .int .i64 f.link, .int .i64 f.snap] := hx.below hb0 hxb
  have x0 := hx0.cell 0
  have x1 := hx0.cell 1
  have x2 := hx0.cell 2
  have s0 : W0.cell? ⟨s, 0, none⟩ = some (.func (.func 95) #[] #[]) := (hb0.cell (p := ⟨s, 0, none⟩) hsb).trans hs
  have HB0 := Lib.hid hb0
  have HS := Lib.hid hk.lt
  have HC := Lib.hid (samef_any f y W0)
  rw [hB]
  clear hs hx hsb hxb hb0 hk hx0
  unfold facW at HC ⊢
  go_enter Try.func130, Try.ntmps130
  go_wp2_with fail
  clear hW0
  refine HC.out.mono ?_
  rintro e w1 ⟨rfl, hb1⟩
  have HB1 := Lib.hid (HB0.out.trans (hb1.mono (by have := HS.out; omega)))
  clear hb1
  go_wp2
  go_ret
  exact ⟨rfl, HB1.out⟩
set_option maxRecDepth 100000 in
set_option maxHeartbeats 4000000 in
theorem indexf_any {w : World} {s x : Nat} {A : Option Addr} {c : Nat} {xs : List Fac} (f : Fac) (hs : w.cell? ⟨s, 0, none⟩ = some (.func (.func 95) #[] #[])) (hx : Blk w x 79 (facW f)) (hm : Els 3 FacE w w.heap.size A xs) (hl : xs.length ≤ 140737488355328) :
    Calls Try.prog 167 #[.slice A xs.length c, .func (.func 130) #[] #[.pointer (some ⟨s, 0, none⟩), .pointer (some ⟨x, 0, none⟩)]] w fun e w' => e = .returned (.int .i64 (idxB (fun y => eqB f y) xs 0)) ∧ Below w.heap.size w w' := by
  have HM := Lib.hid hm
  obtain ⟨B, hB⟩ : ∃ B, w.heap.size = B := ⟨_, rfl⟩
  have HB := Lib.hid hB
  have HS := Lib.hid hs
  have HX := Lib.hid hx
  have hsb : s < B := by rw [← hB]; exact cell_lt hs
  have hxb : x < B := by rw [← hB]; exact hx.lt
  rw [hB] at HM ⊢
  clear hB hm hs hx
  go_enter Try.func167, Try.ntmps167
  go_wp2
  go_loopw [5, 8] (fun _ i wr => ∃ k : Nat, i = .int .i64 k ∧ k ≤ xs.length ∧ Hid (idxB (fun y => eqB f y) xs 0 = idxB (fun y => eqB f y) (xs.drop k) k) ∧ Hid (Below B w wr ∧ B ≤ wr.heap.size)) (fun _ i _ => xs.length - (intOf i).toNat)
  case atStart => exact ⟨0, rfl, Nat.zero_le _, Lib.hid rfl, Lib.hid ⟨Below.refl _ _, by rw [HB.out]; exact Nat.le_refl _⟩⟩
  case round =>
    obtain ⟨k, rfl, hk, HE, HW⟩ := hrel
    by_cases hlt : k < xs.length
    · obtain ⟨b, o, hA, hb, vs, hvl, ⟨rfl, _, _, _⟩, hcell⟩ := (HM.out.keep facK HW.out.1 (Nat.le_refl _)).row k hlt
      subst hA
      have c0 : wr.cell? ⟨b, o + k * 3, none⟩ = _ := hcell 0 _ rfl
      have c1 := hcell 1 _ rfl
      have c2 := hcell 2 _ rfl
      clear hcell
      have HD := Lib.hid (idxB_drop (fun y => eqB f y) xs k hlt)
      have HC := Lib.hid (closf_any (w := wr) (s := s) (x := x) xs[k] f ((HW.out.1.cell (p := ⟨s, 0, none⟩) hsb).trans HS.out) (HX.out.below HW.out.1 hxb))
      unfold facW at HC
      cases hq : eqB f xs[k] with
      | true =>
        have HR : Hid (idxB (fun y => eqB f y) xs 0 = (k : Int)) := Lib.hid (by rw [HE.out, HD.out, hq]; rfl)
        rw [hq] at HC
        clear hq HD HE
        go_wp2_with fail
        refine HC.out.mono ?_
        rintro e w1 ⟨rfl, hb1⟩
        have HW1 := Lib.hid (HW.out.1.trans (hb1.mono HW.out.2))
        clear hb1
        go_wp2
        go_ret
        exact ⟨ret_int HR.out.symm, HW1.out⟩
      | false =>
        have HR : Hid (idxB (fun y => eqB f y) xs 0 = idxB (fun y => eqB f y) (xs.drop (k + 1)) (k + 1)) := Lib.hid (by rw [HE.out, HD.out, hq]; rfl)
        rw [hq] at HC
        clear hq HD HE
        go_wp2_with fail
        refine HC.out.mono ?_
        rintro e w1 ⟨rfl, hb1⟩
        have HW1 : Hid (Below B w w1 ∧ B ≤ w1.heap.size) := Lib.hid ⟨HW.out.1.trans (hb1.mono HW.out.2), Nat.le_trans HW.out.2 hb1.size⟩
        clear hb1 c0 c1 c2
        go_wp2
        go_roundw
        case rel => exact ⟨k + 1, by go_num, by omega, HR, HW1⟩
        case measure => simp [intOf]; omega
    · have HR : Hid (idxB (fun y => eqB f y) xs 0 = -1) := Lib.hid (by rw [HE.out, List.drop_eq_nil_of_le (by omega)]; rfl)
      go_wp2
      go_ret
      exact ⟨ret_int HR.out.symm, HW.out.1⟩
set_option maxRecDepth 100000 in
set_option maxHeartbeats 2000000 in
theorem containsf_any {w : World} {s x : Nat} {A : Option Addr} {c : Nat} {xs : List Fac} (f : Fac) (hs : w.cell? ⟨s, 0, none⟩ = some (.func (.func 95) #[] #[])) (hx : Blk w x 79 (facW f)) (hm : Els 3 FacE w w.heap.size A xs) (hl : xs.length ≤ 140737488355328) :
    Calls Try.prog 129 #[.slice A xs.length c, .func (.func 130) #[] #[.pointer (some ⟨s, 0, none⟩), .pointer (some ⟨x, 0, none⟩)]] w fun e w' => e = .returned (.bool (xs.any fun y => eqB f y)) ∧ Below w.heap.size w w' := by
  have HC := Lib.hid (indexf_any (c := c) f hs hx hm hl)
  have HA := Lib.hid (idxB_any (fun y => eqB f y) xs 0)
  have hr := idxB_rng (fun y => eqB f y) xs 0
  obtain ⟨r, hR⟩ : ∃ r, idxB (fun y => eqB f y) xs 0 = r := ⟨_, rfl⟩
  obtain ⟨q, hQ⟩ : ∃ q, (xs.any fun y => eqB f y) = q := ⟨_, rfl⟩
  rw [hR] at HC HA hr
  rw [hQ] at HA ⊢
  clear hs hx hm hR hQ
  go_enter Try.func129, Try.ntmps129
  go_wp2_with fail
  refine HC.out.mono ?_
  rintro e w1 ⟨rfl, hb1⟩
  have HB := Lib.hid hb1
  clear hb1
  go_wp2
  go_ret
  exact ⟨ret_bool HA.out, HB.out⟩
set_option maxRecDepth 100000 in
set_option maxHeartbeats 4000000 in
theorem place_any {w : World} {A : Option Addr} {c : Nat} {xs : List Fac} (f : Fac) (hm : Els 3 FacE w w.heap.size A xs) (hl : xs.length ≤ 140737488355328) :
    Calls Try.prog 100 #[.slice A xs.length c, .agg (facW f)] w fun e w' => e = .returned (.int .i64 (idxB (fun y => eqB f y) xs 0)) ∧ Below w.heap.size w w' := by
  have HM := Lib.hid hm
  obtain ⟨B, hB⟩ : ∃ B, w.heap.size = B := ⟨_, rfl⟩
  obtain ⟨W0, hW0⟩ : ∃ W0, w.alloc (.cells #[.string f.name, .int .i64 f.link, .int .i64 f.snap] 79) = W0 := ⟨_, rfl⟩
  have HB0 : Hid (Below B w W0) := Lib.hid (by rw [← hW0, ← hB]; exact (Below.refl _ _).alloc (Nat.le_refl _) _)
  have HK : Hid (Blk W0 B 79 #[.string f.name, .int .i64 f.link, .int .i64 f.snap]) := Lib.hid (by rw [← hW0, ← hB]; exact Blk.new _ _ _)
  rw [hB] at HM ⊢
  clear hm
  unfold facW
  go_enter Try.func100, Try.ntmps100
  go_wp2
  clear hW0 hB
  go_loopw [5, 8] (fun _ i wr => ∃ k : Nat, i = .int .i64 k ∧ k ≤ xs.length ∧ Hid (idxB (fun y => eqB f y) xs 0 = idxB (fun y => eqB f y) (xs.drop k) k) ∧ Hid (Below B w wr ∧ Blk wr B 79 #[.string f.name, .int .i64 f.link, .int .i64 f.snap])) (fun _ i _ => xs.length - (intOf i).toNat)
  case atStart => exact ⟨0, rfl, Nat.zero_le _, Lib.hid rfl, Lib.hid ⟨HB0.out, HK.out⟩⟩
  case round =>
    obtain ⟨k, rfl, hk, HE, HW⟩ := hrel
    by_cases hlt : k < xs.length
    · obtain ⟨b, o, hA, hb, vs, hvl, ⟨rfl, _, _, _⟩, hcell⟩ := (HM.out.keep facK HW.out.1 (Nat.le_refl _)).row k hlt
      subst hA
      have c0 : wr.cell? ⟨b, o + k * 3, none⟩ = _ := hcell 0 _ rfl
      have c1 := hcell 1 _ rfl
      have c2 := hcell 2 _ rfl
      clear hcell
      have x0 := HW.out.2.cell 0
      have x1 := HW.out.2.cell 1
      have x2 := HW.out.2.cell 2
      have HD := Lib.hid (idxB_drop (fun y => eqB f y) xs k hlt)
      have hnq := fun w => eql_fac f xs[k] w
      have hgd := fun a b w => grd_fac2 f xs[k] a b w
      unfold facW at hnq hgd
      cases hq : eqB f xs[k] with
      | true =>
        have HR : Hid (idxB (fun y => eqB f y) xs 0 = (k : Int)) := Lib.hid (by rw [HE.out, HD.out, hq]; rfl)
        rw [hq] at hnq
        clear hq HD HE
        go_wp2
        go_quiet (fail)
        go_wp2
        go_ret
        exact ⟨ret_int HR.out.symm, below_drewN HW.out.1 _⟩
      | false =>
        have HR : Hid (idxB (fun y => eqB f y) xs 0 = idxB (fun y => eqB f y) (xs.drop (k + 1)) (k + 1)) := Lib.hid (by rw [HE.out, HD.out, hq]; rfl)
        rw [hq] at hnq
        clear hq HD HE
        go_wp2
        go_quiet (fail)
        go_wp2
        go_roundw
        case rel => exact ⟨k + 1, by go_num, by omega, HR, Lib.hid ⟨below_drewN HW.out.1 _, HW.out.2.drewN _⟩⟩
        case measure => simp [intOf]; omega
    · have HR : Hid (idxB (fun y => eqB f y) xs 0 = -1) := Lib.hid (by rw [HE.out, List.drop_eq_nil_of_le (by omega)]; rfl)
      go_wp2
      go_ret
      exact ⟨ret_int HR.out.symm, HW.out.1⟩
end Go.Proofs.Ytghdilmlfficlaa
