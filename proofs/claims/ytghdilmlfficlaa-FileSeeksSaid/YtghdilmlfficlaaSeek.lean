/- Seek: the program's and the reference's. -/
import Derived.Test.YtghdilmlfficlaaSkCmp2
namespace Go.Proofs.Ytghdilmlfficlaa
open Go.RowKit

def PrE (x : Pr) (_ : World) (_ : Nat) (vs : List Value) : Prop := vs = [.int .i64 x.1, .int .i64 x.2]
theorem prK : Kept PrE := fun _ _ _ _ _ _ h _ _ => h
theorem below_grow (w : World) (n : Nat) (os : Array Obj) : Below w.heap.size w (Sort.grow (w.drewN n) os) :=
  ⟨rfl, rfl, rfl, by show w.heap.size ≤ (w.heap ++ os).size; simp, fun k hk => by show (w.heap ++ os)[k]? = _; rw [Array.getElem?_append_left hk]⟩

set_option maxRecDepth 100000 in
set_option maxHeartbeats 8000000 in
theorem seek_any {w : World} {A : Option Addr} {c : Nat} {x : List Pr} (t : Int) (hx : Els 2 PrE w w.heap.size A x) (hn : x.length ≤ 140737488355328) :
    Calls Try.prog 35 #[.slice A x.length c, .int .i64 t] w fun e w' => e = .returned (.tuple #[.int .i64 (seekA x t).1, .bool (seekA x t).2.1, .int .i64 (seekA x t).2.2]) ∧ Below w.heap.size w w' := by
  obtain ⟨B, hB⟩ : ∃ B, w.heap.size = B := ⟨_, rfl⟩
  have HX := Lib.hid hx
  have HB := Lib.hid hB
  rw [hB] at HX ⊢
  obtain ⟨R, hR⟩ : ∃ R, seekA x t = R := ⟨_, rfl⟩
  have HR := Lib.hid hR
  rw [hR]
  clear hx hB hR
  go_enter Try.func35, Try.ntmps35
  go_wp2
  go_loopw [7] (fun i wr => ∃ j : Nat, i = .int .i64 ((j + 1 : Nat) : Int) ∧ j ≤ x.length ∧ Hid (badP x = badP (x.drop j)) ∧ Hid (Below B w wr ∧ B ≤ wr.heap.size)) (fun i _ => x.length + 1 - (intOf i).toNat)
  case atStart => exact ⟨0, rfl, Nat.zero_le _, Lib.hid rfl, Lib.hid ⟨Below.refl _ _, by rw [HB.out]; exact Nat.le_refl _⟩⟩
  case round =>
    obtain ⟨j, rfl, hj, HE, HW⟩ := hrel
    have hsub : IntKind.i64.wrap (((j + 1 : Nat) : Int) - 1) = (j : Int) := by rw [IntKind.wrap_i64]; omega
    by_cases hlt : j + 1 < x.length
    · obtain ⟨b, o, hA, hb, vs, hvl, rfl, h1⟩ := (HX.out.keep prK HW.out.1 (Nat.le_refl _)).row j (by omega)
      obtain ⟨b', o', hA', _, vs', hvl', rfl, h2⟩ := (HX.out.keep prK HW.out.1 (Nat.le_refl _)).row (j + 1) hlt
      subst hA
      injection hA' with hA'; injection hA' with e1 e2; subst e1; subst e2
      have HD : Hid (badP (x.drop j) = (!ltB x[j] x[j + 1] || badP (x.drop (j + 1)))) := Lib.hid (badP_two hlt)
      have hbw : b < wr.heap.size := by have := HW.out.2; omega
      obtain ⟨y, hy⟩ : ∃ y, x[j]'(by omega) = y := ⟨_, rfl⟩
      obtain ⟨z, hz⟩ : ∃ z, x[j + 1] = z := ⟨_, rfl⟩
      rw [hy] at h1 HD
      rw [hz] at h2 HD
      have s0 : wr.cell? ⟨b, o + j * 2, none⟩ = some (.int .i64 y.1) := h1 0 _ rfl
      have s1 : wr.cell? ⟨b, o + j * 2 + 1, none⟩ = some (.int .i64 y.2) := h1 1 _ rfl
      have s2 : wr.cell? ⟨b, o + (j + 1) * 2, none⟩ = some (.int .i64 z.1) := h2 0 _ rfl
      have s3 : wr.cell? ⟨b, o + (j + 1) * 2 + 1, none⟩ = some (.int .i64 z.2) := h2 1 _ rfl
      have HC := Lib.hid ((compare_any wr.drew y z).mono (fun e w' ⟨he, q, os, hw⟩ => (⟨he, by rw [hw]; exact below_grow _ _ _⟩ : e = Ending.returned (.int .i64 (cmpP y z)) ∧ Below wr.drew.heap.size wr.drew w')))
      unfold prV at HC
      have p0 : (0 : Int) ≤ (j : Int) := by omega
      have p1 : (j : Int) < (x.length : Int) := by omega
      have p2 : (0 : Int) ≤ (j : Int) + 1 := by omega
      have p3 : (j : Int) + 1 < (x.length : Int) := by omega
      have hwj : IntKind.i64.wrap (j : Int) = (j : Int) := by rw [IntKind.wrap_i64]; omega
      clear h1 h2 hy hz hvl hvl' hb
      cases hq : ltB y z with
      | true =>
        have HE2 : Hid (badP x = badP (x.drop (j + 1))) := Lib.hid (by rw [HE.out, HD.out, hq]; rfl)
        have d1 : decide (0 ≤ cmpP y z) = false := by rw [cmpP_ge, hq]; rfl
        clear HE HD hq
        go_wp2_with fail
        refine wp_region_held_drew (S := (fun w' => w'.cell? ⟨b, o + j * 2, none⟩ = some (.int .i64 y.1) ∧ w'.cell? ⟨b, o + j * 2 + 1, none⟩ = some (.int .i64 y.2) ∧ w'.cell? ⟨b, o + (j + 1) * 2, none⟩ = some (.int .i64 z.1) ∧ w'.cell? ⟨b, o + (j + 1) * 2 + 1, none⟩ = some (.int .i64 z.2))) (by kernel_rfl) ⟨s0, s1, s2, s3⟩ (fun hHeld => ?_)
        refine wpAnyH_take (i := 0) (oi := { dst := some 16, op := Go.Op.move (Go.Operand.tmp 0), type := 56, pos := "seek.go:46", after := #[], guard := none }) (v := ?_) rfl (by kernel_rfl) (by kernel_rfl) (by kernel_rfl) (fun _ _ _ h => h) (Or.inl ⟨by rfl, ?_⟩) (by assumption) ?_
        rotate_left 1
        · intro w hSw; (try dsimp only at hSw); go_simp; try with_reducible rfl
        try simp only [Act.put, List.setIfInBounds_toArray, List.set_cons_zero, List.set_cons_succ]
        refine wpAnyH_take (i := 1) (oi := { dst := some 17, op := Go.Op.move (Go.Operand.tmp 7), type := 3, pos := "seek.go:46", after := #[], guard := none }) (v := ?_) rfl (by kernel_rfl) (by kernel_rfl) (by kernel_rfl) (fun _ _ _ h => h) (Or.inl ⟨by rfl, ?_⟩) (by assumption) ?_
        rotate_left 1
        · intro w hSw; (try dsimp only at hSw); go_simp; try with_reducible rfl
        try simp only [Act.put, List.setIfInBounds_toArray, List.set_cons_zero, List.set_cons_succ]
        refine wpAnyH_take (i := 2) (oi := { dst := some 18, op := Go.Op.binOp Go.BinOp.sub 3 (Go.Operand.tmp 17) (Go.Operand.const (Go.Value.int Go.IntKind.i64 1)) 3, type := 3, pos := "seek.go:46", after := #[{ on := 1, ground := Go.Ground.data }], guard := none }) (v := ?_) rfl (by kernel_rfl) (by kernel_rfl) (by kernel_rfl) (fun _ _ _ h => h) (Or.inl ⟨by rfl, ?_⟩) (by assumption) ?_
        rotate_left 1
        · intro w hSw; (try dsimp only at hSw); go_simp; try with_reducible rfl
        try simp only [Act.put, List.setIfInBounds_toArray, List.set_cons_zero, List.set_cons_succ]
        refine wpAnyH_take (i := 3) (oi := { dst := some 19, op := Go.Op.indexAddr 56 (Go.Operand.tmp 16) (Go.Operand.tmp 18), type := 0, pos := "seek.go:46", after := #[{ on := 0, ground := Go.Ground.data }, { on := 2, ground := Go.Ground.data }], guard := none }) (v := ?_) rfl (by kernel_rfl) (by kernel_rfl) (by kernel_rfl) (fun _ _ _ h => h) (Or.inl ⟨by rfl, ?_⟩) (by assumption) ?_
        rotate_left 1
        · intro w hSw; (try dsimp only at hSw); go_simp; try with_reducible rfl
        try simp only [Act.put, List.setIfInBounds_toArray, List.set_cons_zero, List.set_cons_succ]
        refine wpAnyH_take (i := 4) (oi := { dst := some 20, op := Go.Op.load 59 (Go.Operand.tmp 19), type := 59, pos := "seek.go:46", after := #[{ on := 3, ground := Go.Ground.data }], guard := none }) (v := ?_) rfl (by kernel_rfl) (by kernel_rfl) (by kernel_rfl) (fun _ _ _ h => h) (Or.inl ⟨by rfl, ?_⟩) (by assumption) ?_
        rotate_left 1
        · intro w hSw; (try dsimp only at hSw); go_simp; try with_reducible rfl
        try simp only [Act.put, List.setIfInBounds_toArray, List.set_cons_zero, List.set_cons_succ]
        refine wpAnyH_take (i := 5) (oi := { dst := some 21, op := Go.Op.move (Go.Operand.tmp 0), type := 56, pos := "seek.go:46", after := #[], guard := none }) (v := ?_) rfl (by kernel_rfl) (by kernel_rfl) (by kernel_rfl) (fun _ _ _ h => h) (Or.inl ⟨by rfl, ?_⟩) (by assumption) ?_
        rotate_left 1
        · intro w hSw; (try dsimp only at hSw); go_simp; try with_reducible rfl
        try simp only [Act.put, List.setIfInBounds_toArray, List.set_cons_zero, List.set_cons_succ]
        refine wpAnyH_take (i := 6) (oi := { dst := some 22, op := Go.Op.move (Go.Operand.tmp 7), type := 3, pos := "seek.go:46", after := #[], guard := none }) (v := ?_) rfl (by kernel_rfl) (by kernel_rfl) (by kernel_rfl) (fun _ _ _ h => h) (Or.inl ⟨by rfl, ?_⟩) (by assumption) ?_
        rotate_left 1
        · intro w hSw; (try dsimp only at hSw); go_simp; try with_reducible rfl
        try simp only [Act.put, List.setIfInBounds_toArray, List.set_cons_zero, List.set_cons_succ]
        refine wpAnyH_take (i := 7) (oi := { dst := some 23, op := Go.Op.indexAddr 56 (Go.Operand.tmp 21) (Go.Operand.tmp 22), type := 0, pos := "seek.go:46", after := #[{ on := 5, ground := Go.Ground.data }, { on := 6, ground := Go.Ground.data }], guard := none }) (v := ?_) rfl (by kernel_rfl) (by kernel_rfl) (by kernel_rfl) (fun _ _ _ h => h) (Or.inl ⟨by rfl, ?_⟩) (by assumption) ?_
        rotate_left 1
        · intro w hSw; (try dsimp only at hSw); go_simp; try with_reducible rfl
        try simp only [Act.put, List.setIfInBounds_toArray, List.set_cons_zero, List.set_cons_succ]
        refine wpAnyH_take (i := 8) (oi := { dst := some 24, op := Go.Op.load 59 (Go.Operand.tmp 23), type := 59, pos := "seek.go:46", after := #[{ on := 7, ground := Go.Ground.data }], guard := none }) (v := ?_) rfl (by kernel_rfl) (by kernel_rfl) (by kernel_rfl) (fun _ _ _ h => h) (Or.inl ⟨by rfl, ?_⟩) (by assumption) ?_
        rotate_left 1
        · intro w hSw; (try dsimp only at hSw); go_simp; try with_reducible rfl
        try simp only [Act.put, List.setIfInBounds_toArray, List.set_cons_zero, List.set_cons_succ]
        refine wpAnyH_ready (rs := [9]) (by kernel_rfl) (by simp) ?_
        refine AllReadyH.cons (o := { dst := some 25, op := Go.Op.call { callee := Go.Callee.value (Go.Operand.func 79), args := #[Go.Operand.tmp 20, Go.Operand.tmp 24], argTypes := #[59, 59] }, type := 3, pos := "seek.go:46", after := #[{ on := 4, ground := Go.Ground.data }, { on := 8, ground := Go.Ground.data }], guard := none }) rfl (fun K hK => ?_) (AllReadyH.nil)
        go_simp
        go_at_call 79
        with_reducible refine HC.out.mono ?_
        rintro e w2 ⟨rfl, hb2⟩
        have hb2' : Below wr.heap.size wr w2 := below_undrew hb2
        have t0 : w2.cell? ⟨b, o + j * 2, none⟩ = some (.int .i64 y.1) := (hb2'.cell (p := ⟨b, o + j * 2, none⟩) (by show b < wr.heap.size; omega)).trans s0
        have t1 : w2.cell? ⟨b, o + j * 2 + 1, none⟩ = some (.int .i64 y.2) := (hb2'.cell (p := ⟨b, o + j * 2 + 1, none⟩) (by show b < wr.heap.size; omega)).trans s1
        have t2 : w2.cell? ⟨b, o + (j + 1) * 2, none⟩ = some (.int .i64 z.1) := (hb2'.cell (p := ⟨b, o + (j + 1) * 2, none⟩) (by show b < wr.heap.size; omega)).trans s2
        have t3 : w2.cell? ⟨b, o + (j + 1) * 2 + 1, none⟩ = some (.int .i64 z.2) := (hb2'.cell (p := ⟨b, o + (j + 1) * 2 + 1, none⟩) (by show b < wr.heap.size; omega)).trans s3
        have HW2 : Hid (Below B w w2 ∧ B ≤ w2.heap.size) := Lib.hid ⟨HW.out.1.trans (hb2'.mono HW.out.2), by have := hb2'.size; have := HW.out.2; omega⟩
        clear hb2 hb2'
        dsimp only
        refine hK.out _ _ ⟨t0, t1, t2, t3⟩ (fun hHeld => ?_)
        clear hK K
        try simp only [Act.put, List.setIfInBounds_toArray, List.set_cons_zero, List.set_cons_succ]
        refine wpAnyH_take (i := 10) (oi := { dst := some 26, op := Go.Op.binOp Go.BinOp.geq 3 (Go.Operand.tmp 25) (Go.Operand.const (Go.Value.int Go.IntKind.i64 0)) 3, type := 4, pos := "seek.go:46", after := #[{ on := 9, ground := Go.Ground.data }], guard := none }) (v := ?_) rfl (by kernel_rfl) (by kernel_rfl) (by kernel_rfl) (fun _ _ _ h => h) (Or.inl ⟨by rfl, ?_⟩) (by assumption) ?_
        rotate_left 1
        · intro w hSw; (try dsimp only at hSw); go_simp; try with_reducible rfl
        try simp only [Act.put, List.setIfInBounds_toArray, List.set_cons_zero, List.set_cons_succ]
        refine wpAnyH_done (by kernel_rfl) ?_ _
        go_wp2
        go_roundw
        case rel => exact ⟨j + 1, by go_num, by omega, HE2, HW2⟩
        case measure => simp [intOf]; omega
      | false =>
        have HQ : Hid (R = (0, false, 1)) := Lib.hid (by rw [← HR.out]; unfold seekA; rw [HE.out, HD.out, hq]; rfl)
        have d1 : decide (0 ≤ cmpP y z) = true := by rw [cmpP_ge, hq]; rfl
        clear HE HD hq
        go_wp2_with fail
        refine wp_region_held_drew (S := (fun w' => w'.cell? ⟨b, o + j * 2, none⟩ = some (.int .i64 y.1) ∧ w'.cell? ⟨b, o + j * 2 + 1, none⟩ = some (.int .i64 y.2) ∧ w'.cell? ⟨b, o + (j + 1) * 2, none⟩ = some (.int .i64 z.1) ∧ w'.cell? ⟨b, o + (j + 1) * 2 + 1, none⟩ = some (.int .i64 z.2))) (by kernel_rfl) ⟨s0, s1, s2, s3⟩ (fun hHeld => ?_)
        refine wpAnyH_take (i := 0) (oi := { dst := some 16, op := Go.Op.move (Go.Operand.tmp 0), type := 56, pos := "seek.go:46", after := #[], guard := none }) (v := ?_) rfl (by kernel_rfl) (by kernel_rfl) (by kernel_rfl) (fun _ _ _ h => h) (Or.inl ⟨by rfl, ?_⟩) (by assumption) ?_
        rotate_left 1
        · intro w hSw; (try dsimp only at hSw); go_simp; try with_reducible rfl
        try simp only [Act.put, List.setIfInBounds_toArray, List.set_cons_zero, List.set_cons_succ]
        refine wpAnyH_take (i := 1) (oi := { dst := some 17, op := Go.Op.move (Go.Operand.tmp 7), type := 3, pos := "seek.go:46", after := #[], guard := none }) (v := ?_) rfl (by kernel_rfl) (by kernel_rfl) (by kernel_rfl) (fun _ _ _ h => h) (Or.inl ⟨by rfl, ?_⟩) (by assumption) ?_
        rotate_left 1
        · intro w hSw; (try dsimp only at hSw); go_simp; try with_reducible rfl
        try simp only [Act.put, List.setIfInBounds_toArray, List.set_cons_zero, List.set_cons_succ]
        refine wpAnyH_take (i := 2) (oi := { dst := some 18, op := Go.Op.binOp Go.BinOp.sub 3 (Go.Operand.tmp 17) (Go.Operand.const (Go.Value.int Go.IntKind.i64 1)) 3, type := 3, pos := "seek.go:46", after := #[{ on := 1, ground := Go.Ground.data }], guard := none }) (v := ?_) rfl (by kernel_rfl) (by kernel_rfl) (by kernel_rfl) (fun _ _ _ h => h) (Or.inl ⟨by rfl, ?_⟩) (by assumption) ?_
        rotate_left 1
        · intro w hSw; (try dsimp only at hSw); go_simp; try with_reducible rfl
        try simp only [Act.put, List.setIfInBounds_toArray, List.set_cons_zero, List.set_cons_succ]
        refine wpAnyH_take (i := 3) (oi := { dst := some 19, op := Go.Op.indexAddr 56 (Go.Operand.tmp 16) (Go.Operand.tmp 18), type := 0, pos := "seek.go:46", after := #[{ on := 0, ground := Go.Ground.data }, { on := 2, ground := Go.Ground.data }], guard := none }) (v := ?_) rfl (by kernel_rfl) (by kernel_rfl) (by kernel_rfl) (fun _ _ _ h => h) (Or.inl ⟨by rfl, ?_⟩) (by assumption) ?_
        rotate_left 1
        · intro w hSw; (try dsimp only at hSw); go_simp; try with_reducible rfl
        try simp only [Act.put, List.setIfInBounds_toArray, List.set_cons_zero, List.set_cons_succ]
        refine wpAnyH_take (i := 4) (oi := { dst := some 20, op := Go.Op.load 59 (Go.Operand.tmp 19), type := 59, pos := "seek.go:46", after := #[{ on := 3, ground := Go.Ground.data }], guard := none }) (v := ?_) rfl (by kernel_rfl) (by kernel_rfl) (by kernel_rfl) (fun _ _ _ h => h) (Or.inl ⟨by rfl, ?_⟩) (by assumption) ?_
        rotate_left 1
        · intro w hSw; (try dsimp only at hSw); go_simp; try with_reducible rfl
        try simp only [Act.put, List.setIfInBounds_toArray, List.set_cons_zero, List.set_cons_succ]
        refine wpAnyH_take (i := 5) (oi := { dst := some 21, op := Go.Op.move (Go.Operand.tmp 0), type := 56, pos := "seek.go:46", after := #[], guard := none }) (v := ?_) rfl (by kernel_rfl) (by kernel_rfl) (by kernel_rfl) (fun _ _ _ h => h) (Or.inl ⟨by rfl, ?_⟩) (by assumption) ?_
        rotate_left 1
        · intro w hSw; (try dsimp only at hSw); go_simp; try with_reducible rfl
        try simp only [Act.put, List.setIfInBounds_toArray, List.set_cons_zero, List.set_cons_succ]
        refine wpAnyH_take (i := 6) (oi := { dst := some 22, op := Go.Op.move (Go.Operand.tmp 7), type := 3, pos := "seek.go:46", after := #[], guard := none }) (v := ?_) rfl (by kernel_rfl) (by kernel_rfl) (by kernel_rfl) (fun _ _ _ h => h) (Or.inl ⟨by rfl, ?_⟩) (by assumption) ?_
        rotate_left 1
        · intro w hSw; (try dsimp only at hSw); go_simp; try with_reducible rfl
        try simp only [Act.put, List.setIfInBounds_toArray, List.set_cons_zero, List.set_cons_succ]
        refine wpAnyH_take (i := 7) (oi := { dst := some 23, op := Go.Op.indexAddr 56 (Go.Operand.tmp 21) (Go.Operand.tmp 22), type := 0, pos := "seek.go:46", after := #[{ on := 5, ground := Go.Ground.data }, { on := 6, ground := Go.Ground.data }], guard := none }) (v := ?_) rfl (by kernel_rfl) (by kernel_rfl) (by kernel_rfl) (fun _ _ _ h => h) (Or.inl ⟨by rfl, ?_⟩) (by assumption) ?_
        rotate_left 1
        · intro w hSw; (try dsimp only at hSw); go_simp; try with_reducible rfl
        try simp only [Act.put, List.setIfInBounds_toArray, List.set_cons_zero, List.set_cons_succ]
        refine wpAnyH_take (i := 8) (oi := { dst := some 24, op := Go.Op.load 59 (Go.Operand.tmp 23), type := 59, pos := "seek.go:46", after := #[{ on := 7, ground := Go.Ground.data }], guard := none }) (v := ?_) rfl (by kernel_rfl) (by kernel_rfl) (by kernel_rfl) (fun _ _ _ h => h) (Or.inl ⟨by rfl, ?_⟩) (by assumption) ?_
        rotate_left 1
        · intro w hSw; (try dsimp only at hSw); go_simp; try with_reducible rfl
        try simp only [Act.put, List.setIfInBounds_toArray, List.set_cons_zero, List.set_cons_succ]
        refine wpAnyH_ready (rs := [9]) (by kernel_rfl) (by simp) ?_
        refine AllReadyH.cons (o := { dst := some 25, op := Go.Op.call { callee := Go.Callee.value (Go.Operand.func 79), args := #[Go.Operand.tmp 20, Go.Operand.tmp 24], argTypes := #[59, 59] }, type := 3, pos := "seek.go:46", after := #[{ on := 4, ground := Go.Ground.data }, { on := 8, ground := Go.Ground.data }], guard := none }) rfl (fun K hK => ?_) (AllReadyH.nil)
        go_simp
        go_at_call 79
        with_reducible refine HC.out.mono ?_
        rintro e w2 ⟨rfl, hb2⟩
        have hb2' : Below wr.heap.size wr w2 := below_undrew hb2
        have t0 : w2.cell? ⟨b, o + j * 2, none⟩ = some (.int .i64 y.1) := (hb2'.cell (p := ⟨b, o + j * 2, none⟩) (by show b < wr.heap.size; omega)).trans s0
        have t1 : w2.cell? ⟨b, o + j * 2 + 1, none⟩ = some (.int .i64 y.2) := (hb2'.cell (p := ⟨b, o + j * 2 + 1, none⟩) (by show b < wr.heap.size; omega)).trans s1
        have t2 : w2.cell? ⟨b, o + (j + 1) * 2, none⟩ = some (.int .i64 z.1) := (hb2'.cell (p := ⟨b, o + (j + 1) * 2, none⟩) (by show b < wr.heap.size; omega)).trans s2
        have t3 : w2.cell? ⟨b, o + (j + 1) * 2 + 1, none⟩ = some (.int .i64 z.2) := (hb2'.cell (p := ⟨b, o + (j + 1) * 2 + 1, none⟩) (by show b < wr.heap.size; omega)).trans s3
        have HW2 : Hid (Below B w w2 ∧ B ≤ w2.heap.size) := Lib.hid ⟨HW.out.1.trans (hb2'.mono HW.out.2), by have := hb2'.size; have := HW.out.2; omega⟩
        clear hb2 hb2'
        dsimp only
        refine hK.out _ _ ⟨t0, t1, t2, t3⟩ (fun hHeld => ?_)
        clear hK K
        try simp only [Act.put, List.setIfInBounds_toArray, List.set_cons_zero, List.set_cons_succ]
        refine wpAnyH_take (i := 10) (oi := { dst := some 26, op := Go.Op.binOp Go.BinOp.geq 3 (Go.Operand.tmp 25) (Go.Operand.const (Go.Value.int Go.IntKind.i64 0)) 3, type := 4, pos := "seek.go:46", after := #[{ on := 9, ground := Go.Ground.data }], guard := none }) (v := ?_) rfl (by kernel_rfl) (by kernel_rfl) (by kernel_rfl) (fun _ _ _ h => h) (Or.inl ⟨by rfl, ?_⟩) (by assumption) ?_
        rotate_left 1
        · intro w hSw; (try dsimp only at hSw); go_simp; try with_reducible rfl
        try simp only [Act.put, List.setIfInBounds_toArray, List.set_cons_zero, List.set_cons_succ]
        refine wpAnyH_done (by kernel_rfl) ?_ _
        go_wp2
        rw [HQ.out]
        go_ret3
        exact ⟨rfl, HW2.out.1⟩
    · have HN : Hid (badP x = false) := Lib.hid (by rw [HE.out, badP_end (by omega)])
      rename World => w3
      have HF : Hid (∀ k, findP t x = findP t (x.drop k) → R = match findP t (x.drop k) with | some v => (v, true, 0) | none => (0, false, 0)) := Lib.hid (fun k hk => by rw [← HR.out]; unfold seekA; rw [HN.out, hk]; rfl)
      clear HE
      go_wp2
      go_loopw [29] (fun i wr => ∃ k : Nat, i = .int .i64 k ∧ k ≤ x.length ∧ Hid (findP t x = findP t (x.drop k)) ∧ Hid (Below B w wr ∧ B ≤ wr.heap.size)) (fun i _ => x.length - (intOf i).toNat)
      case atStart => exact ⟨0, rfl, Nat.zero_le _, Lib.hid rfl, HW⟩
      case round =>
        obtain ⟨k, rfl, hk, HE, HW⟩ := hrel
        by_cases hlt2 : k < x.length
        · obtain ⟨b, o, hA, hb, vs, hvl, rfl, h1⟩ := (HX.out.keep prK HW.out.1 (Nat.le_refl _)).row k hlt2
          subst hA
          have HD : Hid (findP t (x.drop k) = if t ≤ x[k].1 then some x[k].2 else findP t (x.drop (k + 1))) := Lib.hid (findP_at t hlt2)
          obtain ⟨y, hy⟩ : ∃ y, x[k] = y := ⟨_, rfl⟩
          rw [hy] at h1 HD
          have s0 : wr.cell? ⟨b, o + k * 2, none⟩ = some (.int .i64 y.1) := h1 0 _ rfl
          have s1 : wr.cell? ⟨b, o + k * 2 + 1, none⟩ = some (.int .i64 y.2) := h1 1 _ rfl
          have HB1 : Hid (Below B w (wr.alloc (.cells #[.int .i64 y.1, .int .i64 y.2] 59)) ∧ B ≤ (wr.alloc (.cells #[.int .i64 y.1, .int .i64 y.2] 59)).heap.size) := Lib.hid ⟨HW.out.1.alloc HW.out.2 _, by rw [alloc_size]; have := HW.out.2; omega⟩
          clear h1 hy hvl hb
          by_cases ht : t ≤ y.1
          · have d1 : decide (t ≤ y.1) = true := decide_eq_true ht
            have HQ : Hid (R = (y.2, true, 0)) := Lib.hid (by rw [HF.out k HE.out, HD.out, if_pos ht])
            clear ht HE HD
            go_wp2
            go_ret3
            rw [HQ.out]
            exact ⟨rfl, HB1.out.1⟩
          · have d1 : decide (t ≤ y.1) = false := decide_eq_false ht
            have HE2 : Hid (findP t x = findP t (x.drop (k + 1))) := Lib.hid (by rw [HE.out, HD.out, if_neg ht])
            clear ht HE HD
            go_wp2
            go_roundw
            case rel => exact ⟨k + 1, by go_num, by omega, HE2, HB1⟩
            case measure => simp [intOf]; omega
        · have HQ : Hid (R = (0, false, 0)) := Lib.hid (by rw [HF.out k HE.out, findP_end t (by omega)])
          clear HE
          go_wp2
          go_ret3
          rw [HQ.out]
          exact ⟨rfl, HW.out.1⟩

set_option maxRecDepth 100000 in
set_option maxHeartbeats 8000000 in
theorem rseek_any {w : World} {A : Option Addr} {c : Nat} {x : List Pr} (t : Int) (hx : Els 2 PrE w w.heap.size A x) (hn : x.length ≤ 140737488355328) :
    Calls Try.prog 36 #[.slice A x.length c, .int .i64 t] w fun e w' => e = .returned (.tuple #[.int .i64 (seekA x t).1, .bool (seekA x t).2.1, .int .i64 (seekA x t).2.2]) ∧ Below w.heap.size w w' := by
  obtain ⟨B, hB⟩ : ∃ B, w.heap.size = B := ⟨_, rfl⟩
  have HX := Lib.hid hx
  have HB := Lib.hid hB
  rw [hB] at HX ⊢
  obtain ⟨R, hR⟩ : ∃ R, seekA x t = R := ⟨_, rfl⟩
  have HR := Lib.hid hR
  rw [hR]
  clear hx hB hR
  go_enter Try.func36, Try.ntmps36
  go_wp2
  go_loopw [7] (fun i wr => ∃ j : Nat, i = .int .i64 ((j + 1 : Nat) : Int) ∧ j ≤ x.length ∧ Hid (badP x = badP (x.drop j)) ∧ Hid (Below B w wr ∧ B ≤ wr.heap.size)) (fun i _ => x.length + 1 - (intOf i).toNat)
  case atStart => exact ⟨0, rfl, Nat.zero_le _, Lib.hid rfl, Lib.hid ⟨Below.refl _ _, by rw [HB.out]; exact Nat.le_refl _⟩⟩
  case round =>
    obtain ⟨j, rfl, hj, HE, HW⟩ := hrel
    have hsub : IntKind.i64.wrap (((j + 1 : Nat) : Int) - 1) = (j : Int) := by rw [IntKind.wrap_i64]; omega
    by_cases hlt : j + 1 < x.length
    · obtain ⟨b, o, hA, hb, vs, hvl, rfl, h1⟩ := (HX.out.keep prK HW.out.1 (Nat.le_refl _)).row j (by omega)
      obtain ⟨b', o', hA', _, vs', hvl', rfl, h2⟩ := (HX.out.keep prK HW.out.1 (Nat.le_refl _)).row (j + 1) hlt
      subst hA
      injection hA' with hA'; injection hA' with e1 e2; subst e1; subst e2
      have HD : Hid (badP (x.drop j) = (!ltB x[j] x[j + 1] || badP (x.drop (j + 1)))) := Lib.hid (badP_two hlt)
      have hbw : b < wr.heap.size := by have := HW.out.2; omega
      obtain ⟨y, hy⟩ : ∃ y, x[j]'(by omega) = y := ⟨_, rfl⟩
      obtain ⟨z, hz⟩ : ∃ z, x[j + 1] = z := ⟨_, rfl⟩
      rw [hy] at h1 HD
      rw [hz] at h2 HD
      have s0 : wr.cell? ⟨b, o + j * 2, none⟩ = some (.int .i64 y.1) := h1 0 _ rfl
      have s1 : wr.cell? ⟨b, o + j * 2 + 1, none⟩ = some (.int .i64 y.2) := h1 1 _ rfl
      have s2 : wr.cell? ⟨b, o + (j + 1) * 2, none⟩ = some (.int .i64 z.1) := h2 0 _ rfl
      have s3 : wr.cell? ⟨b, o + (j + 1) * 2 + 1, none⟩ = some (.int .i64 z.2) := h2 1 _ rfl
      have HC := Lib.hid (less_any wr.drew y z)
      unfold prV at HC
      have p0 : (0 : Int) ≤ (j : Int) := by omega
      have p1 : (j : Int) < (x.length : Int) := by omega
      have p2 : (0 : Int) ≤ (j : Int) + 1 := by omega
      have p3 : (j : Int) + 1 < (x.length : Int) := by omega
      have hwj : IntKind.i64.wrap (j : Int) = (j : Int) := by rw [IntKind.wrap_i64]; omega
      clear h1 h2 hy hz hvl hvl' hb
      cases hq : ltB y z with
      | true =>
        have HE2 : Hid (badP x = badP (x.drop (j + 1))) := Lib.hid (by rw [HE.out, HD.out, hq]; rfl)
        rw [hq] at HC
        clear HE HD hq
        go_wp2_with fail
        refine wp_region_held_drew (S := (fun w' => w'.cell? ⟨b, o + j * 2, none⟩ = some (.int .i64 y.1) ∧ w'.cell? ⟨b, o + j * 2 + 1, none⟩ = some (.int .i64 y.2) ∧ w'.cell? ⟨b, o + (j + 1) * 2, none⟩ = some (.int .i64 z.1) ∧ w'.cell? ⟨b, o + (j + 1) * 2 + 1, none⟩ = some (.int .i64 z.2))) (by kernel_rfl) ⟨s0, s1, s2, s3⟩ (fun hHeld => ?_)
        refine wpAnyH_take (i := 0) (oi := { dst := some 15, op := Go.Op.move (Go.Operand.tmp 0), type := 56, pos := "ref.go:334", after := #[], guard := none }) (v := ?_) rfl (by kernel_rfl) (by kernel_rfl) (by kernel_rfl) (fun _ _ _ h => h) (Or.inl ⟨by rfl, ?_⟩) (by assumption) ?_
        rotate_left 1
        · intro w hSw; (try dsimp only at hSw); go_simp; try with_reducible rfl
        try simp only [Act.put, List.setIfInBounds_toArray, List.set_cons_zero, List.set_cons_succ]
        refine wpAnyH_take (i := 1) (oi := { dst := some 16, op := Go.Op.move (Go.Operand.tmp 7), type := 3, pos := "ref.go:334", after := #[], guard := none }) (v := ?_) rfl (by kernel_rfl) (by kernel_rfl) (by kernel_rfl) (fun _ _ _ h => h) (Or.inl ⟨by rfl, ?_⟩) (by assumption) ?_
        rotate_left 1
        · intro w hSw; (try dsimp only at hSw); go_simp; try with_reducible rfl
        try simp only [Act.put, List.setIfInBounds_toArray, List.set_cons_zero, List.set_cons_succ]
        refine wpAnyH_take (i := 2) (oi := { dst := some 17, op := Go.Op.binOp Go.BinOp.sub 3 (Go.Operand.tmp 16) (Go.Operand.const (Go.Value.int Go.IntKind.i64 1)) 3, type := 3, pos := "ref.go:334", after := #[{ on := 1, ground := Go.Ground.data }], guard := none }) (v := ?_) rfl (by kernel_rfl) (by kernel_rfl) (by kernel_rfl) (fun _ _ _ h => h) (Or.inl ⟨by rfl, ?_⟩) (by assumption) ?_
        rotate_left 1
        · intro w hSw; (try dsimp only at hSw); go_simp; try with_reducible rfl
        try simp only [Act.put, List.setIfInBounds_toArray, List.set_cons_zero, List.set_cons_succ]
        refine wpAnyH_take (i := 3) (oi := { dst := some 18, op := Go.Op.indexAddr 56 (Go.Operand.tmp 15) (Go.Operand.tmp 17), type := 0, pos := "ref.go:334", after := #[{ on := 0, ground := Go.Ground.data }, { on := 2, ground := Go.Ground.data }], guard := none }) (v := ?_) rfl (by kernel_rfl) (by kernel_rfl) (by kernel_rfl) (fun _ _ _ h => h) (Or.inl ⟨by rfl, ?_⟩) (by assumption) ?_
        rotate_left 1
        · intro w hSw; (try dsimp only at hSw); go_simp; try with_reducible rfl
        try simp only [Act.put, List.setIfInBounds_toArray, List.set_cons_zero, List.set_cons_succ]
        refine wpAnyH_take (i := 4) (oi := { dst := some 19, op := Go.Op.load 59 (Go.Operand.tmp 18), type := 59, pos := "ref.go:334", after := #[{ on := 3, ground := Go.Ground.data }], guard := none }) (v := ?_) rfl (by kernel_rfl) (by kernel_rfl) (by kernel_rfl) (fun _ _ _ h => h) (Or.inl ⟨by rfl, ?_⟩) (by assumption) ?_
        rotate_left 1
        · intro w hSw; (try dsimp only at hSw); go_simp; try with_reducible rfl
        try simp only [Act.put, List.setIfInBounds_toArray, List.set_cons_zero, List.set_cons_succ]
        refine wpAnyH_take (i := 5) (oi := { dst := some 20, op := Go.Op.move (Go.Operand.tmp 0), type := 56, pos := "ref.go:334", after := #[], guard := none }) (v := ?_) rfl (by kernel_rfl) (by kernel_rfl) (by kernel_rfl) (fun _ _ _ h => h) (Or.inl ⟨by rfl, ?_⟩) (by assumption) ?_
        rotate_left 1
        · intro w hSw; (try dsimp only at hSw); go_simp; try with_reducible rfl
        try simp only [Act.put, List.setIfInBounds_toArray, List.set_cons_zero, List.set_cons_succ]
        refine wpAnyH_take (i := 6) (oi := { dst := some 21, op := Go.Op.move (Go.Operand.tmp 7), type := 3, pos := "ref.go:334", after := #[], guard := none }) (v := ?_) rfl (by kernel_rfl) (by kernel_rfl) (by kernel_rfl) (fun _ _ _ h => h) (Or.inl ⟨by rfl, ?_⟩) (by assumption) ?_
        rotate_left 1
        · intro w hSw; (try dsimp only at hSw); go_simp; try with_reducible rfl
        try simp only [Act.put, List.setIfInBounds_toArray, List.set_cons_zero, List.set_cons_succ]
        refine wpAnyH_take (i := 7) (oi := { dst := some 22, op := Go.Op.indexAddr 56 (Go.Operand.tmp 20) (Go.Operand.tmp 21), type := 0, pos := "ref.go:334", after := #[{ on := 5, ground := Go.Ground.data }, { on := 6, ground := Go.Ground.data }], guard := none }) (v := ?_) rfl (by kernel_rfl) (by kernel_rfl) (by kernel_rfl) (fun _ _ _ h => h) (Or.inl ⟨by rfl, ?_⟩) (by assumption) ?_
        rotate_left 1
        · intro w hSw; (try dsimp only at hSw); go_simp; try with_reducible rfl
        try simp only [Act.put, List.setIfInBounds_toArray, List.set_cons_zero, List.set_cons_succ]
        refine wpAnyH_take (i := 8) (oi := { dst := some 23, op := Go.Op.load 59 (Go.Operand.tmp 22), type := 59, pos := "ref.go:334", after := #[{ on := 7, ground := Go.Ground.data }], guard := none }) (v := ?_) rfl (by kernel_rfl) (by kernel_rfl) (by kernel_rfl) (fun _ _ _ h => h) (Or.inl ⟨by rfl, ?_⟩) (by assumption) ?_
        rotate_left 1
        · intro w hSw; (try dsimp only at hSw); go_simp; try with_reducible rfl
        try simp only [Act.put, List.setIfInBounds_toArray, List.set_cons_zero, List.set_cons_succ]
        refine wpAnyH_ready (rs := [9]) (by kernel_rfl) (by simp) ?_
        refine AllReadyH.cons (o := { dst := some 24, op := Go.Op.call { callee := Go.Callee.value (Go.Operand.func 80), args := #[Go.Operand.tmp 19, Go.Operand.tmp 23], argTypes := #[59, 59] }, type := 4, pos := "ref.go:334", after := #[{ on := 4, ground := Go.Ground.data }, { on := 8, ground := Go.Ground.data }], guard := none }) rfl (fun K hK => ?_) (AllReadyH.nil)
        go_simp
        go_at_call 80
        with_reducible refine HC.out.mono ?_
        rintro e w2 ⟨rfl, hb2⟩
        have hb2' : Below wr.heap.size wr w2 := below_undrew hb2
        have t0 : w2.cell? ⟨b, o + j * 2, none⟩ = some (.int .i64 y.1) := (hb2'.cell (p := ⟨b, o + j * 2, none⟩) (by show b < wr.heap.size; omega)).trans s0
        have t1 : w2.cell? ⟨b, o + j * 2 + 1, none⟩ = some (.int .i64 y.2) := (hb2'.cell (p := ⟨b, o + j * 2 + 1, none⟩) (by show b < wr.heap.size; omega)).trans s1
        have t2 : w2.cell? ⟨b, o + (j + 1) * 2, none⟩ = some (.int .i64 z.1) := (hb2'.cell (p := ⟨b, o + (j + 1) * 2, none⟩) (by show b < wr.heap.size; omega)).trans s2
        have t3 : w2.cell? ⟨b, o + (j + 1) * 2 + 1, none⟩ = some (.int .i64 z.2) := (hb2'.cell (p := ⟨b, o + (j + 1) * 2 + 1, none⟩) (by show b < wr.heap.size; omega)).trans s3
        have HW2 : Hid (Below B w w2 ∧ B ≤ w2.heap.size) := Lib.hid ⟨HW.out.1.trans (hb2'.mono HW.out.2), by have := hb2'.size; have := HW.out.2; omega⟩
        clear hb2 hb2'
        dsimp only
        refine hK.out _ _ ⟨t0, t1, t2, t3⟩ (fun hHeld => ?_)
        clear hK K
        try simp only [Act.put, List.setIfInBounds_toArray, List.set_cons_zero, List.set_cons_succ]
        refine wpAnyH_take (i := 10) (oi := { dst := some 25, op := Go.Op.unOp Go.UnOp.not 4 (Go.Operand.tmp 24), type := 4, pos := "ref.go:334", after := #[{ on := 9, ground := Go.Ground.data }], guard := none }) (v := ?_) rfl (by kernel_rfl) (by kernel_rfl) (by kernel_rfl) (fun _ _ _ h => h) (Or.inl ⟨by rfl, ?_⟩) (by assumption) ?_
        rotate_left 1
        · intro w hSw; (try dsimp only at hSw); go_simp; try with_reducible rfl
        try simp only [Act.put, List.setIfInBounds_toArray, List.set_cons_zero, List.set_cons_succ]
        refine wpAnyH_done (by kernel_rfl) ?_ _
        go_wp2
        go_roundw
        case rel => exact ⟨j + 1, by go_num, by omega, HE2, HW2⟩
        case measure => simp [intOf]; omega
      | false =>
        have HQ : Hid (R = (0, false, 1)) := Lib.hid (by rw [← HR.out]; unfold seekA; rw [HE.out, HD.out, hq]; rfl)
        rw [hq] at HC
        clear HE HD hq
        go_wp2_with fail
        refine wp_region_held_drew (S := (fun w' => w'.cell? ⟨b, o + j * 2, none⟩ = some (.int .i64 y.1) ∧ w'.cell? ⟨b, o + j * 2 + 1, none⟩ = some (.int .i64 y.2) ∧ w'.cell? ⟨b, o + (j + 1) * 2, none⟩ = some (.int .i64 z.1) ∧ w'.cell? ⟨b, o + (j + 1) * 2 + 1, none⟩ = some (.int .i64 z.2))) (by kernel_rfl) ⟨s0, s1, s2, s3⟩ (fun hHeld => ?_)
        refine wpAnyH_take (i := 0) (oi := { dst := some 15, op := Go.Op.move (Go.Operand.tmp 0), type := 56, pos := "ref.go:334", after := #[], guard := none }) (v := ?_) rfl (by kernel_rfl) (by kernel_rfl) (by kernel_rfl) (fun _ _ _ h => h) (Or.inl ⟨by rfl, ?_⟩) (by assumption) ?_
        rotate_left 1
        · intro w hSw; (try dsimp only at hSw); go_simp; try with_reducible rfl
        try simp only [Act.put, List.setIfInBounds_toArray, List.set_cons_zero, List.set_cons_succ]
        refine wpAnyH_take (i := 1) (oi := { dst := some 16, op := Go.Op.move (Go.Operand.tmp 7), type := 3, pos := "ref.go:334", after := #[], guard := none }) (v := ?_) rfl (by kernel_rfl) (by kernel_rfl) (by kernel_rfl) (fun _ _ _ h => h) (Or.inl ⟨by rfl, ?_⟩) (by assumption) ?_
        rotate_left 1
        · intro w hSw; (try dsimp only at hSw); go_simp; try with_reducible rfl
        try simp only [Act.put, List.setIfInBounds_toArray, List.set_cons_zero, List.set_cons_succ]
        refine wpAnyH_take (i := 2) (oi := { dst := some 17, op := Go.Op.binOp Go.BinOp.sub 3 (Go.Operand.tmp 16) (Go.Operand.const (Go.Value.int Go.IntKind.i64 1)) 3, type := 3, pos := "ref.go:334", after := #[{ on := 1, ground := Go.Ground.data }], guard := none }) (v := ?_) rfl (by kernel_rfl) (by kernel_rfl) (by kernel_rfl) (fun _ _ _ h => h) (Or.inl ⟨by rfl, ?_⟩) (by assumption) ?_
        rotate_left 1
        · intro w hSw; (try dsimp only at hSw); go_simp; try with_reducible rfl
        try simp only [Act.put, List.setIfInBounds_toArray, List.set_cons_zero, List.set_cons_succ]
        refine wpAnyH_take (i := 3) (oi := { dst := some 18, op := Go.Op.indexAddr 56 (Go.Operand.tmp 15) (Go.Operand.tmp 17), type := 0, pos := "ref.go:334", after := #[{ on := 0, ground := Go.Ground.data }, { on := 2, ground := Go.Ground.data }], guard := none }) (v := ?_) rfl (by kernel_rfl) (by kernel_rfl) (by kernel_rfl) (fun _ _ _ h => h) (Or.inl ⟨by rfl, ?_⟩) (by assumption) ?_
        rotate_left 1
        · intro w hSw; (try dsimp only at hSw); go_simp; try with_reducible rfl
        try simp only [Act.put, List.setIfInBounds_toArray, List.set_cons_zero, List.set_cons_succ]
        refine wpAnyH_take (i := 4) (oi := { dst := some 19, op := Go.Op.load 59 (Go.Operand.tmp 18), type := 59, pos := "ref.go:334", after := #[{ on := 3, ground := Go.Ground.data }], guard := none }) (v := ?_) rfl (by kernel_rfl) (by kernel_rfl) (by kernel_rfl) (fun _ _ _ h => h) (Or.inl ⟨by rfl, ?_⟩) (by assumption) ?_
        rotate_left 1
        · intro w hSw; (try dsimp only at hSw); go_simp; try with_reducible rfl
        try simp only [Act.put, List.setIfInBounds_toArray, List.set_cons_zero, List.set_cons_succ]
        refine wpAnyH_take (i := 5) (oi := { dst := some 20, op := Go.Op.move (Go.Operand.tmp 0), type := 56, pos := "ref.go:334", after := #[], guard := none }) (v := ?_) rfl (by kernel_rfl) (by kernel_rfl) (by kernel_rfl) (fun _ _ _ h => h) (Or.inl ⟨by rfl, ?_⟩) (by assumption) ?_
        rotate_left 1
        · intro w hSw; (try dsimp only at hSw); go_simp; try with_reducible rfl
        try simp only [Act.put, List.setIfInBounds_toArray, List.set_cons_zero, List.set_cons_succ]
        refine wpAnyH_take (i := 6) (oi := { dst := some 21, op := Go.Op.move (Go.Operand.tmp 7), type := 3, pos := "ref.go:334", after := #[], guard := none }) (v := ?_) rfl (by kernel_rfl) (by kernel_rfl) (by kernel_rfl) (fun _ _ _ h => h) (Or.inl ⟨by rfl, ?_⟩) (by assumption) ?_
        rotate_left 1
        · intro w hSw; (try dsimp only at hSw); go_simp; try with_reducible rfl
        try simp only [Act.put, List.setIfInBounds_toArray, List.set_cons_zero, List.set_cons_succ]
        refine wpAnyH_take (i := 7) (oi := { dst := some 22, op := Go.Op.indexAddr 56 (Go.Operand.tmp 20) (Go.Operand.tmp 21), type := 0, pos := "ref.go:334", after := #[{ on := 5, ground := Go.Ground.data }, { on := 6, ground := Go.Ground.data }], guard := none }) (v := ?_) rfl (by kernel_rfl) (by kernel_rfl) (by kernel_rfl) (fun _ _ _ h => h) (Or.inl ⟨by rfl, ?_⟩) (by assumption) ?_
        rotate_left 1
        · intro w hSw; (try dsimp only at hSw); go_simp; try with_reducible rfl
        try simp only [Act.put, List.setIfInBounds_toArray, List.set_cons_zero, List.set_cons_succ]
        refine wpAnyH_take (i := 8) (oi := { dst := some 23, op := Go.Op.load 59 (Go.Operand.tmp 22), type := 59, pos := "ref.go:334", after := #[{ on := 7, ground := Go.Ground.data }], guard := none }) (v := ?_) rfl (by kernel_rfl) (by kernel_rfl) (by kernel_rfl) (fun _ _ _ h => h) (Or.inl ⟨by rfl, ?_⟩) (by assumption) ?_
        rotate_left 1
        · intro w hSw; (try dsimp only at hSw); go_simp; try with_reducible rfl
        try simp only [Act.put, List.setIfInBounds_toArray, List.set_cons_zero, List.set_cons_succ]
        refine wpAnyH_ready (rs := [9]) (by kernel_rfl) (by simp) ?_
        refine AllReadyH.cons (o := { dst := some 24, op := Go.Op.call { callee := Go.Callee.value (Go.Operand.func 80), args := #[Go.Operand.tmp 19, Go.Operand.tmp 23], argTypes := #[59, 59] }, type := 4, pos := "ref.go:334", after := #[{ on := 4, ground := Go.Ground.data }, { on := 8, ground := Go.Ground.data }], guard := none }) rfl (fun K hK => ?_) (AllReadyH.nil)
        go_simp
        go_at_call 80
        with_reducible refine HC.out.mono ?_
        rintro e w2 ⟨rfl, hb2⟩
        have hb2' : Below wr.heap.size wr w2 := below_undrew hb2
        have t0 : w2.cell? ⟨b, o + j * 2, none⟩ = some (.int .i64 y.1) := (hb2'.cell (p := ⟨b, o + j * 2, none⟩) (by show b < wr.heap.size; omega)).trans s0
        have t1 : w2.cell? ⟨b, o + j * 2 + 1, none⟩ = some (.int .i64 y.2) := (hb2'.cell (p := ⟨b, o + j * 2 + 1, none⟩) (by show b < wr.heap.size; omega)).trans s1
        have t2 : w2.cell? ⟨b, o + (j + 1) * 2, none⟩ = some (.int .i64 z.1) := (hb2'.cell (p := ⟨b, o + (j + 1) * 2, none⟩) (by show b < wr.heap.size; omega)).trans s2
        have t3 : w2.cell? ⟨b, o + (j + 1) * 2 + 1, none⟩ = some (.int .i64 z.2) := (hb2'.cell (p := ⟨b, o + (j + 1) * 2 + 1, none⟩) (by show b < wr.heap.size; omega)).trans s3
        have HW2 : Hid (Below B w w2 ∧ B ≤ w2.heap.size) := Lib.hid ⟨HW.out.1.trans (hb2'.mono HW.out.2), by have := hb2'.size; have := HW.out.2; omega⟩
        clear hb2 hb2'
        dsimp only
        refine hK.out _ _ ⟨t0, t1, t2, t3⟩ (fun hHeld => ?_)
        clear hK K
        try simp only [Act.put, List.setIfInBounds_toArray, List.set_cons_zero, List.set_cons_succ]
        refine wpAnyH_take (i := 10) (oi := { dst := some 25, op := Go.Op.unOp Go.UnOp.not 4 (Go.Operand.tmp 24), type := 4, pos := "ref.go:334", after := #[{ on := 9, ground := Go.Ground.data }], guard := none }) (v := ?_) rfl (by kernel_rfl) (by kernel_rfl) (by kernel_rfl) (fun _ _ _ h => h) (Or.inl ⟨by rfl, ?_⟩) (by assumption) ?_
        rotate_left 1
        · intro w hSw; (try dsimp only at hSw); go_simp; try with_reducible rfl
        try simp only [Act.put, List.setIfInBounds_toArray, List.set_cons_zero, List.set_cons_succ]
        refine wpAnyH_done (by kernel_rfl) ?_ _
        go_wp2
        rw [HQ.out]
        go_ret3
        exact ⟨rfl, HW2.out.1⟩
    · have HN : Hid (badP x = false) := Lib.hid (by rw [HE.out, badP_end (by omega)])
      rename World => w3
      have HF : Hid (∀ k, findP t x = findP t (x.drop k) → R = match findP t (x.drop k) with | some v => (v, true, 0) | none => (0, false, 0)) := Lib.hid (fun k hk => by rw [← HR.out]; unfold seekA; rw [HN.out, hk]; rfl)
      clear HE
      go_wp2
      go_loopw [8] (fun i wr => ∃ k : Nat, i = .int .i64 k ∧ k ≤ x.length ∧ Hid (findP t x = findP t (x.drop k)) ∧ Hid (Below B w wr ∧ B ≤ wr.heap.size)) (fun i _ => x.length - (intOf i).toNat)
      case atStart => exact ⟨0, rfl, Nat.zero_le _, Lib.hid rfl, HW⟩
      case round =>
        obtain ⟨k, rfl, hk, HE, HW⟩ := hrel
        by_cases hlt2 : k < x.length
        · obtain ⟨b, o, hA, hb, vs, hvl, rfl, h1⟩ := (HX.out.keep prK HW.out.1 (Nat.le_refl _)).row k hlt2
          subst hA
          have HD : Hid (findP t (x.drop k) = if t ≤ x[k].1 then some x[k].2 else findP t (x.drop (k + 1))) := Lib.hid (findP_at t hlt2)
          obtain ⟨y, hy⟩ : ∃ y, x[k] = y := ⟨_, rfl⟩
          rw [hy] at h1 HD
          have s0 : wr.cell? ⟨b, o + k * 2, none⟩ = some (.int .i64 y.1) := h1 0 _ rfl
          have s1 : wr.cell? ⟨b, o + k * 2 + 1, none⟩ = some (.int .i64 y.2) := h1 1 _ rfl
          have HB1 : Hid (Below B w wr ∧ B ≤ wr.heap.size) := Lib.hid HW.out
          clear h1 hy hvl hb
          by_cases ht : t ≤ y.1
          · have d1 : decide (t ≤ y.1) = true := decide_eq_true ht
            have HQ : Hid (R = (y.2, true, 0)) := Lib.hid (by rw [HF.out k HE.out, HD.out, if_pos ht])
            clear ht HE HD
            go_wp2
            go_ret3
            rw [HQ.out]
            exact ⟨rfl, HB1.out.1⟩
          · have d1 : decide (t ≤ y.1) = false := decide_eq_false ht
            have HE2 : Hid (findP t x = findP t (x.drop (k + 1))) := Lib.hid (by rw [HE.out, HD.out, if_neg ht])
            clear ht HE HD
            go_wp2
            go_roundw
            case rel => exact ⟨k + 1, by go_num, by omega, HE2, HB1⟩
            case measure => simp [intOf]; omega
        · have HQ : Hid (R = (0, false, 0)) := Lib.hid (by rw [HF.out k HE.out, findP_end t (by omega)])
          clear HE
          go_wp2
          go_ret3
          rw [HQ.out]
          exact ⟨rfl, HW.out.1⟩
end Go.Proofs.Ytghdilmlfficlaa
