/- compare and less at pairs. -/
import Derived.Test.YtghdilmlfficlaaSkCmp
import Derived.Test.YtghdilmlfficlaaWith
namespace Go.Proofs.Ytghdilmlfficlaa
open Go.RowKit

abbrev prV (x : Pr) : Value := .agg #[.int .i64 x.1, .int .i64 x.2]
set_option maxRecDepth 100000 in
set_option maxHeartbeats 4000000 in
theorem compare_any (w : World) (x y : Pr) : Calls Try.prog 79 #[prV x, prV y] w fun e w' => e = .returned (.int .i64 (cmpP x y)) ∧ ∃ q os, w' = Sort.grow (w.drewN q) os := by
  obtain ⟨B, hB⟩ : ∃ B, w.heap.size = B := ⟨_, rfl⟩
  obtain ⟨w0, e0, s0, g0, b0, k0⟩ := w_box hB #[.int .i64 x.1, .int .i64 x.2] 59
  obtain ⟨w1, e1, s1, g1, b1, k1⟩ := w_box s0 #[.int .i64 y.1, .int .i64 y.2] 59
  have g0' := k1 _ _ _ g0
  have HG0 := Lib.hid g0'
  have HG1 := Lib.hid g1
  have HE0 := Lib.hid e0
  have HE1 := Lib.hid e1
  have HS1 := Lib.hid s1
  have z0 := s0
  clear s0 s1
  have s0 : w1.cell? ⟨B, 0, none⟩ = some (.int .i64 x.1) := g0'.cell 0
  have s1 : w1.cell? ⟨B, 1, none⟩ = some (.int .i64 x.2) := g0'.cell 1
  have s2 : w1.cell? ⟨B + 1, 0, none⟩ = some (.int .i64 y.1) := g1.cell 0
  have s3 : w1.cell? ⟨B + 1, 1, none⟩ = some (.int .i64 y.2) := g1.cell 1
  have HN := Lib.hid (Blk.new w1 3 #[.int .i64 (cmpI x.1 y.1), .int .i64 (cmpI x.2 y.2)])
  have HOR := Lib.hid (or_any (w := (w1.alloc (.cells #[.int .i64 (cmpI x.1 y.1), .int .i64 (cmpI x.2 y.2)] 3)).drew) (g := w1.heap.size) (HN.out.cell 0) (HN.out.cell 1))
  have t0 : (w1.alloc (.cells #[.int .i64 (cmpI x.1 y.1), .int .i64 (cmpI x.2 y.2)] 3)).drew.cell? ⟨B, 0, none⟩ = some (.int .i64 x.1) := (HG0.out.alloc _).cell 0
  have t1 : (w1.alloc (.cells #[.int .i64 (cmpI x.1 y.1), .int .i64 (cmpI x.2 y.2)] 3)).drew.cell? ⟨B, 1, none⟩ = some (.int .i64 x.2) := (HG0.out.alloc _).cell 1
  have t2 : (w1.alloc (.cells #[.int .i64 (cmpI x.1 y.1), .int .i64 (cmpI x.2 y.2)] 3)).drew.cell? ⟨B + 1, 0, none⟩ = some (.int .i64 y.1) := (HG1.out.alloc _).cell 0
  have t3 : (w1.alloc (.cells #[.int .i64 (cmpI x.1 y.1), .int .i64 (cmpI x.2 y.2)] 3)).drew.cell? ⟨B + 1, 1, none⟩ = some (.int .i64 y.2) := (HG1.out.alloc _).cell 1
  have HR : Hid (cmpP x y = if cmpI x.1 y.1 ≠ 0 then cmpI x.1 y.1 else cmpI x.2 y.2) := Lib.hid rfl
  have HF : Hid (∃ q os, (w1.alloc (.cells #[.int .i64 (cmpI x.1 y.1), .int .i64 (cmpI x.2 y.2)] 3)).drew = Sort.grow (w.drewN q) os) := Lib.hid (by rw [← e1, ← e0, Sort.alloc_eq_grow, Sort.alloc_eq_grow, Sort.alloc_eq_grow, Sort.grow_grow, Sort.grow_grow]; exact ⟨1, _, rfl⟩)
  clear e0 e1 g0 g1 b0 b1 k0 k1 g0' z0
  unfold prV
  rw [HR.out]
  obtain ⟨z, hz⟩ : ∃ z, (if cmpI x.1 y.1 ≠ 0 then cmpI x.1 y.1 else cmpI x.2 y.2) = z := ⟨_, rfl⟩
  rw [hz] at HOR ⊢
  clear hz HR
  go_enter Try.func79, Try.ntmps79
  go_wp2_with fail
  rw [HE0.out, HE1.out]
  refine wp_region_held_drew (S := (fun w' => w'.cell? ⟨B, 0, none⟩ = some (.int .i64 x.1) ∧ w'.cell? ⟨B, 1, none⟩ = some (.int .i64 x.2) ∧ w'.cell? ⟨B + 1, 0, none⟩ = some (.int .i64 y.1) ∧ w'.cell? ⟨B + 1, 1, none⟩ = some (.int .i64 y.2))) (by kernel_rfl) ⟨s0, s1, s2, s3⟩ (fun hHeld => ?_)
  refine wpAnyH_take (i := 0) (oi := { dst := some 5, op := Go.Op.indexAddr 59 (Go.Operand.tmp 2) (Go.Operand.const (Go.Value.int Go.IntKind.i64 0)), type := 0, pos := "seek.go:66", after := #[], guard := none }) (v := ?_) rfl (by kernel_rfl) (by kernel_rfl) (by kernel_rfl) (fun _ _ _ h => h) (Or.inl ⟨by rfl, ?_⟩) (by assumption) ?_
  rotate_left 1
  · intro w hSw; (try dsimp only at hSw); go_simp; try with_reducible rfl
  try simp only [Act.put, List.setIfInBounds_toArray, List.set_cons_zero, List.set_cons_succ]
  refine wpAnyH_take (i := 1) (oi := { dst := some 6, op := Go.Op.load 3 (Go.Operand.tmp 5), type := 3, pos := "seek.go:66", after := #[{ on := 0, ground := Go.Ground.data }], guard := none }) (v := ?_) rfl (by kernel_rfl) (by kernel_rfl) (by kernel_rfl) (fun _ _ _ h => h) (Or.inl ⟨by rfl, ?_⟩) (by assumption) ?_
  rotate_left 1
  · intro w hSw; (try dsimp only at hSw); go_simp; try with_reducible rfl
  try simp only [Act.put, List.setIfInBounds_toArray, List.set_cons_zero, List.set_cons_succ]
  refine wpAnyH_take (i := 2) (oi := { dst := some 7, op := Go.Op.indexAddr 59 (Go.Operand.tmp 3) (Go.Operand.const (Go.Value.int Go.IntKind.i64 0)), type := 0, pos := "seek.go:66", after := #[], guard := none }) (v := ?_) rfl (by kernel_rfl) (by kernel_rfl) (by kernel_rfl) (fun _ _ _ h => h) (Or.inl ⟨by rfl, ?_⟩) (by assumption) ?_
  rotate_left 1
  · intro w hSw; (try dsimp only at hSw); go_simp; try with_reducible rfl
  try simp only [Act.put, List.setIfInBounds_toArray, List.set_cons_zero, List.set_cons_succ]
  refine wpAnyH_take (i := 3) (oi := { dst := some 8, op := Go.Op.load 3 (Go.Operand.tmp 7), type := 3, pos := "seek.go:66", after := #[{ on := 2, ground := Go.Ground.data }], guard := none }) (v := ?_) rfl (by kernel_rfl) (by kernel_rfl) (by kernel_rfl) (fun _ _ _ h => h) (Or.inl ⟨by rfl, ?_⟩) (by assumption) ?_
  rotate_left 1
  · intro w hSw; (try dsimp only at hSw); go_simp; try with_reducible rfl
  try simp only [Act.put, List.setIfInBounds_toArray, List.set_cons_zero, List.set_cons_succ]
  refine wpAnyH_take (i := 5) (oi := { dst := some 10, op := Go.Op.indexAddr 59 (Go.Operand.tmp 2) (Go.Operand.const (Go.Value.int Go.IntKind.i64 1)), type := 0, pos := "seek.go:66", after := #[], guard := none }) (v := ?_) rfl (by kernel_rfl) (by kernel_rfl) (by kernel_rfl) (fun _ _ _ h => h) (Or.inl ⟨by rfl, ?_⟩) (by assumption) ?_
  rotate_left 1
  · intro w hSw; (try dsimp only at hSw); go_simp; try with_reducible rfl
  try simp only [Act.put, List.setIfInBounds_toArray, List.set_cons_zero, List.set_cons_succ]
  refine wpAnyH_take (i := 6) (oi := { dst := some 11, op := Go.Op.load 3 (Go.Operand.tmp 10), type := 3, pos := "seek.go:66", after := #[{ on := 5, ground := Go.Ground.data }], guard := none }) (v := ?_) rfl (by kernel_rfl) (by kernel_rfl) (by kernel_rfl) (fun _ _ _ h => h) (Or.inl ⟨by rfl, ?_⟩) (by assumption) ?_
  rotate_left 1
  · intro w hSw; (try dsimp only at hSw); go_simp; try with_reducible rfl
  try simp only [Act.put, List.setIfInBounds_toArray, List.set_cons_zero, List.set_cons_succ]
  refine wpAnyH_take (i := 7) (oi := { dst := some 12, op := Go.Op.indexAddr 59 (Go.Operand.tmp 3) (Go.Operand.const (Go.Value.int Go.IntKind.i64 1)), type := 0, pos := "seek.go:66", after := #[], guard := none }) (v := ?_) rfl (by kernel_rfl) (by kernel_rfl) (by kernel_rfl) (fun _ _ _ h => h) (Or.inl ⟨by rfl, ?_⟩) (by assumption) ?_
  rotate_left 1
  · intro w hSw; (try dsimp only at hSw); go_simp; try with_reducible rfl
  try simp only [Act.put, List.setIfInBounds_toArray, List.set_cons_zero, List.set_cons_succ]
  refine wpAnyH_take (i := 8) (oi := { dst := some 13, op := Go.Op.load 3 (Go.Operand.tmp 12), type := 3, pos := "seek.go:66", after := #[{ on := 7, ground := Go.Ground.data }], guard := none }) (v := ?_) rfl (by kernel_rfl) (by kernel_rfl) (by kernel_rfl) (fun _ _ _ h => h) (Or.inl ⟨by rfl, ?_⟩) (by assumption) ?_
  rotate_left 1
  · intro w hSw; (try dsimp only at hSw); go_simp; try with_reducible rfl
  try simp only [Act.put, List.setIfInBounds_toArray, List.set_cons_zero, List.set_cons_succ]
  refine wpAnyH_ready (rs := [4]) (by kernel_rfl) (by simp) ?_
  refine AllReadyH.cons (o := { dst := some 9, op := Go.Op.call { callee := Go.Callee.value (Go.Operand.func 122), args := #[Go.Operand.tmp 6, Go.Operand.tmp 8], argTypes := #[3, 3] }, type := 3, pos := "seek.go:66", after := #[{ on := 1, ground := Go.Ground.data }, { on := 3, ground := Go.Ground.data }], guard := none }) rfl (fun K hK => ?_) (AllReadyH.nil)
  go_simp
  go_at_call 122
  with_reducible refine (cmpI_any _ x.1 y.1).mono ?_
  rintro e w2 ⟨rfl, rfl⟩
  dsimp only
  refine hK.out _ _ ⟨s0, s1, s2, s3⟩ (fun hHeld => ?_)
  clear hK K
  try simp only [Act.put, List.setIfInBounds_toArray, List.set_cons_zero, List.set_cons_succ]
  refine wpAnyH_ready (rs := [9]) (by kernel_rfl) (by simp) ?_
  refine AllReadyH.cons (o := { dst := some 14, op := Go.Op.call { callee := Go.Callee.value (Go.Operand.func 122), args := #[Go.Operand.tmp 11, Go.Operand.tmp 13], argTypes := #[3, 3] }, type := 3, pos := "seek.go:66", after := #[{ on := 6, ground := Go.Ground.data }, { on := 8, ground := Go.Ground.data }, { on := 4, ground := Go.Ground.chain }], guard := none }) rfl (fun K hK => ?_) (AllReadyH.nil)
  go_simp
  go_at_call 122
  with_reducible refine (cmpI_any _ x.2 y.2).mono ?_
  rintro e w2 ⟨rfl, rfl⟩
  dsimp only
  refine hK.out _ _ ⟨s0, s1, s2, s3⟩ (fun hHeld => ?_)
  clear hK K
  try simp only [Act.put, List.setIfInBounds_toArray, List.set_cons_zero, List.set_cons_succ]
  refine wpAnyH_ready (rs := [10]) (by kernel_rfl) (by simp) ?_
  refine AllReadyH.cons (o := { dst := some 15, op := Go.Op.buildSlice 23 2 #[(0, Go.Operand.tmp 9), (1, Go.Operand.tmp 14)], type := 23, pos := "seek.go:66", after := #[{ on := 4, ground := Go.Ground.data }, { on := 9, ground := Go.Ground.data }], guard := none }) rfl (fun K hK => ?_) (AllReadyH.nil)
  go_simp
  refine hK.out _ _ ⟨t0, t1, t2, t3⟩ (fun hHeld => ?_)
  clear hK K
  try simp only [Act.put, List.setIfInBounds_toArray, List.set_cons_zero, List.set_cons_succ]
  refine wpAnyH_ready (rs := [11]) (by kernel_rfl) (by simp) ?_
  refine AllReadyH.cons (o := { dst := some 16, op := Go.Op.call { callee := Go.Callee.value (Go.Operand.func 121), args := #[Go.Operand.tmp 15], argTypes := #[23] }, type := 3, pos := "seek.go:66", after := #[{ on := 10, ground := Go.Ground.data }, { on := 9, ground := Go.Ground.chain }], guard := none }) rfl (fun K hK => ?_) (AllReadyH.nil)
  go_simp
  go_at_call 121
  with_reducible refine HOR.out.mono ?_
  rintro e w2 ⟨rfl, rfl⟩
  dsimp only
  refine hK.out _ _ ⟨t0, t1, t2, t3⟩ (fun hHeld => ?_)
  clear hK K
  try simp only [Act.put, List.setIfInBounds_toArray, List.set_cons_zero, List.set_cons_succ]
  refine wpAnyH_take (i := 12) (oi := { dst := some 4, op := Go.Op.assign (Go.Operand.tmp 16), type := 3, pos := "seek.go:66", after := #[{ on := 11, ground := Go.Ground.data }, { on := 11, ground := Go.Ground.chain }, { on := 0, ground := Go.Ground.phase }, { on := 1, ground := Go.Ground.phase }, { on := 2, ground := Go.Ground.phase }, { on := 3, ground := Go.Ground.phase }, { on := 4, ground := Go.Ground.phase }, { on := 5, ground := Go.Ground.phase }, { on := 6, ground := Go.Ground.phase }, { on := 7, ground := Go.Ground.phase }, { on := 8, ground := Go.Ground.phase }, { on := 9, ground := Go.Ground.phase }, { on := 10, ground := Go.Ground.phase }, { on := 11, ground := Go.Ground.phase }], guard := none }) (v := ?_) rfl (by kernel_rfl) (by kernel_rfl) (by kernel_rfl) (fun _ _ _ h => h) (Or.inl ⟨by rfl, ?_⟩) (by assumption) ?_
  rotate_left 1
  · intro w hSw; (try dsimp only at hSw); go_simp; try with_reducible rfl
  try simp only [Act.put, List.setIfInBounds_toArray, List.set_cons_zero, List.set_cons_succ]
  refine wpAnyH_done (by kernel_rfl) ?_ _
  all_goals (go_wp2; go_ret; exact ⟨rfl, HF.out⟩)

set_option maxRecDepth 100000 in
set_option maxHeartbeats 4000000 in
theorem less_any (w : World) (x y : Pr) : Calls Try.prog 80 #[prV x, prV y] w fun e w' => e = .returned (.bool (ltB x y)) ∧ Below w.heap.size w w' := by
  obtain ⟨B, hB⟩ : ∃ B, w.heap.size = B := ⟨_, rfl⟩
  obtain ⟨w0, e0, s0, g0, b0, k0⟩ := w_box hB #[.int .i64 x.1, .int .i64 x.2] 59
  obtain ⟨w1, e1, s1, g1, b1, k1⟩ := w_box s0 #[.int .i64 y.1, .int .i64 y.2] 59
  have g0' := k1 _ _ _ g0
  have HB1 : Hid (Below B w w1) := Lib.hid (b0.trans (b1.mono (by omega)))
  have HE0 := Lib.hid e0
  have HE1 := Lib.hid e1
  have c0 : w1.cell? ⟨B, 0, none⟩ = some (.int .i64 x.1) := g0'.cell 0
  have c1 : w1.cell? ⟨B, 1, none⟩ = some (.int .i64 x.2) := g0'.cell 1
  have c2 : w1.cell? ⟨B + 1, 0, none⟩ = some (.int .i64 y.1) := g1.cell 0
  have c3 : w1.cell? ⟨B + 1, 1, none⟩ = some (.int .i64 y.2) := g1.cell 1
  clear e0 e1 g0 g1 b0 b1 k0 k1 g0' s0 s1
  rw [hB]
  unfold prV
  by_cases h1 : x.1 < y.1
  · have d1 : decide (x.1 < y.1) = true := decide_eq_true h1
    have HR : Hid (ltB x y = true) := Lib.hid (by rw [ltB_true]; exact Or.inl h1)
    clear h1
    go_enter Try.func80, Try.ntmps80
    go_wp2_with fail
    go_ret
    rw [HR.out, HE0.out, HE1.out]
    exact ⟨rfl, HB1.out⟩
  · have d1 : decide (x.1 < y.1) = false := decide_eq_false h1
    by_cases h2 : x.1 = y.1
    · have d2 : (x.1 == y.1) = true := by simpa using h2
      have HR : Hid (ltB x y = decide (x.2 < y.2)) := Lib.hid (by unfold ltB; simp [h2])
      clear h1 h2
      go_enter Try.func80, Try.ntmps80
      go_wp2_with fail
      go_ret
      rw [HR.out, HE0.out, HE1.out]
      exact ⟨rfl, HB1.out⟩
    · have d2 : (x.1 == y.1) = false := by simpa using h2
      have HR : Hid (ltB x y = false) := Lib.hid (by unfold ltB; simp [h1, h2])
      clear h1 h2
      go_enter Try.func80, Try.ntmps80
      go_wp2_with fail
      go_ret
      rw [HR.out, HE0.out, HE1.out]
      exact ⟨rfl, HB1.out⟩
end Go.Proofs.Ytghdilmlfficlaa
