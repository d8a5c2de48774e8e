/- same: two rows of the same captures. -/
import Derived.Test.YtghdilmlfficlaaS16
import Derived.Test.YtghdilmlfficlaaTog
namespace Go.Proofs.Ytghdilmlfficlaa
open Go.RowKit

set_option maxRecDepth 100000 in
set_option maxHeartbeats 4000000 in
theorem same_true {w : World} {A1 A2 : Option Addr} {c1 c2 : Nat} {l : List Cap} (hl1 : Els 5 CapE w w.heap.size A1 l) (hl2 : Els 5 CapE w w.heap.size A2 l) (hn : l.length ≤ 100000000000000) :
    Calls Try.prog 25 #[.slice A1 l.length c1, .slice A2 l.length c2] w fun e w' => e = .returned (.bool true) ∧ Below w.heap.size w w' := by
  obtain ⟨B, hB⟩ : ∃ B, w.heap.size = B := ⟨_, rfl⟩
  have H1 := Lib.hid hl1
  have H2 := Lib.hid hl2
  have HB := Lib.hid hB
  rw [hB] at H1 H2 ⊢
  clear hl1 hl2 hB
  have hne : ((l.length : Int) != (l.length : Int)) = false := by simp
  go_enter Try.func25, Try.ntmps25
  go_wp2
  go_loopw [5] (fun i wr => ∃ k : Nat, i = .int .i64 k ∧ k ≤ l.length ∧ Hid (Below B w wr ∧ B ≤ wr.heap.size)) (fun i _ => l.length - (intOf i).toNat)
  case atStart => exact ⟨0, rfl, Nat.zero_le _, Lib.hid ⟨Below.refl _ _, by rw [HB.out]; exact Nat.le_refl _⟩⟩
  case round =>
    obtain ⟨k, rfl, hk, HW⟩ := hrel
    by_cases hlt : k < l.length
    · obtain ⟨b1, o1, hA1, hb1, vs1, hv1, ⟨⟨pf, pcf, pn, pcn, ps, pcs, pp, pcp⟩, rfl, hc1⟩, h1⟩ := (H1.out.keep capK HW.out.1 HW.out.2).row k hlt
      obtain ⟨b2, o2, hA2, hb2, vs2, hv2, ⟨⟨qf, qcf, qn, qcn, qs, qcs, qp, qcp⟩, rfl, hc2⟩, h2⟩ := (H2.out.keep capK HW.out.1 HW.out.2).row k hlt
      subst hA1
      subst hA2
      have HC := Lib.hid (rsame_any (w := wr.drew) (hc1.keep (below_drewN (Below.refl _ _) 1) (Nat.le_refl _)) (hc2.keep (below_drewN (Below.refl _ _) 1) (Nat.le_refl _)))
      rw [eqB_true rfl] at HC
      unfold capV at HC
      obtain ⟨x, hx⟩ : ∃ x, l[k] = x := ⟨_, rfl⟩
      rw [hx] at h1 h2 HC
      have s0 : wr.cell? ⟨b1, o1 + k * 5, none⟩ = some (.string x.note) := h1 0 _ rfl
      have s1 : wr.cell? ⟨b1, o1 + k * 5 + 1, none⟩ = some (.slice pf x.faces.length pcf) := h1 1 _ rfl
      have s2 : wr.cell? ⟨b1, o1 + k * 5 + 2, none⟩ = some (.slice pn x.names.length pcn) := h1 2 _ rfl
      have s3 : wr.cell? ⟨b1, o1 + k * 5 + 3, none⟩ = some (.slice ps x.secs.length pcs) := h1 3 _ rfl
      have s4 : wr.cell? ⟨b1, o1 + k * 5 + 4, none⟩ = some (.slice pp x.pkts.length pcp) := h1 4 _ rfl
      have s5 : wr.cell? ⟨b2, o2 + k * 5, none⟩ = some (.string x.note) := h2 0 _ rfl
      have s6 : wr.cell? ⟨b2, o2 + k * 5 + 1, none⟩ = some (.slice qf x.faces.length qcf) := h2 1 _ rfl
      have s7 : wr.cell? ⟨b2, o2 + k * 5 + 2, none⟩ = some (.slice qn x.names.length qcn) := h2 2 _ rfl
      have s8 : wr.cell? ⟨b2, o2 + k * 5 + 3, none⟩ = some (.slice qs x.secs.length qcs) := h2 3 _ rfl
      have s9 : wr.cell? ⟨b2, o2 + k * 5 + 4, none⟩ = some (.slice qp x.pkts.length qcp) := h2 4 _ rfl
      clear hc1 hc2 h1 h2 hx hv1 hv2
      go_wp2_with fail
      refine wp_region_held_drew (S := (fun w' => w'.cell? ⟨b1, o1 + k * 5, none⟩ = some (.string x.note) ∧ w'.cell? ⟨b1, o1 + k * 5 + 1, none⟩ = some (.slice pf x.faces.length pcf) ∧ w'.cell? ⟨b1, o1 + k * 5 + 2, none⟩ = some (.slice pn x.names.length pcn) ∧ w'.cell? ⟨b1, o1 + k * 5 + 3, none⟩ = some (.slice ps x.secs.length pcs) ∧ w'.cell? ⟨b1, o1 + k * 5 + 4, none⟩ = some (.slice pp x.pkts.length pcp) ∧ w'.cell? ⟨b2, o2 + k * 5, none⟩ = some (.string x.note) ∧ w'.cell? ⟨b2, o2 + k * 5 + 1, none⟩ = some (.slice qf x.faces.length qcf) ∧ w'.cell? ⟨b2, o2 + k * 5 + 2, none⟩ = some (.slice qn x.names.length qcn) ∧ w'.cell? ⟨b2, o2 + k * 5 + 3, none⟩ = some (.slice qs x.secs.length qcs) ∧ w'.cell? ⟨b2, o2 + k * 5 + 4, none⟩ = some (.slice qp x.pkts.length qcp))) (by kernel_rfl) ⟨s0, s1, s2, s3, s4, s5, s6, s7, s8, s9⟩ (fun hHeld => ?_)
      refine wpAnyH_take (i := 0) (oi := { dst := some 17, op := Go.Op.move (Go.Operand.tmp 0), type := 22, pos := "law.go:35", after := #[], guard := none }) (v := ?_) rfl (by kernel_rfl) (by kernel_rfl) (by kernel_rfl) (fun _ _ _ h => h) (Or.inl ⟨by rfl, ?_⟩) (by assumption) ?_
      rotate_left 1
      · intro w hSw; (try dsimp only at hSw); go_simp; try with_reducible rfl
      try simp only [Act.put, List.setIfInBounds_toArray, List.set_cons_zero, List.set_cons_succ]
      refine wpAnyH_take (i := 1) (oi := { dst := some 18, op := Go.Op.move (Go.Operand.tmp 5), type := 3, pos := "law.go:35", after := #[], guard := none }) (v := ?_) rfl (by kernel_rfl) (by kernel_rfl) (by kernel_rfl) (fun _ _ _ h => h) (Or.inl ⟨by rfl, ?_⟩) (by assumption) ?_
      rotate_left 1
      · intro w hSw; (try dsimp only at hSw); go_simp; try with_reducible rfl
      try simp only [Act.put, List.setIfInBounds_toArray, List.set_cons_zero, List.set_cons_succ]
      refine wpAnyH_take (i := 2) (oi := { dst := some 19, op := Go.Op.indexAddr 22 (Go.Operand.tmp 17) (Go.Operand.tmp 18), type := 0, pos := "law.go:35", after := #[{ on := 0, ground := Go.Ground.data }, { on := 1, ground := Go.Ground.data }], guard := none }) (v := ?_) rfl (by kernel_rfl) (by kernel_rfl) (by kernel_rfl) (fun _ _ _ h => h) (Or.inl ⟨by rfl, ?_⟩) (by assumption) ?_
      rotate_left 1
      · intro w hSw; (try dsimp only at hSw); go_simp; try with_reducible rfl
      try simp only [Act.put, List.setIfInBounds_toArray, List.set_cons_zero, List.set_cons_succ]
      refine wpAnyH_take (i := 3) (oi := { dst := some 20, op := Go.Op.load 31 (Go.Operand.tmp 19), type := 31, pos := "law.go:35", after := #[{ on := 2, ground := Go.Ground.data }], guard := none }) (v := ?_) rfl (by kernel_rfl) (by kernel_rfl) (by kernel_rfl) (fun _ _ _ h => h) (Or.inl ⟨by rfl, ?_⟩) (by assumption) ?_
      rotate_left 1
      · intro w hSw; (try dsimp only at hSw); go_simp; try with_reducible rfl
      try simp only [Act.put, List.setIfInBounds_toArray, List.set_cons_zero, List.set_cons_succ]
      refine wpAnyH_take (i := 4) (oi := { dst := some 21, op := Go.Op.move (Go.Operand.tmp 1), type := 22, pos := "law.go:35", after := #[], guard := none }) (v := ?_) rfl (by kernel_rfl) (by kernel_rfl) (by kernel_rfl) (fun _ _ _ h => h) (Or.inl ⟨by rfl, ?_⟩) (by assumption) ?_
      rotate_left 1
      · intro w hSw; (try dsimp only at hSw); go_simp; try with_reducible rfl
      try simp only [Act.put, List.setIfInBounds_toArray, List.set_cons_zero, List.set_cons_succ]
      refine wpAnyH_take (i := 5) (oi := { dst := some 22, op := Go.Op.move (Go.Operand.tmp 5), type := 3, pos := "law.go:35", after := #[], guard := none }) (v := ?_) rfl (by kernel_rfl) (by kernel_rfl) (by kernel_rfl) (fun _ _ _ h => h) (Or.inl ⟨by rfl, ?_⟩) (by assumption) ?_
      rotate_left 1
      · intro w hSw; (try dsimp only at hSw); go_simp; try with_reducible rfl
      try simp only [Act.put, List.setIfInBounds_toArray, List.set_cons_zero, List.set_cons_succ]
      refine wpAnyH_take (i := 6) (oi := { dst := some 23, op := Go.Op.indexAddr 22 (Go.Operand.tmp 21) (Go.Operand.tmp 22), type := 0, pos := "law.go:35", after := #[{ on := 4, ground := Go.Ground.data }, { on := 5, ground := Go.Ground.data }], guard := none }) (v := ?_) rfl (by kernel_rfl) (by kernel_rfl) (by kernel_rfl) (fun _ _ _ h => h) (Or.inl ⟨by rfl, ?_⟩) (by assumption) ?_
      rotate_left 1
      · intro w hSw; (try dsimp only at hSw); go_simp; try with_reducible rfl
      try simp only [Act.put, List.setIfInBounds_toArray, List.set_cons_zero, List.set_cons_succ]
      refine wpAnyH_take (i := 7) (oi := { dst := some 24, op := Go.Op.load 31 (Go.Operand.tmp 23), type := 31, pos := "law.go:35", after := #[{ on := 6, ground := Go.Ground.data }], guard := none }) (v := ?_) rfl (by kernel_rfl) (by kernel_rfl) (by kernel_rfl) (fun _ _ _ h => h) (Or.inl ⟨by rfl, ?_⟩) (by assumption) ?_
      rotate_left 1
      · intro w hSw; (try dsimp only at hSw); go_simp; try with_reducible rfl
      try simp only [Act.put, List.setIfInBounds_toArray, List.set_cons_zero, List.set_cons_succ]
      refine wpAnyH_ready (rs := [8]) (by kernel_rfl) (by simp) ?_
      refine AllReadyH.cons (o := { dst := some 25, op := Go.Op.call { callee := Go.Callee.value (Go.Operand.func 17), args := #[Go.Operand.tmp 20, Go.Operand.tmp 24], argTypes := #[31, 31] }, type := 4, pos := "law.go:35", after := #[{ on := 3, ground := Go.Ground.data }, { on := 7, ground := Go.Ground.data }], guard := none }) rfl (fun K hK => ?_) (AllReadyH.nil)
      go_simp
      go_at_call 17
      with_reducible refine HC.out.mono ?_
      rintro e w2 ⟨rfl, hb2⟩
      have hb2' : Below wr.heap.size wr w2 := below_undrew hb2
      have t0 : w2.cell? ⟨b1, o1 + k * 5, none⟩ = some (.string x.note) := (hb2'.cell (p := ⟨b1, o1 + k * 5, none⟩) (by show b1 < wr.heap.size; assumption)).trans s0
      have t1 : w2.cell? ⟨b1, o1 + k * 5 + 1, none⟩ = some (.slice pf x.faces.length pcf) := (hb2'.cell (p := ⟨b1, o1 + k * 5 + 1, none⟩) (by show b1 < wr.heap.size; assumption)).trans s1
      have t2 : w2.cell? ⟨b1, o1 + k * 5 + 2, none⟩ = some (.slice pn x.names.length pcn) := (hb2'.cell (p := ⟨b1, o1 + k * 5 + 2, none⟩) (by show b1 < wr.heap.size; assumption)).trans s2
      have t3 : w2.cell? ⟨b1, o1 + k * 5 + 3, none⟩ = some (.slice ps x.secs.length pcs) := (hb2'.cell (p := ⟨b1, o1 + k * 5 + 3, none⟩) (by show b1 < wr.heap.size; assumption)).trans s3
      have t4 : w2.cell? ⟨b1, o1 + k * 5 + 4, none⟩ = some (.slice pp x.pkts.length pcp) := (hb2'.cell (p := ⟨b1, o1 + k * 5 + 4, none⟩) (by show b1 < wr.heap.size; assumption)).trans s4
      have t5 : w2.cell? ⟨b2, o2 + k * 5, none⟩ = some (.string x.note) := (hb2'.cell (p := ⟨b2, o2 + k * 5, none⟩) (by show b2 < wr.heap.size; assumption)).trans s5
      have t6 : w2.cell? ⟨b2, o2 + k * 5 + 1, none⟩ = some (.slice qf x.faces.length qcf) := (hb2'.cell (p := ⟨b2, o2 + k * 5 + 1, none⟩) (by show b2 < wr.heap.size; assumption)).trans s6
      have t7 : w2.cell? ⟨b2, o2 + k * 5 + 2, none⟩ = some (.slice qn x.names.length qcn) := (hb2'.cell (p := ⟨b2, o2 + k * 5 + 2, none⟩) (by show b2 < wr.heap.size; assumption)).trans s7
      have t8 : w2.cell? ⟨b2, o2 + k * 5 + 3, none⟩ = some (.slice qs x.secs.length qcs) := (hb2'.cell (p := ⟨b2, o2 + k * 5 + 3, none⟩) (by show b2 < wr.heap.size; assumption)).trans s8
      have t9 : w2.cell? ⟨b2, o2 + k * 5 + 4, none⟩ = some (.slice qp x.pkts.length qcp) := (hb2'.cell (p := ⟨b2, o2 + k * 5 + 4, none⟩) (by show b2 < wr.heap.size; assumption)).trans s9
      have HW2 : Hid (Below B w w2 ∧ B ≤ w2.heap.size) := Lib.hid ⟨HW.out.1.trans (hb2'.mono HW.out.2), by have := hb2'.size; have := HW.out.2; omega⟩
      clear hb2 hb2'
      dsimp only
      refine hK.out _ _ ⟨t0, t1, t2, t3, t4, t5, t6, t7, t8, t9⟩ (fun hHeld => ?_)
      clear hK K
      try simp only [Act.put, List.setIfInBounds_toArray, List.set_cons_zero, List.set_cons_succ]
      refine wpAnyH_take (i := 9) (oi := { dst := some 26, op := Go.Op.unOp Go.UnOp.not 4 (Go.Operand.tmp 25), type := 4, pos := "law.go:35", after := #[{ on := 8, ground := Go.Ground.data }], guard := none }) (v := ?_) rfl (by kernel_rfl) (by kernel_rfl) (by kernel_rfl) (fun _ _ _ h => h) (Or.inl ⟨by rfl, ?_⟩) (by assumption) ?_
      rotate_left 1
      · intro w hSw; (try dsimp only at hSw); go_simp; try with_reducible rfl
      try simp only [Act.put, List.setIfInBounds_toArray, List.set_cons_zero, List.set_cons_succ]
      refine wpAnyH_done (by kernel_rfl) ?_ _
      go_wp2
      go_roundw
      case rel => exact ⟨k + 1, by go_num, by omega, HW2⟩
      case measure => simp [intOf]; omega
    · have hke : k = l.length := by omega
      subst hke
      go_wp2
      go_ret
      exact ⟨rfl, HW.out.1⟩
end Go.Proofs.Ytghdilmlfficlaa
