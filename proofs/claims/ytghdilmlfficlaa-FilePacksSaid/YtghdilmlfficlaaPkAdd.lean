/- The parts for bytes that stand for themselves: addPlain. -/
import Derived.Test.YtghdilmlfficlaaPkRep
namespace Go.Proofs.Ytghdilmlfficlaa
open Go.RowKit

theorem Byt.front {w : World} {B n : Nat} {A : Option Addr} {b : List Nat} (h : Byt w B A b) : Byt w B A (b.take n) := by
  refine ⟨fun x hx => h.lt x (List.mem_of_mem_take hx), fun hn => ?_⟩
  rw [List.length_take] at hn
  obtain ⟨b', o', e, hb, hc⟩ := h.cells (by omega)
  refine ⟨b', o', e, hb, fun k hk => ?_⟩
  rw [List.length_take] at hk
  have e2 : at8 (b.take n) k = at8 b k := by unfold at8; rw [List.getElem?_take_of_lt (by omega)]
  rw [e2]; exact hc k (by omega)
theorem byt_rest {w : World} {B bb ob u : Nat} {b : List Nat} {A' : Option Addr} (h : Byt w B (some ⟨bb, ob, none⟩) b) (hA : u < b.length → A' = some ⟨bb, ob + u, none⟩) : Byt w B A' (b.drop u) := by
  by_cases hu : u < b.length
  · rw [hA hu]; exact byt_drop h (by omega)
  · rw [List.drop_eq_nil_of_le (by omega)]; exact Byt.nil _ _ _
/-- A row of bytes of the call's own has grown to others; all else is as it was. -/
structure Grew (M : Nat) (w : World) (v : Value) (w' : World) (v' : Value) : Prop where
  bel : Below M w w'
  keep : ∀ k, k < w.heap.size → some k ≠ v.ownBlock → w'.heap[k]? = w.heap[k]?
  blk : v'.ownBlock = v.ownBlock ∨ ∃ k, w.heap.size ≤ k ∧ v'.ownBlock = some k
theorem Grew.refl (M : Nat) (w : World) (v : Value) : Grew M w v w v := ⟨Below.refl _ _, fun _ _ _ => rfl, Or.inl rfl⟩
theorem Grew.trans {M : Nat} {w w1 w2 : World} {v v1 v2 : Value} (h : Grew M w v w1 v1) (k : Grew M w1 v1 w2 v2) : Grew M w v w2 v2 := by
  have hs := h.bel.size
  refine ⟨h.bel.trans k.bel, fun j hj hne => ?_, ?_⟩
  · rw [k.keep j (by omega) ?_, h.keep j hj hne]
    rcases h.blk with e | ⟨q, hq, e⟩
    · rw [e]; exact hne
    · rw [e]; intro e2; injection e2 with e2; omega
  · rcases k.blk with e | ⟨q, hq, e⟩
    · rcases h.blk with e2 | ⟨r, hr, e2⟩
      · exact Or.inl (e.trans e2)
      · exact Or.inr ⟨r, hr, e.trans e2⟩
    · exact Or.inr ⟨q, by omega, e⟩
theorem Grew.of_app {M : Nat} {w w' : World} {v v' : Value} {bs new : List Nat} (h : App w M v bs new v' w') (hown : w.ownsRow M 5 1 v bs.length (bs.map u8)) (hM : M ≤ w.heap.size) : Grew M w v w' v' :=
  ⟨(Below.refl _ _).grown h.grown hM (fun k hk => (hown.lt _ hk).1), fun k hk hne => h.grown.block k hk hne, by
    rcases h.ext with e | ⟨g, e, hg⟩
    · exact Or.inl e
    · exact Or.inr ⟨g, hg, e⟩⟩
theorem Grew.of_alloc {M : Nat} {w : World} {v : Value} (hM : M ≤ w.heap.size) (o : Obj) : Grew M w v (w.alloc o).drew v :=
  ⟨((Below.refl _ _).alloc hM o).drew, fun k hk _ => Below.heap_alloc w o k hk, Or.inl rfl⟩
theorem Grew.of_drewN (M n : Nat) (w : World) (v : Value) : Grew M w v (w.drewN n) v := ⟨below_drewN (Below.refl _ _) _, fun _ _ _ => rfl, Or.inl rfl⟩
theorem byt_lit (w : World) (l : List Nat) (h : ∀ x ∈ l, x < 256) : Byt (w.alloc (.cells (l.map u8).toArray 5)).drew (w.heap.size + 1) (some ⟨w.heap.size, 0, none⟩) l := by
  refine ⟨h, fun hn => ⟨_, 0, rfl, by omega, fun k hk => ?_⟩⟩
  have := (Blk.new w 5 (l.map u8).toArray).cell k
  rw [Nat.zero_add]
  show (w.alloc (.cells (l.map u8).toArray 5)).cell? _ = _
  rw [this, List.getElem?_toArray, List.getElem?_map, List.getElem?_eq_getElem hk, at8_eq l k hk]; rfl

def AddP (M : Nat) (w : World) (v : Value) (out : List Nat) (e : Ending) (w' : World) : Prop :=
  ∃ A c, e = .returned (.slice A out.length c) ∧ w'.ownsRow M 5 1 (.slice A out.length c) out.length (out.map u8) ∧ Grew M w v w' (.slice A out.length c)

set_option maxRecDepth 100000 in
set_option maxHeartbeats 8000000 in
theorem addp_any {w : World} {M co cb : Nat} {Ao Ab : Option Addr} {out b : List Nat} (ho : w.ownsRow M 5 1 (.slice Ao out.length co) out.length (out.map u8)) (hb : Byt w M Ab b) (hcb : b.length ≤ cb) (hM : M ≤ w.heap.size) (hol : out.length ≤ 1000000) (hbl : b.length ≤ 1000000) :
    Calls Try.prog 87 #[.slice Ao out.length co, .slice Ab b.length cb] w (AddP M w (.slice Ao out.length co) (out ++ plainB (b.length + 1) b)) := by
  obtain ⟨V0, hV0⟩ : ∃ V0, Value.slice Ao out.length co = V0 := ⟨_, rfl⟩
  obtain ⟨R, hR⟩ : ∃ R, out ++ plainB (b.length + 1) b = R := ⟨_, rfl⟩
  have HR := Lib.hid hR
  have HBY := Lib.hid hb
  have HO0 := Lib.hid ho
  have HV0 := Lib.hid hV0
  rw [hR]
  have hgoal : AddP M w (.slice Ao out.length co) R = AddP M w V0 R := by rw [hV0]
  rw [hgoal]
  clear hR hb ho hV0 hgoal
  go_enter Try.func87, Try.ntmps87
  go_wp2
  go_loopw [0, 1] (fun t0 t1 wr => ∃ (rest o : List Nat) (A1 : Option Addr) (c1 ol : Nat) (A2 : Option Addr) (c2 rl : Nat), t0 = .slice A1 ol c1 ∧ t1 = .slice A2 rl c2 ∧ rl ≤ c2 ∧ rl ≤ 1000000 ∧ ol + 2 * rl ≤ 3000000 ∧ Hid (o.length = ol ∧ rest.length = rl ∧ o ++ plainB (rl + 1) rest = R ∧ Byt wr M A2 rest ∧ wr.ownsRow M 5 1 (.slice A1 ol c1) ol (o.map u8) ∧ Grew M w V0 wr (.slice A1 ol c1))) (fun _ t1 _ => lenS t1)
  case atStart => exact ⟨b, out, Ao, co, out.length, Ab, cb, b.length, rfl, rfl, hcb, hbl, by omega, Lib.hid ⟨rfl, rfl, HR.out, HBY.out, HO0.out, by rw [HV0.out]; exact Grew.refl _ _ _⟩⟩
  case round =>
    obtain ⟨rest, o, A1, c1, ol, A2, c2, rl, rfl, rfl, hc2, hrl, hol2, HH⟩ := hrel
    rcases Nat.eq_zero_or_pos rl with rfl | hpos
    · have HQ : Hid (o = R) := Lib.hid (by
        have h := HH.out.2.2.1
        have e : rest = [] := List.length_eq_zero_iff.1 HH.out.2.1
        rw [e] at h
        simpa [plainB] using h)
      go_wp2
      go_ret
      obtain ⟨h1, _, _, _, h5, h6⟩ := HH.out
      have hq := HQ.out
      subst hq
      subst h1
      exact ⟨A1, c1, rfl, h5, h6⟩
    · obtain ⟨bb, ob, hA, _⟩ := HH.out.2.2.2.1.cells (by rw [HH.out.2.1]; exact hpos)
      subst hA
      obtain ⟨m, hm⟩ : ∃ m : Nat, m + 1 = min rl 128 := ⟨min rl 128 - 1, by omega⟩
      have hm128 : m + 1 ≤ 128 := by omega
      have hmr : m + 1 ≤ rl := by omega
      have hmn : (if (128 : Int) < (rl : Int) then (128 : Int) else (rl : Int)) = (m : Int) + 1 := by split <;> omega
      have hw1 : IntKind.i64.wrap (m : Int) = (m : Int) := by rw [IntKind.wrap_i64]; omega
      have hw2 : IntKind.u8.wrap (m : Int) = (m : Int) := by rw [IntKind.wrap_u8]; omega
      have hd1 : decide ((0 : Int) < (rl : Int)) = true := decide_eq_true (by omega)
      have hd2 : decide (0 < rl) = true := decide_eq_true hpos
      have hMr : M ≤ wr.heap.size := by have := HH.out.2.2.2.2.2.bel.size; omega
      have hl1 : ∀ x ∈ [m], x < 256 := by intro x hx; rw [List.mem_singleton] at hx; omega
      have hown1 : (wr.alloc (.cells #[.int .u8 ((m : Nat) : Int)] 5)).drew.ownsRow M 5 1 (.slice A1 ol c1) o.length (o.map Go.Proofs.Ytghdilmlfficlaa.u8) := by rw [HH.out.1]; exact HH.out.2.2.2.2.1.alloc _
      obtain ⟨v1, w1, hrun1, happ1⟩ := run_own_byt _ M (.slice A1 ol c1) o hown1 (l := [m]) 1 (byt_lit wr [m] hl1) (by simp) (by rw [HH.out.1]; omega) (by show M ≤ (wr.alloc _).heap.size; rw [alloc_size]; omega)
      have hG1 := (Grew.of_alloc (v := .slice A1 ol c1) hMr (.cells #[.int .u8 ((m : Nat) : Int)] 5)).trans (Grew.of_app happ1 hown1 (by show M ≤ (wr.alloc _).heap.size; rw [alloc_size]; omega))
      have hM1 : M ≤ w1.heap.size := by have := hG1.bel.size; omega
      have hB1 : Byt w1 M (some ⟨bb, ob, none⟩) (rest.take (m + 1)) := (HH.out.2.2.2.1.below hG1.bel).front
      have hl2 : (rest.take (m + 1)).length = m + 1 := by rw [List.length_take, HH.out.2.1]; omega
      obtain ⟨v2, w2, hrun2, happ2⟩ := run_own_byt w1 M v1 (o ++ [m]) happ1.own (l := rest.take (m + 1)) c2 hB1 (by rw [hl2]; omega) (by rw [List.length_append, HH.out.1]; simp; omega) hM1
      rw [hl2] at hrun2
      simp only [List.length_singleton] at hrun1
      have hb0 : (0 : Int) ≤ (m : Int) + 1 := by omega
      have hb1 : (m : Int) + 1 ≤ (rl : Int) := by omega
      have hb2 : (m : Int) + 1 ≤ (c2 : Int) := by omega
      have hb3 : m + 1 ≤ c2 := by omega
      have hG2 := hG1.trans (Grew.of_app happ2 happ1.own hM1)
      obtain ⟨A3, c3, rfl⟩ : ∃ A c, v2 = .slice A (ol + (m + 2)) c := by
        obtain ⟨A, c, e, _⟩ := own_form2 happ2.own
        rw [List.length_append, List.length_append, hl2, HH.out.1] at e
        exact ⟨A, c, by rw [e]; congr 1; simp; omega⟩
      have hnl : (o ++ [m] ++ rest.take (m + 1)).length = ol + (m + 2) := by rw [List.length_append, List.length_append, hl2, HH.out.1]; simp; omega
      have hstep : o ++ [m] ++ rest.take (m + 1) ++ plainB (rl - (m + 1) + 1) (rest.drop (m + 1)) = R := by
        have h := HH.out.2.2.1
        rw [plainB, if_neg (by rw [HH.out.2.1]; omega), HH.out.2.1] at h
        have e1 : rest.take 128 = rest.take (m + 1) := by
          rcases Nat.lt_or_ge 128 rl with h1 | h1
          · rw [show m + 1 = 128 by omega]
          · rw [List.take_of_length_le (by rw [HH.out.2.1]; omega), List.take_of_length_le (by rw [HH.out.2.1]; omega)]
        have e2 : rest.drop 128 = rest.drop (m + 1) := by
          rcases Nat.lt_or_ge 128 rl with h1 | h1
          · rw [show m + 1 = 128 by omega]
          · rw [List.drop_eq_nil_of_le (by rw [HH.out.2.1]; omega), List.drop_eq_nil_of_le (by rw [HH.out.2.1]; omega)]
        rw [e1, e2, show min rl 128 - 1 = m by omega, plainB_fuel rl (rl - (m + 1) + 1) _ (by rw [List.length_drop, HH.out.2.1]; omega) (by rw [List.length_drop, HH.out.2.1]; omega)] at h
        rw [← h]
        simp
      have hB2 := HH.out.2.2.2.1.below hG2.bel
      have HF : Hid ((o ++ [m] ++ rest.take (m + 1)).length = ol + (m + 2) ∧ (rest.drop (m + 1)).length = rl - (m + 1) ∧ o ++ [m] ++ rest.take (m + 1) ++ plainB (rl - (m + 1) + 1) (rest.drop (m + 1)) = R ∧ Byt w2 M (some ⟨bb, ob + (m + 1), none⟩) (rest.drop (m + 1)) ∧ (c2 = m + 1 → Byt w2 M (some ⟨bb, ob, none⟩) (rest.drop (m + 1))) ∧ w2.ownsRow M 5 1 (.slice A3 (ol + (m + 2)) c3) (ol + (m + 2)) ((o ++ [m] ++ rest.take (m + 1)).map Go.Proofs.Ytghdilmlfficlaa.u8) ∧ Grew M w V0 w2 (.slice A3 (ol + (m + 2)) c3)) := Lib.hid ⟨hnl, by rw [List.length_drop, HH.out.2.1], hstep, byt_rest hB2 (fun _ => rfl), fun hcz => byt_rest hB2 (fun hh => by rw [HH.out.2.1] at hh; omega), by have := happ2.own; rw [hnl] at this; exact this, HH.out.2.2.2.2.2.trans hG2⟩
      clear hm hnl hstep hB2 hG2 hG1 happ2 happ1 hl2 hB1 hM1 hown1 hl1 hMr HH
      by_cases hcz : c2 = m + 1
      · have HF2 := Lib.hid (HF.out.2.2.2.2.1 hcz)
        have hb4 : rl = m + 1 := by omega
        clear hb1 hb2 hb3 hc2 hmr hpos hd1 hd2
        subst hb4
        subst hcz
        simp only [Int.natCast_add, Int.natCast_one] at hmn
        have hd2 : decide (0 < m + 1) = true := decide_eq_true (by omega)
        go_wp2_with fail
        refine wp_region_held_drew (S := (fun _ => True)) (by kernel_rfl) trivial (fun hHeld => ?_)
        refine wpAnyH_take (i := 0) (oi := { dst := some 12, op := Go.Op.move (Go.Operand.tmp 0), type := 48, pos := "pack.go:111", after := #[], guard := none }) (v := ?_) rfl (by kernel_rfl) (by kernel_rfl) (by kernel_rfl) (fun _ _ _ h => h) (Or.inl ⟨by rfl, ?_⟩) (by assumption) ?_
        rotate_left 1
        · intro w hSw; (try dsimp only at hSw); go_simp; try with_reducible rfl
        try simp only [Act.put, List.setIfInBounds_toArray, List.set_cons_zero, List.set_cons_succ]
        refine wpAnyH_take (i := 1) (oi := { dst := some 13, op := Go.Op.move (Go.Operand.tmp 5), type := 3, pos := "pack.go:111", after := #[], guard := none }) (v := ?_) rfl (by kernel_rfl) (by kernel_rfl) (by kernel_rfl) (fun _ _ _ h => h) (Or.inl ⟨by rfl, ?_⟩) (by assumption) ?_
        rotate_left 1
        · intro w hSw; (try dsimp only at hSw); go_simp; try with_reducible rfl
        try simp only [Act.put, List.setIfInBounds_toArray, List.set_cons_zero, List.set_cons_succ]
        refine wpAnyH_take (i := 2) (oi := { dst := some 14, op := Go.Op.binOp Go.BinOp.sub 3 (Go.Operand.tmp 13) (Go.Operand.const (Go.Value.int Go.IntKind.i64 1)) 3, type := 3, pos := "pack.go:111", after := #[{ on := 1, ground := Go.Ground.data }], guard := none }) (v := ?_) rfl (by kernel_rfl) (by kernel_rfl) (by kernel_rfl) (fun _ _ _ h => h) (Or.inl ⟨by rfl, ?_⟩) (by assumption) ?_
        rotate_left 1
        · intro w hSw; (try dsimp only at hSw); go_simp; try with_reducible rfl
        try simp only [Act.put, List.setIfInBounds_toArray, List.set_cons_zero, List.set_cons_succ]
        refine wpAnyH_take (i := 3) (oi := { dst := some 15, op := Go.Op.convert 3 5 (Go.Operand.tmp 14), type := 5, pos := "pack.go:111", after := #[{ on := 2, ground := Go.Ground.data }], guard := none }) (v := ?_) rfl (by kernel_rfl) (by kernel_rfl) (by kernel_rfl) (fun _ _ _ h => h) (Or.inl ⟨by rfl, ?_⟩) (by assumption) ?_
        rotate_left 1
        · intro w hSw; (try dsimp only at hSw); go_simp; try with_reducible rfl
        try simp only [Act.put, List.setIfInBounds_toArray, List.set_cons_zero, List.set_cons_succ]
        refine wpAnyH_take (i := 6) (oi := { dst := some 18, op := Go.Op.move (Go.Operand.tmp 1), type := 48, pos := "pack.go:111", after := #[], guard := none }) (v := ?_) rfl (by kernel_rfl) (by kernel_rfl) (by kernel_rfl) (fun _ _ _ h => h) (Or.inl ⟨by rfl, ?_⟩) (by assumption) ?_
        rotate_left 1
        · intro w hSw; (try dsimp only at hSw); go_simp; try with_reducible rfl
        try simp only [Act.put, List.setIfInBounds_toArray, List.set_cons_zero, List.set_cons_succ]
        refine wpAnyH_take (i := 7) (oi := { dst := some 19, op := Go.Op.move (Go.Operand.tmp 5), type := 3, pos := "pack.go:111", after := #[], guard := none }) (v := ?_) rfl (by kernel_rfl) (by kernel_rfl) (by kernel_rfl) (fun _ _ _ h => h) (Or.inl ⟨by rfl, ?_⟩) (by assumption) ?_
        rotate_left 1
        · intro w hSw; (try dsimp only at hSw); go_simp; try with_reducible rfl
        try simp only [Act.put, List.setIfInBounds_toArray, List.set_cons_zero, List.set_cons_succ]
        refine wpAnyH_take (i := 8) (oi := { dst := some 20, op := Go.Op.slice 48 (Go.Operand.tmp 18) none (some (Go.Operand.tmp 19)) none, type := 48, pos := "pack.go:111", after := #[{ on := 6, ground := Go.Ground.data }, { on := 7, ground := Go.Ground.data }], guard := none }) (v := ?_) rfl (by kernel_rfl) (by kernel_rfl) (by kernel_rfl) (fun _ _ _ h => h) (Or.inl ⟨by rfl, ?_⟩) (by assumption) ?_
        rotate_left 1
        · intro w hSw; (try dsimp only at hSw); go_simp; try with_reducible rfl
        try simp only [Act.put, List.setIfInBounds_toArray, List.set_cons_zero, List.set_cons_succ]
        refine wpAnyH_ready (rs := [4]) (by kernel_rfl) (by simp) ?_
        refine AllReadyH.cons (o := { dst := some 16, op := Go.Op.buildSlice 48 1 #[(0, Go.Operand.tmp 15)], type := 48, pos := "pack.go:111", after := #[{ on := 3, ground := Go.Ground.data }], guard := none }) rfl (fun K hK => ?_) (AllReadyH.nil)
        go_simp
        refine hK.out _ _ trivial (fun hHeld => ?_)
        clear hK K
        try simp only [Act.put, List.setIfInBounds_toArray, List.set_cons_zero, List.set_cons_succ]
        refine wpAnyH_ready (rs := [5]) (by kernel_rfl) (by simp) ?_
        refine AllReadyH.cons (o := { dst := some 17, op := Go.Op.call { callee := Go.Callee.builtin Go.Builtin.append, args := #[Go.Operand.tmp 12, Go.Operand.tmp 16], argTypes := #[48, 48] }, type := 48, pos := "pack.go:111", after := #[{ on := 0, ground := Go.Ground.data }, { on := 4, ground := Go.Ground.data }], guard := none }) rfl (fun K hK => ?_) (AllReadyH.nil)
        refine step_append_run _ rfl _ _ _ _ rfl _ _ (by rfl) (by rfl) _ w1 hrun1 ?_
        refine hK.out _ _ trivial (fun hHeld => ?_)
        clear hK K
        try simp only [Act.put, List.setIfInBounds_toArray, List.set_cons_zero, List.set_cons_succ]
        refine wpAnyH_ready (rs := [9]) (by kernel_rfl) (by simp) ?_
        refine AllReadyH.cons (o := { dst := some 21, op := Go.Op.call { callee := Go.Callee.builtin Go.Builtin.append, args := #[Go.Operand.tmp 17, Go.Operand.tmp 20], argTypes := #[48, 48] }, type := 48, pos := "pack.go:111", after := #[{ on := 5, ground := Go.Ground.data }, { on := 8, ground := Go.Ground.data }, { on := 5, ground := Go.Ground.chain }], guard := none }) rfl (fun K hK => ?_) (AllReadyH.nil)
        refine step_append_run _ rfl _ _ _ _ rfl _ _ (by rfl) (by rfl) _ w2 hrun2 ?_
        refine hK.out _ _ trivial (fun hHeld => ?_)
        clear hK K
        try simp only [Act.put, List.setIfInBounds_toArray, List.set_cons_zero, List.set_cons_succ]
        refine wpAnyH_take (i := 10) (oi := { dst := some 0, op := Go.Op.assign (Go.Operand.tmp 21), type := 48, pos := "pack.go:111", after := #[{ on := 9, ground := Go.Ground.data }, { on := 9, ground := Go.Ground.chain }, { on := 0, ground := Go.Ground.phase }, { on := 1, ground := Go.Ground.phase }, { on := 2, ground := Go.Ground.phase }, { on := 3, ground := Go.Ground.phase }, { on := 4, ground := Go.Ground.phase }, { on := 5, ground := Go.Ground.phase }, { on := 6, ground := Go.Ground.phase }, { on := 7, ground := Go.Ground.phase }, { on := 8, ground := Go.Ground.phase }, { on := 9, ground := Go.Ground.phase }], guard := none }) (v := ?_) rfl (by kernel_rfl) (by kernel_rfl) (by kernel_rfl) (fun _ _ _ h => h) (Or.inl ⟨by rfl, ?_⟩) (by assumption) ?_
        rotate_left 1
        · intro w hSw; (try dsimp only at hSw); go_simp; try with_reducible rfl
        try simp only [Act.put, List.setIfInBounds_toArray, List.set_cons_zero, List.set_cons_succ]
        refine wpAnyH_done (by kernel_rfl) ?_ _
        go_wp2
        go_roundw
        case rel => exact ⟨rest.drop (m + 1), o ++ [m] ++ rest.take (m + 1), A3, c3, ol + (m + 2), some ⟨bb, ob, none⟩, m + 1 - (m + 1), m + 1 - (m + 1), rfl, by simp, by omega, by omega, by omega, Lib.hid ⟨HF.out.1, HF.out.2.1, HF.out.2.2.1, HF2.out, HF.out.2.2.2.2.2.1, HF.out.2.2.2.2.2.2⟩⟩
        case measure => simp [lenS] <;> omega
      · go_wp2_with fail
        refine wp_region_held_drew (S := (fun _ => True)) (by kernel_rfl) trivial (fun hHeld => ?_)
        refine wpAnyH_take (i := 0) (oi := { dst := some 12, op := Go.Op.move (Go.Operand.tmp 0), type := 48, pos := "pack.go:111", after := #[], guard := none }) (v := ?_) rfl (by kernel_rfl) (by kernel_rfl) (by kernel_rfl) (fun _ _ _ h => h) (Or.inl ⟨by rfl, ?_⟩) (by assumption) ?_
        rotate_left 1
        · intro w hSw; (try dsimp only at hSw); go_simp; try with_reducible rfl
        try simp only [Act.put, List.setIfInBounds_toArray, List.set_cons_zero, List.set_cons_succ]
        refine wpAnyH_take (i := 1) (oi := { dst := some 13, op := Go.Op.move (Go.Operand.tmp 5), type := 3, pos := "pack.go:111", after := #[], guard := none }) (v := ?_) rfl (by kernel_rfl) (by kernel_rfl) (by kernel_rfl) (fun _ _ _ h => h) (Or.inl ⟨by rfl, ?_⟩) (by assumption) ?_
        rotate_left 1
        · intro w hSw; (try dsimp only at hSw); go_simp; try with_reducible rfl
        try simp only [Act.put, List.setIfInBounds_toArray, List.set_cons_zero, List.set_cons_succ]
        refine wpAnyH_take (i := 2) (oi := { dst := some 14, op := Go.Op.binOp Go.BinOp.sub 3 (Go.Operand.tmp 13) (Go.Operand.const (Go.Value.int Go.IntKind.i64 1)) 3, type := 3, pos := "pack.go:111", after := #[{ on := 1, ground := Go.Ground.data }], guard := none }) (v := ?_) rfl (by kernel_rfl) (by kernel_rfl) (by kernel_rfl) (fun _ _ _ h => h) (Or.inl ⟨by rfl, ?_⟩) (by assumption) ?_
        rotate_left 1
        · intro w hSw; (try dsimp only at hSw); go_simp; try with_reducible rfl
        try simp only [Act.put, List.setIfInBounds_toArray, List.set_cons_zero, List.set_cons_succ]
        refine wpAnyH_take (i := 3) (oi := { dst := some 15, op := Go.Op.convert 3 5 (Go.Operand.tmp 14), type := 5, pos := "pack.go:111", after := #[{ on := 2, ground := Go.Ground.data }], guard := none }) (v := ?_) rfl (by kernel_rfl) (by kernel_rfl) (by kernel_rfl) (fun _ _ _ h => h) (Or.inl ⟨by rfl, ?_⟩) (by assumption) ?_
        rotate_left 1
        · intro w hSw; (try dsimp only at hSw); go_simp; try with_reducible rfl
        try simp only [Act.put, List.setIfInBounds_toArray, List.set_cons_zero, List.set_cons_succ]
        refine wpAnyH_take (i := 6) (oi := { dst := some 18, op := Go.Op.move (Go.Operand.tmp 1), type := 48, pos := "pack.go:111", after := #[], guard := none }) (v := ?_) rfl (by kernel_rfl) (by kernel_rfl) (by kernel_rfl) (fun _ _ _ h => h) (Or.inl ⟨by rfl, ?_⟩) (by assumption) ?_
        rotate_left 1
        · intro w hSw; (try dsimp only at hSw); go_simp; try with_reducible rfl
        try simp only [Act.put, List.setIfInBounds_toArray, List.set_cons_zero, List.set_cons_succ]
        refine wpAnyH_take (i := 7) (oi := { dst := some 19, op := Go.Op.move (Go.Operand.tmp 5), type := 3, pos := "pack.go:111", after := #[], guard := none }) (v := ?_) rfl (by kernel_rfl) (by kernel_rfl) (by kernel_rfl) (fun _ _ _ h => h) (Or.inl ⟨by rfl, ?_⟩) (by assumption) ?_
        rotate_left 1
        · intro w hSw; (try dsimp only at hSw); go_simp; try with_reducible rfl
        try simp only [Act.put, List.setIfInBounds_toArray, List.set_cons_zero, List.set_cons_succ]
        refine wpAnyH_take (i := 8) (oi := { dst := some 20, op := Go.Op.slice 48 (Go.Operand.tmp 18) none (some (Go.Operand.tmp 19)) none, type := 48, pos := "pack.go:111", after := #[{ on := 6, ground := Go.Ground.data }, { on := 7, ground := Go.Ground.data }], guard := none }) (v := ?_) rfl (by kernel_rfl) (by kernel_rfl) (by kernel_rfl) (fun _ _ _ h => h) (Or.inl ⟨by rfl, ?_⟩) (by assumption) ?_
        rotate_left 1
        · intro w hSw; (try dsimp only at hSw); go_simp; try with_reducible rfl
        try simp only [Act.put, List.setIfInBounds_toArray, List.set_cons_zero, List.set_cons_succ]
        refine wpAnyH_ready (rs := [4]) (by kernel_rfl) (by simp) ?_
        refine AllReadyH.cons (o := { dst := some 16, op := Go.Op.buildSlice 48 1 #[(0, Go.Operand.tmp 15)], type := 48, pos := "pack.go:111", after := #[{ on := 3, ground := Go.Ground.data }], guard := none }) rfl (fun K hK => ?_) (AllReadyH.nil)
        go_simp
        refine hK.out _ _ trivial (fun hHeld => ?_)
        clear hK K
        try simp only [Act.put, List.setIfInBounds_toArray, List.set_cons_zero, List.set_cons_succ]
        refine wpAnyH_ready (rs := [5]) (by kernel_rfl) (by simp) ?_
        refine AllReadyH.cons (o := { dst := some 17, op := Go.Op.call { callee := Go.Callee.builtin Go.Builtin.append, args := #[Go.Operand.tmp 12, Go.Operand.tmp 16], argTypes := #[48, 48] }, type := 48, pos := "pack.go:111", after := #[{ on := 0, ground := Go.Ground.data }, { on := 4, ground := Go.Ground.data }], guard := none }) rfl (fun K hK => ?_) (AllReadyH.nil)
        refine step_append_run _ rfl _ _ _ _ rfl _ _ (by rfl) (by rfl) _ w1 hrun1 ?_
        refine hK.out _ _ trivial (fun hHeld => ?_)
        clear hK K
        try simp only [Act.put, List.setIfInBounds_toArray, List.set_cons_zero, List.set_cons_succ]
        refine wpAnyH_ready (rs := [9]) (by kernel_rfl) (by simp) ?_
        refine AllReadyH.cons (o := { dst := some 21, op := Go.Op.call { callee := Go.Callee.builtin Go.Builtin.append, args := #[Go.Operand.tmp 17, Go.Operand.tmp 20], argTypes := #[48, 48] }, type := 48, pos := "pack.go:111", after := #[{ on := 5, ground := Go.Ground.data }, { on := 8, ground := Go.Ground.data }, { on := 5, ground := Go.Ground.chain }], guard := none }) rfl (fun K hK => ?_) (AllReadyH.nil)
        refine step_append_run _ rfl _ _ _ _ rfl _ _ (by rfl) (by rfl) _ w2 hrun2 ?_
        refine hK.out _ _ trivial (fun hHeld => ?_)
        clear hK K
        try simp only [Act.put, List.setIfInBounds_toArray, List.set_cons_zero, List.set_cons_succ]
        refine wpAnyH_take (i := 10) (oi := { dst := some 0, op := Go.Op.assign (Go.Operand.tmp 21), type := 48, pos := "pack.go:111", after := #[{ on := 9, ground := Go.Ground.data }, { on := 9, ground := Go.Ground.chain }, { on := 0, ground := Go.Ground.phase }, { on := 1, ground := Go.Ground.phase }, { on := 2, ground := Go.Ground.phase }, { on := 3, ground := Go.Ground.phase }, { on := 4, ground := Go.Ground.phase }, { on := 5, ground := Go.Ground.phase }, { on := 6, ground := Go.Ground.phase }, { on := 7, ground := Go.Ground.phase }, { on := 8, ground := Go.Ground.phase }, { on := 9, ground := Go.Ground.phase }], guard := none }) (v := ?_) rfl (by kernel_rfl) (by kernel_rfl) (by kernel_rfl) (fun _ _ _ h => h) (Or.inl ⟨by rfl, ?_⟩) (by assumption) ?_
        rotate_left 1
        · intro w hSw; (try dsimp only at hSw); go_simp; try with_reducible rfl
        try simp only [Act.put, List.setIfInBounds_toArray, List.set_cons_zero, List.set_cons_succ]
        refine wpAnyH_done (by kernel_rfl) ?_ _
        go_wp2
        go_roundw
        case rel => exact ⟨rest.drop (m + 1), o ++ [m] ++ rest.take (m + 1), A3, c3, ol + (m + 2), some ⟨bb, ob + (m + 1), none⟩, c2 - (m + 1), rl - (m + 1), rfl, by simp [hcz], by omega, by omega, by omega, Lib.hid ⟨HF.out.1, HF.out.2.1, HF.out.2.2.1, HF.out.2.2.2.1, HF.out.2.2.2.2.2.1, HF.out.2.2.2.2.2.2⟩⟩
        case measure => simp [lenS] <;> omega
end Go.Proofs.Ytghdilmlfficlaa
