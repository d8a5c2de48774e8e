/- Quote: the program's and the reference's. -/
import Derived.Test.YtnaopgajinbnmaaGreatDoorQuoteMath
import Derived.Test.YtnaopgajinbnmaaGreatDoorTxt
import Derived.Lib.AppendStr
import Derived.Deep.RegionHeld3
namespace Go.Proofs.YtnaopgajinbnmaaGreatDoor
open Go.RowKit

theorem hex_lit (p : Nat) (h : p < (ByteArray.mk #[48, 49, 50, 51, 52, 53, 54, 55, 56, 57, 97, 98, 99, 100, 101, 102]).size) :
    (ByteArray.mk #[48, 49, 50, 51, 52, 53, 54, 55, 56, 57, 97, 98, 99, 100, 101, 102])[p] = hexD p := by
  have h16 : p < 16 := h
  unfold hexD
  rw [List.getD_eq_getElem?_getD, List.getElem?_eq_getElem (by simpa using h16)]
  rfl
/-- 'append' whose run is known, as a step of a region. -/
theorem step_append_run {P : Program} (w : World) {ops : Array Oper} {o : Oper} {a : Act} {K : Act → World → Prop} {Q : Exit → Act → World → Prop} {E : Prop} (hgd : o.guard = none) (s x : Operand) (t tn : TypeId)
    (ho : o.op = .call { callee := .builtin .append, args := #[s, x], argTypes := #[t, tn] }) (vs vx : Value) (hs : a.eval s = vs) (hx : a.eval x = vx)
    (v' : Value) (w' : World) (hr : (Builtin.append_ #[t, tn] o.type #[vs, vx]).run P w = .ok v' w') (h : K (a.put o.dst v') w') :
    if Region.wanted o (yielded ops a.tmps) = true then Oper.wp P o a w K Q else E := by
  have hw : Region.wanted o (yielded ops a.tmps) = true := by simp [Region.wanted, hgd]
  rw [if_pos hw]
  exact Lib.wp_append_run w s x t tn ho vs vx hs hx v' w' hr h
theorem cells4b_new (w : World) (a b c d : Value) : ∀ j u, [a, b, c, d][j]? = some u → (w.alloc (.cells #[a, b, c, d] 5)).cell? ((⟨w.heap.size, 0, none⟩ : Addr).add j) = some u := by
  intro j u hj
  have h := (Blk.new w 5 #[a, b, c, d]).cell j
  rw [show (⟨w.heap.size, 0, none⟩ : Addr).add j = ⟨w.heap.size, j, none⟩ from by simp [Addr.add]; omega, h]
  simpa using hj
theorem shr8 (q r : Nat) (hr : q / 16 = r) : Op.shift .shr .u8 (q : Int) .u64 4 = pure (.int .u8 (r : Int)) := by
  rw [shift_shr .u8 .u64 q 4 (by omega) (by simp [IntKind.bits])]
  have : (q : Int) / 2 ^ (4 : Int).toNat = (r : Int) := by
    show (q : Int) / 16 = _
    omega
  rw [this]
theorem and15 (q r : Nat) (h : q < 256) (hr : q % 16 = r) : bits .and .u8 (q : Int) 15 = (r : Int) := by
  have h1 := u8_and_nat q 15 h (by decide)
  have h2 : q &&& 15 = q % 16 := Nat.and_two_pow_sub_one_eq_mod q 4
  rw [h2, hr] at h1
  exact h1
theorem cells2_new (w : World) (a b : Value) : ∀ j u, [a, b][j]? = some u → (w.alloc (.cells #[a, b] 5)).cell? ((⟨w.heap.size, 0, none⟩ : Addr).add j) = some u := by
  intro j u hj
  have h := (Blk.new w 5 #[a, b]).cell j
  rw [show (⟨w.heap.size, 0, none⟩ : Addr).add j = ⟨w.heap.size, j, none⟩ from by simp [Addr.add]; omega, h]
  simpa using hj

set_option maxRecDepth 100000 in
set_option maxHeartbeats 16000000 in
theorem rquoted_any (s : ByteArray) (hz : s.size ≤ 48000) (w : World) : Calls Tryz.prog 24 #[.string s] w fun e w' => e = .returned (.string ⟨(quoteL (bl s)).toArray⟩) ∧ Below w.heap.size w w' := by
  obtain ⟨i0, hi, hz0, hz1, hz2⟩ := info_parts info5
  have hrow0 := World.ownsRow_lit (base := w.heap.size) (e := 5) (size := 1) w #[.int .u8 34] 1 (Nat.le_refl _) (by decide) rfl
  have hb0 : Below w.heap.size w (w.alloc (.cells #[.int .u8 34] 5)) := (Below.refl _ w).alloc (Nat.le_refl _) _
  have HR := Lib.hid (And.intro hrow0 hb0)
  obtain ⟨B, hB⟩ : ∃ B, w.heap.size = B := ⟨_, rfl⟩
  have HB := Lib.hid hB
  clear hrow0 hb0 hB
  go_enter Tryz.func24, Tryz.ntmps24
  go_wp2
  go_loopw [3, 4] (fun v i wr => ∃ (out : List UInt8) (k : Nat), i = .int .i64 k ∧ k ≤ s.size ∧ out.length ≤ 1 + 4 * k ∧ wr.ownsRow B 5 1 v out.length (out.map byt) ∧
      Hid (Below B w wr) ∧ Hid (quoteL (bl s) = out ++ (((bl s).drop k).flatMap escL ++ [34]))) (fun _ i _ => s.size - (intOf i).toNat)
  case atStart =>
    have h := HR.out
    rw [HB.out] at h ⊢
    exact ⟨[34], 0, rfl, by omega, by simp, by simpa [show byt 34 = Value.int .u8 34 from rfl] using h.1, Lib.hid h.2, Lib.hid rfl⟩
  case round =>
    clear HR
    obtain ⟨out, k, rfl, hk, hol, hown, HW, HQ⟩ := hrel
    have hsz := HW.out.size
    rw [HB.out] at hsz
    have b1 : out.length + 1 ≤ maxLen := by unfold maxLen; omega
    have b1' : (out.length + 1) * 1 ≤ 140737488355328 := by omega
    have b2 : out.length + 2 ≤ maxLen := by unfold maxLen; omega
    have b2' : (out.length + 2) * 1 ≤ 140737488355328 := by omega
    have b2'' : out.length + 2 ≤ 140737488355328 := by omega
    have b4 : out.length + 4 ≤ maxLen := by unfold maxLen; omega
    have b4' : (out.length + 4) * 1 ≤ 140737488355328 := by omega
    by_cases hlt : k < s.size
    · have hdl : decide ((k : Int) < (s.size : Int)) = true := decide_eq_true (by omega)
      have hc256 : s[k].toNat < 256 := s[k].toNat_lt
      by_cases h34 : s[k].toNat = 34
      · have e34 : ((s[k].toNat : Int) == 34) = true := by simp [h34]
        have hesc : escL s[k] = [92, s[k]] := by unfold escL; rw [if_pos (.inl h34)]
        have HN : Hid (quoteL (bl s) = out ++ [92, s[k]] ++ (((bl s).drop (k + 1)).flatMap escL ++ [34])) := Lib.hid (by rw [HQ.out, bl_at s k hlt, List.flatMap_cons, hesc]; simp)
        clear h34 hesc
        go_wp2_with (at_builtin; refine wpList_append_own _ rfl _ _ 34 rfl B 5 i0 (.int .u8 0) 1 1 Tryz.underlying34 hi hz0 hz1 hz2 rfl (by decide) _ _ _ rfl (hown.alloc _) ⟨wr.heap.size, 0, none⟩ 2 2 [.int .u8 92, byt s[k]] rfl rfl (cells2_new _ _ _) (by simp [Value.oneCell']) b2 b2' (by simp; omega) ?_; intro v' w1 hown' hgrow _)
        have hBe : Below B w w1 := (HW.out.alloc (by omega) _).grown hgrow (by first | omega | (simp; omega)) (fun g hg => by have := (hown.lt g hg).1; omega)
        exact ⟨⟨out ++ [92, s[k]], k + 1, by go_num, by omega, by simp; omega, by simpa [show byt 92 = Value.int .u8 92 from rfl, show byt 110 = Value.int .u8 110 from rfl] using hown', Lib.hid hBe, HN⟩, by simp [intOf]; omega⟩
      · have e34 : ((s[k].toNat : Int) == 34) = false := by simp; omega
        by_cases h92 : s[k].toNat = 92
        · have e92 : ((s[k].toNat : Int) == 92) = true := by simp [h92]
          have hesc : escL s[k] = [92, s[k]] := by unfold escL; rw [if_pos (.inr h92)]
          have HN : Hid (quoteL (bl s) = out ++ [92, s[k]] ++ (((bl s).drop (k + 1)).flatMap escL ++ [34])) := Lib.hid (by rw [HQ.out, bl_at s k hlt, List.flatMap_cons, hesc]; simp)
          clear h34 h92 hesc
          go_wp2_with (at_builtin; refine wpList_append_own _ rfl _ _ 34 rfl B 5 i0 (.int .u8 0) 1 1 Tryz.underlying34 hi hz0 hz1 hz2 rfl (by decide) _ _ _ rfl (hown.alloc _) ⟨wr.heap.size, 0, none⟩ 2 2 [.int .u8 92, byt s[k]] rfl rfl (cells2_new _ _ _) (by simp [Value.oneCell']) b2 b2' (by simp; omega) ?_; intro v' w1 hown' hgrow _)
          have hBe : Below B w w1 := (HW.out.alloc (by omega) _).grown hgrow (by first | omega | (simp; omega)) (fun g hg => by have := (hown.lt g hg).1; omega)
          exact ⟨⟨out ++ [92, s[k]], k + 1, by go_num, by omega, by simp; omega, by simpa [show byt 92 = Value.int .u8 92 from rfl, show byt 110 = Value.int .u8 110 from rfl] using hown', Lib.hid hBe, HN⟩, by simp [intOf]; omega⟩
        · have e92 : ((s[k].toNat : Int) == 92) = false := by simp; omega
          by_cases h10 : s[k].toNat = 10
          · have e10 : ((s[k].toNat : Int) == 10) = true := by simp [h10]
            have hesc : escL s[k] = [92, 110] := by unfold escL; rw [if_neg (by omega), if_pos h10]
            have HN : Hid (quoteL (bl s) = out ++ [92, 110] ++ (((bl s).drop (k + 1)).flatMap escL ++ [34])) := Lib.hid (by rw [HQ.out, bl_at s k hlt, List.flatMap_cons, hesc]; simp)
            clear h34 h92 h10 hesc
            go_wp2_with (at_builtin; refine wpList_append_own _ rfl _ _ 34 rfl B 5 i0 (.int .u8 0) 1 1 Tryz.underlying34 hi hz0 hz1 hz2 rfl (by decide) _ _ _ rfl (hown.alloc _) ⟨wr.heap.size, 0, none⟩ 2 2 [.int .u8 92, .int .u8 110] rfl rfl (cells2_new _ _ _) (by simp [Value.oneCell']) b2 b2' (by simp; omega) ?_; intro v' w1 hown' hgrow _)
            have hBe : Below B w w1 := (HW.out.alloc (by omega) _).grown hgrow (by first | omega | (simp; omega)) (fun g hg => by have := (hown.lt g hg).1; omega)
            exact ⟨⟨out ++ [92, 110], k + 1, by go_num, by omega, by simp; omega, by simpa [show byt 92 = Value.int .u8 92 from rfl, show byt 110 = Value.int .u8 110 from rfl] using hown', Lib.hid hBe, HN⟩, by simp [intOf]; omega⟩
          · have e10 : ((s[k].toNat : Int) == 10) = false := by simp; omega
            by_cases hx : s[k].toNat < 32 ∨ 126 < s[k].toNat
            · have hesc : escL s[k] = [92, 120, hexD (s[k].toNat / 16), hexD (s[k].toNat % 16)] := by unfold escL; rw [if_neg (by omega), if_neg h10, if_pos hx]
              have HN : Hid (quoteL (bl s) = out ++ [92, 120, hexD (s[k].toNat / 16), hexD (s[k].toNat % 16)] ++ (((bl s).drop (k + 1)).flatMap escL ++ [34])) := Lib.hid (by rw [HQ.out, bl_at s k hlt, List.flatMap_cons, hesc]; simp)
              have hg : decide ((s[k].toNat : Int) < 32) = true ∨ (decide ((s[k].toNat : Int) < 32) = false ∧ decide (126 < (s[k].toNat : Int)) = true) := by
                by_cases h1 : s[k].toNat < 32
                · exact .inl (decide_eq_true (by omega))
                · exact .inr ⟨decide_eq_false (by omega), decide_eq_true (by omega)⟩
              obtain ⟨p, hp⟩ : ∃ p, s[k].toNat / 16 = p := ⟨_, rfl⟩
              obtain ⟨q, hq⟩ : ∃ q, s[k].toNat % 16 = q := ⟨_, rfl⟩
              have hw1 : IntKind.u8.wrap ((s[k].toNat : Int) / 16) = (p : Int) := by rw [u8_wrap_nat _ (by omega) (by omega)]; omega
              have hw2 : IntKind.u8.wrap ((s[k].toNat : Int) % 16) = (q : Int) := by rw [u8_wrap_nat _ (by omega) (by omega)]; omega
              have hw3 : (s[k].toNat : Int).tmod 16 = (q : Int) := by rw [Int.tmod_eq_emod_of_nonneg (by omega)]; omega
              have hp16 : (p : Int) < 16 := by omega
              have hq16 : (q : Int) < 16 := by omega
              rw [hp, hq] at HN
              have hw4 : Op.shift .shr .u8 (s[k].toNat : Int) .u64 4 = pure (.int .u8 (p : Int)) := shr8 _ _ hp
              have hw5 : bits .and .u8 (s[k].toNat : Int) 15 = (q : Int) := and15 _ _ hc256 hq
              clear hp hq
              clear h34 h92 h10 hx hesc
              rcases hg with e32 | ⟨e32, e126⟩
              all_goals
                go_wp2
                obtain ⟨v', w7, hrun, hown7, hgrow7, -⟩ := run_append_own (P := Tryz.prog) ((wr.alloc (.cells #[byt 92, byt 120, byt (hexD p), byt (hexD q)] 5)).drew) B 34 34 5 i0 (.int .u8 0) 1 1 Tryz.underlying34 hi hz0 hz1 hz2 rfl (by decide) _ _ _ (hown.alloc _).drew ⟨wr.heap.size, 0, none⟩ 4 4 [byt 92, byt 120, byt (hexD p), byt (hexD q)] rfl (cells4b_new wr _ _ _ _) (by simp [Value.oneCell']) b4 b4' (by simp [World.drew]; omega)
                refine wp_region_held_drew (S := fun w' => 0 ≤ w'.heap.size) (by kernel_rfl) (Nat.zero_le _) (fun hHeld => ?_)
                refine wpAnyH_take (i := 0) (oi := { dst := some 44, op := Go.Op.move (Go.Operand.tmp 3), type := 34, pos := "ref.go:215", after := #[], guard := none }) (v := ?_) rfl (by kernel_rfl) (by kernel_rfl) (by kernel_rfl) (fun _ _ _ h => h) (Or.inl ⟨by rfl, ?_⟩) (by assumption) ?_
                rotate_left 1
                · intro w hSw; (try dsimp only at hSw); go_simp; try with_reducible rfl
                try simp only [Act.put, List.setIfInBounds_toArray, List.set_cons_zero, List.set_cons_succ]
                refine wpAnyH_take (i := 1) (oi := { dst := some 45, op := Go.Op.move (Go.Operand.tmp 5), type := 5, pos := "ref.go:215", after := #[], guard := none }) (v := ?_) rfl (by kernel_rfl) (by kernel_rfl) (by kernel_rfl) (fun _ _ _ h => h) (Or.inl ⟨by rfl, ?_⟩) (by assumption) ?_
                rotate_left 1
                · intro w hSw; (try dsimp only at hSw); go_simp; try with_reducible rfl
                try simp only [Act.put, List.setIfInBounds_toArray, List.set_cons_zero, List.set_cons_succ]
                refine wpAnyH_take (i := 2) (oi := { dst := some 46, op := Go.Op.binOp Go.BinOp.quo 5 (Go.Operand.tmp 45) (Go.Operand.const (Go.Value.int Go.IntKind.u8 16)) 5, type := 5, pos := "ref.go:215", after := #[{ on := 1, ground := Go.Ground.data }], guard := none }) (v := ?_) rfl (by kernel_rfl) (by kernel_rfl) (by kernel_rfl) (fun _ _ _ h => h) (Or.inl ⟨by rfl, ?_⟩) (by assumption) ?_
                rotate_left 1
                · intro w hSw; (try dsimp only at hSw); go_simp; try with_reducible rfl
                try simp only [Act.put, List.setIfInBounds_toArray, List.set_cons_zero, List.set_cons_succ]
                refine wpAnyH_take (i := 3) (oi := { dst := some 47, op := Go.Op.index 9 (Go.Operand.const (Go.Value.string { data := #[48, 49, 50, 51, 52, 53, 54, 55, 56, 57, 97, 98, 99, 100, 101, 102] })) (Go.Operand.tmp 46), type := 5, pos := "ref.go:215", after := #[{ on := 2, ground := Go.Ground.data }], guard := none }) (v := ?_) rfl (by kernel_rfl) (by kernel_rfl) (by kernel_rfl) (fun _ _ _ h => h) (Or.inl ⟨by rfl, ?_⟩) (by assumption) ?_
                rotate_left 1
                · intro w hSw; (try dsimp only at hSw); go_simp; try with_reducible rfl
                try simp only [Act.put, List.setIfInBounds_toArray, List.set_cons_zero, List.set_cons_succ]
                try simp only [hex_lit]
                refine wpAnyH_take (i := 4) (oi := { dst := some 48, op := Go.Op.move (Go.Operand.tmp 5), type := 5, pos := "ref.go:215", after := #[], guard := none }) (v := ?_) rfl (by kernel_rfl) (by kernel_rfl) (by kernel_rfl) (fun _ _ _ h => h) (Or.inl ⟨by rfl, ?_⟩) (by assumption) ?_
                rotate_left 1
                · intro w hSw; (try dsimp only at hSw); go_simp; try with_reducible rfl
                try simp only [Act.put, List.setIfInBounds_toArray, List.set_cons_zero, List.set_cons_succ]
                refine wpAnyH_take (i := 5) (oi := { dst := some 49, op := Go.Op.binOp Go.BinOp.rem 5 (Go.Operand.tmp 48) (Go.Operand.const (Go.Value.int Go.IntKind.u8 16)) 5, type := 5, pos := "ref.go:215", after := #[{ on := 4, ground := Go.Ground.data }], guard := none }) (v := ?_) rfl (by kernel_rfl) (by kernel_rfl) (by kernel_rfl) (fun _ _ _ h => h) (Or.inl ⟨by rfl, ?_⟩) (by assumption) ?_
                rotate_left 1
                · intro w hSw; (try dsimp only at hSw); go_simp; try with_reducible rfl
                try simp only [Act.put, List.setIfInBounds_toArray, List.set_cons_zero, List.set_cons_succ]
                refine wpAnyH_take (i := 6) (oi := { dst := some 50, op := Go.Op.index 9 (Go.Operand.const (Go.Value.string { data := #[48, 49, 50, 51, 52, 53, 54, 55, 56, 57, 97, 98, 99, 100, 101, 102] })) (Go.Operand.tmp 49), type := 5, pos := "ref.go:215", after := #[{ on := 5, ground := Go.Ground.data }], guard := none }) (v := ?_) rfl (by kernel_rfl) (by kernel_rfl) (by kernel_rfl) (fun _ _ _ h => h) (Or.inl ⟨by rfl, ?_⟩) (by assumption) ?_
                rotate_left 1
                · intro w hSw; (try dsimp only at hSw); go_simp; try with_reducible rfl
                try simp only [Act.put, List.setIfInBounds_toArray, List.set_cons_zero, List.set_cons_succ]
                try simp only [hex_lit]
                refine wpAnyH_ready (rs := [7]) (by kernel_rfl) (by simp) ?_
                refine AllReadyH.cons (o := { dst := some 51, op := Go.Op.buildSlice 34 4 #[(0, Go.Operand.const (Go.Value.int Go.IntKind.u8 92)), (1, Go.Operand.const (Go.Value.int Go.IntKind.u8 120)), (2, Go.Operand.tmp 47), (3, Go.Operand.tmp 50)], type := 34, pos := "ref.go:215", after := #[{ on := 3, ground := Go.Ground.data }, { on := 6, ground := Go.Ground.data }], guard := none }) rfl (fun K hK => ?_) (AllReadyH.nil)
                go_simp
                refine hK.out _ _ (Nat.zero_le _) (fun hHeld => ?_)
                clear hK K
                try simp only [Act.put, List.setIfInBounds_toArray, List.set_cons_zero, List.set_cons_succ]
                refine wpAnyH_ready (rs := [8]) (by kernel_rfl) (by simp) ?_
                refine AllReadyH.cons (o := { dst := some 52, op := Go.Op.call { callee := Go.Callee.builtin Go.Builtin.append, args := #[Go.Operand.tmp 44, Go.Operand.tmp 51], argTypes := #[34, 34] }, type := 34, pos := "ref.go:215", after := #[{ on := 0, ground := Go.Ground.data }, { on := 7, ground := Go.Ground.data }], guard := none }) rfl (fun K hK => ?_) (AllReadyH.nil)
                refine step_append_run _ rfl _ _ _ _ rfl _ _ (by rfl) (by rfl) _ w7 hrun ?_
                refine hK.out _ _ (Nat.zero_le _) (fun hHeld => ?_)
                clear hK K
                try simp only [Act.put, List.setIfInBounds_toArray, List.set_cons_zero, List.set_cons_succ]
                refine wpAnyH_take (i := 9) (oi := { dst := some 3, op := Go.Op.assign (Go.Operand.tmp 52), type := 34, pos := "ref.go:215", after := #[{ on := 8, ground := Go.Ground.data }, { on := 8, ground := Go.Ground.chain }, { on := 0, ground := Go.Ground.phase }, { on := 1, ground := Go.Ground.phase }, { on := 2, ground := Go.Ground.phase }, { on := 3, ground := Go.Ground.phase }, { on := 4, ground := Go.Ground.phase }, { on := 5, ground := Go.Ground.phase }, { on := 6, ground := Go.Ground.phase }, { on := 7, ground := Go.Ground.phase }, { on := 8, ground := Go.Ground.phase }], guard := none }) (v := ?_) rfl (by kernel_rfl) (by kernel_rfl) (by kernel_rfl) (fun _ _ _ h => h) (Or.inl ⟨by rfl, ?_⟩) (by assumption) ?_
                rotate_left 1
                · intro w hSw; (try dsimp only at hSw); go_simp; try with_reducible rfl
                try simp only [Act.put, List.setIfInBounds_toArray, List.set_cons_zero, List.set_cons_succ]
                refine wpAnyH_done (by kernel_rfl) ?_ _
                go_wp2
                have hBe : Below B w w7 := ((HW.out.alloc (by omega) _).drew).grown hgrow7 (by simp [World.drew]; omega) (fun g hg => by have := (hown.lt g hg).1; omega)
                exact ⟨⟨out ++ [92, 120, hexD p, hexD q], k + 1, by go_num, by omega, by simp; omega, by simpa using hown7, Lib.hid hBe, HN⟩, by simp [intOf]; omega⟩
            · have e32 : decide ((s[k].toNat : Int) < 32) = false := decide_eq_false (by omega)
              have e126 : decide (126 < (s[k].toNat : Int)) = false := decide_eq_false (by omega)
              have hesc : escL s[k] = [s[k]] := by unfold escL; rw [if_neg (by omega), if_neg h10, if_neg hx]
              have HN : Hid (quoteL (bl s) = out ++ [s[k]] ++ (((bl s).drop (k + 1)).flatMap escL ++ [34])) := Lib.hid (by rw [HQ.out, bl_at s k hlt, List.flatMap_cons, hesc]; simp)
              clear h34 h92 h10 hx hesc
              go_wp2_with (at_builtin; refine wpList_append_own _ rfl _ _ 34 rfl B 5 i0 (.int .u8 0) 1 1 Tryz.underlying34 hi hz0 hz1 hz2 rfl (by decide) _ _ _ rfl (hown.alloc _) ⟨wr.heap.size, 0, none⟩ 1 1 [byt s[k]] rfl rfl (cell_one_new _ _ _) (by simp [Value.oneCell']) b1 b1' (by simp; omega) ?_; intro v' w1 hown' hgrow _)
              have hBe : Below B w w1 := (HW.out.alloc (by omega) _).grown hgrow (by first | omega | (simp; omega)) (fun g hg => by have := (hown.lt g hg).1; omega)
              exact ⟨⟨out ++ [s[k]], k + 1, by go_num, by omega, by simp; omega, by simpa [show byt 92 = Value.int .u8 92 from rfl, show byt 110 = Value.int .u8 110 from rfl] using hown', Lib.hid hBe, HN⟩, by simp [intOf]; omega⟩
    · obtain rfl : k = s.size := by omega
      have HF : Hid (quoteL (bl s) = out ++ [34]) := Lib.hid (by rw [HQ.out, List.drop_eq_nil_of_le (by rw [bl_len]; omega)]; simp)
      clear hlt
      go_wp2_with (at_builtin; refine wpList_append_own _ rfl _ _ 34 rfl B 5 i0 (.int .u8 0) 1 1 Tryz.underlying34 hi hz0 hz1 hz2 rfl (by decide) _ _ _ rfl (hown.alloc _) ⟨wr.heap.size, 0, none⟩ 1 1 [.int .u8 34] rfl rfl (cell_one_new _ _ _) (by simp [Value.oneCell']) b1 b1' (by simp; omega) ?_; intro v' w1 hown' hgrow _; have hcv : (convert 34 9 v').run Tryz.prog w1 = .ok (.string ⟨(out ++ [34]).toArray⟩) w1 := conv_own (l := out ++ [34]) (base := B) (by simpa [show byt 34 = Value.int .u8 34 from rfl] using hown'); obtain ⟨A, cp, rfl, -⟩ := own_form hown'; clear hown')
      have hBe : Below B w w1 := (HW.out.alloc (by omega) _).grown hgrow (by first | omega | (simp; omega)) (fun g hg => by have := (hown.lt g hg).1; omega)
      go_ret
      rw [HF.out]
      exact ⟨rfl, HB.out ▸ hBe⟩

set_option maxRecDepth 100000 in
set_option maxHeartbeats 16000000 in
theorem quoted_any (s : ByteArray) (hz : s.size ≤ 48000) (w : World) : Calls Tryz.prog 22 #[.string s] w fun e w' => e = .returned (.string ⟨(quoteL (bl s)).toArray⟩) ∧ Below w.heap.size w w' := by
  obtain ⟨i0, hi, hz0, hz1, hz2⟩ := info_parts info5
  have hrow0 := World.ownsRow_lit (base := w.heap.size) (e := 5) (size := 1) w #[.int .u8 34] 1 (Nat.le_refl _) (by decide) rfl
  have hb0 : Below w.heap.size w (w.alloc (.cells #[.int .u8 34] 5)) := (Below.refl _ w).alloc (Nat.le_refl _) _
  have HR := Lib.hid (And.intro hrow0 hb0)
  obtain ⟨B, hB⟩ : ∃ B, w.heap.size = B := ⟨_, rfl⟩
  have HB := Lib.hid hB
  clear hrow0 hb0 hB
  go_enter Tryz.func22, Tryz.ntmps22
  go_wp2
  go_loopw [3, 9] (fun v i wr => ∃ (out : List UInt8) (k : Nat), i = .int .i64 k ∧ k ≤ s.size ∧ out.length ≤ 1 + 4 * k ∧ wr.ownsRow B 5 1 v out.length (out.map byt) ∧
      Hid (Below B w wr) ∧ Hid (quoteL (bl s) = out ++ (((bl s).drop k).flatMap escL ++ [34]))) (fun _ i _ => s.size - (intOf i).toNat)
  case atStart =>
    have h := HR.out
    rw [HB.out] at h ⊢
    exact ⟨[34], 0, rfl, by omega, by simp, by simpa [show byt 34 = Value.int .u8 34 from rfl] using h.1, Lib.hid h.2, Lib.hid rfl⟩
  case round =>
    clear HR
    obtain ⟨out, k, rfl, hk, hol, hown, HW, HQ⟩ := hrel
    have hsz := HW.out.size
    rw [HB.out] at hsz
    have b1 : out.length + 1 ≤ maxLen := by unfold maxLen; omega
    have b1' : (out.length + 1) * 1 ≤ 140737488355328 := by omega
    have b2 : out.length + 2 ≤ maxLen := by unfold maxLen; omega
    have b2' : (out.length + 2) * 1 ≤ 140737488355328 := by omega
    have b2'' : out.length + 2 ≤ 140737488355328 := by omega
    have b4 : out.length + 4 ≤ maxLen := by unfold maxLen; omega
    have b4' : (out.length + 4) * 1 ≤ 140737488355328 := by omega
    by_cases hlt : k < s.size
    · have hdl : decide ((k : Int) < (s.size : Int)) = true := decide_eq_true (by omega)
      have hc256 : s[k].toNat < 256 := s[k].toNat_lt
      by_cases h34 : s[k].toNat = 34
      · have e34 : ((s[k].toNat : Int) == 34) = true := by simp [h34]
        have hesc : escL s[k] = [92, s[k]] := by unfold escL; rw [if_pos (.inl h34)]
        have HN : Hid (quoteL (bl s) = out ++ [92, s[k]] ++ (((bl s).drop (k + 1)).flatMap escL ++ [34])) := Lib.hid (by rw [HQ.out, bl_at s k hlt, List.flatMap_cons, hesc]; simp)
        clear h34 hesc
        go_wp2_with (at_builtin; refine wpList_append_own _ rfl _ _ 34 rfl B 5 i0 (.int .u8 0) 1 1 Tryz.underlying34 hi hz0 hz1 hz2 rfl (by decide) _ _ _ rfl (hown.alloc _) ⟨wr.heap.size, 0, none⟩ 2 2 [.int .u8 92, byt s[k]] rfl rfl (cells2_new _ _ _) (by simp [Value.oneCell']) b2 b2' (by simp; omega) ?_; intro v' w1 hown' hgrow _)
        have hBe : Below B w w1 := (HW.out.alloc (by omega) _).grown hgrow (by first | omega | (simp; omega)) (fun g hg => by have := (hown.lt g hg).1; omega)
        exact ⟨⟨out ++ [92, s[k]], k + 1, by go_num, by omega, by simp; omega, by simpa [show byt 92 = Value.int .u8 92 from rfl, show byt 110 = Value.int .u8 110 from rfl] using hown', Lib.hid hBe, HN⟩, by simp [intOf]; omega⟩
      · have e34 : ((s[k].toNat : Int) == 34) = false := by simp; omega
        by_cases h92 : s[k].toNat = 92
        · have e92 : ((s[k].toNat : Int) == 92) = true := by simp [h92]
          have hesc : escL s[k] = [92, s[k]] := by unfold escL; rw [if_pos (.inr h92)]
          have HN : Hid (quoteL (bl s) = out ++ [92, s[k]] ++ (((bl s).drop (k + 1)).flatMap escL ++ [34])) := Lib.hid (by rw [HQ.out, bl_at s k hlt, List.flatMap_cons, hesc]; simp)
          clear h34 h92 hesc
          go_wp2_with (at_builtin; refine wpList_append_own _ rfl _ _ 34 rfl B 5 i0 (.int .u8 0) 1 1 Tryz.underlying34 hi hz0 hz1 hz2 rfl (by decide) _ _ _ rfl (hown.alloc _) ⟨wr.heap.size, 0, none⟩ 2 2 [.int .u8 92, byt s[k]] rfl rfl (cells2_new _ _ _) (by simp [Value.oneCell']) b2 b2' (by simp; omega) ?_; intro v' w1 hown' hgrow _)
          have hBe : Below B w w1 := (HW.out.alloc (by omega) _).grown hgrow (by first | omega | (simp; omega)) (fun g hg => by have := (hown.lt g hg).1; omega)
          exact ⟨⟨out ++ [92, s[k]], k + 1, by go_num, by omega, by simp; omega, by simpa [show byt 92 = Value.int .u8 92 from rfl, show byt 110 = Value.int .u8 110 from rfl] using hown', Lib.hid hBe, HN⟩, by simp [intOf]; omega⟩
        · have e92 : ((s[k].toNat : Int) == 92) = false := by simp; omega
          by_cases h10 : s[k].toNat = 10
          · have e10 : ((s[k].toNat : Int) == 10) = true := by simp [h10]
            have hesc : escL s[k] = [92, 110] := by unfold escL; rw [if_neg (by omega), if_pos h10]
            have HN : Hid (quoteL (bl s) = out ++ [92, 110] ++ (((bl s).drop (k + 1)).flatMap escL ++ [34])) := Lib.hid (by rw [HQ.out, bl_at s k hlt, List.flatMap_cons, hesc]; simp)
            clear h34 h92 h10 hesc
            go_wp2_with (at_builtin; refine Lib.wpList_append_own_string _ rfl _ _ 34 9 rfl B 5 i0 Tryz.underlying34 Tryz.underlying9 hi hz0 hz1 hz2 _ _ _ rfl hown ⟨#[92, 110]⟩ rfl b2 b2'' (by omega) ?_; intro v' w1 hownS hgrow _; have hown' : w1.ownsRow B 5 1 v' (out.length + 2) (out.map byt ++ [.int .u8 92, .int .u8 110]) := hownS)
            have hBe : Below B w w1 := HW.out.grown hgrow (by first | omega | (simp; omega)) (fun g hg => by have := (hown.lt g hg).1; omega)
            exact ⟨⟨out ++ [92, 110], k + 1, by go_num, by omega, by simp; omega, by simpa [show byt 92 = Value.int .u8 92 from rfl, show byt 110 = Value.int .u8 110 from rfl] using hown', Lib.hid hBe, HN⟩, by simp [intOf]; omega⟩
          · have e10 : ((s[k].toNat : Int) == 10) = false := by simp; omega
            by_cases hx : s[k].toNat < 32 ∨ 126 < s[k].toNat
            · have hesc : escL s[k] = [92, 120, hexD (s[k].toNat / 16), hexD (s[k].toNat % 16)] := by unfold escL; rw [if_neg (by omega), if_neg h10, if_pos hx]
              have HN : Hid (quoteL (bl s) = out ++ [92, 120, hexD (s[k].toNat / 16), hexD (s[k].toNat % 16)] ++ (((bl s).drop (k + 1)).flatMap escL ++ [34])) := Lib.hid (by rw [HQ.out, bl_at s k hlt, List.flatMap_cons, hesc]; simp)
              have hg : decide ((s[k].toNat : Int) < 32) = true ∨ (decide ((s[k].toNat : Int) < 32) = false ∧ decide (126 < (s[k].toNat : Int)) = true) := by
                by_cases h1 : s[k].toNat < 32
                · exact .inl (decide_eq_true (by omega))
                · exact .inr ⟨decide_eq_false (by omega), decide_eq_true (by omega)⟩
              obtain ⟨p, hp⟩ : ∃ p, s[k].toNat / 16 = p := ⟨_, rfl⟩
              obtain ⟨q, hq⟩ : ∃ q, s[k].toNat % 16 = q := ⟨_, rfl⟩
              have hw1 : IntKind.u8.wrap ((s[k].toNat : Int) / 16) = (p : Int) := by rw [u8_wrap_nat _ (by omega) (by omega)]; omega
              have hw2 : IntKind.u8.wrap ((s[k].toNat : Int) % 16) = (q : Int) := by rw [u8_wrap_nat _ (by omega) (by omega)]; omega
              have hw3 : (s[k].toNat : Int).tmod 16 = (q : Int) := by rw [Int.tmod_eq_emod_of_nonneg (by omega)]; omega
              have hp16 : (p : Int) < 16 := by omega
              have hq16 : (q : Int) < 16 := by omega
              rw [hp, hq] at HN
              have hw4 : Op.shift .shr .u8 (s[k].toNat : Int) .u64 4 = pure (.int .u8 (p : Int)) := shr8 _ _ hp
              have hw5 : bits .and .u8 (s[k].toNat : Int) 15 = (q : Int) := and15 _ _ hc256 hq
              clear hp hq
              clear h34 h92 h10 hx hesc
              rcases hg with e32 | ⟨e32, e126⟩
              all_goals
                go_wp2
                obtain ⟨v', w7, hrun, hown7, hgrow7, -⟩ := run_append_own (P := Tryz.prog) ((wr.alloc (.cells #[byt 92, byt 120, byt (hexD p), byt (hexD q)] 5)).drew) B 34 34 5 i0 (.int .u8 0) 1 1 Tryz.underlying34 hi hz0 hz1 hz2 rfl (by decide) _ _ _ (hown.alloc _).drew ⟨wr.heap.size, 0, none⟩ 4 4 [byt 92, byt 120, byt (hexD p), byt (hexD q)] rfl (cells4b_new wr _ _ _ _) (by simp [Value.oneCell']) b4 b4' (by simp [World.drew]; omega)
                refine wp_region_held_drew (S := fun w' => 0 ≤ w'.heap.size) (by kernel_rfl) (Nat.zero_le _) (fun hHeld => ?_)
                refine wpAnyH_take (i := 0) (oi := { dst := some 42, op := Go.Op.move (Go.Operand.tmp 3), type := 34, pos := "text.go:63", after := #[], guard := none }) (v := ?_) rfl (by kernel_rfl) (by kernel_rfl) (by kernel_rfl) (fun _ _ _ h => h) (Or.inl ⟨by rfl, ?_⟩) (by assumption) ?_
                rotate_left 1
                · intro w hSw; (try dsimp only at hSw); go_simp; try with_reducible rfl
                try simp only [Act.put, List.setIfInBounds_toArray, List.set_cons_zero, List.set_cons_succ]
                refine wpAnyH_take (i := 1) (oi := { dst := some 43, op := Go.Op.move (Go.Operand.tmp 5), type := 5, pos := "text.go:63", after := #[], guard := none }) (v := ?_) rfl (by kernel_rfl) (by kernel_rfl) (by kernel_rfl) (fun _ _ _ h => h) (Or.inl ⟨by rfl, ?_⟩) (by assumption) ?_
                rotate_left 1
                · intro w hSw; (try dsimp only at hSw); go_simp; try with_reducible rfl
                try simp only [Act.put, List.setIfInBounds_toArray, List.set_cons_zero, List.set_cons_succ]
                refine wpAnyH_take (i := 2) (oi := { dst := some 44, op := Go.Op.binOp Go.BinOp.shr 5 (Go.Operand.tmp 43) (Go.Operand.const (Go.Value.int Go.IntKind.u64 4)) 58, type := 5, pos := "text.go:63", after := #[{ on := 1, ground := Go.Ground.data }], guard := none }) (v := ?_) rfl (by kernel_rfl) (by kernel_rfl) (by kernel_rfl) (fun _ _ _ h => h) (Or.inl ⟨by rfl, ?_⟩) (by assumption) ?_
                rotate_left 1
                · intro w hSw; (try dsimp only at hSw); go_simp; try with_reducible rfl
                try simp only [Act.put, List.setIfInBounds_toArray, List.set_cons_zero, List.set_cons_succ]
                refine wpAnyH_take (i := 3) (oi := { dst := some 45, op := Go.Op.index 9 (Go.Operand.const (Go.Value.string { data := #[48, 49, 50, 51, 52, 53, 54, 55, 56, 57, 97, 98, 99, 100, 101, 102] })) (Go.Operand.tmp 44), type := 5, pos := "text.go:63", after := #[{ on := 2, ground := Go.Ground.data }], guard := none }) (v := ?_) rfl (by kernel_rfl) (by kernel_rfl) (by kernel_rfl) (fun _ _ _ h => h) (Or.inl ⟨by rfl, ?_⟩) (by assumption) ?_
                rotate_left 1
                · intro w hSw; (try dsimp only at hSw); go_simp; try with_reducible rfl
                try simp only [Act.put, List.setIfInBounds_toArray, List.set_cons_zero, List.set_cons_succ]
                try simp only [hex_lit]
                refine wpAnyH_take (i := 4) (oi := { dst := some 46, op := Go.Op.move (Go.Operand.tmp 5), type := 5, pos := "text.go:63", after := #[], guard := none }) (v := ?_) rfl (by kernel_rfl) (by kernel_rfl) (by kernel_rfl) (fun _ _ _ h => h) (Or.inl ⟨by rfl, ?_⟩) (by assumption) ?_
                rotate_left 1
                · intro w hSw; (try dsimp only at hSw); go_simp; try with_reducible rfl
                try simp only [Act.put, List.setIfInBounds_toArray, List.set_cons_zero, List.set_cons_succ]
                refine wpAnyH_take (i := 5) (oi := { dst := some 47, op := Go.Op.binOp Go.BinOp.and 5 (Go.Operand.tmp 46) (Go.Operand.const (Go.Value.int Go.IntKind.u8 15)) 5, type := 5, pos := "text.go:63", after := #[{ on := 4, ground := Go.Ground.data }], guard := none }) (v := ?_) rfl (by kernel_rfl) (by kernel_rfl) (by kernel_rfl) (fun _ _ _ h => h) (Or.inl ⟨by rfl, ?_⟩) (by assumption) ?_
                rotate_left 1
                · intro w hSw; (try dsimp only at hSw); go_simp; try with_reducible rfl
                try simp only [Act.put, List.setIfInBounds_toArray, List.set_cons_zero, List.set_cons_succ]
                refine wpAnyH_take (i := 6) (oi := { dst := some 48, op := Go.Op.index 9 (Go.Operand.const (Go.Value.string { data := #[48, 49, 50, 51, 52, 53, 54, 55, 56, 57, 97, 98, 99, 100, 101, 102] })) (Go.Operand.tmp 47), type := 5, pos := "text.go:63", after := #[{ on := 5, ground := Go.Ground.data }], guard := none }) (v := ?_) rfl (by kernel_rfl) (by kernel_rfl) (by kernel_rfl) (fun _ _ _ h => h) (Or.inl ⟨by rfl, ?_⟩) (by assumption) ?_
                rotate_left 1
                · intro w hSw; (try dsimp only at hSw); go_simp; try with_reducible rfl
                try simp only [Act.put, List.setIfInBounds_toArray, List.set_cons_zero, List.set_cons_succ]
                try simp only [hex_lit]
                refine wpAnyH_ready (rs := [7]) (by kernel_rfl) (by simp) ?_
                refine AllReadyH.cons (o := { dst := some 49, op := Go.Op.buildSlice 34 4 #[(0, Go.Operand.const (Go.Value.int Go.IntKind.u8 92)), (1, Go.Operand.const (Go.Value.int Go.IntKind.u8 120)), (2, Go.Operand.tmp 45), (3, Go.Operand.tmp 48)], type := 34, pos := "text.go:63", after := #[{ on := 3, ground := Go.Ground.data }, { on := 6, ground := Go.Ground.data }], guard := none }) rfl (fun K hK => ?_) (AllReadyH.nil)
                go_simp
                refine hK.out _ _ (Nat.zero_le _) (fun hHeld => ?_)
                clear hK K
                try simp only [Act.put, List.setIfInBounds_toArray, List.set_cons_zero, List.set_cons_succ]
                refine wpAnyH_ready (rs := [8]) (by kernel_rfl) (by simp) ?_
                refine AllReadyH.cons (o := { dst := some 50, op := Go.Op.call { callee := Go.Callee.builtin Go.Builtin.append, args := #[Go.Operand.tmp 42, Go.Operand.tmp 49], argTypes := #[34, 34] }, type := 34, pos := "text.go:63", after := #[{ on := 0, ground := Go.Ground.data }, { on := 7, ground := Go.Ground.data }], guard := none }) rfl (fun K hK => ?_) (AllReadyH.nil)
                refine step_append_run _ rfl _ _ _ _ rfl _ _ (by rfl) (by rfl) _ w7 hrun ?_
                refine hK.out _ _ (Nat.zero_le _) (fun hHeld => ?_)
                clear hK K
                try simp only [Act.put, List.setIfInBounds_toArray, List.set_cons_zero, List.set_cons_succ]
                refine wpAnyH_take (i := 9) (oi := { dst := some 3, op := Go.Op.assign (Go.Operand.tmp 50), type := 34, pos := "text.go:63", after := #[{ on := 8, ground := Go.Ground.data }, { on := 8, ground := Go.Ground.chain }, { on := 0, ground := Go.Ground.phase }, { on := 1, ground := Go.Ground.phase }, { on := 2, ground := Go.Ground.phase }, { on := 3, ground := Go.Ground.phase }, { on := 4, ground := Go.Ground.phase }, { on := 5, ground := Go.Ground.phase }, { on := 6, ground := Go.Ground.phase }, { on := 7, ground := Go.Ground.phase }, { on := 8, ground := Go.Ground.phase }], guard := none }) (v := ?_) rfl (by kernel_rfl) (by kernel_rfl) (by kernel_rfl) (fun _ _ _ h => h) (Or.inl ⟨by rfl, ?_⟩) (by assumption) ?_
                rotate_left 1
                · intro w hSw; (try dsimp only at hSw); go_simp; try with_reducible rfl
                try simp only [Act.put, List.setIfInBounds_toArray, List.set_cons_zero, List.set_cons_succ]
                refine wpAnyH_done (by kernel_rfl) ?_ _
                go_wp2
                have hBe : Below B w w7 := ((HW.out.alloc (by omega) _).drew).grown hgrow7 (by simp [World.drew]; omega) (fun g hg => by have := (hown.lt g hg).1; omega)
                exact ⟨⟨out ++ [92, 120, hexD p, hexD q], k + 1, by go_num, by omega, by simp; omega, by simpa using hown7, Lib.hid hBe, HN⟩, by simp [intOf]; omega⟩
            · have e32 : decide ((s[k].toNat : Int) < 32) = false := decide_eq_false (by omega)
              have e126 : decide (126 < (s[k].toNat : Int)) = false := decide_eq_false (by omega)
              have hesc : escL s[k] = [s[k]] := by unfold escL; rw [if_neg (by omega), if_neg h10, if_neg hx]
              have HN : Hid (quoteL (bl s) = out ++ [s[k]] ++ (((bl s).drop (k + 1)).flatMap escL ++ [34])) := Lib.hid (by rw [HQ.out, bl_at s k hlt, List.flatMap_cons, hesc]; simp)
              clear h34 h92 h10 hx hesc
              go_wp2_with (at_builtin; refine wpList_append_own _ rfl _ _ 34 rfl B 5 i0 (.int .u8 0) 1 1 Tryz.underlying34 hi hz0 hz1 hz2 rfl (by decide) _ _ _ rfl (hown.alloc _) ⟨wr.heap.size, 0, none⟩ 1 1 [byt s[k]] rfl rfl (cell_one_new _ _ _) (by simp [Value.oneCell']) b1 b1' (by simp; omega) ?_; intro v' w1 hown' hgrow _)
              have hBe : Below B w w1 := (HW.out.alloc (by omega) _).grown hgrow (by first | omega | (simp; omega)) (fun g hg => by have := (hown.lt g hg).1; omega)
              exact ⟨⟨out ++ [s[k]], k + 1, by go_num, by omega, by simp; omega, by simpa [show byt 92 = Value.int .u8 92 from rfl, show byt 110 = Value.int .u8 110 from rfl] using hown', Lib.hid hBe, HN⟩, by simp [intOf]; omega⟩
    · obtain rfl : k = s.size := by omega
      have HF : Hid (quoteL (bl s) = out ++ [34]) := Lib.hid (by rw [HQ.out, List.drop_eq_nil_of_le (by rw [bl_len]; omega)]; simp)
      clear hlt
      go_wp2_with (at_builtin; refine wpList_append_own _ rfl _ _ 34 rfl B 5 i0 (.int .u8 0) 1 1 Tryz.underlying34 hi hz0 hz1 hz2 rfl (by decide) _ _ _ rfl (hown.alloc _) ⟨wr.heap.size, 0, none⟩ 1 1 [.int .u8 34] rfl rfl (cell_one_new _ _ _) (by simp [Value.oneCell']) b1 b1' (by simp; omega) ?_; intro v' w1 hown' hgrow _; have hcv : (convert 34 9 v').run Tryz.prog w1 = .ok (.string ⟨(out ++ [34]).toArray⟩) w1 := conv_own (l := out ++ [34]) (base := B) (by simpa [show byt 34 = Value.int .u8 34 from rfl] using hown'); obtain ⟨A, cp, rfl, -⟩ := own_form hown'; clear hown')
      have hBe : Below B w w1 := (HW.out.alloc (by omega) _).grown hgrow (by first | omega | (simp; omega)) (fun g hg => by have := (hown.lt g hg).1; omega)
      go_ret
      rw [HF.out]
      exact ⟨rfl, HB.out ▸ hBe⟩
end Go.Proofs.YtnaopgajinbnmaaGreatDoor
