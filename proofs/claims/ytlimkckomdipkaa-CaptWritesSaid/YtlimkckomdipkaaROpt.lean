/- The reference's options and blocks. -/
import Derived.Test.YtlimkckomdipkaaRBlo
namespace Go.Proofs.Ytlimkckomdipkaa
open Go.RowKit

theorem numsB_c (low : Bool) (n v : Nat) (vs : List Nat) : numsB low n (v :: vs) = numB low n v ++ numsB low n vs := by simp [numsB]
theorem numsB_o (low : Bool) (n v : Nat) : numsB low n [v] = numB low n v := by simp [numsB]
theorem zeros2 (low : Bool) : numsB low 2 [0, 0] = [0, 0, 0, 0] := by cases low <;> rfl
theorem optB_ref (low : Bool) (code L : Nat) (s : ByteArray) (h0 : ¬ s.size = 0) (hL : L % 4 = 0) : optB low code L s = (numB low 2 code ++ numB low 2 s.size) ++ ((strL s ++ padB (strL s).length) ++ [0, 0, 0, 0]) := by
  unfold optB
  rw [if_neg h0, zeros2, numsB_c, numsB_c, strL_len]
  have e : padB (L + 4 + s.size) = padB s.size := by unfold padB padN; rw [show (L + 4 + s.size) % 4 = s.size % 4 by omega]
  rw [e]
  simp [numsB]
theorem numB_len' (low : Bool) (n v : Nat) : (numB low n v).length = n := numB_len low n v
set_option maxRecDepth 100000 in
set_option maxHeartbeats 2000000 in
theorem roption_any {w : World} (low : Bool) (code L : Nat) (s : ByteArray) (hs : s.size ≤ 200) (hL : L % 4 = 0) :
    Calls Try.prog 36 #[.int .i64 code, .string s, .bool low] w (OwnG w w.heap.size (optB low code L s)) := by
  obtain ⟨B, hB⟩ : ∃ B, w.heap.size = B := ⟨_, rfl⟩
  have HB := Lib.hid hB
  by_cases h0 : s.size = 0
  · have HNEW : Hid (OwnG w w.heap.size (optB low code L s) (.returned (.slice none 0 0)) w) := Lib.hid (by
      unfold optB; rw [if_pos h0]
      exact ⟨_, rfl, ⟨by simp, .inl ⟨rfl, rfl⟩⟩, Below.refl _ _⟩)
    have he := empty_toList h0
    clear h0 hB
    go_enter Try.func36, Try.ntmps36
    go_wp2
    go_ret
    exact HNEW.out
  · have hne : (s.toList == []) = false := by
      refine beq_eq_false_iff_ne.2 (fun e => h0 ?_)
      rw [ByteArray.toList_eq] at e
      have := congrArg List.length e
      rw [Array.length_toList] at this
      exact this
    have hne2 : s.toList.isEmpty = false := by
      cases hl : s.toList with
      | nil => rw [hl] at hne; cases hne
      | cons a l => rfl
    have HE := Lib.hid (optB_ref low code L s h0 hL)
    have H1 := Lib.hid (rtwo_any (w := w) low code)
    have HS := Lib.hid hs
    rw [hB]
    clear h0 hB hs
    go_enter Try.func36, Try.ntmps36
    go_wp2_with fail
    refine H1.out.mono ?_
    rintro e w1 ⟨v1, rfl, ho1, hb1⟩
    have G1 := Lib.hid (Gro.of_own ho1 (numB_lt low 2 code))
    have B1 : Hid (Below B w w1) := Lib.hid (by rw [← HB.out]; exact hb1)
    rw [HB.out] at G1
    have hz1 : B ≤ w1.heap.size := by have := hb1.size; have := HB.out; omega
    have H2 := Lib.hid (rtwo_any (w := w1) low s.size)
    clear ho1 hb1 H1
    go_wp2_with fail
    refine H2.out.mono ?_
    rintro e w2 ⟨v2, rfl, ho2, hb2⟩
    obtain ⟨A2, c2, hv2⟩ := own_form ho2
    rw [numB_len] at hv2
    subst hv2
    have G2 := Lib.hid (Gro.of_own ho2 (numB_lt low 2 s.size))
    have hby2 : Byt w2 w2.heap.size A2 (numB low 2 s.size) := by
      have := G2.out
      rw [show (Value.slice A2 2 c2) = .slice A2 (numB low 2 s.size).length c2 by rw [numB_len]] at this
      exact this.byt
    have g12 := G1.out.below hb2
    have hz2 := hb2.size
    obtain ⟨v3, w3, hrun3, h3⟩ := g12.app c2 hby2 (by rw [numB_len]; omega) (by rw [numB_len]; omega) (by omega)
    rw [numB_len] at hrun3
    have B3 : Hid (Below B w w3) := Lib.hid (h3.below (B1.out.trans (hb2.mono hz1)) (by omega) (fun g hg => (g12.lt g hg).1))
    have G3 := Lib.hid h3.own
    have hz3 : B ≤ w3.heap.size := by have := h3.grown.size; omega
    clear ho2 hb2 H2 G2 hby2 g12 h3 G1 B1 hz1 hz2
    obtain ⟨c4, w4, hconv, hb4, g4⟩ := gro_str w3 s (by have := HS.out; omega)
    have hz4 := hb4.size
    have G34 := Lib.hid (G3.out.below hb4)
    have B4 : Hid (Below B w w4) := Lib.hid (B3.out.trans (hb4.mono hz3))
    have HF := Lib.hid (rfilled_any g4 hz4 (by rw [strL_len]; have := HS.out; omega))
    have HN3 : Hid (∀ k, v3.ownBlock = some k → B ≤ k ∧ k < w3.heap.size) := Lib.hid G3.out.lt
    have H34 : Hid (w3.heap.size ≤ w4.heap.size) := Lib.hid hz4
    clear hb4 g4 B3 hz4 G3
    go_wp2_with (at_builtin; refine Lib.wpList_append_run _ rfl _ _ _ _ rfl _ _ rfl rfl _ _ hrun3 ?_)
    refine HF.out.mono ?_
    rintro e w5 ⟨v5, rfl, h5⟩
    obtain ⟨A5, c5, hv5⟩ := h5.own.form
    have hz5 := h5.grown.size
    have far4 : ∀ g, (Value.slice (some ⟨w3.heap.size, 0, none⟩) s.size c4).ownBlock = some g → w3.heap.size ≤ g := fun g hg => by simp [Value.ownBlock] at hg; omega
    have G35 := Lib.hid (G34.out.kept h5.grown (ne_own (fun k hk => (HN3.out k hk).2) far4))
    have far5 := h5.far far4 H34.out
    have B5 : Hid (Below B w w5) := Lib.hid (h5.below B4.out (by have := H34.out; omega) (fun g hg => Nat.le_trans hz3 (far4 g hg)))
    have hlit := lit_byt (w := w5) #[.int .u8 0, .int .u8 0, .int .u8 0, .int .u8 0] [0, 0, 0, 0] rfl (by simp) rfl
    have hl5 : (strL s ++ padB (strL s).length).length ≤ 203 := by
      have := padN_le (strL s).length
      rw [List.length_append, padB_len, strL_len] at *
      have := HS.out; omega
    obtain ⟨v6, w6, hrun6, h6⟩ := Gro.app (h5.own.kept (World.grownBy_alloc w5 (.cells #[.int .u8 0, .int .u8 0, .int .u8 0, .int .u8 0] 5) none) (by cases v5.ownBlock <;> simp)) 4 hlit (by simp) (by omega) (by rw [alloc_size]; have := H34.out; omega)
    have hrun6' : (Builtin.append_ #[30, 30] 30 #[v5, .slice (some ⟨w5.heap.size, 0, none⟩) 4 4]).run Try.prog (w5.alloc (.cells #[.int .u8 0, .int .u8 0, .int .u8 0, .int .u8 0] 5)) = .ok v6 w6 := hrun6
    have h6p := AppG.pre (World.grownBy_alloc w5 (.cells #[.int .u8 0, .int .u8 0, .int .u8 0, .int .u8 0] 5) none) h6
    have G36 := Lib.hid (G35.out.kept h6p.grown (ne_own (fun k hk => (HN3.out k hk).2) far5))
    have B6 : Hid (Below B w w6) := Lib.hid (h6p.below B5.out (by have := H34.out; omega) (fun g hg => Nat.le_trans hz3 (far5 g hg)))
    obtain ⟨A6, c6, hv6⟩ := h6p.own.form
    have hl6 : ((strL s ++ padB (strL s).length) ++ [0, 0, 0, 0]).length ≤ 207 := by rw [List.length_append]; simp only [List.length_cons, List.length_nil]; omega
    have hby6 : Byt w6 w6.heap.size A6 ((strL s ++ padB (strL s).length) ++ [0, 0, 0, 0]) := by have := h6p.own; rw [hv6] at this; exact this.byt
    have hz6 := h6p.grown.size
    obtain ⟨v7, w7, hrun7, h7⟩ := G36.out.app c6 hby6 (by omega) (by rw [List.length_append, numB_len, numB_len]; omega) (by have := H34.out; omega)
    rw [← hv6] at hrun7
    have HEND : Hid (Gro w7 B v7 (optB low code L s) ∧ Below B w w7) := Lib.hid ⟨by rw [HE.out]; exact h7.own, h7.below B6.out (by have := H34.out; omega) (fun g hg => (HN3.out g hg).1)⟩
    clear hv6 hby6 hl6 h7 h6p h6 hrun6 hl5 hlit far5 far4 h5 hv5 hz5 hz6 G34 G35 G36 B4 B5 B6 HF HE HN3 H34
    go_wp2_with (first | (at_builtin; refine Lib.wpList_append_run _ rfl _ _ _ _ rfl _ _ rfl rfl _ _ hrun6' ?_) | (at_builtin; refine Lib.wpList_append_run _ rfl _ _ _ _ rfl _ _ rfl rfl _ _ hrun7 ?_))
    go_ret
    exact ⟨v7, rfl, HEND.out⟩

set_option maxRecDepth 100000 in
set_option maxHeartbeats 2000000 in
theorem rblock_any {w : World} {base : Nat} {vb : Value} {bb : List Nat} (low : Bool) (kind : Nat) (hbody : Gro w base vb bb) (hbase : base ≤ w.heap.size) (hl : bb.length ≤ 10000) :
    Calls Try.prog 32 #[.int .i64 kind, vb, .bool low] w fun e w' => ∃ v', e = .returned v' ∧ Gro w' w.heap.size v' (blkB low kind bb) ∧ Below base w w' := by
  obtain ⟨B, hB⟩ : ∃ B, w.heap.size = B := ⟨_, rfl⟩
  have HF := Lib.hid (rfilled_any hbody hbase (by omega))
  have HV := Lib.hid hbody.lt
  have hpl := padN_le bb.length
  rw [hB] at hbase ⊢
  have HB := Lib.hid hB
  clear hbody hB
  go_enter Try.func32, Try.ntmps32
  go_wp2_with fail
  refine HF.out.mono ?_
  rintro e w1 ⟨v1, rfl, h1⟩
  obtain ⟨A1, c1, hv1⟩ := h1.own.form
  have hz1 := h1.grown.size
  have B1 : Hid (Below base w w1) := Lib.hid (h1.below (Below.refl _ _) (by have := HB.out; omega) (fun g hg => (HV.out g hg).1))
  have G1 := Lib.hid h1.own
  obtain ⟨bd, hbd⟩ : ∃ bd, bb ++ padB bb.length = bd := ⟨_, rfl⟩
  have hbl : bd.length ≤ 10003 := by rw [← hbd, List.length_append, padB_len]; omega
  have HE : Hid (blkB low kind bb = numB low 4 kind ++ numB low 4 (12 + bd.length) ++ bd ++ numB low 4 (12 + bd.length)) := Lib.hid (by
    unfold blkB; rw [hbd, numsB_c, numsB_o]; simp)
  rw [hbd] at hv1 G1
  obtain ⟨L1, hL1⟩ : ∃ L1, bd.length = L1 := ⟨_, rfl⟩
  have HL1 := Lib.hid hL1
  rw [hL1] at hv1 HE hbl
  subst hv1
  have hBz : B ≤ w1.heap.size := by have := HB.out; omega
  have e12 : (L1 : Int) + 12 = ((12 + L1 : Nat) : Int) := by omega
  have H2 := Lib.hid (rfour_any (w := w1) low (12 + L1))
  rw [← e12] at H2
  clear h1 hbd hL1 hz1 HF e12
  go_wp2_with fail
  refine H2.out.mono ?_
  rintro e w2 ⟨v2, rfl, ho2, hb2⟩
  obtain ⟨A2, c2, hv2⟩ := own_form ho2
  rw [numB_len] at hv2
  subst hv2
  have G2 := Lib.hid (Gro.of_own ho2 (numB_lt low 4 (12 + L1)))
  have hz2 := hb2.size
  have G12 := Lib.hid (G1.out.below hb2)
  have B2 : Hid (Below base w w2) := Lib.hid (B1.out.trans (hb2.mono (by omega)))
  have H3 := Lib.hid (rfour_any (w := w2) low kind)
  clear ho2 hb2 H2 G1 B1
  go_wp2_with fail
  refine H3.out.mono ?_
  rintro e w3 ⟨v3, rfl, ho3, hb3⟩
  have g3 := Gro.of_own ho3 (numB_lt low 4 kind)
  have hz3 := hb3.size
  have g13 := G12.out.below hb3
  have g23 := G2.out.below hb3
  have b3 : Below base w w3 := B2.out.trans (hb3.mono (by omega))
  -- the first append
  have hby2 : ∀ {wx : World} {bx : Nat}, Gro wx bx (.slice A2 4 c2) (numB low 4 (12 + L1)) → Byt wx wx.heap.size A2 (numB low 4 (12 + L1)) := fun {wx} {bx} h => by
    rw [show (Value.slice A2 4 c2) = .slice A2 (numB low 4 (12 + L1)).length c2 by rw [numB_len]] at h
    exact h.byt
  have hby1 : ∀ {wx : World} {bx : Nat}, Gro wx bx (.slice A1 L1 c1) bd → Byt wx wx.heap.size A1 bd := fun {wx} {bx} h => by
    rw [show (Value.slice A1 L1 c1) = .slice A1 bd.length c1 by rw [HL1.out]] at h
    exact h.byt
  have far3 : ∀ g, v3.ownBlock = some g → w2.heap.size ≤ g := fun g hg => (g3.lt g hg).1
  have n1 : ∀ k, (Value.slice A1 L1 c1).ownBlock = some k → k < w2.heap.size := fun k hk => (G12.out.lt k hk).2
  have n2 : ∀ k, (Value.slice A2 4 c2).ownBlock = some k → k < w2.heap.size := fun k hk => (G2.out.lt k hk).2
  obtain ⟨v4, w4, hrun4, h4⟩ := g3.app c2 (hby2 g23) (by rw [numB_len]; omega) (by rw [numB_len]; omega) hz3
  rw [numB_len] at hrun4
  have hz4 := h4.grown.size
  have g14 := g13.kept h4.grown (ne_own n1 far3)
  have g24 := g23.kept h4.grown (ne_own n2 far3)
  have far4 := h4.far far3 hz3
  have b4 := h4.below b3 (by omega) (fun g hg => by have := far3 g hg; omega)
  obtain ⟨v5, w5, hrun5, h5⟩ := h4.own.app c1 (hby1 g14) (by rw [HL1.out]; omega) (by rw [List.length_append, numB_len, numB_len]; omega) (by omega)
  rw [HL1.out] at hrun5
  have hz5 := h5.grown.size
  have g25 := g24.kept h5.grown (ne_own n2 far4)
  have far5 := h5.far far4 (by omega)
  have b5 := h5.below b4 (by omega) (fun g hg => by have := far4 g hg; omega)
  obtain ⟨v6, w6, hrun6, h6⟩ := h5.own.app c2 (hby2 g25) (by rw [numB_len]; omega) (by rw [List.length_append, List.length_append, numB_len, numB_len, HL1.out]; omega) (by omega)
  rw [numB_len] at hrun6
  have HEND : Hid (Gro w6 B v6 (blkB low kind bb) ∧ Below base w w6) := Lib.hid ⟨by rw [HE.out]; exact h6.own.mono (by omega), h6.below b5 (by omega) (fun g hg => by have := far5 g hg; omega)⟩
  clear h6 b5 far5 g25 h5 b4 far4 g24 g14 h4 n1 n2 far3 hby1 hby2 b3 g23 g13 g3 ho3 hb3 H3 B2 G12 G2 HE hz2 hz3 hz4 hz5
  go_wp2_with (first | (at_builtin; refine Lib.wpList_append_run _ rfl _ _ _ _ rfl _ _ rfl rfl _ _ hrun4 ?_) | (at_builtin; refine Lib.wpList_append_run _ rfl _ _ _ _ rfl _ _ rfl rfl _ _ hrun5 ?_) | (at_builtin; refine Lib.wpList_append_run _ rfl _ _ _ _ rfl _ _ rfl rfl _ _ hrun6 ?_))
  go_ret
  exact ⟨v6, rfl, HEND.out⟩
end Go.Proofs.Ytlimkckomdipkaa
