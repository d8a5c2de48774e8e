/- Lists of interfaces with those of another list that are not there: addNew. -/
import Derived.Test.YtghdilmlfficlaaFaceN
namespace Go.Proofs.Ytghdilmlfficlaa
open Go.RowKit

noncomputable def addF (xs : List Fac) : List Fac → List Fac
  | [] => xs
  | f :: l => addF (if (xs.any fun y => eqB f y) then xs else xs ++ [f]) l
theorem addF_drop (xs l : List Fac) (k : Nat) (h : k < l.length) : addF xs (l.drop k) = addF (if (xs.any fun y => eqB l[k] y) then xs else xs ++ [l[k]]) (l.drop (k + 1)) := by
  rw [List.drop_eq_getElem_cons h]; rfl
theorem addF_len : ∀ (l xs : List Fac), (addF xs l).length ≤ xs.length + l.length
  | [], xs => Nat.le_refl _
  | f :: l, xs => by
    rw [addF]
    refine Nat.le_trans (addF_len l _) ?_
    split <;> simp <;> omega
theorem facInfo : (Try.prog.info? 79).map (fun i => (i.zero, i.size, i.bytes)) = some (some (.agg #[.string ⟨#[]⟩, .int .i64 0, .int .i64 0]), 3, 32) := by kernel_rfl
/-- One interface more. -/
theorem facL_snoc {w w7 : World} {base : Nat} {v v7 : Value} {xs : List Fac} {rows : List (List Value)} {x : Fac} {r : List Value} (h : OwnL w base 79 3 FacE v xs rows)
    (ho : w7.ownsRow base 79 3 v7 (xs.length + 1) (rows.flatten ++ r)) (hr : r.length = 3) (hE : FacE x w w.heap.size r) (h1 : ∀ u ∈ r, u.oneCell' = true) : OwnL w7 base 79 3 FacE v7 (xs ++ [x]) (rows ++ [r]) := by
  refine ⟨by simpa using ho, by simp [h.len], fun j h1' h2' => ?_, fun q hq u hu => ?_⟩
  · by_cases hj : j < xs.length
    · have hjr : j < rows.length := by rw [h.len]; exact hj
      rw [List.getElem_append_left hj, List.getElem_append_left hjr]
      exact h.each j hj hjr
    · have hje : j = xs.length := by rw [List.length_append] at h1'; simp at h1'; omega
      subst hje
      rw [List.getElem_append_right (Nat.le_refl _), List.getElem_append_right (by rw [h.len]; exact Nat.le_refl _)]
      simp only [h.len, Nat.sub_self, List.getElem_cons_zero]
      exact ⟨hr, hE⟩
  · rcases List.mem_append.1 hq with hq | hq
    · exact h.one q hq u hu
    · rw [List.mem_singleton] at hq; subst hq; exact h1 u hu
/-- What an append to a row of the call's own leaves: all blocks of other kinds. -/
theorem AlikeT.grown {t : Nat} {w w' : World} {base size n : Nat} {v : Value} {xs : List Value} (h : w.ownsRow base t size v n xs) (hg : w.grownBy w' v.ownBlock) : AlikeT t w w' :=
  ⟨hg.size, fun _ _ _ hs hb => hb.grown hg (fun e => own_blk_ne h hb (fun e => hs e.symm) e.symm)⟩

set_option maxRecDepth 100000 in
set_option maxHeartbeats 4000000 in
theorem addf_any {w : World} {base : Nat} {A A2 : Option Addr} {c c2 : Nat} {xs l : List Fac} {rows : List (List Value)} (hx : OwnL w base 79 3 FacE (.slice A xs.length c) xs rows) (hl : Els 3 FacE w base A2 l) (hbase : base ≤ w.heap.size) (hn : xs.length + l.length ≤ 100000) :
    Calls Try.prog 94 #[.slice A xs.length c, .slice A2 l.length c2, .func (.func 95) #[] #[]] w fun e w' => ∃ A' c' rows', e = .returned (.slice A' (addF xs l).length c') ∧ OwnL w' base 79 3 FacE (.slice A' (addF xs l).length c') (addF xs l) rows' ∧ Below base w w' ∧ AlikeT 79 w w' := by
  obtain ⟨B, hB⟩ : ∃ B, w.heap.size = B := ⟨_, rfl⟩
  have hmf : ∀ (fn : Fn) (first cap : Array Value) (w : World), (Instr.makeFunc fn first cap).run Try.prog w = .ok (.func fn first cap) w := fun _ _ _ _ => rfl
  obtain ⟨W0, hW0⟩ : ∃ W0, w.alloc (.cells #[.func (.func 95) #[] #[]] 134) = W0 := ⟨_, rfl⟩
  have hb0 : Below w.heap.size w W0 := by rw [← hW0]; exact (Below.refl _ _).alloc (Nat.le_refl _) _
  have HS0 : Hid (Blk W0 B 134 #[.func (.func 95) #[] #[]]) := Lib.hid (by rw [← hW0, ← hB]; exact Blk.new _ _ _)
  have HX0 := Lib.hid (hx.kept facK hb0)
  have HB0 : Hid (Below base w W0 ∧ base ≤ B) := Lib.hid ⟨hb0.mono hbase, by omega⟩
  have HL := Lib.hid hl
  have HA0 : Hid (AlikeT 79 w W0) := Lib.hid (AlikeT.below hb0)
  clear hx hl hb0 hbase
  go_enter Try.func94, Try.ntmps94
  go_wp2
  clear hW0 hB
  go_loopw [0, 11] (fun t i wr => ∃ (k : Nat) (A' : Option Addr) (c' : Nat) (xs' : List Fac) (rows' : List (List Value)), i = .int .i64 k ∧ t = .slice A' xs'.length c' ∧ k ≤ l.length ∧ xs'.length ≤ xs.length + k ∧ Hid (addF xs l = addF xs' (l.drop k)) ∧ Hid (OwnL wr base 79 3 FacE (.slice A' xs'.length c') xs' rows') ∧ Hid (Below base w wr) ∧ Hid (AlikeT 79 w wr) ∧ Hid (Blk wr B 134 #[.func (.func 95) #[] #[]])) (fun _ i _ => l.length - (intOf i).toNat)
  case atStart => exact ⟨0, A, c, xs, rows, rfl, rfl, Nat.zero_le _, by omega, Lib.hid rfl, HX0, Lib.hid HB0.out.1, HA0, HS0⟩
  case round =>
    obtain ⟨k, A', c', xs', rows', rfl, rfl, hk, hxl, HE, HX, HW, HA, HS⟩ := hrel
    by_cases hlt : k < l.length
    · obtain ⟨b, o, hA, hb, vs, hvl, ⟨rfl, z1, z2, z3⟩, hcell⟩ := (HL.out.keep facK HW.out (Nat.le_refl _)).row k hlt
      subst hA
      have c0 : wr.cell? ⟨b, o + k * 3, none⟩ = _ := hcell 0 _ rfl
      have c1 := hcell 1 _ rfl
      have c2 := hcell 2 _ rfl
      have HF : Hid (∀ W B, FacE l[k] W B [.string l[k].name, .int .i64 l[k].link, .int .i64 l[k].snap]) := Lib.hid (fun _ _ => ⟨rfl, z1, z2, z3⟩)
      clear hcell z1 z2 z3
      have HD := Lib.hid (addF_drop xs' l k hlt)
      obtain ⟨f, hf⟩ : ∃ f, l[k] = f := ⟨_, rfl⟩
      rw [hf] at c0 c1 c2 HD HF
      clear hf
      obtain ⟨N, hN⟩ : ∃ N, wr.heap.size = N := ⟨_, rfl⟩
      obtain ⟨W1, hW1⟩ : ∃ W1, wr.alloc (.cells #[.string f.name, .int .i64 f.link, .int .i64 f.snap] 79) = W1 := ⟨_, rfl⟩
      have hb1 : Below wr.heap.size wr W1 := by rw [← hW1]; exact (Below.refl _ _).alloc (Nat.le_refl _) _
      have hBN : B < N := by rw [← hN]; exact HS.out.lt
      have hbN : base ≤ N := by have := HB0.out.2; omega
      have HK1 : Hid (Blk W1 N 79 #[.string f.name, .int .i64 f.link, .int .i64 f.snap]) := Lib.hid (by rw [← hW1, ← hN]; exact Blk.new _ _ _)
      have HX1 := Lib.hid (HX.out.kept facK hb1)
      have HW1 : Hid (Below base w W1) := Lib.hid (HW.out.trans (hb1.mono (by omega)))
      have HA1 : Hid (AlikeT 79 w W1) := Lib.hid (HA.out.trans (AlikeT.below hb1))
      have HS1 : Hid (Blk W1 B 134 #[.func (.func 95) #[] #[]]) := Lib.hid (HS.out.below hb1 (by omega))
      have HC := Lib.hid (containsf_any (w := W1) (s := B) (x := N) (c := c') f (HS1.out.cell 0) HK1.out (OwnL.els HX1.out) (by omega))
      clear hb1 HX HW HA HS hBN
      cases hq : (xs'.any fun y => eqB f y) with
      | true =>
        have HR : Hid (addF xs l = addF xs' (l.drop (k + 1))) := Lib.hid (by rw [HE.out, HD.out, hq]; rfl)
        rw [hq] at HC
        clear hq HD HE
        go_wp2_with fail
        clear hW1
        refine HC.out.mono ?_
        rintro e w2 ⟨rfl, hb2⟩
        have hsz : N < W1.heap.size := HK1.out.lt
        have HX2 := Lib.hid (HX1.out.kept facK hb2)
        have HW2 : Hid (Below base w w2) := Lib.hid (HW1.out.trans (hb2.mono (by omega)))
        have HA2 : Hid (AlikeT 79 w w2) := Lib.hid (HA1.out.trans (AlikeT.below hb2))
        have HS2 : Hid (Blk w2 B 134 #[.func (.func 95) #[] #[]]) := Lib.hid (HS1.out.below hb2 HS1.out.lt)
        clear hb2 c0 c1 c2
        go_wp2
        go_roundw
        case rel => exact ⟨k + 1, A', c', xs', rows', by go_num, rfl, by omega, by omega, HR, HX2, HW2, HA2, HS2⟩
        case measure => simp [intOf]; omega
      | false =>
        have HR : Hid (addF xs l = addF (xs' ++ [f]) (l.drop (k + 1))) := Lib.hid (by rw [HE.out, HD.out, hq]; rfl)
        rw [hq] at HC
        clear hq HD HE
        go_wp2_with fail
        clear hW1
        refine HC.out.mono ?_
        rintro e w2 ⟨rfl, hb2⟩
        have hsz : N < W1.heap.size := HK1.out.lt
        have hX2 := HX1.out.kept facK hb2
        have HK2 : Hid (Blk w2 N 79 #[.string f.name, .int .i64 f.link, .int .i64 f.snap]) := Lib.hid (HK1.out.below hb2 hsz)
        have k0 := HK2.out.cell 0
        have k1 := HK2.out.cell 1
        have k2 := HK2.out.cell 2
        have hsz2 : W1.heap.size ≤ w2.heap.size := hb2.size
        obtain ⟨v7, w7, hrun, ho7, hg7, _⟩ := run_own_struct w2 base 79 3 32 26 _ Try.underlying26 facInfo (by rfl) (by decide) _ _ _ hX2.own [.string f.name, .int .i64 f.link, .int .i64 f.snap] rfl (by
          intro u hu; simp only [List.mem_cons, List.not_mem_nil, or_false] at hu; rcases hu with rfl | rfl | rfl <;> rfl) (by unfold maxLen; omega) (by omega) (by omega)
        obtain ⟨A7, c7, rfl⟩ : ∃ A c, v7 = .slice A (xs'.length + 1) c := by
          rcases ho7.2 with ⟨e, h0⟩ | ⟨g, cap, _, e, _⟩
          · omega
          · exact ⟨_, _, e⟩
        have hb3 : Below w2.heap.size w2 (w2.alloc (.cells #[.string f.name, .int .i64 f.link, .int .i64 f.snap] 79)) := (Below.refl _ _).alloc (Nat.le_refl _) _
        have hX3 := hX2.kept facK hb3
        have HX7 : Hid (OwnL w7 base 79 3 FacE (.slice A7 (xs' ++ [f]).length c7) (xs' ++ [f]) (rows' ++ [[.string f.name, .int .i64 f.link, .int .i64 f.snap]])) := Lib.hid (by
          rw [List.length_append]
          exact facL_snoc hX3 ho7 rfl (HF.out _ _) (by
            intro u hu; simp only [List.mem_cons, List.not_mem_nil, or_false] at hu; rcases hu with rfl | rfl | rfl <;> rfl))
        have ha7 : AlikeT 79 (w2.alloc (.cells #[.string f.name, .int .i64 f.link, .int .i64 f.snap] 79)) w7 := AlikeT.grown hX3.own hg7
        have HA7 : Hid (AlikeT 79 w w7) := Lib.hid (((HA1.out.trans (AlikeT.below hb2)).trans (AlikeT.below hb3)).trans ha7)
        have HW7 : Hid (Below base w w7) := Lib.hid (((HW1.out.trans (hb2.mono (by omega))).trans (hb3.mono (by omega))).grown hg7 (by rw [alloc_size]; omega) (fun k hk => (hX3.own.lt _ hk).1))
        have HS7 : Hid (Blk w7 B 134 #[.func (.func 95) #[] #[]]) := Lib.hid (ha7.2 _ _ _ (by decide) (((HS1.out.below hb2 HS1.out.lt)).below hb3 (by have := HS1.out.lt; omega)))
        clear hb2 c0 c1 c2 hb3 ha7 hX2 hX3 ho7 hg7
        go_wp2_with (at_builtin; refine Lib.wpList_append_run _ rfl _ _ _ _ rfl _ _ rfl rfl _ _ hrun ?_)
        go_roundw
        case rel => exact ⟨k + 1, A7, c7, xs' ++ [f], _, by go_num, by rw [List.length_append]; rfl, by omega, by rw [List.length_append]; simp; omega, HR, HX7, HW7, HA7, HS7⟩
        case measure => simp [intOf]; omega
    · have HR : Hid (addF xs l = xs') := Lib.hid (by rw [HE.out, List.drop_eq_nil_of_le (by omega)]; rfl)
      go_wp2
      go_ret
      rw [HR.out]
      exact ⟨A', c', rows', rfl, HX.out, HW.out, HA.out⟩
end Go.Proofs.Ytghdilmlfficlaa
