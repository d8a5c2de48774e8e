/- Rows of bytes that grow, some of them made of a text. -/
import Derived.Test.YtlimkckomdipkaaRNum
namespace Go.Proofs.Ytlimkckomdipkaa
open Go.RowKit

/-- Writing behind a row's elements, where nothing is frozen. -/
theorem store_behind {P : Program} {g o : Nat} {fz : Nat × Nat} : ∀ (vs : List Value) (i : Nat) (cur : Array Value) (w : World), w.heap[g]? = some (.cells cur 5 fz) → cur.size ≤ fz.1 → o + i + vs.length ≤ cur.size → (∀ v ∈ vs, v.oneCell' = true) →
    ∃ cur' w', (storeCells ⟨g, o, none⟩ vs i).run P w = .ok () w' ∧ w'.heap[g]? = some (.cells cur' 5 fz) ∧ cur'.size = cur.size ∧ w.grownBy w' (some g) ∧ cur'.toList.take (o + i + vs.length) = cur.toList.take (o + i) ++ vs
  | [], i, cur, w, hg, _, _, _ => ⟨cur, w, rfl, hg, rfl, ⟨rfl, rfl, rfl, Nat.le_refl _, fun _ _ _ => rfl⟩, by simp⟩
  | v :: rest, i, cur, w, hg, hz, hl, h1 => by
    simp only [List.length_cons] at hl
    have hi : o + i < cur.size := by omega
    have hcell : w.cell? ⟨g, o + i, none⟩ = some cur[o + i] := by rw [cell_of_row w g (o + i) cur 5 fz hg]; simp [hi]
    have hfro : w.frozen? ⟨g, o + i, none⟩ = false := by
      unfold World.frozen?
      rw [hg]
      simp only [Bool.and_eq_false_iff, decide_eq_false_iff_not]
      left; omega
    have hrun : (store ((⟨g, o, none⟩ : Addr).add i) v).run P w = .ok () (w.setCell ⟨g, o + i, none⟩ v) := by
      rw [Go.WideShapes.add_plain, run_store P w _ v _ (h1 v (by simp)), hcell]
      simp [hfro]
    have hset := setCell_eq_setRow w g (o + i) cur 5 fz v hg
    have hg1 : (w.setCell ⟨g, o + i, none⟩ v).heap[g]? = some (.cells (cur.setIfInBounds (o + i) v) 5 fz) := by
      rw [hset]; exact setRow_heap w g cur _ 5 _ hg
    obtain ⟨cur', w', k1, k2, k3, k4, k5⟩ := store_behind (P := P) (g := g) (o := o) (fz := fz) rest (i + 1) (cur.setIfInBounds (o + i) v) _ hg1 (by simpa using hz) (by simp; omega) (fun x hx => h1 x (by simp [hx]))
    refine ⟨cur', w', ?_, k2, by simpa using k3, (grown_set w g (o + i) v).trans k4, ?_⟩
    · simp only [storeCells, Sem.run_bind, hrun, Result.andThen_ok]
      exact k1
    · rw [List.length_cons, show o + i + (rest.length + 1) = o + (i + 1) + rest.length by omega, k5]
      simp only [Array.toList_setIfInBounds]
      have hlt : o + i < (cur.toList.set (o + i) v).length := by simpa using hi
      rw [show o + (i + 1) = o + i + 1 by omega, List.take_succ_eq_append_getElem hlt]
      simp [List.take_set_of_le (Nat.le_refl (o + i))]

/-- The slice v holds the bytes bs in a row that the call may write behind. -/
def Gro (w : World) (base : Nat) (v : Value) (bs : List Nat) : Prop :=
  (∀ x ∈ bs, x < 256) ∧ ((v = .slice none 0 0 ∧ bs = []) ∨ ∃ g cap cur fz, v = .slice (some ⟨g, 0, none⟩) bs.length cap ∧ base ≤ g ∧ w.heap[g]? = some (.cells cur 5 fz) ∧ (fz = (0, 0) ∨ cur.size ≤ fz.1) ∧ bs.length ≤ cap ∧ cap ≤ maxLen ∧ cur.size = cap ∧ cur.toList.take bs.length = bs.map u8)
section
variable {w w' : World} {base : Nat} {v : Value} {bs : List Nat}
theorem Gro.of_own (h : w.ownsRow base 5 1 v bs.length (bs.map u8)) (hb : ∀ x ∈ bs, x < 256) : Gro w base v bs := by
  refine ⟨hb, ?_⟩
  rcases h.2 with ⟨e, h0⟩ | ⟨g, cap, cur, e1, e2, e3, e4, e5, e6, e7⟩
  · exact .inl ⟨e, List.eq_nil_of_length_eq_zero h0⟩
  · exact .inr ⟨g, cap, cur, (0, 0), e1, e2, e3, .inl rfl, e4, e5, by simpa using e6, by simpa using e7⟩
theorem Gro.form (h : Gro w base v bs) : ∃ A c, v = .slice A bs.length c := by
  rcases h.2 with ⟨e, h0⟩ | ⟨g, cap, cur, fz, e1, _⟩
  · exact ⟨none, 0, by rw [h0]; exact e⟩
  · exact ⟨_, _, e1⟩
theorem Gro.lt (h : Gro w base v bs) : ∀ k, v.ownBlock = some k → base ≤ k ∧ k < w.heap.size := by
  intro k hk
  rcases h.2 with ⟨rfl, _⟩ | ⟨g, cap, cur, fz, rfl, hb, hg, _⟩
  · simp [Value.ownBlock] at hk
  · simp [Value.ownBlock] at hk
    subst hk
    exact ⟨hb, (Array.getElem?_eq_some_iff.1 hg).1⟩
theorem Gro.kept {row : Option Nat} (h : Gro w base v bs) (hg : w.grownBy w' row) (hne : v.ownBlock = none ∨ v.ownBlock ≠ row) : Gro w' base v bs := by
  refine ⟨h.1, ?_⟩
  rcases h.2 with hn | ⟨g, cap, cur, fz, rfl, hb, hgg, rest⟩
  · exact .inl hn
  · refine .inr ⟨g, cap, cur, fz, rfl, hb, ?_, rest⟩
    rw [hg.block g (Array.getElem?_eq_some_iff.1 hgg).1 (by simpa [Value.ownBlock] using hne)]
    exact hgg
theorem Gro.below (h : Gro w base v bs) (hb : Below w.heap.size w w') : Gro w' base v bs := h.kept (row := none) (grown_of_below hb) (by cases v.ownBlock <;> simp)
theorem Gro.mono {b' : Nat} (h : Gro w base v bs) (hb : b' ≤ base) : Gro w b' v bs := by
  refine ⟨h.1, ?_⟩
  rcases h.2 with hn | ⟨g, cap, cur, fz, e, hb, rest⟩
  · exact .inl hn
  · exact .inr ⟨g, cap, cur, fz, e, by omega, rest⟩
theorem Gro.byt {A : Option Addr} {c : Nat} (h : Gro w base (.slice A bs.length c) bs) : Byt w w.heap.size A bs := by
  refine ⟨h.1, fun hn => ?_⟩
  rcases h.2 with ⟨e, h0⟩ | ⟨g, cap, cur, fz, e, hb, hg, _, _, _, hs, ht⟩
  · rw [h0] at hn; simp at hn
  · injection e with e1 e2 e3
    subst e1
    refine ⟨g, 0, rfl, (Array.getElem?_eq_some_iff.1 hg).1, fun k hk => ?_⟩
    rw [Nat.zero_add, cell_of_row w g k cur 5 fz hg, ← Array.getElem?_toList]
    have h1 : (cur.toList.take bs.length)[k]? = (bs.map u8)[k]? := by rw [ht]
    rw [List.getElem?_take, if_pos hk, List.getElem?_map, List.getElem?_eq_getElem hk] at h1
    rw [h1, at8_eq bs k hk]
    rfl
end
theorem first_byt {w : World} {B c : Nat} {A : Option Addr} {l : List Nat} (hb : Byt w B A l) : (Builtin.firstCells 1 l.length (.slice A l.length c)).run Try.prog w = .ok (l.map u8).toArray w := by
  cases A with
  | none =>
    have h0 : l = [] := by
      cases l with
      | nil => rfl
      | cons x l =>
        obtain ⟨b, o, e, _⟩ := hb.cells (by simp)
        cases e
    subst h0
    exact run_firstCells_none w 1 0 0 c
  | some a =>
    refine run_firstCells_some w 1 l.length a l.length c (l.map u8) (by simp) fun j u hu => ?_
    have hj : j < l.length := by
      rcases Nat.lt_or_ge j l.length with h | h
      · exact h
      · rw [List.getElem?_eq_none (by simpa using h)] at hu; cases hu
    obtain ⟨b, o, e, _, hc⟩ := hb.cells (by omega)
    obtain rfl := Option.some.inj e
    rw [Go.WideShapes.add_plain, hc j hj, ← hu, List.getElem?_map, List.getElem?_eq_getElem hj, at8_eq l _ hj]
    rfl
/-- 'append(v, l...)'. -/
theorem Gro.append {w : World} {base B : Nat} {v : Value} {bs l : List Nat} {A : Option Addr} (h : Gro w base v bs) (c : Nat) (hb : Byt w B A l) (hl : l.length ≤ 1000000) (hbs : bs.length ≤ 1000000000) (hbase : base ≤ w.heap.size) :
    ∃ v' w', (Builtin.append_ #[30, 30] 30 #[v, .slice A l.length c]).run Try.prog w = .ok v' w' ∧ Gro w' base v' (bs ++ l) ∧ w.grownBy w' v.ownBlock ∧ Ext w v v' := by
  have hlt : ∀ x ∈ bs ++ l, x < 256 := app_lt h.1 hb.lt
  have hown : (w.ownsRow base 5 1 v bs.length (bs.map u8)) → ∃ v' w', (Builtin.append_ #[30, 30] 30 #[v, .slice A l.length c]).run Try.prog w = .ok v' w' ∧ Gro w' base v' (bs ++ l) ∧ w.grownBy w' v.ownBlock ∧ Ext w v v' := by
    intro ho
    obtain ⟨v', w', hr, ha⟩ := run_own_byt w base v bs ho c hb (by omega) hbs hbase
    exact ⟨v', w', hr, Gro.of_own ha.own hlt, ha.grown, ha.ext⟩
  rcases h.2 with ⟨rfl, rfl⟩ | ⟨g, cap, cur, fz, rfl, hbg, hg, hz, hnc, hcm, hcs, htake⟩
  · exact hown (World.ownsRow_nil _ _ _ _)
  · rcases hz with rfl | hz
    · exact hown ⟨by simp, .inr ⟨g, cap, cur, rfl, hbg, hg, hnc, hcm, by simpa using hcs, by simpa using htake⟩⟩
    · obtain ⟨i, hi, hz0, hsize, hby⟩ := info_parts info5
      have ht := Try.underlying30
      have hf := first_byt (c := c) hb
      by_cases hroom : bs.length + l.length ≤ cap
      · obtain ⟨cur', w', k1, k2, k3, k4, k5⟩ := store_behind (P := Try.prog) (o := bs.length) (l.map u8) 0 cur w hg hz (by rw [List.length_map]; omega) (u8_one l)
        refine ⟨.slice (some ⟨g, 0, none⟩) (bs.length + l.length) cap, w', ?_, ⟨hlt, .inr ⟨g, cap, cur', fz, by rw [List.length_append], hbg, k2, .inr (by omega), by rw [List.length_append]; exact hroom, hcm, by omega, ?_⟩⟩, by simpa [Value.ownBlock] using k4, .inl rfl⟩
        · simp [Builtin.append_, run_underlying ht, sizeOf, typeInfo, hi, hsize, Builtin.lenOf, hroom, hf, Addr.add_lit, k1]
        · rw [List.length_map, Nat.add_zero, htake] at k5
          rw [List.length_append, k5, List.map_append]
      · have holds : ∀ j u, (bs.map u8)[j]? = some u → w.cell? ((⟨g, 0, none⟩ : Addr).add j) = some u := by
          intro j u hu
          have hj : j < bs.length := by
            rcases Nat.lt_or_ge j bs.length with h | h
            · exact h
            · rw [List.getElem?_eq_none (by simpa using h)] at hu; cases hu
          rw [Go.WideShapes.add_plain, Nat.zero_add, cell_of_row w g j cur 5 fz hg, ← Array.getElem?_toList, ← hu, ← htake, List.getElem?_take, if_pos hj]
        obtain ⟨a, rfl⟩ : ∃ a, A = some a := by
          cases A with
          | none =>
            exfalso
            have h0 : l.length = 0 := by
              rcases Nat.eq_zero_or_pos l.length with h | h
              · exact h
              · obtain ⟨b, o, e, _⟩ := hb.cells h
                cases e
            omega
          | some a => exact ⟨a, rfl⟩
        have hnews : ∀ j u, (l.map u8)[j]? = some u → w.cell? (a.add j) = some u := by
          intro j u hu
          have hj : j < l.length := by
            rcases Nat.lt_or_ge j l.length with h | h
            · exact h
            · rw [List.getElem?_eq_none (by simpa using h)] at hu; cases hu
          obtain ⟨b, o, e, _, hc⟩ := hb.cells (by omega)
          obtain rfl := Option.some.inj e
          rw [Go.WideShapes.add_plain, hc j hj, ← hu, List.getElem?_map, List.getElem?_eq_getElem hj, at8_eq l _ hj]
          rfl
        have hr := run_append_grow (P := Try.prog) w 30 30 5 i (.int .u8 0) ht hi hz0 ⟨g, 0, none⟩ bs.length cap (bs.map u8) (by rw [hsize]; simp) holds a l.length c (l.map u8) (by rw [hsize]; simp) hnews (by omega) (by omega) (by rw [hby]; exact growslice_fits (by omega) (by omega))
        have hgr := grown_row w base bs.length l.length cap (bs.map u8) (l.map u8) (by simp) (by simp) (by unfold maxLen; omega) hbase (some g)
        refine ⟨_, _, hr, Gro.of_own ?_ hlt, by simpa [Value.ownBlock] using hgr.2, .inr ⟨w.heap.size, rfl, Nat.le_refl _⟩⟩
        rw [List.length_append, List.map_append]
        exact hgr.1

/-- '[]byte(s)'. -/
theorem gro_str (w : World) (s : ByteArray) (hs : s.size ≤ 1000) : ∃ c w', Sem.run Try.prog (convert 9 30 (.string s)) w = .ok (.slice (some ⟨w.heap.size, 0, none⟩) s.size c) w' ∧ Below w.heap.size w w' ∧ Gro w' w.heap.size (.slice (some ⟨w.heap.size, 0, none⟩) s.size c) (strL s) := by
  refine ⟨_, _, run_bytes_of_string w 9 30 5 s Try.underlying9 Try.underlying30 Try.underlying5, ((Below.refl _ _).drew).alloc (Nat.le_refl _) _, strL_lt s, .inr ?_⟩
  have hsz : (bytesRow s (grownCap w s.size 0 5)).size = grownCap w s.size 0 5 := by
    have := grownCap_ge w s.size 0 5
    unfold bytesRow
    simp
    have h : s.data.size = s.size := rfl
    omega
  refine ⟨w.heap.size, grownCap w s.size 0 5, bytesRow s (grownCap w s.size 0 5), _, by rw [strL_len], Nat.le_refl _, heap_alloc_new w.drew _, .inr (Nat.le_refl _), by rw [strL_len]; exact grownCap_ge _ _ _ _, grownCap_le_maxLen w s.size 0 5 (by unfold maxLen; omega), hsz, ?_⟩
  rw [strL_len]
  apply List.ext_getElem?
  intro k
  rw [List.getElem?_take]
  by_cases hk : k < s.size
  · rw [if_pos hk, Array.getElem?_toList, bytesRow_at s _ k hk, List.getElem?_map, List.getElem?_eq_getElem (by rw [strL_len]; exact hk), Option.map_some]
    have := strL_at s k hk
    rw [at8_eq _ _ (by rw [strL_len]; exact hk)] at this
    rw [this]; rfl
  · rw [if_neg hk, List.getElem?_eq_none (by rw [List.length_map, strL_len]; omega)]
end Go.Proofs.Ytlimkckomdipkaa
