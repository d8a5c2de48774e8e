/- Lists of structs that the call makes by appending. -/
import Derived.Test.YtlimkckomdipkaaClone
import Derived.Deep.RegionHeld3
namespace Go.Proofs.Ytlimkckomdipkaa
open Go.RowKit

/-- A row of structs of k cells each that the call owns, read as a list. -/
structure OwnL {α : Type} (w : World) (base e k : Nat) (E : α → World → Nat → List Value → Prop) (v : Value) (xs : List α) (rows : List (List Value)) : Prop where
  own : w.ownsRow base e k v xs.length rows.flatten
  len : rows.length = xs.length
  each : ∀ i (h : i < xs.length) (h' : i < rows.length), rows[i].length = k ∧ E xs[i] w w.heap.size rows[i]
  one : ∀ r ∈ rows, ∀ u ∈ r, u.oneCell' = true

theorem flatten_at {k : Nat} : ∀ (rows : List (List Value)) (i j : Nat) (h : i < rows.length) (_ : ∀ (q : Nat) (hq : q < rows.length), rows[q].length = k) (_ : j < k), rows.flatten[i * k + j]? = rows[i][j]?
  | r :: rows, 0, j, _, hk, hj => by
    have h0 : r.length = k := hk 0 (by simp)
    simp only [List.flatten_cons, Nat.zero_mul, Nat.zero_add, List.getElem_cons_zero]
    rw [List.getElem?_append_left (by omega)]
  | r :: rows, i + 1, j, h, hk, hj => by
    have h0 : r.length = k := hk 0 (by simp)
    simp only [List.flatten_cons, List.getElem_cons_succ]
    rw [List.getElem?_append_right (by rw [h0, Nat.succ_mul]; omega), h0, show (i + 1) * k + j - k = i * k + j by rw [Nat.succ_mul]; omega]
    exact flatten_at rows i j (by simpa using h) (fun q hq => hk (q + 1) (by simpa using hq)) hj

theorem OwnL.els {α : Type} {w : World} {base e k : Nat} {E : α → World → Nat → List Value → Prop} {A : Option Addr} {c n : Nat} {xs : List α} {rows : List (List Value)} (h : OwnL w base e k E (.slice A n c) xs rows) : Els k E w w.heap.size A xs := by
  intro hn
  rcases h.own.2 with ⟨_, h0⟩ | ⟨g, cap, cur, hv, _, hg, _, _, _, ht⟩
  · omega
  · injection hv with hA _ _
    subst hA
    refine ⟨g, 0, rfl, (Array.getElem?_eq_some_iff.1 hg).1, fun i hi => ?_⟩
    have hir : i < rows.length := by rw [h.len]; exact hi
    obtain ⟨hl, he⟩ := h.each i hi hir
    refine ⟨rows[i], hl, he, fun j v hj => ?_⟩
    have hjk : j < k := by
      rw [← hl]
      rcases Nat.lt_or_ge j rows[i].length with h | h
      · exact h
      · rw [List.getElem?_eq_none h] at hj; cases hj
    rw [Nat.zero_add, cell_of_row w g _ cur e (0, 0) hg, ← Array.getElem?_toList]
    have h1 := flatten_at rows i j hir (fun q hq => (h.each q (by rw [← h.len]; exact hq) hq).1) hjk
    rw [← ht] at h1
    rw [List.getElem?_take] at h1
    split at h1
    · rw [h1]; exact hj
    · rw [hj] at h1; cases h1
theorem OwnL.nil {α : Type} (w : World) (base e k : Nat) (E : α → World → Nat → List Value → Prop) : OwnL w base e k E (.slice none 0 0) ([] : List α) [] :=
  ⟨World.ownsRow_nil w base e k, rfl, by simp, by simp⟩
/-- Worlds that are one below the blocks' end, but for other rows. -/
theorem OwnL.kept {α : Type} {w w' : World} {base e k : Nat} {E : α → World → Nat → List Value → Prop} {v : Value} {xs : List α} {rows : List (List Value)} (hE : Kept E) (h : OwnL w base e k E v xs rows) (hb : Below w.heap.size w w') : OwnL w' base e k E v xs rows :=
  ⟨h.own.kept (grown_of_below hb) (by
    cases hb : v.ownBlock with
    | none => exact .inl rfl
    | some g => exact .inr (by simp)), h.len, fun i h1 h2 => ⟨(h.each i h1 h2).1, hE _ _ _ _ _ _ (h.each i h1 h2).2 hb hb.size⟩, h.one⟩

/-- 'append' whose run is known, as a step of a region. -/
theorem step_append_run {P : Program} (w : World) {ops : Array Oper} {o : Oper} {a : Act} {K : Act → World → Prop} {Q : Exit → Act → World → Prop} {E : Prop} (hgd : o.guard = none) (s x : Operand) (t tn : TypeId)
    (ho : o.op = .call { callee := .builtin .append, args := #[s, x], argTypes := #[t, tn] }) (vs vx : Value) (hs : a.eval s = vs) (hx : a.eval x = vx)
    (v' : Value) (w' : World) (hr : (Builtin.append_ #[t, tn] o.type #[vs, vx]).run P w = .ok v' w') (h : K (a.put o.dst v') w') :
    if Region.wanted o (yielded ops a.tmps) = true then Oper.wp P o a w K Q else E := by
  have hw : Region.wanted o (yielded ops a.tmps) = true := by simp [Region.wanted, hgd]
  rw [if_pos hw]
  exact Lib.wp_append_run w s x t tn ho vs vx hs hx v' w' hr h

/-- One struct more at the end of a row of structs that the call owns: the struct has just been laid in a new block. -/
theorem run_own_struct (w : World) (base e k bytes T : Nat) (z : Value) (ht : Try.prog.underlying T = some (.slice e)) (hinf : (Try.prog.info? e).map (fun i => (i.zero, i.size, i.bytes)) = some (some z, k, bytes)) (hzs : z.cells.size = k) (hk : 0 < k)
    (v : Value) (n : Nat) (xs : List Value) (hown : w.ownsRow base e k v n xs) (cs : List Value) (hcl : cs.length = k) (h1 : ∀ u ∈ cs, u.oneCell' = true) (hn : n + 1 ≤ maxLen) (hb : (n + 1) * bytes ≤ 140737488355328) (hbase : base ≤ w.heap.size) :
    ∃ v' w', (Builtin.append_ #[T, T] T #[v, .slice (some ⟨w.heap.size, 0, none⟩) 1 1]).run Try.prog (w.alloc (.cells cs.toArray e)) = .ok v' w' ∧ w'.ownsRow base e k v' (n + 1) (xs ++ cs) ∧ (w.alloc (.cells cs.toArray e)).grownBy w' v.ownBlock ∧ (v'.ownBlock = v.ownBlock ∨ v'.ownBlock = some (w.heap.size + 1)) := by
  obtain ⟨i, hi, hz, hsize, hby⟩ := info_parts hinf
  have hblk : Blk (w.alloc (.cells cs.toArray e)) w.heap.size e cs.toArray := Blk.new _ _ _
  obtain ⟨v', w', hr, h2, h3, _, h5⟩ := run_append_own_at (P := Try.prog) (w.alloc (.cells cs.toArray e)) base T T e i z k bytes ht hi hz hsize hby hzs hk v n xs (hown.alloc _) ⟨w.heap.size, 0, none⟩ 1 1 cs (by omega) (fun j u hj => by
    rw [Go.WideShapes.add_plain, Nat.zero_add, hblk.cell, List.getElem?_toArray]; exact hj) h1 hn hb (by rw [alloc_size]; omega)
  exact ⟨v', w', hr, h2, h3, by rw [alloc_size] at h5; exact h5⟩
end Go.Proofs.Ytlimkckomdipkaa
