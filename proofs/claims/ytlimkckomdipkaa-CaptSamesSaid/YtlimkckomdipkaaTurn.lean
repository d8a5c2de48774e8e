/- Bytes of a copy that are written: what stays. -/
import Derived.Test.YtlimkckomdipkaaCutM
namespace Go.Proofs.Ytlimkckomdipkaa
open Go.RowKit

/-- wr is V but for bytes that lie in blocks from b up to top. -/
structure Turned (b top : Nat) (V wr : World) : Prop where
  other : AlikeT 5 V wr
  far : ∀ g, top ≤ g → wr.heap[g]? = V.heap[g]?
  row : ∀ (g : Nat) (cur : Array Value), Blk V g 5 cur → ∃ cur' : Array Value, Blk wr g 5 cur' ∧ ∀ (i : Nat) (x : Int), cur[i]? = some (.int .u8 x) → ∃ y : Int, cur'[i]? = some (.int .u8 y)
theorem Turned.refl (b top : Nat) (V : World) : Turned b top V V := ⟨AlikeT.refl _ _, fun _ _ => rfl, fun _ cur h => ⟨cur, h, fun _ x hx => ⟨x, hx⟩⟩⟩
theorem Turned.set {b top g i : Nat} {V wr : World} {cur : Array Value} (h : Turned b top V wr) (hg : Blk wr g 5 cur) (hlt : g < top) (z : Int) : Turned b top V (wr.setCell ⟨g, i, none⟩ (.int .u8 z)) := by
  refine ⟨h.other.trans (AlikeT.set hg _), fun k hk => ?_, fun k c hk => ?_⟩
  · rw [Below.heap_setCell wr ⟨g, i, none⟩ _ k (by show k ≠ g; omega)]
    exact h.far k hk
  · obtain ⟨c', h1, h2⟩ := h.row k c hk
    by_cases hkg : k = g
    · subst hkg
      have e : c' = cur := by
        unfold Blk at h1 hg
        rw [h1] at hg
        injection hg with hg
        injection hg
      subst e
      refine ⟨_, h1.set_ i _, fun j x hx => ?_⟩
      obtain ⟨y, hy⟩ := h2 j x hx
      by_cases hji : i = j
      · subst hji
        have hsz : i < c'.size := (Array.getElem?_eq_some_iff.1 hy).1
        exact ⟨z, by rw [Array.getElem?_setIfInBounds_self_of_lt hsz]⟩
      · exact ⟨y, by rw [Array.getElem?_setIfInBounds_ne hji]; exact hy⟩
    · exact ⟨c', h1.far (p := ⟨g, i, none⟩) hkg _, h2⟩

/-- What the call owns from b on stays where nothing from b on is written. -/
theorem own_far {b e size n : Nat} {V wr : World} {v : Value} {xs : List Value} (h : V.ownsRow b e size v n xs) (hf : ∀ g, b ≤ g → wr.heap[g]? = V.heap[g]?) : wr.ownsRow b e size v n xs := by
  obtain ⟨h1, h | ⟨g, cap, cur, e1, e2, e3, e4⟩⟩ := h
  · exact ⟨h1, Or.inl h⟩
  · exact ⟨h1, Or.inr ⟨g, cap, cur, e1, e2, (hf g e2).trans e3, e4⟩⟩
theorem OwnM.far {α : Type} {κ : Kind α} {w0 V wr : World} {b k : Nat} {v : Value} {xs : List α} {rows : List (List Value)} (h : OwnM κ w0 V b v xs rows k) (hf : ∀ g, b ≤ g → wr.heap[g]? = V.heap[g]?) : OwnM κ w0 wr b v xs rows k :=
  ⟨own_far h.own hf, h.len, fun i h1 h2 hk => by
    obtain ⟨A, c, e, ho, r⟩ := h.done i h1 h2 hk
    exact ⟨A, c, e, own_far ho hf, r⟩, h.rest⟩
theorem CapO.far {V wr : World} {b : Nat} {q : Pl} {c : Cap} (h : CapO V b q c) (hf : ∀ g, b ≤ g → wr.heap[g]? = V.heap[g]?) : CapO wr b q c := by
  obtain ⟨hn, ⟨rf, hf1⟩, ⟨w1, rn, hn1⟩, ⟨w2, rs, hs1⟩, ⟨w3, rp, hp1⟩, a1, a2, a3, a4⟩ := h
  exact ⟨hn, ⟨rf, own_far hf1.own hf, hf1.len, fun i h1 h2 => hf1.each i h1 h2, hf1.one⟩, ⟨w1, rn, hn1.far hf⟩, ⟨w2, rs, hs1.far hf⟩, ⟨w3, rp, hp1.far hf⟩, a1, a2, a3, a4⟩

/-- The next byte of a row of a copy, in a world in which bytes have been written. -/
theorem turned_byte {b top L cc j : Nat} {wc V wr : World} {A : Option Addr} {data : List Nat} (ho : wc.ownsRow b 5 1 (.slice A L cc) L (data.map u8)) (hs : wc.heap.size ≤ top) (hb : Below top wc V) (ht : Turned b top V wr) (hj : j < L) :
    ∃ g cur x, A = some ⟨g, 0, none⟩ ∧ b ≤ g ∧ g < top ∧ Blk wr g 5 cur ∧ wr.cell? ⟨g, j, none⟩ = some (.int .u8 x) ∧ wr.frozen? ⟨g, j, none⟩ = false := by
  have hl : data.length = L := by have := ho.1; simpa using this
  rcases ho.2 with ⟨_, h0⟩ | ⟨g, cap, cur, e, hbg, hg, _, _, _, htk⟩
  · omega
  · injection e with e _ _
    have hgt : g < top := by have := (Array.getElem?_eq_some_iff.1 hg).1; omega
    have hV : Blk V g 5 cur := (hb.block g hgt).trans hg
    obtain ⟨cur', h1, h2⟩ := ht.row g cur hV
    have hc : cur[j]? = some (.int .u8 (data[j]'(by omega) : Nat)) := by
      have h3 : (cur.toList.take (L * 1))[j]? = (data.map u8)[j]? := by rw [htk]
      rw [List.getElem?_take, if_pos (by omega), List.getElem?_map, List.getElem?_eq_getElem (l := data) (by omega)] at h3
      rw [← Array.getElem?_toList, h3]
      rfl
    obtain ⟨y, hy⟩ := h2 j _ hc
    exact ⟨g, cur', y, e, hbg, hgt, h1, by rw [h1.cell]; exact hy, h1.frozen _⟩
theorem turned_cell {b top g t i : Nat} {wc V wr : World} {cs : Array Value} {u : Value} (hg : Blk wc g t cs) (hs : wc.heap.size ≤ top) (hb : Below top wc V) (ht : Turned b top V wr) (h5 : t ≠ 5) (hc : wc.cell? ⟨g, i, none⟩ = some u) : wr.cell? ⟨g, i, none⟩ = some u := by
  have h1 := ht.other.2 g t cs h5 ((hb.block g (by have := hg.lt; omega)).trans hg)
  rw [h1.cell, ← hg.cell]
  exact hc
end Go.Proofs.Ytlimkckomdipkaa
