/- Splitting by the reference: the part that grows, the captures that keep parts. -/
import Derived.Test.YtghdilmlfficlaaSplM
namespace Go.Proofs.Ytghdilmlfficlaa
open Go.RowKit

def PB (M : Nat) (x : Pkt) (w : World) (_ : Nat) (vs : List Value) : Prop := PktE x w M vs
theorem ownPB_els {M c n : Nat} {w : World} {A : Option Addr} {xs : List Pkt} {rows : List (List Value)} (h : OwnL w M 50 5 (PB M) (.slice A n c) xs rows) (hM : M ≤ w.heap.size) : Els 5 PktE w w.heap.size A xs := by
  have h1 := h.els
  intro hn
  obtain ⟨b', o, e, hb, hi⟩ := h1 hn
  refine ⟨b', o, e, hb, fun i hx => ?_⟩
  obtain ⟨vs, hv, hE, hc⟩ := hi i hx
  exact ⟨vs, hv, pktK _ _ _ _ _ _ hE (Below.refl _ _) hM, hc⟩
theorem ownPB_on {M : Nat} {w w' : World} {v : Value} {xs : List Pkt} {rows : List (List Value)} (h : OwnL w M 50 5 (PB M) v xs rows) (hb : Below M w w') (hk : ∀ g cs, Blk w g 50 cs → Blk w' g 50 cs) : OwnL w' M 50 5 (PB M) v xs rows :=
  ⟨by
    obtain ⟨h1, h2 | ⟨g, cap, cur, e1, e2, e3, e4⟩⟩ := h.own
    · exact ⟨h1, Or.inl h2⟩
    · exact ⟨h1, Or.inr ⟨g, cap, cur, e1, e2, hk g cur e3, e4⟩⟩, h.len, fun i h1 h2 => ⟨(h.each i h1 h2).1, pktK _ _ _ _ _ _ (h.each i h1 h2).2 hb (Nat.le_refl _)⟩, h.one⟩
theorem ownPB_below {M : Nat} {w w' : World} {v : Value} {xs : List Pkt} {rows : List (List Value)} (h : OwnL w M 50 5 (PB M) v xs rows) (hb : Below w.heap.size w w') (hM : M ≤ w.heap.size) : OwnL w' M 50 5 (PB M) v xs rows :=
  ownPB_on h (hb.mono hM) (fun _ _ hB => hB.below hb hB.lt)

/-- The part becomes a capture. -/
theorem part_kt {M c2 n : Nat} {w0 w : World} {p : Pl} {c : Cap} {A2 : Option Addr} {cur : List Pkt} {rows2 : List (List Value)} {G : Option Nat} (hm : CapM w0 M p c) (hb : Below M w0 w) (hn : OwnL w M 50 5 (PB M) (.slice A2 n c2) cur rows2) (hnn : n = cur.length) (hl : cur.length ≤ 100) (hM : M ≤ w.heap.size)
    (hG : G = none) : KT M G w ⟨p.pf, p.cf, p.pn, p.cn, p.ps, p.cs, A2, c2⟩ (mkC c cur) := by
  subst hG
  subst hnn
  intro w' hb2 hk
  have hM' : M ≤ w'.heap.size := by have := hb2.size; omega
  have h1 : CapM w' w'.heap.size p c := hm.keep (hb.trans hb2) hM'
  have h2 := ownPB_on hn hb2 (fun g cs hB => hk g 50 cs (by decide) (by simp) hB)
  have h3 := own_bounds h2.own
  exact ⟨h1.note, h1.faces, h1.names, h1.secs, ownPB_els h2 hM', h1.lf, h1.ln, h1.ls, ⟨h3.1, by show cur.length * 64 ≤ _; omega, h3.2⟩⟩

/-- One more packet is appended to the part. -/
theorem part_put {M : Nat} {w w7 : World} {vo vn v7 : Value} {D : List Cap} {rows : List (List Value)} {cur : List Pkt} {rows2 : List (List Value)} {x : Pkt} {pk : List Value}
    (h : OwnL w M 31 5 (KTE M vn.ownBlock) vo D rows) (hn : OwnL w M 50 5 (PB M) vn cur rows2) (ho : w7.ownsRow M 50 5 v7 (cur.length + 1) (rows2.flatten ++ pk)) (hg : (w.alloc (.cells pk.toArray 50)).grownBy w7 vn.ownBlock)
    (hv : v7.ownBlock = vn.ownBlock ∨ v7.ownBlock = some (w.heap.size + 1)) (hx : PktE x w M pk) (hl : pk.length = 5) (h1 : ∀ u ∈ pk, u.oneCell' = true) (hM : M ≤ w.heap.size) :
    OwnL w7 M 31 5 (KTE M v7.ownBlock) vo D rows ∧ OwnL w7 M 50 5 (PB M) v7 (cur ++ [x]) (rows2 ++ [pk]) ∧ Below M w w7 := by
  have hb : Below w.heap.size w (w.alloc (.cells pk.toArray 50)) := (Below.refl _ _).alloc (Nat.le_refl _) _
  have hn' := ownPB_below hn hb hM
  have ha : AlikeT 50 (w.alloc (.cells pk.toArray 50)) w7 := AlikeT.grown hn'.own hg
  have hb7 : Below M (w.alloc (.cells pk.toArray 50)) w7 := (Below.refl _ _).grown hg (by rw [alloc_size]; omega) (fun k hk => (hn'.own.lt _ hk).1)
  have hbw : Below M w w7 := (hb.mono hM).trans hb7
  have hblk : ∀ g t cs, some g ≠ vn.ownBlock → Blk w g t cs → Blk w7 g t cs := fun g t cs hg2 hB => by
    have hB' := hB.below hb hB.lt
    exact (hg.block g (by rw [alloc_size]; have := hB.lt; omega) hg2).trans hB'
  refine ⟨ownC_on h (own_alikeT (h.own.alloc _) ha (by decide)) hbw (fun g t cs _ hg2 hB => ⟨?_, hblk g t cs hg2 hB⟩), ⟨by simpa using ho, by simp [hn.len], fun j h1' h2' => ?_, fun r hr u hu => ?_⟩, hbw⟩
  · rcases hv with e | e
    · rw [e]; exact hg2
    · rw [e]; intro e2; injection e2 with e2; have := hB.lt; omega
  · by_cases hj : j < cur.length
    · have hjr : j < rows2.length := by rw [hn.len]; exact hj
      rw [List.getElem_append_left hj, List.getElem_append_left hjr]
      exact ⟨(hn.each j hj hjr).1, pktK _ _ _ _ _ _ (hn.each j hj hjr).2 hbw (Nat.le_refl _)⟩
    · have hje : j = cur.length := by rw [List.length_append] at h1'; simp at h1'; omega
      subst hje
      rw [List.getElem_append_right (Nat.le_refl _), List.getElem_append_right (by rw [hn.len]; exact Nat.le_refl _)]
      simp only [hn.len, Nat.sub_self, List.getElem_cons_zero]
      exact ⟨hl, pktK _ _ _ _ _ _ hx hbw (Nat.le_refl _)⟩
  · rcases List.mem_append.1 hr with hr | hr
    · exact hn.one r hr u hu
    · rw [List.mem_singleton] at hr; subst hr; exact h1 u hu

/-- One more capture that keeps its part is appended. -/
theorem rsplit_put {M : Nat} {G : Option Nat} {w3 w7 : World} {v v7 : Value} {D : List Cap} {rows : List (List Value)} {X : Cap} {q : Pl} (h : OwnL w3 M 31 5 (KTE M G) v D rows) (hx : KT M none w3 q X)
    (ho : w7.ownsRow M 31 5 v7 (D.length + 1) (rows.flatten ++ capL q X)) (hg : (w3.alloc (.cells (capL q X).toArray 31)).grownBy w7 v.ownBlock) (hM : M ≤ w3.heap.size) :
    OwnL w7 M 31 5 (KTE M none) v7 (D ++ [X]) (rows ++ [capL q X]) ∧ Below M w3 w7 := by
  have hb : Below w3.heap.size w3 (w3.alloc (.cells (capL q X).toArray 31)) := (Below.refl _ _).alloc (Nat.le_refl _) _
  have h0 : OwnL w3 M 31 5 (KTE M none) v D rows := ownC_on h h.own (Below.refl _ _) (fun _ _ _ _ _ hB => ⟨by simp, hB⟩)
  have h' := ownC_below h0 hb hM
  have ha : AlikeT 31 (w3.alloc (.cells (capL q X).toArray 31)) w7 := AlikeT.grown h'.own hg
  have hb7 : Below M (w3.alloc (.cells (capL q X).toArray 31)) w7 := (Below.refl _ _).grown hg (by rw [alloc_size]; omega) (fun k hk => (h'.own.lt _ hk).1)
  exact ⟨ownC_snoc h' ho (hx.on (hb.mono hM) (fun g t cs _ _ hB => ⟨by simp, hB.below hb hB.lt⟩)) hb7 (fun g t cs ht _ hB => ⟨by simp, ha.2 g t cs ht hB⟩), (hb.mono hM).trans hb7⟩
end Go.Proofs.Ytghdilmlfficlaa
