/- Lists of packets that the call makes: their data lie in rows of bytes of the call's own. -/
import Derived.Test.YtlimkckomdipkaaList
namespace Go.Proofs.Ytlimkckomdipkaa
open Go.RowKit

theorem info47 : (Try.prog.info? 47).map (fun i => (i.zero, i.size, i.bytes)) = some (some (.agg #[.int .i64 0, .int .i64 0, .int .i64 0, .slice none 0 0, .string ⟨#[]⟩]), 5, 64) := by kernel_rfl

theorem size_set (w : World) (p : Addr) (u : Value) : (w.setCell p u).heap.size = w.heap.size := by simp [World.setCell]
theorem grown_set (w : World) (g i : Nat) (u : Value) : w.grownBy (w.setCell ⟨g, i, none⟩ u) (some g) :=
  ⟨rfl, rfl, rfl, by rw [size_set]; exact Nat.le_refl _, fun k _ hne => Below.heap_setCell w ⟨g, i, none⟩ u k (fun e => hne (by rw [e]))⟩
theorem own_blk_ne {w : World} {base e size n g t : Nat} {v : Value} {xs : List Value} {cs : Array Value} (h : w.ownsRow base e size v n xs) (hg : Blk w g t cs) (hne : e ≠ t) : v.ownBlock ≠ some g := by
  rcases h.2 with ⟨rfl, _⟩ | ⟨g', cap, cur, rfl, _, hh, _⟩
  · simp [Value.ownBlock]
  · intro he
    have he' : g' = g := by simpa [Value.ownBlock] using he
    subst he'
    unfold Blk at hg
    rw [hh] at hg
    injection hg with hg
    injection hg with _ ht
    exact hne ht
/-- What may be written without touching a row of bytes: a row of another kind. -/
def Other (w : World) (row : Option Nat) : Prop := ∀ g, row = some g → ∃ t cs, Blk w g t cs ∧ 5 ≠ t
theorem other_none (w : World) : Other w none := fun g h => by cases h
theorem other_blk {w : World} {g t : Nat} {cs : Array Value} (h : Blk w g t cs) (ht : 5 ≠ t) : Other w (some g) := fun g' e => by injection e with e; subst e; exact ⟨t, cs, h, ht⟩
theorem other_own {w : World} {base e size n : Nat} {v : Value} {xs : List Value} (h : w.ownsRow base e size v n xs) (he : 5 ≠ e) : Other w v.ownBlock := by
  intro g hg
  rcases h.2 with ⟨rfl, _⟩ | ⟨g', cap, cur, rfl, _, hh, _⟩
  · simp [Value.ownBlock] at hg
  · have : g' = g := by simpa [Value.ownBlock] using hg
    subst this
    exact ⟨e, cur, hh, he⟩
theorem own5_keep {w w' : World} {row : Option Nat} {base n : Nat} {v : Value} {xs : List Value} (h : w.ownsRow base 5 1 v n xs) (hg : w.grownBy w' row) (ho : Other w row) : w'.ownsRow base 5 1 v n xs := by
  refine h.kept hg ?_
  cases hv : v.ownBlock with
  | none => exact .inl rfl
  | some g =>
    refine .inr (fun e => ?_)
    obtain ⟨t, cs, hb, ht⟩ := ho g e.symm
    exact own_blk_ne h hb ht hv

/-- A packet in a list of the call's own: its data are a row of bytes of the call's own. -/
def PktO (p : Pkt) (w : World) (_ : Nat) (vs : List Value) : Prop :=
  ∃ A c, vs = [.int .i64 p.time, .int .i64 p.face, .int .i64 p.real, .slice A p.data.length c, .string p.note] ∧ w.ownsRow 0 5 1 (.slice A p.data.length c) p.data.length (p.data.map u8) ∧ (∀ x ∈ p.data, x < 256) ∧ p.data.length ≤ 140737488355328 ∧ p.note.size ≤ 140737488355328 ∧
    (-9223372036854775808 ≤ p.time ∧ p.time ≤ 9223372036854775807) ∧ (-9223372036854775808 ≤ p.face ∧ p.face ≤ 9223372036854775807) ∧ (-9223372036854775808 ≤ p.real ∧ p.real ≤ 9223372036854775807)
theorem PktO.pkt {p : Pkt} {w : World} {B : Nat} {vs : List Value} (h : PktO p w B vs) : PktE p w w.heap.size vs := by
  obtain ⟨A, c, e, ho, hlt, hdl, r⟩ := h
  refine ⟨A, c, e, ⟨byt_own hlt ho, ?_, hdl, fun hA => ?_⟩, r⟩
  · rcases ho.2 with ⟨e, h0⟩ | ⟨g, cap, cur, e, _, _, hn, _⟩
    · omega
    · injection e with _ _ e; omega
  · subst hA
    rcases ho.2 with ⟨e, h0⟩ | ⟨g, cap, cur, e, _, _, hn, _⟩
    · injection e
    · injection e with e; cases e
theorem PktO.keep {p : Pkt} {w w' : World} {B B' : Nat} {vs : List Value} {row : Option Nat} (h : PktO p w B vs) (hg : w.grownBy w' row) (ho : Other w row) : PktO p w' B' vs := by
  obtain ⟨A, c, e, h1, r⟩ := h
  exact ⟨A, c, e, own5_keep h1 hg ho, r⟩
/-- A list of packets of the call's own. -/
abbrev OwnP (w : World) (base : Nat) (v : Value) (xs : List Pkt) (rows : List (List Value)) : Prop := OwnL w base 47 5 PktO v xs rows
theorem OwnP.keep {w w' : World} {base : Nat} {v : Value} {xs : List Pkt} {rows : List (List Value)} {row : Option Nat} (h : OwnP w base v xs rows) (hg : w.grownBy w' row) (ho : Other w row) (hne : v.ownBlock = none ∨ v.ownBlock ≠ row) : OwnP w' base v xs rows :=
  ⟨h.own.kept hg hne, h.len, fun i h1 h2 => ⟨(h.each i h1 h2).1, (h.each i h1 h2).2.keep hg ho⟩, h.one⟩
theorem OwnP.below {w w' : World} {base : Nat} {v : Value} {xs : List Pkt} {rows : List (List Value)} (h : OwnP w base v xs rows) (hb : Below w.heap.size w w') : OwnP w' base v xs rows :=
  h.keep (grown_of_below hb) (other_none _) (by
    cases hb : v.ownBlock with
    | none => exact .inl rfl
    | some g => exact .inr (by simp))
theorem OwnP.set {w : World} {base g i : Nat} {v u : Value} {cs : Array Value} {xs : List Pkt} {rows : List (List Value)} (h : OwnP w base v xs rows) (hz : Blk w g 27 cs) : OwnP (w.setCell ⟨g, i, none⟩ u) base v xs rows :=
  h.keep (grown_set w g i u) (other_blk hz (by decide)) (.inr (own_blk_ne h.own hz (by decide)))
/-- One packet more. -/
theorem OwnP.snoc {w w7 : World} {base : Nat} {v v7 : Value} {xs : List Pkt} {rows : List (List Value)} {x : Pkt} {r : List Value} (h : OwnP w base v xs rows)
    (ho : w7.ownsRow base 47 5 v7 (xs.length + 1) (rows.flatten ++ r)) (hg : w.grownBy w7 v.ownBlock) (hr : r.length = 5) (hE : PktO x w w.heap.size r) (h1 : ∀ u ∈ r, u.oneCell' = true) : OwnP w7 base v7 (xs ++ [x]) (rows ++ [r]) := by
  have hoth := other_own h.own (by decide)
  refine ⟨by simpa using ho, by simp [h.len], fun j h1' h2' => ?_, fun q hq u hu => ?_⟩
  · by_cases hj : j < xs.length
    · have hjr : j < rows.length := by rw [h.len]; exact hj
      rw [List.getElem_append_left hj, List.getElem_append_left hjr]
      exact ⟨(h.each j hj hjr).1, (h.each j hj hjr).2.keep hg hoth⟩
    · have hje : j = xs.length := by rw [List.length_append] at h1'; simp at h1'; omega
      subst hje
      rw [List.getElem_append_right (Nat.le_refl _), List.getElem_append_right (by rw [h.len]; exact Nat.le_refl _)]
      simp only [h.len, Nat.sub_self, List.getElem_cons_zero]
      exact ⟨hr, hE.keep hg hoth⟩
  · rcases List.mem_append.1 hq with hq | hq
    · exact h.one q hq u hu
    · rw [List.mem_singleton] at hq; subst hq; exact h1 u hu
theorem OwnP.els {w : World} {base n c : Nat} {A : Option Addr} {xs : List Pkt} {rows : List (List Value)} (h : OwnP w base (.slice A n c) xs rows) : Els 5 PktE w w.heap.size A xs := by
  intro h0
  obtain ⟨b, o, e, hb, hi⟩ := OwnL.els h h0
  refine ⟨b, o, e, hb, fun i hx => ?_⟩
  obtain ⟨vs, hl, hE, hc⟩ := hi i hx
  exact ⟨vs, hl, hE.pkt, hc⟩
end Go.Proofs.Ytlimkckomdipkaa
