/- Rows of structs that the call owns and writes into: kinds of structs with one field of bytes. -/
import Derived.Test.YtlimkckomdipkaaPlS
import Derived.Deep.Onto
namespace Go.Proofs.Ytlimkckomdipkaa
open Go.RowKit

/-- w' is w as far as blocks go that hold something else than t. -/
def AlikeT (t : Nat) (w w' : World) : Prop := w.heap.size ≤ w'.heap.size ∧ ∀ g s cs, s ≠ t → Blk w g s cs → Blk w' g s cs
theorem AlikeT.refl (t : Nat) (w : World) : AlikeT t w w := ⟨Nat.le_refl _, fun _ _ _ _ h => h⟩
theorem AlikeT.trans {t : Nat} {a b c : World} (h : AlikeT t a b) (k : AlikeT t b c) : AlikeT t a c := ⟨Nat.le_trans h.1 k.1, fun g s cs ht hb => k.2 g s cs ht (h.2 g s cs ht hb)⟩
theorem AlikeT.below {t : Nat} {w w' : World} (h : Below w.heap.size w w') : AlikeT t w w' := ⟨h.size, fun _ _ _ _ hb => hb.below h hb.lt⟩
theorem AlikeT.set {t : Nat} {w : World} {g i : Nat} {cs : Array Value} (h : Blk w g t cs) (u : Value) : AlikeT t w (w.setCell ⟨g, i, none⟩ u) :=
  ⟨by rw [size_set]; exact Nat.le_refl _, fun k s ds ht hb => hb.far (p := ⟨g, i, none⟩) (fun e => by
    have e' : k = g := e
    subst e'
    unfold Blk at h hb
    rw [h] at hb
    injection hb with hb; injection hb with _ hb; exact ht hb.symm) u⟩
theorem AlikeT.alike {w w' : World} (h : AlikeT 27 w w') : Alike w w' := h
theorem own_alikeT {t : Nat} {w w' : World} {base e size n : Nat} {v : Value} {xs : List Value} (h : w.ownsRow base e size v n xs) (ha : AlikeT t w w') (he : e ≠ t) : w'.ownsRow base e size v n xs := by
  obtain ⟨h1, h | ⟨g, cap, cur, e1, e2, e3, e4⟩⟩ := h
  · exact ⟨h1, Or.inl h⟩
  · exact ⟨h1, Or.inr ⟨g, cap, cur, e1, e2, ha.2 g e cur he e3, e4⟩⟩

/-- A kind of struct of K cells of the type T, with bytes in the J-th. -/
structure Kind (α : Type) where
  T : Nat
  K : Nat
  J : Nat
  row : α → Value → List Value
  dat : α → List Nat
  ok : α → Prop
structure Kind.Right {α : Type} (κ : Kind α) : Prop where
  len : ∀ x v, (κ.row x v).length = κ.K
  lt : κ.J < κ.K
  set_ : ∀ x v u, (κ.row x v).set κ.J u = κ.row x u
  one : ∀ x A n c, ∀ u ∈ κ.row x (.slice A n c), u.oneCell' = true
  t5 : κ.T ≠ 5
def KE {α : Type} (κ : Kind α) (x : α) (w : World) (B : Nat) (vs : List Value) : Prop :=
  ∃ A c, vs = κ.row x (.slice A (κ.dat x).length c) ∧ Byc w B A (κ.dat x) c ∧ κ.ok x
/-- The bytes lie in a row of their own, not below block b. -/
def KO {α : Type} (κ : Kind α) (b : Nat) (x : α) (w : World) (vs : List Value) : Prop :=
  ∃ A c, vs = κ.row x (.slice A (κ.dat x).length c) ∧ w.ownsRow b 5 1 (.slice A (κ.dat x).length c) (κ.dat x).length ((κ.dat x).map u8) ∧ (∀ y ∈ κ.dat x, y < 256) ∧ (κ.dat x).length ≤ 140737488355328 ∧ κ.ok x
section
variable {α : Type} {κ : Kind α} {w w' : World} {b : Nat} {x : α} {vs : List Value}
theorem KO.byc (h : KO κ b x w vs) : KE κ x w w.heap.size vs := by
  obtain ⟨A, c, e, ho, hlt, hdl, r⟩ := h
  refine ⟨A, c, e, ⟨byt_own hlt ho, ?_, hdl, fun hA => ?_⟩, r⟩
  · rcases ho.2 with ⟨e, h0⟩ | ⟨g, cap, cur, e, _, _, hn, _⟩
    · omega
    · injection e with _ _ e; omega
  · subst hA
    rcases ho.2 with ⟨e, h0⟩ | ⟨g, cap, cur, e, _, _, hn, _⟩
    · injection e
    · injection e with e; cases e
theorem KO.alike {t : Nat} (h : KO κ b x w vs) (ha : AlikeT t w w') (ht : t ≠ 5) : KO κ b x w' vs := by
  obtain ⟨A, c, e, ho, r⟩ := h
  exact ⟨A, c, e, own_alikeT ho ha (fun e => ht e.symm), r⟩
theorem KO.below (h : KO κ b x w vs) (hb : Below w.heap.size w w') : KO κ b x w' vs := h.alike (t := 27) (AlikeT.below hb) (by decide)
end

theorem flatten_set {K : Nat} : ∀ (rows : List (List Value)) (k j : Nat) (u : Value) (r : List Value) (h : k < rows.length) (_ : ∀ (q : Nat) (hq : q < rows.length), rows[q].length = K) (_ : j < K) (_ : r = rows[k].set j u), (rows.set k r).flatten = rows.flatten.set (k * K + j) u
  | a :: rows, 0, j, u, r, _, hK, hj, hr => by
    have h0 : a.length = K := hK 0 (by simp)
    simp only [List.set_cons_zero, List.flatten_cons, Nat.zero_mul, Nat.zero_add]
    rw [List.set_append_left _ _ (by omega), hr]
    rfl
  | a :: rows, k + 1, j, u, r, h, hK, hj, hr => by
    have h0 : a.length = K := hK 0 (by simp)
    simp only [List.set_cons_succ, List.flatten_cons]
    rw [List.set_append_right _ _ (by rw [Nat.succ_mul]; omega), h0, show (k + 1) * K + j - K = k * K + j by rw [Nat.succ_mul]; omega]
    rw [flatten_set rows k j u r (by simpa using h) (fun q hq => hK (q + 1) (by simpa using hq)) hj (by simpa using hr)]

/-- A row of structs of the call's own: the bytes of the first k are the call's own, those of the others lie where they lay in w0. -/
structure OwnM {α : Type} (κ : Kind α) (w0 w : World) (base : Nat) (v : Value) (xs : List α) (rows : List (List Value)) (k : Nat) : Prop where
  own : w.ownsRow base κ.T κ.K v xs.length rows.flatten
  len : rows.length = xs.length
  done : ∀ i (h : i < xs.length) (h' : i < rows.length), i < k → KO κ base xs[i] w rows[i]
  rest : ∀ i (h : i < xs.length) (h' : i < rows.length), k ≤ i → KE κ xs[i] w0 w0.heap.size rows[i]
section
variable {α : Type} {κ : Kind α} {w0 w w' : World} {base k : Nat} {v : Value} {xs : List α} {rows : List (List Value)}
theorem OwnM.rowLen (h : OwnM κ w0 w base v xs rows k) (hκ : κ.Right) (i : Nat) (hi : i < rows.length) : rows[i].length = κ.K := by
  have hx : i < xs.length := by rw [← h.len]; exact hi
  rcases Nat.lt_or_ge i k with hk | hk
  · obtain ⟨A, c, e, _⟩ := h.done i hx hi hk
    rw [e, hκ.len]
  · obtain ⟨A, c, e, _⟩ := h.rest i hx hi hk
    rw [e, hκ.len]
theorem OwnM.alike {t : Nat} (h : OwnM κ w0 w base v xs rows k) (ha : AlikeT t w w') (h5 : t ≠ 5) (hT : t ≠ κ.T) : OwnM κ w0 w' base v xs rows k :=
  ⟨own_alikeT h.own ha (fun e => hT e.symm), h.len, fun i h1 h2 hk => (h.done i h1 h2 hk).alike ha h5, h.rest⟩
theorem OwnM.below (h : OwnM κ w0 w base v xs rows k) (hb : Below w.heap.size w w') : OwnM κ w0 w' base v xs rows k :=
  ⟨own_alikeT (t := κ.T + 1) h.own (AlikeT.below hb) (by omega), h.len, fun i h1 h2 hk => (h.done i h1 h2 hk).below hb, h.rest⟩
/-- What is read of the next row. -/
theorem OwnM.read (h : OwnM κ w0 w base v xs rows k) (hκ : κ.Right) (hk : k < xs.length) :
    ∃ g cap cs A c, v = .slice (some ⟨g, 0, none⟩) xs.length cap ∧ base ≤ g ∧ Blk w g κ.T cs ∧ Byc w0 w0.heap.size A (κ.dat xs[k]) c ∧ κ.ok xs[k] ∧
      ∀ j u, (κ.row xs[k] (.slice A (κ.dat xs[k]).length c))[j]? = some u → w.cell? ⟨g, k * κ.K + j, none⟩ = some u := by
  have hkr : k < rows.length := by rw [h.len]; exact hk
  obtain ⟨A, c, e, hb, hok⟩ := h.rest k hk hkr (Nat.le_refl _)
  rcases h.own.2 with ⟨_, h0⟩ | ⟨g, cap, cur, hv, hbg, hg, _, _, _, ht⟩
  · omega
  · refine ⟨g, cap, cur, A, c, hv, hbg, hg, hb, hok, fun j u hj => ?_⟩
    have hjk : j < κ.K := by
      rw [← hκ.len xs[k] (.slice A (κ.dat xs[k]).length c)]
      rcases Nat.lt_or_ge j (κ.row xs[k] (.slice A (κ.dat xs[k]).length c)).length with h | h
      · exact h
      · rw [List.getElem?_eq_none h] at hj; cases hj
    rw [cell_of_row w g _ cur κ.T (0, 0) hg, ← Array.getElem?_toList]
    have h1 := flatten_at rows k j hkr (fun q hq => h.rowLen hκ q hq) hjk
    rw [← ht, List.getElem?_take, e, hj] at h1
    split at h1
    · exact h1
    · cases h1
/-- The bytes of the next row are the call's own. -/
theorem OwnM.store {g cap L c : Nat} {A : Option Addr} (h : OwnM κ w0 w base (.slice (some ⟨g, 0, none⟩) xs.length cap) xs rows k) (hκ : κ.Right) (hk : k < xs.length) (hL : (κ.dat xs[k]).length = L)
    (ho : w.ownsRow base 5 1 (.slice A L c) L ((κ.dat xs[k]).map u8)) :
    OwnM κ w0 (w.setCell ⟨g, k * κ.K + κ.J, none⟩ (.slice A L c)) base (.slice (some ⟨g, 0, none⟩) xs.length cap) xs (rows.set k (κ.row xs[k] (.slice A L c))) (k + 1) ∧ AlikeT κ.T w (w.setCell ⟨g, k * κ.K + κ.J, none⟩ (.slice A L c)) := by
  subst hL
  have hkr : k < rows.length := by rw [h.len]; exact hk
  obtain ⟨A0, c0, e0, hb0, hok⟩ := h.rest k hk hkr (Nat.le_refl _)
  have hblk : ∃ cs, Blk w g κ.T cs := by
    rcases h.own.2 with ⟨e, h0⟩ | ⟨g', cap', cur, hv, hbg, hg, _⟩
    · omega
    · injection hv with hv _ _; injection hv with hv; injection hv with hv _ _; subst hv; exact ⟨cur, hg⟩
  obtain ⟨cs, hcs⟩ := hblk
  have ha : AlikeT κ.T w (w.setCell ⟨g, k * κ.K + κ.J, none⟩ (.slice A (κ.dat xs[k]).length c)) := AlikeT.set hcs _
  refine ⟨⟨?_, by rw [List.length_set]; exact h.len, fun i h1 h2 hi => ?_, fun i h1 h2 hi => ?_⟩, ha⟩
  · have hs := h.own.stored (k * κ.K + κ.J) (.slice A (κ.dat xs[k]).length c)
    rw [flatten_set (K := κ.K) rows k κ.J (.slice A (κ.dat xs[k]).length c) _ hkr (fun q hq => h.rowLen hκ q hq) hκ.lt (by rw [e0, hκ.set_])]
    exact hs.1
  · rw [List.length_set] at h2
    by_cases hik : i = k
    · subst hik
      rw [List.getElem_set_self]
      exact ⟨A, c, rfl, own_alikeT ho ha (fun e => hκ.t5 e.symm), hb0.byt.lt, hb0.cap, hok⟩
    · rw [List.getElem_set_ne (fun e => hik e.symm)]
      exact (h.done i h1 h2 (by omega)).alike ha hκ.t5
  · rw [List.length_set] at h2
    rw [List.getElem_set_ne (by omega)]
    exact h.rest i h1 h2 (by omega)
/-- A list as rows, out of rows that lie somewhere. -/
theorem OwnM.els (h : OwnM κ w0 w base v xs rows xs.length) (hκ : κ.Right) {A : Option Addr} {n c : Nat} (hv : v = .slice A n c) : Els κ.K (KE κ) w w.heap.size A xs := by
  intro hn
  rcases h.own.2 with ⟨_, h0⟩ | ⟨g, cap, cur, hv', _, hg, _, _, _, ht⟩
  · omega
  · rw [hv] at hv'
    injection hv' with hA _ _
    subst hA
    refine ⟨g, 0, rfl, (Array.getElem?_eq_some_iff.1 hg).1, fun i hi => ?_⟩
    have hir : i < rows.length := by rw [h.len]; exact hi
    refine ⟨rows[i], h.rowLen hκ i hir, (h.done i hi hir hi).byc, fun j u hj => ?_⟩
    have hjk : j < κ.K := by
      rw [← h.rowLen hκ i hir]
      rcases Nat.lt_or_ge j rows[i].length with h | h
      · exact h
      · rw [List.getElem?_eq_none h] at hj; cases hj
    rw [Nat.zero_add, cell_of_row w g _ cur κ.T (0, 0) hg, ← Array.getElem?_toList]
    have h1 := flatten_at rows i j hir (fun q hq => h.rowLen hκ q hq) hjk
    rw [← ht] at h1
    rw [List.getElem?_take] at h1
    split at h1
    · rw [h1]; exact hj
    · rw [hj] at h1; cases h1
end

/-- The rows of a list, as lists of cells. -/
theorem els_rows {α : Type} {k : Nat} {E : α → World → Nat → List Value → Prop} {w : World} {B : Nat} {A : Option Addr} {xs : List α} (h : Els k E w B A xs) :
    ∃ rows : List (List Value), rows.length = xs.length ∧ (∀ i (hx : i < xs.length) (hr : i < rows.length), rows[i].length = k ∧ E xs[i] w B rows[i]) ∧
      ∀ a, A = some a → ∀ j u, rows.flatten[j]? = some u → w.cell? (a.add j) = some u := by
  by_cases hn : 0 < xs.length
  · obtain ⟨b, o, e, hb, hi⟩ := h hn
    refine ⟨List.ofFn fun i : Fin xs.length => Classical.choose (hi i i.2), by simp, fun i hx hr => ?_, fun a ha j u hu => ?_⟩
    · rw [List.getElem_ofFn]
      exact ⟨(Classical.choose_spec (hi i hx)).1, (Classical.choose_spec (hi i hx)).2.1⟩
    · rw [e] at ha
      injection ha with ha
      subst ha
      have hk : ∀ (q : Nat) (hq : q < (List.ofFn fun i : Fin xs.length => Classical.choose (hi i i.2)).length), (List.ofFn fun i : Fin xs.length => Classical.choose (hi i i.2))[q].length = k := by
        intro q hq
        rw [List.getElem_ofFn]
        exact (Classical.choose_spec (hi q (by simpa using hq))).1
      have hlen : (List.ofFn fun i : Fin xs.length => Classical.choose (hi i i.2)).flatten.length = xs.length * k := by
        have : ∀ (rs : List (List Value)), (∀ (q : Nat) (hq : q < rs.length), rs[q].length = k) → rs.flatten.length = rs.length * k := by
          intro rs
          induction rs with
          | nil => intro _; simp
          | cons r rs ih =>
            intro hr
            rw [List.flatten_cons, List.length_append, ih (fun q hq => hr (q + 1) (by simpa using hq)), List.length_cons, Nat.succ_mul]
            have : r.length = k := hr 0 (by simp)
            omega
        rw [this _ hk, List.length_ofFn]
      have hj : j < xs.length * k := by
        rw [← hlen]
        exact (List.getElem?_eq_some_iff.1 hu).1
      have hk0 : 0 < k := by
        rcases Nat.eq_zero_or_pos k with h0 | h0
        · subst h0; omega
        · exact h0
      have hq : j / k < xs.length := (Nat.div_lt_iff_lt_mul hk0).2 hj
      have hm : j % k < k := Nat.mod_lt _ hk0
      have he : j / k * k + j % k = j := by rw [Nat.mul_comm]; exact Nat.div_add_mod j k
      have h1 := flatten_at (List.ofFn fun i : Fin xs.length => Classical.choose (hi i i.2)) (j / k) (j % k) (by simpa using hq) hk hm
      rw [he, hu, List.getElem_ofFn] at h1
      have h2 := (Classical.choose_spec (hi (j / k) hq)).2.2 (j % k) u h1.symm
      rw [he] at h2
      rw [Go.WideShapes.add_plain]
      exact h2
  · have h0 : xs = [] := List.length_eq_zero_iff.1 (by omega)
    subst h0
    exact ⟨[], rfl, by simp, by simp⟩
end Go.Proofs.Ytlimkckomdipkaa
