/- Rows of structs that the call owns and writes into: kinds of structs with one field of bytes. -/
import Derived.Test.YtghdilmlfficlaaPlS
import Derived.Deep.Onto
import Derived.Test.YtghdilmlfficlaaSet
namespace Go.Proofs.Ytghdilmlfficlaa
open Go.RowKit

/-- w' is w as far as blocks go that hold something else than t. -/
def AlikeT (t : Nat) (w w' : World) : Prop := w.heap.size ≤ w'.heap.size ∧ ∀ g s cs, s ≠ t → Blk w g s cs → Blk w' g s cs
theorem AlikeT.refl (t : Nat) (w : World) : AlikeT t w w := ⟨Nat.le_refl _, fun _ _ _ _ h => h⟩
theorem AlikeT.trans {t : Nat} {a b c : World} (h : AlikeT t a b) (k : AlikeT t b c) : AlikeT t a c := ⟨Nat.le_trans h.1 k.1, fun g s cs ht hb => k.2 g s cs ht (h.2 g s cs ht hb)⟩
theorem AlikeT.below {t : Nat} {w w' : World} (h : Below w.heap.size w w') : AlikeT t w w' := ⟨h.size, fun _ _ _ _ hb => hb.below h hb.lt⟩
theorem AlikeT.set {t : Nat} {w : World} {g i : Nat} {cs : Array Value} (h : Blk w g t cs) (u : Value) : AlikeT t w (w.setCell ⟨g, i, none⟩ u) :=
  ⟨by rw [size_set]; exact Nat.le_refl _, fun k s ds ht hb => hb.far (p := ⟨g, i, none⟩) (fun e => by
    have e' : k = g := e
    subst e'
    unfold Blk at h hb
    rw [h] at hb
    injection hb with hb; injection hb with _ hb; exact ht hb.symm) u⟩
theorem AlikeT.alike {w w' : World} (h : AlikeT 31 w w') : Alike w w' := h
theorem own_alikeT {t : Nat} {w w' : World} {base e size n : Nat} {v : Value} {xs : List Value} (h : w.ownsRow base e size v n xs) (ha : AlikeT t w w') (he : e ≠ t) : w'.ownsRow base e size v n xs := by
  obtain ⟨h1, h | ⟨g, cap, cur, e1, e2, e3, e4⟩⟩ := h
  · exact ⟨h1, Or.inl h⟩
  · exact ⟨h1, Or.inr ⟨g, cap, cur, e1, e2, ha.2 g e cur he e3, e4⟩⟩

/-- A kind of struct of K cells of the type T, with bytes in the J-th. -/
structure Kind (α : Type) where
  T : Nat
  K : Nat
  J : Nat
  row : α → Value → List Value
  dat : α → List Nat
  ok : α → Prop
structure Kind.Right {α : Type} (κ : Kind α) : Prop where
  len : ∀ x v, (κ.row x v).length = κ.K
  lt : κ.J < κ.K
  set_ : ∀ x v u, (κ.row x v).set κ.J u = κ.row x u
  one : ∀ x A n c, ∀ u ∈ κ.row x (.slice A n c), u.oneCell' = true
  t5 : κ.T ≠ 5
def KE {α : Type} (κ : Kind α) (x : α) (w : World) (B : Nat) (vs : List Value) : Prop :=
  ∃ A c, vs = κ.row x (.slice A (κ.dat x).length c) ∧ Byc w B A (κ.dat x) c ∧ κ.ok x
/-- The bytes lie in a row of their own, not below block b. -/
def KO {α : Type} (κ : Kind α) (b : Nat) (x : α) (w : World) (vs : List Value) : Prop :=
  ∃ A c, vs = κ.row x (.slice A (κ.dat x).length c) ∧ w.ownsRow b 5 1 (.slice A (κ.dat x).length c) (κ.dat x).length ((κ.dat x).map u8) ∧ (∀ y ∈ κ.dat x, y < 256) ∧ (κ.dat x).length ≤ 140737488355328 ∧ κ.ok x
section
variable {α : Type} {κ : Kind α} {w w' : World} {b : Nat} {x : α} {vs : List Value}
theorem KO.byc (h : KO κ b x w vs) : KE κ x w w.heap.size vs := by
  obtain ⟨A, c, e, ho, hlt, hdl, r⟩ := h
  refine ⟨A, c, e, ⟨byt_own hlt ho, ?_, hdl, fun hA => ?_⟩, r⟩
  · rcases ho.2 with ⟨e, h0⟩ | ⟨g, cap, cur, e, _, _, hn, _⟩
    · omega
    · injection e with _ _ e; omega
  · subst hA
    rcases ho.2 with ⟨e, h0⟩ | ⟨g, cap, cur, e, _, _, hn, _⟩
    · injection e
    · injection e with e; cases e
theorem KO.alike {t : Nat} (h : KO κ b x w vs) (ha : AlikeT t w w') (ht : t ≠ 5) : KO κ b x w' vs := by
  obtain ⟨A, c, e, ho, r⟩ := h
  exact ⟨A, c, e, own_alikeT ho ha (fun e => ht e.symm), r⟩
theorem KO.below (h : KO κ b x w vs) (hb : Below w.heap.size w w') : KO κ b x w' vs := h.alike (t := 31) (AlikeT.below hb) (by decide)
end

theorem flatten_set {K : Nat} : ∀ (rows : List (List Value)) (k j : Nat) (u : Value) (r : List Value) (h : k < rows.length) (_ : ∀ (q : Nat) (hq : q < rows.length), rows[q].length = K) (_ : j < K) (_ : r = rows[k].set j u), (rows.set k r).flatten = rows.flatten.set (k * K + j) u
  | a :: rows, 0, j, u, r, _, hK, hj, hr => by
    have h0 : a.length = K := hK 0 (by simp)
    simp only [List.set_cons_zero, List.flatten_cons, Nat.zero_mul, Nat.zero_add]
    rw [List.set_append_left _ _ (by omega), hr]
    rfl
  | a :: rows, k + 1, j, u, r, h, hK, hj, hr => by
    have h0 : a.length = K := hK 0 (by simp)
    simp only [List.set_cons_succ, List.flatten_cons]
    rw [List.set_append_right _ _ (by rw [Nat.succ_mul]; omega), h0, show (k + 1) * K + j - K = k * K + j by rw [Nat.succ_mul]; omega]
    rw [flatten_set rows k j u r (by simpa using h) (fun q hq => hK (q + 1) (by simpa using hq)) hj (by simpa using hr)]

/-- A row of structs of the call's own: the bytes of the first k are the call's own, those of the others lie where they lay in w0. -/
structure OwnM {α : Type} (κ : Kind α) (w0 w : World) (base : Nat) (v : Value) (xs : List α) (rows : List (List Value)) (k : Nat) : Prop where
  own : w.ownsRow base κ.T κ.K v xs.length rows.flatten
  len : rows.length = xs.length
  done : ∀ i (h : i < xs.length) (h' : i < rows.length), i < k → KO κ base xs[i] w rows[i]
  rest : ∀ i (h : i < xs.length) (h' : i < rows.length), k ≤ i → KE κ xs[i] w0 w0.heap.size rows[i]
section
variable {α : Type} {κ : Kind α} {w0 w w' : World} {base k : Nat} {v : Value} {xs : List α} {rows : List (List Value)}
theorem OwnM.rowLen (h : OwnM κ w0 w base v xs rows k) (hκ : κ.Right) (i : Nat) (hi : i < rows.length) : rows[i].length = κ.K := by
  have hx : i < xs.length := by rw [← h.len]; exact hi
  rcases Nat.lt_or_ge i k with hk | hk
  · obtain ⟨A, c, e, _⟩ := h.done i hx hi hk
    rw [e, hκ.len]
  · obtain ⟨A, c, e, _⟩ := h.rest i hx hi hk
    rw [e, hκ.len]
theorem OwnM.alike {t : Nat} (h : OwnM κ w0 w base v xs rows k) (ha : AlikeT t w w') (h5 : t ≠ 5) (hT : t ≠ κ.T) : OwnM κ w0 w' base v xs rows k :=
  ⟨own_alikeT h.own ha (fun e => hT e.symm), h.len, fun i h1 h2 hk => (h.done i h1 h2 hk).alike ha h5, h.rest⟩
theorem OwnM.below (h : OwnM κ w0 w base v xs rows k) (hb : Below w.heap.size w w') : OwnM κ w0 w' base v xs rows k :=
  ⟨own_alikeT (t := κ.T + 1) h.own (AlikeT.below hb) (by omega), h.len, fun i h1 h2 hk => (h.done i h1 h2 hk).below hb, h.rest⟩
/-- What is read of the next row. -/
theorem OwnM.read (h : OwnM κ w0 w base v xs rows k) (hκ : κ.Right) (hk : k < xs.length) :
    ∃ g cap cs A c, v = .slice (some ⟨g, 0, none⟩) xs.length cap ∧ base ≤ g ∧ Blk w g κ.T cs ∧ Byc w0 w0.heap.size A (κ.dat xs[k]) c ∧ κ.ok xs[k] ∧
      ∀ j u, (κ.row xs[k] (.slice A (κ.dat xs[k]).length c))[j]? = some u → w.cell? ⟨g, k * κ.K + j, none⟩ = some u := by
  have hkr : k < rows.length := by rw [h.len]; exact hk
  obtain ⟨A, c, e, hb, hok⟩ := h.rest k hk hkr (Nat.le_refl _)
  rcases h.own.2 with ⟨_, h0⟩ | ⟨g, cap, cur, hv, hbg, hg, _, _, _, ht⟩
  · omega
  · refine ⟨g, cap, cur, A, c, hv, hbg, hg, hb, hok, fun j u hj => ?_⟩
    have hjk : j < κ.K := by
      rw [← hκ.len xs[k] (.slice A (κ.dat xs[k]).length c)]
      rcases Nat.lt_or_ge j (κ.row xs[k] (.slice A (κ.dat xs[k]).length c)).length with h | h
      · exact h
      · rw [List.getElem?_eq_none h] at hj; cases hj
    rw [cell_of_row w g _ cur κ.T (0, 0) hg, ← Array.getElem?_toList]
    have h1 := flatten_at rows k j hkr (fun q hq => h.rowLen hκ q hq) hjk
    rw [← ht, List.getElem?_take, e, hj] at h1
    split at h1
    · exact h1
    · cases h1
/-- The bytes of the next row are the call's own. -/
theorem OwnM.store {g cap L c : Nat} {A : Option Addr} (h : OwnM κ w0 w base (.slice (some ⟨g, 0, none⟩) xs.length cap) xs rows k) (hκ : κ.Right) (hk : k < xs.length) (hL : (κ.dat xs[k]).length = L)
    (ho : w.ownsRow base 5 1 (.slice A L c) L ((κ.dat xs[k]).map u8)) :
    OwnM κ w0 (w.setCell ⟨g, k * κ.K + κ.J, none⟩ (.slice A L c)) base (.slice (some ⟨g, 0, none⟩) xs.length cap) xs (rows.set k (κ.row xs[k] (.slice A L c))) (k + 1) ∧ AlikeT κ.T w (w.setCell ⟨g, k * κ.K + κ.J, none⟩ (.slice A L c)) := by
  subst hL
  have hkr : k < rows.length := by rw [h.len]; exact hk
  obtain ⟨A0, c0, e0, hb0, hok⟩ := h.rest k hk hkr (Nat.le_refl _)
  have hblk : ∃ cs, Blk w g κ.T cs := by
    rcases h.own.2 with ⟨e, h0⟩ | ⟨g', cap', cur, hv, hbg, hg, _⟩
    · omega
    · injection hv with hv _ _; injection hv with hv; injection hv with hv _ _; subst hv; exact ⟨cur, hg⟩
  obtain ⟨cs, hcs⟩ := hblk
  have ha : AlikeT κ.T w (w.setCell ⟨g, k * κ.K + κ.J, none⟩ (.slice A (κ.dat xs[k]).length c)) := AlikeT.set hcs _
  refine ⟨⟨?_, by rw [List.length_set]; exact h.len, fun i h1 h2 hi => ?_, fun i h1 h2 hi => ?_⟩, ha⟩
  · have hs := h.own.stored (k * κ.K + κ.J) (.slice A (κ.dat xs[k]).length c)
    rw [flatten_set (K := κ.K) rows k κ.J (.slice A (κ.dat xs[k]).length c) _ hkr (fun q hq => h.rowLen hκ q hq) hκ.lt (by rw [e0, hκ.set_])]
    exact hs.1
  · rw [List.length_set] at h2
    by_cases hik : i = k
    · subst hik
      rw [List.getElem_set_self]
      exact ⟨A, c, rfl, own_alikeT ho ha (fun e => hκ.t5 e.symm), hb0.byt.lt, hb0.cap, hok⟩
    · rw [List.getElem_set_ne (fun e => hik e.symm)]
      exact (h.done i h1 h2 (by omega)).alike ha hκ.t5
  · rw [List.length_set] at h2
    rw [List.getElem_set_ne (by omega)]
    exact h.rest i h1 h2 (by omega)
/-- A list as rows, out of rows that lie somewhere. -/
theorem OwnM.els (h : OwnM κ w0 w base v xs rows xs.length) (hκ : κ.Right) {A : Option Addr} {n c : Nat} (hv : v = .slice A n c) : Els κ.K (KE κ) w w.heap.size A xs := by
  intro hn
  rcases h.own.2 with ⟨_, h0⟩ | ⟨g, cap, cur, hv', _, hg, _, _, _, ht⟩
  · omega
  · rw [hv] at hv'
    injection hv' with hA _ _
    subst hA
    refine ⟨g, 0, rfl, (Array.getElem?_eq_some_iff.1 hg).1, fun i hi => ?_⟩
    have hir : i < rows.length := by rw [h.len]; exact hi
    refine ⟨rows[i], h.rowLen hκ i hir, (h.done i hi hir hi).byc, fun j u hj => ?_⟩
    have hjk : j < κ.K := by
      rw [← h.rowLen hκ i hir]
      rcases Nat.lt_or_ge j rows[i].length with h | h
      · exact h
      · rw [List.getElem?_eq_none h] at hj; cases hj
    rw [Nat.zero_add, cell_of_row w g _ cur κ.T (0, 0) hg, ← Array.getElem?_toList]
    have h1 := flatten_at rows i j hir (fun q hq => h.rowLen hκ q hq) hjk
    rw [← ht] at h1
    rw [List.getElem?_take] at h1
    split at h1
    · rw [h1]; exact hj
    · rw [hj] at h1; cases h1
end

/-- The rows of a list, as lists of cells. -/
theorem els_rows {α : Type} {k : Nat} {E : α → World → Nat → List Value → Prop} {w : World} {B : Nat} {A : Option Addr} {xs : List α} (h : Els k E w B A xs) :
    ∃ rows : List (List Value), rows.length = xs.length ∧ (∀ i (hx : i < xs.length) (hr : i < rows.length), rows[i].length = k ∧ E xs[i] w B rows[i]) ∧
      ∀ a, A = some a → ∀ j u, rows.flatten[j]? = some u → w.cell? (a.add j) = some u := by
  by_cases hn : 0 < xs.length
  · obtain ⟨b, o, e, hb, hi⟩ := h hn
    refine ⟨List.ofFn fun i : Fin xs.length => Classical.choose (hi i i.2), by simp, fun i hx hr => ?_, fun a ha j u hu => ?_⟩
    · rw [List.getElem_ofFn]
      exact ⟨(Classical.choose_spec (hi i hx)).1, (Classical.choose_spec (hi i hx)).2.1⟩
    · rw [e] at ha
      injection ha with ha
      subst ha
      have hk : ∀ (q : Nat) (hq : q < (List.ofFn fun i : Fin xs.length => Classical.choose (hi i i.2)).length), (List.ofFn fun i : Fin xs.length => Classical.choose (hi i i.2))[q].length = k := by
        intro q hq
        rw [List.getElem_ofFn]
        exact (Classical.choose_spec (hi q (by simpa using hq))).1
      have hlen : (List.ofFn fun i : Fin xs.length => Classical.choose (hi i i.2)).flatten.length = xs.length * k := by
        have : ∀ (rs : List (List Value)), (∀ (q : Nat) (hq : q < rs.length), rs[q].length = k) → rs.flatten.length = rs.length * k := by
          intro rs
          induction rs with
          | nil => intro _; simp
          | cons r rs ih =>
            intro hr
            rw [List.flatten_cons, List.length_append, ih (fun q hq => hr (q + 1) (by simpa using hq)), List.length_cons, Nat.succ_mul]
            have : r.length = k := hr 0 (by simp)
            omega
        rw [this _ hk, List.length_ofFn]
      have hj : j < xs.length * k := by
        rw [← hlen]
        exact (List.getElem?_eq_some_iff.1 hu).1
      have hk0 : 0 < k := by
        rcases Nat.eq_zero_or_pos k with h0 | h0
        · subst h0; omega
        · exact h0
      have hq : j / k < xs.length := (Nat.div_lt_iff_lt_mul hk0).2 hj
      have hm : j % k < k := Nat.mod_lt _ hk0
      have he : j / k * k + j % k = j := by rw [Nat.mul_comm]; exact Nat.div_add_mod j k
      have h1 := flatten_at (List.ofFn fun i : Fin xs.length => Classical.choose (hi i i.2)) (j / k) (j % k) (by simpa using hq) hk hm
      rw [he, hu, List.getElem_ofFn] at h1
      have h2 := (Classical.choose_spec (hi (j / k) hq)).2.2 (j % k) u h1.symm
      rw [he] at h2
      rw [Go.WideShapes.add_plain]
      exact h2
  · have h0 : xs = [] := List.length_eq_zero_iff.1 (by omega)
    subst h0
    exact ⟨[], rfl, by simp, by simp⟩
end Go.Proofs.Ytghdilmlfficlaa
/- slices.Clone of lists of structs. -/
namespace Go.Proofs.Ytghdilmlfficlaa
open Go.RowKit

theorem empty_rowT (w : World) (T K : Nat) : (w.alloc (.cells #[] T)).ownsRow w.heap.size T K (.slice (some ⟨w.heap.size, 0, none⟩) 0 0) 0 ([] : List Value) :=
  ⟨by simp, Or.inr ⟨w.heap.size, 0, #[], rfl, Nat.le_refl _, heap_alloc_new w _, Nat.le_refl _, Nat.zero_le _, by simp, by simp⟩⟩

/-- 'append(v, l...)' of structs, v an empty row of the call's own. -/
theorem run_own_rows (w : World) (base T t K bytes : Nat) (z : Value) (ht : Try.prog.underlying t = some (.slice T)) (hinf : (Try.prog.info? T).map (fun i => (i.zero, i.size, i.bytes)) = some (some z, K, bytes)) (hzs : z.cells.size = K) (hk : 0 < K)
    (v : Value) (hown : w.ownsRow base T K v 0 []) (a : Addr) (n c : Nat) (cs : List Value) (hcl : cs.length = n * K) (hsrc : ∀ j u, cs[j]? = some u → w.cell? (a.add j) = some u) (h1 : ∀ u ∈ cs, u.oneCell' = true) (hn : n ≤ maxLen) (hb : n * bytes ≤ 140737488355328) (hbase : base ≤ w.heap.size) :
    ∃ v' w', (Builtin.append_ #[t, t] t #[v, .slice (some a) n c]).run Try.prog w = .ok v' w' ∧ w'.ownsRow base T K v' n cs ∧ w.grownBy w' v.ownBlock := by
  obtain ⟨i, hi, hz, hsize, hby⟩ := info_parts hinf
  obtain ⟨v', w', hr, h2, h3, _, _⟩ := run_append_own_at (P := Try.prog) w base t t T i z K bytes ht hi hz hsize hby hzs hk v 0 [] hown a n c cs hcl hsrc h1 (by omega) (by rw [Nat.zero_add]; exact hb) hbase
  rw [Nat.zero_add, List.nil_append] at h2
  exact ⟨v', w', hr, h2, h3⟩

def ClonesPost {α : Type} (T K : Nat) (E : α → World → Nat → List Value → Prop) (w : World) (xs : List α) (e : Ending) (w' : World) : Prop :=
  ∃ A c rows, e = .returned (.slice A xs.length c) ∧ w'.ownsRow w.heap.size T K (.slice A xs.length c) xs.length (rows : List (List Value)).flatten ∧ rows.length = xs.length ∧
    (∀ i (hx : i < xs.length) (hr : i < rows.length), rows[i].length = K ∧ E xs[i] w w.heap.size rows[i]) ∧ Below w.heap.size w w'
theorem info54 : (Try.prog.info? 79).map (fun i => (i.zero, i.size, i.bytes)) = some (some (.agg #[.string ⟨#[]⟩, .int .i64 0, .int .i64 0]), 3, 32) := by kernel_rfl
theorem info49 : (Try.prog.info? 92).map (fun i => (i.zero, i.size, i.bytes)) = some (some (.agg #[.slice none 0 0, .string ⟨#[]⟩]), 2, 40) := by kernel_rfl
theorem info65 : (Try.prog.info? 95).map (fun i => (i.zero, i.size, i.bytes)) = some (some (.agg #[.string ⟨#[]⟩, .slice none 0 0]), 2, 40) := by kernel_rfl

/-- The cells that are cloned. -/
theorem clone_src {α : Type} {K : Nat} {E : α → World → Nat → List Value → Prop} {w : World} {A : Option Addr} {xs : List α} (h : Els K E w w.heap.size A xs) (h1 : ∀ x B vs, E x w B vs → ∀ u ∈ vs, u.oneCell' = true) (o : Obj) :
    ∃ rows : List (List Value), rows.length = xs.length ∧ (∀ i (hx : i < xs.length) (hr : i < rows.length), rows[i].length = K ∧ E xs[i] w w.heap.size rows[i]) ∧ rows.flatten.length = xs.length * K ∧
      (∀ u ∈ rows.flatten, u.oneCell' = true) ∧ ∀ a, A = some a → ∀ j u, rows.flatten[j]? = some u → (w.alloc o).cell? (a.add j) = some u := by
  obtain ⟨rows, hl, he, hc⟩ := els_rows h
  have hflat : ∀ (rs : List (List Value)), (∀ (q : Nat) (hq : q < rs.length), rs[q].length = K) → rs.flatten.length = rs.length * K := by
    intro rs
    induction rs with
    | nil => intro _; simp
    | cons r rs ih =>
      intro hr
      rw [List.flatten_cons, List.length_append, ih (fun q hq => hr (q + 1) (by simpa using hq)), List.length_cons, Nat.succ_mul]
      have : r.length = K := hr 0 (by simp)
      omega
  refine ⟨rows, hl, he, by rw [hflat rows (fun q hq => (he q (by rw [← hl]; exact hq) hq).1), hl], fun u hu => ?_, fun a ha j u hj => ?_⟩
  · obtain ⟨r, hr, hu⟩ := List.mem_flatten.1 hu
    obtain ⟨i, hi, rfl⟩ := List.mem_iff_getElem.1 hr
    exact h1 _ _ _ (he i (by rw [← hl]; exact hi) hi).2 u hu
  · have h2 := hc a ha j u hj
    rw [World.cell?_alloc_lt _ _ _ (World.block_lt_of_cell? w _ h2)]
    exact h2
theorem facOne : ∀ x w B vs, FacE x w B vs → ∀ u ∈ vs, u.oneCell' = true := by
  rintro x w B vs ⟨rfl, _⟩ u hu
  simp only [List.mem_cons, List.not_mem_nil, or_false] at hu
  rcases hu with rfl | rfl | rfl <;> rfl
theorem namOne : ∀ x w B vs, NamE x w B vs → ∀ u ∈ vs, u.oneCell' = true := by
  rintro x w B vs ⟨A, c, rfl, _⟩ u hu
  simp only [List.mem_cons, List.not_mem_nil, or_false] at hu
  rcases hu with rfl | rfl <;> rfl
theorem secOne : ∀ x w B vs, SecE x w B vs → ∀ u ∈ vs, u.oneCell' = true := by
  rintro x w B vs ⟨A, c, rfl, _⟩ u hu
  simp only [List.mem_cons, List.not_mem_nil, or_false] at hu
  rcases hu with rfl | rfl <;> rfl
theorem pktOne : ∀ x w B vs, PktE x w B vs → ∀ u ∈ vs, u.oneCell' = true := by
  rintro x w B vs ⟨A, c, rfl, _⟩ u hu
  simp only [List.mem_cons, List.not_mem_nil, or_false] at hu
  rcases hu with rfl | rfl | rfl | rfl | rfl <;> rfl

set_option maxHeartbeats 1000000 in
theorem fclone_any {E : Fac → World → Nat → List Value → Prop} (hE : ∀ x w B vs, E x w B vs → ∀ u ∈ vs, u.oneCell' = true) {w : World} {A : Option Addr} {c : Nat} {xs : List Fac} (hm : Els 3 E w w.heap.size A xs) (hb : xs.length ≤ c ∧ xs.length * 32 ≤ 140737488355328 ∧ (A = none → c = 0)) : Calls Try.prog 140 #[.slice A xs.length c] w (ClonesPost 79 3 E w xs) := by
  have hz := fun (wx : World) (a : Option Addr) (l c : Nat) => Lib.run_eql_slice_nil (P := Try.prog) wx 26 79 a l c 0 0 Try.underlying26
  cases A with
  | none =>
    have hc0 := hb.2.2 rfl
    have hxs : xs = [] := List.length_eq_zero_iff.1 (by omega)
    subst hxs
    subst hc0
    clear hm hb
    go_enter Try.func140, Try.ntmps140
    go_wp2
    go_ret
    exact ⟨none, 0, [], rfl, World.ownsRow_nil _ _ _ _, rfl, by simp, Below.refl _ _⟩
  | some a =>
    have hB0 : Below w.heap.size w (w.alloc (.cells #[] 79)) := (Below.refl _ _).alloc (Nat.le_refl _) _
    obtain ⟨rows, hl, he, hfl, h1, hsrc⟩ := clone_src hm (fun x B vs h => hE x w B vs h) (.cells #[] 79)
    obtain ⟨v', w', hrun, hown, hgr⟩ := run_own_rows (w.alloc (.cells #[] 79)) w.heap.size 79 26 3 32 _ Try.underlying26 info54 (by rfl) (by decide) _ (empty_rowT w 79 3) a xs.length c rows.flatten hfl (hsrc a rfl) h1 (by unfold maxLen; omega) hb.2.1 (by rw [alloc_size]; omega)
    have HOWN := Lib.hid hown
    have HB : Hid (Below w.heap.size w w') := Lib.hid (hB0.grown hgr (by rw [alloc_size]; omega) (fun k h => by cases h; exact Nat.le_refl _))
    have HE := Lib.hid he
    have HR := Lib.hid hl
    obtain ⟨A2, c2, hv, _, _⟩ := own_form2 hown
    subst hv
    obtain ⟨L, hL⟩ : ∃ L, xs.length = L := ⟨_, rfl⟩
    have HL := Lib.hid hL
    rw [hL] at hrun ⊢
    clear hown hgr hL hm hB0 hb he hl hfl h1 hsrc
    go_enter Try.func140, Try.ntmps140
    go_wp2_with (at_builtin; refine Lib.wpList_append_run _ rfl _ _ _ _ rfl _ _ rfl rfl _ _ hrun ?_)
    go_ret
    refine ⟨A2, c2, rows, by rw [HL.out]; rfl, HOWN.out, HR.out, HE.out, HB.out⟩

set_option maxHeartbeats 1000000 in
theorem nclone_any {E : Nam → World → Nat → List Value → Prop} (hE : ∀ x w B vs, E x w B vs → ∀ u ∈ vs, u.oneCell' = true) {w : World} {A : Option Addr} {c : Nat} {xs : List Nam} (hm : Els 2 E w w.heap.size A xs) (hb : xs.length ≤ c ∧ xs.length * 40 ≤ 140737488355328 ∧ (A = none → c = 0)) : Calls Try.prog 141 #[.slice A xs.length c] w (ClonesPost 92 2 E w xs) := by
  have hz := fun (wx : World) (a : Option Addr) (l c : Nat) => Lib.run_eql_slice_nil (P := Try.prog) wx 27 92 a l c 0 0 Try.underlying27
  cases A with
  | none =>
    have hc0 := hb.2.2 rfl
    have hxs : xs = [] := List.length_eq_zero_iff.1 (by omega)
    subst hxs
    subst hc0
    clear hm hb
    go_enter Try.func141, Try.ntmps141
    go_wp2
    go_ret
    exact ⟨none, 0, [], rfl, World.ownsRow_nil _ _ _ _, rfl, by simp, Below.refl _ _⟩
  | some a =>
    have hB0 : Below w.heap.size w (w.alloc (.cells #[] 92)) := (Below.refl _ _).alloc (Nat.le_refl _) _
    obtain ⟨rows, hl, he, hfl, h1, hsrc⟩ := clone_src hm (fun x B vs h => hE x w B vs h) (.cells #[] 92)
    obtain ⟨v', w', hrun, hown, hgr⟩ := run_own_rows (w.alloc (.cells #[] 92)) w.heap.size 92 27 2 40 _ Try.underlying27 info49 (by rfl) (by decide) _ (empty_rowT w 92 2) a xs.length c rows.flatten hfl (hsrc a rfl) h1 (by unfold maxLen; omega) hb.2.1 (by rw [alloc_size]; omega)
    have HOWN := Lib.hid hown
    have HB : Hid (Below w.heap.size w w') := Lib.hid (hB0.grown hgr (by rw [alloc_size]; omega) (fun k h => by cases h; exact Nat.le_refl _))
    have HE := Lib.hid he
    have HR := Lib.hid hl
    obtain ⟨A2, c2, hv, _, _⟩ := own_form2 hown
    subst hv
    obtain ⟨L, hL⟩ : ∃ L, xs.length = L := ⟨_, rfl⟩
    have HL := Lib.hid hL
    rw [hL] at hrun ⊢
    clear hown hgr hL hm hB0 hb he hl hfl h1 hsrc
    go_enter Try.func141, Try.ntmps141
    go_wp2_with (at_builtin; refine Lib.wpList_append_run _ rfl _ _ _ _ rfl _ _ rfl rfl _ _ hrun ?_)
    go_ret
    refine ⟨A2, c2, rows, by rw [HL.out]; rfl, HOWN.out, HR.out, HE.out, HB.out⟩

set_option maxHeartbeats 1000000 in
theorem sclone_any {E : Sec → World → Nat → List Value → Prop} (hE : ∀ x w B vs, E x w B vs → ∀ u ∈ vs, u.oneCell' = true) {w : World} {A : Option Addr} {c : Nat} {xs : List Sec} (hm : Els 2 E w w.heap.size A xs) (hb : xs.length ≤ c ∧ xs.length * 40 ≤ 140737488355328 ∧ (A = none → c = 0)) : Calls Try.prog 142 #[.slice A xs.length c] w (ClonesPost 95 2 E w xs) := by
  have hz := fun (wx : World) (a : Option Addr) (l c : Nat) => Lib.run_eql_slice_nil (P := Try.prog) wx 28 95 a l c 0 0 Try.underlying28
  cases A with
  | none =>
    have hc0 := hb.2.2 rfl
    have hxs : xs = [] := List.length_eq_zero_iff.1 (by omega)
    subst hxs
    subst hc0
    clear hm hb
    go_enter Try.func142, Try.ntmps142
    go_wp2
    go_ret
    exact ⟨none, 0, [], rfl, World.ownsRow_nil _ _ _ _, rfl, by simp, Below.refl _ _⟩
  | some a =>
    have hB0 : Below w.heap.size w (w.alloc (.cells #[] 95)) := (Below.refl _ _).alloc (Nat.le_refl _) _
    obtain ⟨rows, hl, he, hfl, h1, hsrc⟩ := clone_src hm (fun x B vs h => hE x w B vs h) (.cells #[] 95)
    obtain ⟨v', w', hrun, hown, hgr⟩ := run_own_rows (w.alloc (.cells #[] 95)) w.heap.size 95 28 2 40 _ Try.underlying28 info65 (by rfl) (by decide) _ (empty_rowT w 95 2) a xs.length c rows.flatten hfl (hsrc a rfl) h1 (by unfold maxLen; omega) hb.2.1 (by rw [alloc_size]; omega)
    have HOWN := Lib.hid hown
    have HB : Hid (Below w.heap.size w w') := Lib.hid (hB0.grown hgr (by rw [alloc_size]; omega) (fun k h => by cases h; exact Nat.le_refl _))
    have HE := Lib.hid he
    have HR := Lib.hid hl
    obtain ⟨A2, c2, hv, _, _⟩ := own_form2 hown
    subst hv
    obtain ⟨L, hL⟩ : ∃ L, xs.length = L := ⟨_, rfl⟩
    have HL := Lib.hid hL
    rw [hL] at hrun ⊢
    clear hown hgr hL hm hB0 hb he hl hfl h1 hsrc
    go_enter Try.func142, Try.ntmps142
    go_wp2_with (at_builtin; refine Lib.wpList_append_run _ rfl _ _ _ _ rfl _ _ rfl rfl _ _ hrun ?_)
    go_ret
    refine ⟨A2, c2, rows, by rw [HL.out]; rfl, HOWN.out, HR.out, HE.out, HB.out⟩

set_option maxHeartbeats 1000000 in
theorem pclone_any {E : Pkt → World → Nat → List Value → Prop} (hE : ∀ x w B vs, E x w B vs → ∀ u ∈ vs, u.oneCell' = true) {w : World} {A : Option Addr} {c : Nat} {xs : List Pkt} (hm : Els 5 E w w.heap.size A xs) (hb : xs.length ≤ c ∧ xs.length * 64 ≤ 140737488355328 ∧ (A = none → c = 0)) : Calls Try.prog 143 #[.slice A xs.length c] w (ClonesPost 50 5 E w xs) := by
  have hz := fun (wx : World) (a : Option Addr) (l c : Nat) => Lib.run_eql_slice_nil (P := Try.prog) wx 29 50 a l c 0 0 Try.underlying29
  cases A with
  | none =>
    have hc0 := hb.2.2 rfl
    have hxs : xs = [] := List.length_eq_zero_iff.1 (by omega)
    subst hxs
    subst hc0
    clear hm hb
    go_enter Try.func143, Try.ntmps143
    go_wp2
    go_ret
    exact ⟨none, 0, [], rfl, World.ownsRow_nil _ _ _ _, rfl, by simp, Below.refl _ _⟩
  | some a =>
    have hB0 : Below w.heap.size w (w.alloc (.cells #[] 50)) := (Below.refl _ _).alloc (Nat.le_refl _) _
    obtain ⟨rows, hl, he, hfl, h1, hsrc⟩ := clone_src hm (fun x B vs h => hE x w B vs h) (.cells #[] 50)
    obtain ⟨v', w', hrun, hown, hgr⟩ := run_own_rows (w.alloc (.cells #[] 50)) w.heap.size 50 29 5 64 _ Try.underlying29 info47 (by rfl) (by decide) _ (empty_rowT w 50 5) a xs.length c rows.flatten hfl (hsrc a rfl) h1 (by unfold maxLen; omega) hb.2.1 (by rw [alloc_size]; omega)
    have HOWN := Lib.hid hown
    have HB : Hid (Below w.heap.size w w') := Lib.hid (hB0.grown hgr (by rw [alloc_size]; omega) (fun k h => by cases h; exact Nat.le_refl _))
    have HE := Lib.hid he
    have HR := Lib.hid hl
    obtain ⟨A2, c2, hv, _, _⟩ := own_form2 hown
    subst hv
    obtain ⟨L, hL⟩ : ∃ L, xs.length = L := ⟨_, rfl⟩
    have HL := Lib.hid hL
    rw [hL] at hrun ⊢
    clear hown hgr hL hm hB0 hb he hl hfl h1 hsrc
    go_enter Try.func143, Try.ntmps143
    go_wp2_with (at_builtin; refine Lib.wpList_append_run _ rfl _ _ _ _ rfl _ _ rfl rfl _ _ hrun ?_)
    go_ret
    refine ⟨A2, c2, rows, by rw [HL.out]; rfl, HOWN.out, HR.out, HE.out, HB.out⟩
end Go.Proofs.Ytghdilmlfficlaa
/- A copy's memory: kinds of structs with bytes, and what a round of copying leaves. -/
namespace Go.Proofs.Ytghdilmlfficlaa
open Go.RowKit

abbrev zeroB : Array Value := #[.string ⟨#[]⟩, .slice none 0 0, .slice none 0 0, .slice none 0 0, .slice none 0 0]
def namKd : Kind Nam := ⟨92, 2, 0, fun x v => [v, .string x.text], Nam.addr, fun x => x.text.size ≤ 140737488355328⟩
def secKd : Kind Sec := ⟨95, 2, 1, fun x v => [.string x.label, v], Sec.key, fun x => x.label.size ≤ 140737488355328⟩
def pktKd : Kind Pkt := ⟨50, 5, 3, fun p v => [.int .i64 p.time, .int .i64 p.face, .int .i64 p.real, v, .string p.note], Pkt.data, fun p => p.note.size ≤ 140737488355328 ∧
    (-9223372036854775808 ≤ p.time ∧ p.time ≤ 9223372036854775807) ∧ (-9223372036854775808 ≤ p.face ∧ p.face ≤ 9223372036854775807) ∧ (-9223372036854775808 ≤ p.real ∧ p.real ≤ 9223372036854775807)⟩
theorem namR : namKd.Right := ⟨fun _ _ => rfl, (by decide : 0 < 2), fun _ _ _ => rfl, fun x A n c u hu => by
  have hu : u ∈ [Value.slice A n c, .string x.text] := hu
  simp only [List.mem_cons, List.not_mem_nil, or_false] at hu
  rcases hu with rfl | rfl <;> rfl, (by decide : (92 : Nat) ≠ 5)⟩
theorem secR : secKd.Right := ⟨fun _ _ => rfl, (by decide : 1 < 2), fun _ _ _ => rfl, fun x A n c u hu => by
  have hu : u ∈ [.string x.label, Value.slice A n c] := hu
  simp only [List.mem_cons, List.not_mem_nil, or_false] at hu
  rcases hu with rfl | rfl <;> rfl, (by decide : (95 : Nat) ≠ 5)⟩
theorem pktR : pktKd.Right := ⟨fun _ _ => rfl, (by decide : 3 < 5), fun _ _ _ => rfl, fun x A n c u hu => by
  have hu : u ∈ [.int .i64 x.time, .int .i64 x.face, .int .i64 x.real, Value.slice A n c, .string x.note] := hu
  simp only [List.mem_cons, List.not_mem_nil, or_false] at hu
  rcases hu with rfl | rfl | rfl | rfl | rfl <;> rfl, (by decide : (50 : Nat) ≠ 5)⟩

/-- A list as it lay in w. -/
theorem Els.fix {α : Type} {k : Nat} {E : α → World → Nat → List Value → Prop} {w W : World} {B : Nat} {A : Option Addr} {xs : List α} (h : Els k E w B A xs) (hb : Below B w W) (hB : B ≤ W.heap.size) : Els k (fun x _ _ vs => E x w B vs) W W.heap.size A xs := by
  intro hn
  obtain ⟨b, o, e, hlt, hi⟩ := h hn
  refine ⟨b, o, e, by omega, fun i hx => ?_⟩
  obtain ⟨vs, hl, he, hc⟩ := hi i hx
  exact ⟨vs, hl, he, fun j v hv => (hb.cell (p := ⟨b, o + (i * k + j), none⟩) hlt).trans (hc j v hv)⟩

theorem OwnM.start {α : Type} {κ : Kind α} {w0 W w1 : World} {base : Nat} {v : Value} {xs : List α} {rows : List (List Value)} (ho : w1.ownsRow W.heap.size κ.T κ.K v xs.length rows.flatten) (hl : rows.length = xs.length)
    (he : ∀ i (hx : i < xs.length) (hr : i < rows.length), rows[i].length = κ.K ∧ KE κ xs[i] w0 w0.heap.size rows[i]) (hb : base ≤ W.heap.size) : OwnM κ w0 w1 base v xs rows 0 :=
  ⟨ho.mono hb, hl, fun i _ _ h => absurd h (by omega), fun i h1 h2 _ => (he i h1 h2).2⟩

theorem copy_step {α : Type} {κ : Kind α} (hκ : κ.Right) {w W4 w5 Ws : World} {B g n cap L c5 k : Nat} {xs : List α} {rows : List (List Value)} {A5 : Option Addr} {a : Nat} (ha : a = k * κ.K + κ.J)
    (hn : xs.length = n) (hk : k < xs.length) (hL : (κ.dat xs[k]).length = L) (HN : OwnM κ w W4 (B + 2) (.slice (some ⟨g, 0, none⟩) n cap) xs rows k) (HW : Below B w W4) (HA : AlikeT κ.T Ws W4) (hg : B + 2 ≤ g)
    (ho5 : w5.ownsRow W4.heap.size 5 1 (.slice A5 L c5) L ((κ.dat xs[k]).map u8)) (hb5 : Below W4.heap.size W4.drew w5) (hB : B + 2 ≤ W4.heap.size) :
    ∃ rows', OwnM κ w (w5.setCell ⟨g, a, none⟩ (.slice A5 L c5)) (B + 2) (.slice (some ⟨g, 0, none⟩) n cap) xs rows' (k + 1) ∧ Below B w (w5.setCell ⟨g, a, none⟩ (.slice A5 L c5)) ∧ AlikeT κ.T Ws (w5.setCell ⟨g, a, none⟩ (.slice A5 L c5)) := by
  subst hn
  subst ha
  have hb : Below W4.heap.size W4 w5 := ⟨hb5.os, hb5.tape, hb5.output, hb5.size, hb5.block⟩
  have hsz : W4.heap.size ≤ w5.heap.size := hb.size
  obtain ⟨h1, h2⟩ := (HN.below hb).store hκ hk hL (own_mono ho5 hB)
  refine ⟨_, h1, (HW.trans (hb.mono (by omega))).setCell (p := ⟨g, k * κ.K + κ.J, none⟩) (by show B ≤ g; omega) _, (HA.trans (AlikeT.below hb)).trans h2⟩

/-- A capture in memory of the call's own, not below block b. -/
structure CapO (w : World) (b : Nat) (q : Pl) (c : Cap) : Prop where
  note : c.note.size ≤ 140737488355328
  faces : ∃ rows, OwnL w b 79 3 FacE (.slice q.pf c.faces.length q.cf) c.faces rows
  names : ∃ w0 rows, OwnM namKd w0 w b (.slice q.pn c.names.length q.cn) c.names rows c.names.length
  secs : ∃ w0 rows, OwnM secKd w0 w b (.slice q.ps c.secs.length q.cs) c.secs rows c.secs.length
  pkts : ∃ w0 rows, OwnM pktKd w0 w b (.slice q.pp c.pkts.length q.cp) c.pkts rows c.pkts.length
  lf : c.faces.length * 32 ≤ 140737488355328
  ln : c.names.length * 40 ≤ 140737488355328
  ls : c.secs.length * 40 ≤ 140737488355328
  lp : c.pkts.length * 64 ≤ 140737488355328
theorem own_bounds {w : World} {base e size n k c : Nat} {A : Option Addr} {xs : List Value} (h : w.ownsRow base e size (.slice A n c) k xs) : n ≤ c ∧ (A = none → c = 0) := by
  rcases h.2 with ⟨e, h0⟩ | ⟨g, cap, cur, e, _, _, hn, _⟩
  · injection e with e1 e2 e3; subst e2; subst e3; exact ⟨Nat.le_refl _, fun _ => rfl⟩
  · injection e with e1 e2 e3; subst e1; subst e2; subst e3; exact ⟨hn, fun h => by cases h⟩
theorem facL_alike {t : Nat} {w w' : World} {b : Nat} {v : Value} {xs : List Fac} {rows : List (List Value)} (h : OwnL w b 79 3 FacE v xs rows) (ha : AlikeT t w w') (ht : t ≠ 79) : OwnL w' b 79 3 FacE v xs rows :=
  ⟨own_alikeT h.own ha (fun e => ht e.symm), h.len, fun i h1 h2 => h.each i h1 h2, h.one⟩
theorem CapO.alike {t : Nat} {w w' : World} {b : Nat} {q : Pl} {c : Cap} (h : CapO w b q c) (ha : AlikeT t w w') (ht : t ≠ 5 ∧ t ≠ 79 ∧ t ≠ 92 ∧ t ≠ 95 ∧ t ≠ 50) : CapO w' b q c := by
  obtain ⟨hn, ⟨rf, hf⟩, ⟨w1, rn, hn1⟩, ⟨w2, rs, hs1⟩, ⟨w3, rp, hp1⟩, a1, a2, a3, a4⟩ := h
  exact ⟨hn, ⟨rf, facL_alike hf ha ht.2.1⟩, ⟨w1, rn, hn1.alike ha ht.1 ht.2.2.1⟩, ⟨w2, rs, hs1.alike ha ht.1 ht.2.2.2.1⟩, ⟨w3, rp, hp1.alike ha ht.1 ht.2.2.2.2⟩, a1, a2, a3, a4⟩
theorem CapO.below {w w' : World} {b : Nat} {q : Pl} {c : Cap} (h : CapO w b q c) (hb : Below w.heap.size w w') : CapO w' b q c := h.alike (t := 31) (AlikeT.below hb) (by decide)
theorem CapO.capM {w : World} {b : Nat} {q : Pl} {c : Cap} (h : CapO w b q c) : CapM w w.heap.size q c := by
  obtain ⟨hn, ⟨rf, hf⟩, ⟨w1, rn, hn1⟩, ⟨w2, rs, hs1⟩, ⟨w3, rp, hp1⟩, a1, a2, a3, a4⟩ := h
  have bf := own_bounds hf.own
  have bn := own_bounds hn1.own
  have bs := own_bounds hs1.own
  have bp := own_bounds hp1.own
  exact ⟨hn, OwnL.els hf, hn1.els namR rfl, hs1.els secR rfl, hp1.els pktR rfl, ⟨bf.1, a1, bf.2⟩, ⟨bn.1, a2, bn.2⟩, ⟨bs.1, a3, bs.2⟩, ⟨bp.1, a4, bp.2⟩⟩
theorem CapO.capT {w : World} {b : Nat} {q : Pl} {c : Cap} (h : CapO w b q c) : CapT w q c := fun w' ha => (h.alike (t := 31) ha (by decide)).capM
/-- Five cells of a block written anew. -/
theorem set5 {w : World} {g T : Nat} {z0 z1 z2 z3 z4 : Value} (h : Blk w g T #[z0, z1, z2, z3, z4]) (u0 u1 u2 u3 u4 : Value) :
    Blk (((((w.setCell ⟨g, 0, none⟩ u0).setCell ⟨g, 1, none⟩ u1).setCell ⟨g, 2, none⟩ u2).setCell ⟨g, 3, none⟩ u3).setCell ⟨g, 4, none⟩ u4) g T #[u0, u1, u2, u3, u4] ∧
    AlikeT T w (((((w.setCell ⟨g, 0, none⟩ u0).setCell ⟨g, 1, none⟩ u1).setCell ⟨g, 2, none⟩ u2).setCell ⟨g, 3, none⟩ u3).setCell ⟨g, 4, none⟩ u4) ∧
    ∀ B w0, Below B w0 w → B ≤ g → Below B w0 (((((w.setCell ⟨g, 0, none⟩ u0).setCell ⟨g, 1, none⟩ u1).setCell ⟨g, 2, none⟩ u2).setCell ⟨g, 3, none⟩ u3).setCell ⟨g, 4, none⟩ u4) := by
  have b0 := h.set_ 0 u0
  have b1 := b0.set_ 1 u1
  have b2 := b1.set_ 2 u2
  have b3 := b2.set_ 3 u3
  have b4 := b3.set_ 4 u4
  refine ⟨by simpa using b4, ((((AlikeT.set h u0).trans (AlikeT.set b0 u1)).trans (AlikeT.set b1 u2)).trans (AlikeT.set b2 u3)).trans (AlikeT.set b3 u4), fun B w0 hb hB => ?_⟩
  exact ((((hb.setCell (p := ⟨g, 0, none⟩) hB _).setCell (p := ⟨g, 1, none⟩) hB _).setCell (p := ⟨g, 2, none⟩) hB _).setCell (p := ⟨g, 3, none⟩) hB _).setCell (p := ⟨g, 4, none⟩) hB _
end Go.Proofs.Ytghdilmlfficlaa
/- CopyPacket: the reference's. -/
namespace Go.Proofs.Ytghdilmlfficlaa
open Go.RowKit

theorem run_app_nil (w : World) : (Builtin.append_ #[48, 48] 48 #[.slice none 0 0, .slice none 0 0]).run Try.prog w = .ok (.slice none 0 0) w := by
  simp [Builtin.append_, go_sem]
/-- 'append([]byte(nil), l...)'. -/
theorem run_app_byt (w : World) (base : Nat) {A : Option Addr} {c : Nat} {bs : List Nat} (hm : Byc w w.heap.size A bs c) (hb : base ≤ w.heap.size) :
    ∃ A' c' w', (Builtin.append_ #[48, 48] 48 #[.slice none 0 0, .slice A bs.length c]).run Try.prog w = .ok (.slice A' bs.length c') w' ∧ w'.ownsRow base 5 1 (.slice A' bs.length c') bs.length (bs.map u8) ∧ w.grownBy w' none := by
  cases A with
  | none =>
    have hc0 := hm.nil rfl
    have hl := hm.le
    have hb : bs = [] := List.length_eq_zero_iff.1 (by omega)
    subst hb
    subst hc0
    exact ⟨none, 0, w, run_app_nil w, World.ownsRow_nil _ _ _ _, World.grownBy.refl _ _⟩
  | some a =>
    obtain ⟨v', w', hrun, hown, hgr⟩ := run_own_byt_big w base (.slice none 0 0) (World.ownsRow_nil _ _ _ _) c hm.byt hm.cap hb
    obtain ⟨A2, c2, hv⟩ := own_form hown
    subst hv
    exact ⟨A2, c2, w', hrun, hown, hgr⟩
theorem own5_set {w : World} {base n g t i : Nat} {v u : Value} {xs : List Value} {cs : Array Value} (h : w.ownsRow base 5 1 v n xs) (hb : Blk w g t cs) (ht : 5 ≠ t) : (w.setCell ⟨g, i, none⟩ u).ownsRow base 5 1 v n xs :=
  own5_keep h (grown_set w g i u) (other_blk hb ht)

end Go.Proofs.Ytghdilmlfficlaa
namespace Go.Proofs.Ytghdilmlfficlaa
open Go.RowKit
theorem plain_step2 {w W : World} {B g f L c5 b5 : Nat} {v x0 x1 x2 x3 : Value} {xs : List Pkt} {rows : List (List Value)} {p : Pkt} {A5 : Option Addr} {FC ZC CC : Array Value}
    (hL : p.data.length = L) (HL4 : OwnP W (B + 2) v xs rows) (HO4 : Blk W g 31 #[x0, x1, x2, x3, v]) (HF4 : Blk W f 79 FC) (HZ4 : Blk W (B + 1) 31 ZC) (HW4 : Blk W B 31 CC ∧ Below B w W)
    (hg2 : B + 2 ≤ g)
    (ho5 : W.ownsRow b5 5 1 (.slice A5 L c5) L (p.data.map u8)) (hbyt : ∀ x ∈ p.data, x < 256) (hd : L ≤ 400) (hx : xs.length ≤ 100)
    (ht : -9223372036854775808 ≤ p.time ∧ p.time ≤ 9223372036854775807) (hr : -9223372036854775808 ≤ p.real ∧ p.real ≤ 9223372036854775807) :
    ∃ A7 n7 c7 w7, (Builtin.append_ #[29, 29] 29 #[v, .slice (some ⟨W.heap.size, 0, none⟩) 1 1]).run Try.prog (W.alloc (.cells #[.int .i64 p.time, .int .i64 0, .int .i64 p.real, .slice A5 L c5, .string ⟨#[]⟩] 50)) = .ok (.slice A7 n7 c7) w7 ∧
      Blk w7 g 31 #[x0, x1, x2, x3, v] ∧
      ∃ r, OwnP (w7.setCell ⟨g, 4, none⟩ (.slice A7 n7 c7)) (B + 2) (.slice A7 n7 c7) (xs ++ [⟨p.time, 0, p.real, p.data, ⟨#[]⟩⟩]) (rows ++ [r]) ∧ Blk (w7.setCell ⟨g, 4, none⟩ (.slice A7 n7 c7)) g 31 #[x0, x1, x2, x3, .slice A7 n7 c7] ∧ Blk (w7.setCell ⟨g, 4, none⟩ (.slice A7 n7 c7)) f 79 FC ∧ Blk (w7.setCell ⟨g, 4, none⟩ (.slice A7 n7 c7)) (B + 1) 31 ZC ∧ Blk (w7.setCell ⟨g, 4, none⟩ (.slice A7 n7 c7)) B 31 CC ∧ Below B w (w7.setCell ⟨g, 4, none⟩ (.slice A7 n7 c7)) := by
  subst hL
  have hl0 := HW4.1.lt
  have hl1 := HZ4.lt
  obtain ⟨v7, w7, hrun, ho7, hg7, _⟩ := run_own_struct W (B + 2) 50 5 64 29 _ Try.underlying29 info47 (by rfl) (by decide) v _ _ HL4.own [.int .i64 p.time, .int .i64 0, .int .i64 p.real, .slice A5 p.data.length c5, .string ⟨#[]⟩] rfl (by
    intro u hu; simp only [List.mem_cons, List.not_mem_nil, or_false] at hu; rcases hu with rfl | rfl | rfl | rfl | rfl <;> rfl) (by unfold maxLen; omega) (by omega) (by omega)
  obtain ⟨A7, n7, c7, rfl⟩ : ∃ A n c, v7 = .slice A n c := by
    rcases ho7.2 with ⟨e, _⟩ | ⟨g, cap, _, e, _⟩
    · exact ⟨_, _, _, e⟩
    · exact ⟨_, _, _, e⟩
  refine ⟨A7, n7, c7, w7, hrun, ?_⟩
  have hne : ∀ (k t : Nat) (cs : Array Value), Blk W k t cs → 50 ≠ t → Blk w7 k t cs := fun k t cs h hk =>
    (h.alloc _).grown hg7 (fun e => own_blk_ne HL4.own h hk e.symm)
  have hO7 := hne g 31 _ HO4 (by decide)
  have HL7 : OwnP w7 (B + 2) (.slice A7 n7 c7) (xs ++ [⟨p.time, 0, p.real, p.data, ⟨#[]⟩⟩]) (rows ++ [[.int .i64 p.time, .int .i64 0, .int .i64 p.real, .slice A5 p.data.length c5, .string ⟨#[]⟩]]) := by
    have HL6 : OwnP (W.alloc (.cells #[.int .i64 p.time, .int .i64 0, .int .i64 p.real, .slice A5 p.data.length c5, .string ⟨#[]⟩] 50)) (B + 2) v xs rows := OwnP.below HL4 ((Below.refl _ W).alloc (Nat.le_refl _) _)
    exact OwnP.snoc HL6 ho7 hg7 rfl ⟨A5, c5, rfl, own_mono (ho5.alloc _) (Nat.zero_le _), hbyt, Nat.le_trans hd (by decide), by show ByteArray.size ⟨#[]⟩ ≤ _; simp [ByteArray.size], ht, ⟨(by decide : (-9223372036854775808 : Int) ≤ 0), (by decide : (0 : Int) ≤ 9223372036854775807)⟩, hr⟩ (by
      intro u hu; simp only [List.mem_cons, List.not_mem_nil, or_false] at hu; rcases hu with rfl | rfl | rfl | rfl | rfl <;> rfl)
  refine ⟨hO7, _, OwnP.set HL7 hO7, by simpa using hO7.set_ 4 (.slice A7 n7 c7), (hne f 79 _ HF4 (by decide)).far (p := ⟨g, 4, none⟩) (fun e => ?_) _, (hne (B + 1) 31 _ HZ4 (by decide)).far (p := ⟨g, 4, none⟩) (by show B + 1 ≠ g; omega) _, (hne B 31 _ HW4.1 (by decide)).far (p := ⟨g, 4, none⟩) (by show B ≠ g; omega) _, ?_⟩
  · have h1 := hne f 79 _ HF4 (by decide)
    have e' : f = g := e
    subst e'
    unfold Blk at h1 hO7
    rw [h1] at hO7
    injection hO7 with h; injection h with _ h; cases h
  · have h7 : Below B w w7 := ((HW4.2.alloc (by omega) _).grown hg7 (by rw [alloc_size]; omega) (fun k hk => by have := (HL4.own.lt _ hk).1; omega))
    exact h7.setCell (p := ⟨g, 4, none⟩) (by show B ≤ g; omega) _
end Go.Proofs.Ytghdilmlfficlaa
/- The reference's Copy: its appends' runs, and what a round leaves. -/
namespace Go.Proofs.Ytghdilmlfficlaa
open Go.RowKit

theorem run_app_nil22 (w : World) : (Builtin.append_ #[26, 26] 26 #[.slice none 0 0, .slice none 0 0]).run Try.prog w = .ok (.slice none 0 0) w := by
  simp [Builtin.append_, go_sem]
/-- 'append([]T(nil), l...)'. -/
theorem run_app_rows {α : Type} {E : α → World → Nat → List Value → Prop} (w : World) (base T t K bytes : Nat) (z : Value) (hnil : ∀ w : World, (Builtin.append_ #[t, t] t #[.slice none 0 0, .slice none 0 0]).run Try.prog w = .ok (.slice none 0 0) w) (ht : Try.prog.underlying t = some (.slice T)) (hinf : (Try.prog.info? T).map (fun i => (i.zero, i.size, i.bytes)) = some (some z, K, bytes)) (hzs : z.cells.size = K) (hk : 0 < K)
    (hE : ∀ x w B vs, E x w B vs → ∀ u ∈ vs, u.oneCell' = true) {A : Option Addr} {c : Nat} {xs : List α} (hm : Els K E w w.heap.size A xs) (hb : xs.length ≤ c ∧ xs.length * bytes ≤ 140737488355328 ∧ (A = none → c = 0)) (hy : 0 < bytes) (hbase : base ≤ w.heap.size) :
    ∃ A' c' w' rows, (Builtin.append_ #[t, t] t #[.slice none 0 0, .slice A xs.length c]).run Try.prog w = .ok (.slice A' xs.length c') w' ∧ w'.ownsRow base T K (.slice A' xs.length c') xs.length (rows : List (List Value)).flatten ∧ rows.length = xs.length ∧
      (∀ i (hx : i < xs.length) (hr : i < rows.length), rows[i].length = K ∧ E xs[i] w w.heap.size rows[i]) ∧ w.grownBy w' none := by
  cases A with
  | none =>
    have hc0 := hb.2.2 rfl
    have hxs : xs = [] := List.length_eq_zero_iff.1 (by omega)
    subst hxs
    subst hc0
    exact ⟨none, 0, w, [], hnil w, World.ownsRow_nil _ _ _ _, rfl, by simp, World.grownBy.refl _ _⟩
  | some a =>
    obtain ⟨rows, hl, he, hc⟩ := els_rows hm
    have hflat : ∀ (rs : List (List Value)), (∀ (q : Nat) (hq : q < rs.length), rs[q].length = K) → rs.flatten.length = rs.length * K := by
      intro rs
      induction rs with
      | nil => intro _; simp
      | cons r rs ih =>
        intro hr
        rw [List.flatten_cons, List.length_append, ih (fun q hq => hr (q + 1) (by simpa using hq)), List.length_cons, Nat.succ_mul]
        have : r.length = K := hr 0 (by simp)
        omega
    have h63 : xs.length ≤ maxLen := by
      have : xs.length * 1 ≤ xs.length * bytes := Nat.mul_le_mul_left _ hy
      unfold maxLen; omega
    obtain ⟨v', w', hrun, hown, hgr⟩ := run_own_rows w base T t K bytes z ht hinf hzs hk (.slice none 0 0) (World.ownsRow_nil _ _ _ _) a xs.length c rows.flatten
      (by rw [hflat rows (fun q hq => (he q (by rw [← hl]; exact hq) hq).1), hl]) (hc a rfl) (fun u hu => by
        obtain ⟨r, hr, hu⟩ := List.mem_flatten.1 hu
        obtain ⟨i, hi, rfl⟩ := List.mem_iff_getElem.1 hr
        exact hE _ _ _ _ (he i (by rw [← hl]; exact hi) hi).2 u hu) h63 hb.2.1 hbase
    obtain ⟨A2, c2, hv, _, _⟩ := own_form2 hown
    subst hv
    exact ⟨A2, c2, w', rows, hrun, hown, hl, he, hgr⟩

/-- One struct more at the end of a row of the call's own. -/
theorem OwnM.snoc {α : Type} {κ : Kind α} {w0 w w7 : World} {base : Nat} {v v7 : Value} {xs : List α} {rows : List (List Value)} {x : α} {r : List Value} (hκ : κ.Right) (h : OwnM κ w0 w base v xs rows xs.length)
    (ho : w7.ownsRow base κ.T κ.K v7 (xs.length + 1) (rows.flatten ++ r)) (hg : w.grownBy w7 v.ownBlock) (hE : KO κ base x w r) : OwnM κ w0 w7 base v7 (xs ++ [x]) (rows ++ [r]) (xs ++ [x]).length := by
  have hoth := other_own h.own (fun e => hκ.t5 e.symm)
  have hk : ∀ y q, KO κ base y w q → KO κ base y w7 q := fun y q ⟨A, c, e, h1, r⟩ => ⟨A, c, e, own5_keep h1 hg hoth, r⟩
  refine ⟨by simpa using ho, by simp [h.len], fun j h1' h2' _ => ?_, fun j h1' _ hj => absurd h1' (by omega)⟩
  by_cases hj : j < xs.length
  · have hjr : j < rows.length := by rw [h.len]; exact hj
    rw [List.getElem_append_left hj, List.getElem_append_left hjr]
    exact hk _ _ (h.done j hj hjr hj)
  · have hje : j = xs.length := by rw [List.length_append] at h1'; simp at h1'; omega
    subst hje
    rw [List.getElem_append_right (Nat.le_refl _), List.getElem_append_right (by rw [h.len]; exact Nat.le_refl _)]
    simp only [h.len, Nat.sub_self, List.getElem_cons_zero]
    exact hk _ _ hE
theorem OwnM.nil {α : Type} (κ : Kind α) (w0 w : World) (base : Nat) : OwnM κ w0 w base (.slice none 0 0) ([] : List α) [] 0 :=
  ⟨World.ownsRow_nil w base κ.T κ.K, rfl, by simp, by simp⟩

/-- w' is w as far as blocks go that hold neither captures nor t. -/
def Alike2 (t : Nat) (w w' : World) : Prop := w.heap.size ≤ w'.heap.size ∧ ∀ g s cs, s ≠ 31 → s ≠ t → Blk w g s cs → Blk w' g s cs
theorem Alike2.refl (t : Nat) (w : World) : Alike2 t w w := ⟨Nat.le_refl _, fun _ _ _ _ _ h => h⟩
theorem own_alike2 {t : Nat} {w w' : World} {base e size n : Nat} {v : Value} {xs : List Value} (h : w.ownsRow base e size v n xs) (ha : Alike2 t w w') (h27 : e ≠ 31) (he : e ≠ t) : w'.ownsRow base e size v n xs := by
  obtain ⟨h1, h | ⟨g, cap, cur, e1, e2, e3, e4⟩⟩ := h
  · exact ⟨h1, Or.inl h⟩
  · exact ⟨h1, Or.inr ⟨g, cap, cur, e1, e2, ha.2 g e cur h27 he e3, e4⟩⟩
theorem facL_alike2 {t : Nat} {w w' : World} {b : Nat} {v : Value} {xs : List Fac} {rows : List (List Value)} (h : OwnL w b 79 3 FacE v xs rows) (ha : Alike2 t w w') (ht : t ≠ 79) : OwnL w' b 79 3 FacE v xs rows :=
  ⟨own_alike2 h.own ha (by decide) (fun e => ht e.symm), h.len, fun i h1 h2 => h.each i h1 h2, h.one⟩
theorem OwnM.alike2 {α : Type} {κ : Kind α} {t : Nat} {w0 w w' : World} {base k : Nat} {v : Value} {xs : List α} {rows : List (List Value)} (h : OwnM κ w0 w base v xs rows k) (ha : Alike2 t w w') (h5 : t ≠ 5) (hT : t ≠ κ.T) (h27 : κ.T ≠ 31) : OwnM κ w0 w' base v xs rows k :=
  ⟨own_alike2 h.own ha h27 (fun e => hT e.symm), h.len, fun i h1 h2 hk => by
    obtain ⟨A, c, e, ho, r⟩ := h.done i h1 h2 hk
    exact ⟨A, c, e, own_alike2 ho ha (by decide) (fun e => h5 e.symm), r⟩, h.rest⟩

/-- A round of the reference's copying, behind the copy of the bytes. -/
theorem rcopy_step {α : Type} {κ : Kind α} (hκ : κ.Right) {t bytes : Nat} {z : Value} (ht : Try.prog.underlying t = some (.slice κ.T)) (hinf : (Try.prog.info? κ.T).map (fun i => (i.zero, i.size, i.bytes)) = some (some z, κ.K, bytes)) (hzs : z.cells.size = κ.K) (h27 : κ.T ≠ 31) (hy : 0 < bytes)
    {w V wr w5 : World} {B G f L c5 : Nat} {v : Value} {xs : List α} {rows : List (List Value)} {x : α} {OC ZC CC : Array Value} {A5 : Option Addr}
    (hL : (κ.dat x).length = L) (HL : OwnM κ w wr (B + 2) v xs rows xs.length) (HO : Blk wr G 31 OC) (HZ : Blk wr (B + 1) 31 ZC) (HW : Blk wr B 31 CC ∧ Below B w wr) (HA : Alike2 κ.T V wr) (hG : B + 2 ≤ G)
    (ho5 : w5.ownsRow (B + 2) 5 1 (.slice A5 L c5) L ((κ.dat x).map u8)) (hg5 : wr.grownBy w5 none) (hlt : ∀ y ∈ κ.dat x, y < 256) (hcap : (κ.dat x).length ≤ 140737488355328) (hok : κ.ok x) (hx : (xs.length + 1) * bytes ≤ 140737488355328) :
    ∃ A7 n7 c7 w7, (Builtin.append_ #[t, t] t #[v, .slice (some ⟨w5.heap.size, 0, none⟩) 1 1]).run Try.prog (w5.alloc (.cells (κ.row x (.slice A5 L c5)).toArray κ.T)) = .ok (.slice A7 n7 c7) w7 ∧
      (Blk w5 G 31 OC ∧ Blk w5 B 31 CC ∧ Below B wr w5) ∧ (Blk (w5.alloc (.cells (κ.row x (.slice A5 L c5)).toArray κ.T)) G 31 OC ∧ Blk (w5.alloc (.cells (κ.row x (.slice A5 L c5)).toArray κ.T)) B 31 CC ∧ Below B wr (w5.alloc (.cells (κ.row x (.slice A5 L c5)).toArray κ.T))) ∧
      (Blk w7 G 31 OC ∧ Blk w7 B 31 CC ∧ Below B wr w7) ∧
      (Blk (w7.setCell ⟨G, f, none⟩ (.slice A7 n7 c7)) B 31 CC ∧ Below B wr (w7.setCell ⟨G, f, none⟩ (.slice A7 n7 c7))) ∧
      ∃ rows', OwnM κ w (w7.setCell ⟨G, f, none⟩ (.slice A7 n7 c7)) (B + 2) (.slice A7 n7 c7) (xs ++ [x]) rows' (xs ++ [x]).length ∧ Blk (w7.setCell ⟨G, f, none⟩ (.slice A7 n7 c7)) G 31 (OC.setIfInBounds f (.slice A7 n7 c7)) ∧
        Blk (w7.setCell ⟨G, f, none⟩ (.slice A7 n7 c7)) (B + 1) 31 ZC ∧ Below B w (w7.setCell ⟨G, f, none⟩ (.slice A7 n7 c7)) ∧ Alike2 κ.T V (w7.setCell ⟨G, f, none⟩ (.slice A7 n7 c7)) := by
  subst hL
  have hb5 : Below wr.heap.size wr w5 := ⟨hg5.os, hg5.tape, hg5.output, hg5.size, fun k hk => hg5.block k hk (by simp)⟩
  have hB1 := HW.1.lt
  have hB2 := HZ.lt
  have HL5 := HL.below hb5
  have hsz := hg5.size
  have h63 : xs.length + 1 ≤ maxLen := by
    have : (xs.length + 1) * 1 ≤ (xs.length + 1) * bytes := Nat.mul_le_mul_left _ hy
    unfold maxLen; omega
  have hK0 : 0 < κ.K := Nat.lt_of_le_of_lt (Nat.zero_le _) hκ.lt
  obtain ⟨v7, w7, hrun, ho7, hg7, _⟩ := run_own_struct w5 (B + 2) κ.T κ.K bytes t z ht hinf hzs hK0 v _ _ HL5.own (κ.row x (.slice A5 (κ.dat x).length c5)) (hκ.len _ _) (hκ.one _ _ _ _) h63 hx (by omega)
  obtain ⟨A7, n7, c7, rfl⟩ : ∃ A n c, v7 = .slice A n c := by
    rcases ho7.2 with ⟨e, _⟩ | ⟨g, cap, _, e, _⟩
    · exact ⟨_, _, _, e⟩
    · exact ⟨_, _, _, e⟩
  refine ⟨A7, n7, c7, w7, hrun, ⟨HO.below hb5 HO.lt, HW.1.below hb5 hB1, hb5.mono (Nat.le_of_lt hB1)⟩, ⟨(HO.below hb5 HO.lt).alloc _, (HW.1.below hb5 hB1).alloc _, (hb5.mono (Nat.le_of_lt hB1)).alloc (by omega) _⟩, ?_⟩
  have hb6 := hb5.alloc hsz (.cells (κ.row x (.slice A5 (κ.dat x).length c5)).toArray κ.T)
  have HL6 := HL.below hb6
  have hne : ∀ (k s : Nat) (cs : Array Value), Blk wr k s cs → s ≠ κ.T → Blk w7 k s cs := fun k s cs h hk =>
    (h.below hb6 h.lt).grown hg7 (fun e => own_blk_ne HL.own h (fun e => hk e.symm) e.symm)
  have h7 : Below B wr w7 := (hb6.mono (by omega)).grown hg7 (by rw [alloc_size]; omega) (fun k hk => by have := (HL.own.lt _ hk).1; omega)
  have hO7 := hne G 31 _ HO (fun e => h27 e.symm)
  have hC7 := hne B 31 _ HW.1 (fun e => h27 e.symm)
  have hZ7 := hne (B + 1) 31 _ HZ (fun e => h27 e.symm)
  have hGB : B ≠ (⟨G, f, none⟩ : Addr).block := by show B ≠ G; omega
  have hGZ : B + 1 ≠ (⟨G, f, none⟩ : Addr).block := by show B + 1 ≠ G; omega
  have hset : Below B wr (w7.setCell ⟨G, f, none⟩ (.slice A7 n7 c7)) := h7.setCell (p := ⟨G, f, none⟩) (by show B ≤ G; omega) _
  refine ⟨⟨hO7, hC7, h7⟩, ⟨hC7.far hGB _, hset⟩, ?_⟩
  have HL7 : OwnM κ w w7 (B + 2) (.slice A7 n7 c7) (xs ++ [x]) (rows ++ [κ.row x (.slice A5 (κ.dat x).length c5)]) (xs ++ [x]).length :=
    OwnM.snoc hκ HL6 ho7 hg7 ⟨A5, c5, rfl, ho5.alloc _, hlt, hcap, hok⟩
  have ha : AlikeT 31 w7 (w7.setCell ⟨G, f, none⟩ (.slice A7 n7 c7)) := AlikeT.set hO7 _
  refine ⟨_, HL7.alike ha (by decide) (fun e => h27 e.symm), hO7.set_ f _, hZ7.far hGZ _, HW.2.trans hset, Nat.le_trans HA.1 (Nat.le_trans (Nat.le_trans hsz (by
    have := hg7.size; rw [alloc_size] at this; omega)) ha.1), fun g s cs hs1 hs2 hb => ha.2 g s cs hs1 (hne g s cs (HA.2 g s cs hs1 hs2 hb) hs2)⟩
end Go.Proofs.Ytghdilmlfficlaa
