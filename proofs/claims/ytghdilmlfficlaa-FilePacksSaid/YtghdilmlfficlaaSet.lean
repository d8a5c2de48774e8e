/- padding, fill, addOption, addBlock. -/
import Derived.Test.YtghdilmlfficlaaAdd
import Derived.Test.YtghdilmlfficlaaEq
import Derived.Lib.SliceRun
import Derived.Deep.RegionHeld3
namespace Go.Proofs.Ytghdilmlfficlaa
open Go.RowKit

/-- How many bytes n ones lack of a multiple of 4. -/
def padN (n : Nat) : Nat := (4 - n % 4) % 4
theorem padN_le (n : Nat) : padN n ≤ 3 := by unfold padN; omega

def padB (n : Nat) : List Nat := List.replicate (padN n) 0
theorem padB_len (n : Nat) : (padB n).length = padN n := by simp [padB]

theorem own_form {w : World} {base : Nat} {v : Value} {bs : List Nat} (h : w.ownsRow base 5 1 v bs.length (bs.map u8)) : ∃ A c, v = .slice A bs.length c := by
  rcases h.2 with ⟨rfl, e⟩ | ⟨g, cap, _, rfl, _⟩
  · exact ⟨none, 0, by rw [e]⟩
  · exact ⟨_, _, rfl⟩

/-- What addOption appends. -/
def optB (low : Bool) (code : Nat) (L : Nat) (s : ByteArray) : List Nat :=
  if s.size = 0 then [] else numsB low 2 [code, s.size] ++ (strL s ++ (padB (L + 4 + s.size) ++ numsB low 2 [0, 0]))

theorem empty_toList {s : ByteArray} (h : s.size = 0) : s.toList = [] := by
  rw [ByteArray.toList_eq]
  exact List.eq_nil_of_length_eq_zero (by rw [Array.length_toList]; exact h)

/-- A block. -/
def blkB (low : Bool) (kind : Nat) (body : List Nat) : List Nat :=
  numsB low 4 [kind, 12 + (body ++ padB body.length).length] ++ ((body ++ padB body.length) ++ numsB low 4 [12 + (body ++ padB body.length).length])

/-- v' is a row of the call's own from base on; below base nothing has turned. -/
def OwnPost (w : World) (base : Nat) (bs : List Nat) (e : Ending) (w' : World) : Prop := ∃ v', e = .returned v' ∧ w'.ownsRow base 5 1 v' bs.length (bs.map u8) ∧ Below base w w'

theorem byt_own {w : World} {base : Nat} {A : Option Addr} {c : Nat} {bs : List Nat} (hb : ∀ x ∈ bs, x < 256) (h : w.ownsRow base 5 1 (.slice A bs.length c) bs.length (bs.map u8)) : Byt w w.heap.size A bs := by
  rcases h.2 with ⟨e, hn⟩ | ⟨g, cap, cur, e, _, hg, hcap, _, hsz, htake⟩
  · have : bs = [] := List.length_eq_zero_iff.1 hn
    subst this
    exact Byt.nil _ _ _
  · injection e with e1 e2 e3
    subst e1
    refine ⟨hb, fun hn => ⟨g, 0, rfl, (Array.getElem?_eq_some_iff.1 hg).1, fun k hk => ?_⟩⟩
    rw [Nat.zero_add, cell_of_row w g k cur 5 (0, 0) hg]
    have e : (cur.toList.take (bs.length * 1))[k]? = (bs.map u8)[k]? := by rw [htake]
    rw [List.getElem?_take_of_lt (by omega), List.getElem?_map, List.getElem?_eq_getElem hk] at e
    rw [at8_eq bs k hk, ← Array.getElem?_toList, e]
    rfl
theorem byt_keeps {w w' : World} {base : Nat} {v : Value} {A : Option Addr} {c : Nat} {bs : List Nat} (hb : ∀ x ∈ bs, x < 256) (h : w.ownsRow base 5 1 (.slice A bs.length c) bs.length (bs.map u8)) (hg : w.grownBy w' v.ownBlock) (hne : (Value.slice A bs.length c).ownBlock = none ∨ (Value.slice A bs.length c).ownBlock ≠ v.ownBlock) : Byt w' w'.heap.size A bs :=
  byt_own hb (h.kept hg hne)
end Go.Proofs.Ytghdilmlfficlaa
/- bytes.Clone. -/
namespace Go.Proofs.Ytghdilmlfficlaa
open Go.RowKit

theorem empty_row (w : World) : (w.alloc (.cells #[] 5)).ownsRow w.heap.size 5 1 (.slice (some ⟨w.heap.size, 0, none⟩) 0 0) ([] : List Nat).length (([] : List Nat).map u8) :=
  ⟨rfl, Or.inr ⟨w.heap.size, 0, #[], rfl, Nat.le_refl _, heap_alloc_new w _, Nat.le_refl _, Nat.zero_le _, rfl, rfl⟩⟩

/-- 'append(v, l...)' of whatever length that memory bears. -/
theorem run_own_byt_big (w : World) (base : Nat) (v : Value) (hown : w.ownsRow base 5 1 v ([] : List Nat).length (([] : List Nat).map u8)) {B : Nat} {a : Addr} {l : List Nat} (c : Nat) (hb : Byt w B (some a) l) (hs : l.length ≤ 140737488355328) (hbase : base ≤ w.heap.size) :
    ∃ v' w', (Builtin.append_ #[48, 48] 48 #[v, .slice (some a) l.length c]).run Try.prog w = .ok v' w' ∧ w'.ownsRow base 5 1 v' l.length (l.map u8) ∧ w.grownBy w' v.ownBlock := by
  obtain ⟨i, hi, hz, hsize, hby⟩ := info_parts info5
  have ht := Try.underlying48
  have hsrc : ∀ (j : Nat) (u : Value), (l.map u8)[j]? = some u → w.cell? (a.add j) = some u := by
    intro j u hu
    have hj : j < l.length := by
      rcases Nat.lt_or_ge j l.length with h | h
      · exact h
      · rw [List.getElem?_eq_none (by simpa using h)] at hu; cases hu
    obtain ⟨b, o, e, _, hc⟩ := hb.cells (by omega)
    obtain rfl := Option.some.inj e
    rw [Go.WideShapes.add_plain, hc j hj, ← hu, List.getElem?_map, List.getElem?_eq_getElem hj, at8_eq l _ hj]
    rfl
  obtain ⟨v', w', hr, h2, h3, _, _⟩ := run_append_own_at (P := Try.prog) w base 48 48 5 i (.int .u8 0) 1 1 ht hi hz hsize hby rfl (by decide) v 0 [] hown a l.length c (l.map u8) (by simp) hsrc (u8_one l) (by unfold maxLen; omega) (by omega) hbase
  rw [Nat.zero_add, List.nil_append] at h2
  exact ⟨v', w', hr, h2, h3⟩

def ClonePost (w : World) (bs : List Nat) (e : Ending) (w' : World) : Prop :=
  ∃ A c, e = .returned (.slice A bs.length c) ∧ w'.ownsRow w.heap.size 5 1 (.slice A bs.length c) bs.length (bs.map u8) ∧ Below w.heap.size w w'

set_option maxHeartbeats 1000000 in
theorem bclone_any {w : World} {A : Option Addr} {c : Nat} {bs : List Nat} (hm : Byc w w.heap.size A bs c) : Calls Try.prog 89 #[.slice A bs.length c] w (ClonePost w bs) := by
  have hz := fun (wx : World) (a : Option Addr) (l c : Nat) => Lib.run_eql_slice_nil (P := Try.prog) wx 48 5 a l c 0 0 Try.underlying48
  cases A with
  | none =>
    have hc0 := hm.nil rfl
    have hl := hm.le
    have hb : bs = [] := List.length_eq_zero_iff.1 (by omega)
    subst hb
    subst hc0
    clear hm hl
    go_enter Try.func89, Try.ntmps89
    go_wp2
    go_ret
    exact ⟨none, 0, rfl, World.ownsRow_nil _ _ _ _, Below.refl _ _⟩
  | some a =>
    have hB0 : Below w.heap.size w (w.alloc (.cells #[] 5)) := (Below.refl _ _).alloc (Nat.le_refl _) _
    obtain ⟨v', w', hrun, hown, hgr⟩ := run_own_byt_big (w.alloc (.cells #[] 5)) w.heap.size _ (empty_row w) c (hm.byt.below hB0) hm.cap (by rw [alloc_size]; omega)
    have HOWN := Lib.hid hown
    have HB : Hid (Below w.heap.size w w') := Lib.hid (hB0.grown hgr (by rw [alloc_size]; omega) (fun k h => by cases h; exact Nat.le_refl _))
    obtain ⟨A2, c2, hv⟩ := own_form hown
    subst hv
    obtain ⟨L, hL⟩ : ∃ L, bs.length = L := ⟨_, rfl⟩
    have HL := Lib.hid hL
    rw [hL] at hrun ⊢
    clear hown hgr hL hm hB0
    go_enter Try.func89, Try.ntmps89
    go_wp2_with (at_builtin; refine Lib.wpList_append_run _ rfl _ _ _ _ rfl _ _ rfl rfl _ _ hrun ?_)
    go_ret
    refine ⟨A2, c2, by rw [HL.out]; rfl, HOWN.out, HB.out⟩
end Go.Proofs.Ytghdilmlfficlaa
/- Lists of structs that the call makes by appending. -/
namespace Go.Proofs.Ytghdilmlfficlaa
open Go.RowKit

/-- A row of structs of k cells each that the call owns, read as a list. -/
structure OwnL {α : Type} (w : World) (base e k : Nat) (E : α → World → Nat → List Value → Prop) (v : Value) (xs : List α) (rows : List (List Value)) : Prop where
  own : w.ownsRow base e k v xs.length rows.flatten
  len : rows.length = xs.length
  each : ∀ i (h : i < xs.length) (h' : i < rows.length), rows[i].length = k ∧ E xs[i] w w.heap.size rows[i]
  one : ∀ r ∈ rows, ∀ u ∈ r, u.oneCell' = true

theorem flatten_at {k : Nat} : ∀ (rows : List (List Value)) (i j : Nat) (h : i < rows.length) (_ : ∀ (q : Nat) (hq : q < rows.length), rows[q].length = k) (_ : j < k), rows.flatten[i * k + j]? = rows[i][j]?
  | r :: rows, 0, j, _, hk, hj => by
    have h0 : r.length = k := hk 0 (by simp)
    simp only [List.flatten_cons, Nat.zero_mul, Nat.zero_add, List.getElem_cons_zero]
    rw [List.getElem?_append_left (by omega)]
  | r :: rows, i + 1, j, h, hk, hj => by
    have h0 : r.length = k := hk 0 (by simp)
    simp only [List.flatten_cons, List.getElem_cons_succ]
    rw [List.getElem?_append_right (by rw [h0, Nat.succ_mul]; omega), h0, show (i + 1) * k + j - k = i * k + j by rw [Nat.succ_mul]; omega]
    exact flatten_at rows i j (by simpa using h) (fun q hq => hk (q + 1) (by simpa using hq)) hj

theorem OwnL.els {α : Type} {w : World} {base e k : Nat} {E : α → World → Nat → List Value → Prop} {A : Option Addr} {c n : Nat} {xs : List α} {rows : List (List Value)} (h : OwnL w base e k E (.slice A n c) xs rows) : Els k E w w.heap.size A xs := by
  intro hn
  rcases h.own.2 with ⟨_, h0⟩ | ⟨g, cap, cur, hv, _, hg, _, _, _, ht⟩
  · omega
  · injection hv with hA _ _
    subst hA
    refine ⟨g, 0, rfl, (Array.getElem?_eq_some_iff.1 hg).1, fun i hi => ?_⟩
    have hir : i < rows.length := by rw [h.len]; exact hi
    obtain ⟨hl, he⟩ := h.each i hi hir
    refine ⟨rows[i], hl, he, fun j v hj => ?_⟩
    have hjk : j < k := by
      rw [← hl]
      rcases Nat.lt_or_ge j rows[i].length with h | h
      · exact h
      · rw [List.getElem?_eq_none h] at hj; cases hj
    rw [Nat.zero_add, cell_of_row w g _ cur e (0, 0) hg, ← Array.getElem?_toList]
    have h1 := flatten_at rows i j hir (fun q hq => (h.each q (by rw [← h.len]; exact hq) hq).1) hjk
    rw [← ht] at h1
    rw [List.getElem?_take] at h1
    split at h1
    · rw [h1]; exact hj
    · rw [hj] at h1; cases h1
theorem OwnL.nil {α : Type} (w : World) (base e k : Nat) (E : α → World → Nat → List Value → Prop) : OwnL w base e k E (.slice none 0 0) ([] : List α) [] :=
  ⟨World.ownsRow_nil w base e k, rfl, by simp, by simp⟩
/-- Worlds that are one below the blocks' end, but for other rows. -/
theorem OwnL.kept {α : Type} {w w' : World} {base e k : Nat} {E : α → World → Nat → List Value → Prop} {v : Value} {xs : List α} {rows : List (List Value)} (hE : Kept E) (h : OwnL w base e k E v xs rows) (hb : Below w.heap.size w w') : OwnL w' base e k E v xs rows :=
  ⟨h.own.kept (grown_of_below hb) (by
    cases hb : v.ownBlock with
    | none => exact .inl rfl
    | some g => exact .inr (by simp)), h.len, fun i h1 h2 => ⟨(h.each i h1 h2).1, hE _ _ _ _ _ _ (h.each i h1 h2).2 hb hb.size⟩, h.one⟩

/-- 'append' whose run is known, as a step of a region. -/
theorem step_append_run {P : Program} (w : World) {ops : Array Oper} {o : Oper} {a : Act} {K : Act → World → Prop} {Q : Exit → Act → World → Prop} {E : Prop} (hgd : o.guard = none) (s x : Operand) (t tn : TypeId)
    (ho : o.op = .call { callee := .builtin .append, args := #[s, x], argTypes := #[t, tn] }) (vs vx : Value) (hs : a.eval s = vs) (hx : a.eval x = vx)
    (v' : Value) (w' : World) (hr : (Builtin.append_ #[t, tn] o.type #[vs, vx]).run P w = .ok v' w') (h : K (a.put o.dst v') w') :
    if Region.wanted o (yielded ops a.tmps) = true then Oper.wp P o a w K Q else E := by
  have hw : Region.wanted o (yielded ops a.tmps) = true := by simp [Region.wanted, hgd]
  rw [if_pos hw]
  exact Lib.wp_append_run w s x t tn ho vs vx hs hx v' w' hr h

/-- One struct more at the end of a row of structs that the call owns: the struct has just been laid in a new block. -/
theorem run_own_struct (w : World) (base e k bytes T : Nat) (z : Value) (ht : Try.prog.underlying T = some (.slice e)) (hinf : (Try.prog.info? e).map (fun i => (i.zero, i.size, i.bytes)) = some (some z, k, bytes)) (hzs : z.cells.size = k) (hk : 0 < k)
    (v : Value) (n : Nat) (xs : List Value) (hown : w.ownsRow base e k v n xs) (cs : List Value) (hcl : cs.length = k) (h1 : ∀ u ∈ cs, u.oneCell' = true) (hn : n + 1 ≤ maxLen) (hb : (n + 1) * bytes ≤ 140737488355328) (hbase : base ≤ w.heap.size) :
    ∃ v' w', (Builtin.append_ #[T, T] T #[v, .slice (some ⟨w.heap.size, 0, none⟩) 1 1]).run Try.prog (w.alloc (.cells cs.toArray e)) = .ok v' w' ∧ w'.ownsRow base e k v' (n + 1) (xs ++ cs) ∧ (w.alloc (.cells cs.toArray e)).grownBy w' v.ownBlock ∧ (v'.ownBlock = v.ownBlock ∨ v'.ownBlock = some (w.heap.size + 1)) := by
  obtain ⟨i, hi, hz, hsize, hby⟩ := info_parts hinf
  have hblk : Blk (w.alloc (.cells cs.toArray e)) w.heap.size e cs.toArray := Blk.new _ _ _
  obtain ⟨v', w', hr, h2, h3, _, h5⟩ := run_append_own_at (P := Try.prog) (w.alloc (.cells cs.toArray e)) base T T e i z k bytes ht hi hz hsize hby hzs hk v n xs (hown.alloc _) ⟨w.heap.size, 0, none⟩ 1 1 cs (by omega) (fun j u hj => by
    rw [Go.WideShapes.add_plain, Nat.zero_add, hblk.cell, List.getElem?_toArray]; exact hj) h1 hn hb (by rw [alloc_size]; omega)
  exact ⟨v', w', hr, h2, h3, by rw [alloc_size] at h5; exact h5⟩
end Go.Proofs.Ytghdilmlfficlaa
/- Lists of packets that the call makes: their data lie in rows of bytes of the call's own. -/
namespace Go.Proofs.Ytghdilmlfficlaa
open Go.RowKit

theorem info47 : (Try.prog.info? 50).map (fun i => (i.zero, i.size, i.bytes)) = some (some (.agg #[.int .i64 0, .int .i64 0, .int .i64 0, .slice none 0 0, .string ⟨#[]⟩]), 5, 64) := by kernel_rfl

theorem size_set (w : World) (p : Addr) (u : Value) : (w.setCell p u).heap.size = w.heap.size := by simp [World.setCell]
theorem grown_set (w : World) (g i : Nat) (u : Value) : w.grownBy (w.setCell ⟨g, i, none⟩ u) (some g) :=
  ⟨rfl, rfl, rfl, by rw [size_set]; exact Nat.le_refl _, fun k _ hne => Below.heap_setCell w ⟨g, i, none⟩ u k (fun e => hne (by rw [e]))⟩
theorem own_blk_ne {w : World} {base e size n g t : Nat} {v : Value} {xs : List Value} {cs : Array Value} (h : w.ownsRow base e size v n xs) (hg : Blk w g t cs) (hne : e ≠ t) : v.ownBlock ≠ some g := by
  rcases h.2 with ⟨rfl, _⟩ | ⟨g', cap, cur, rfl, _, hh, _⟩
  · simp [Value.ownBlock]
  · intro he
    have he' : g' = g := by simpa [Value.ownBlock] using he
    subst he'
    unfold Blk at hg
    rw [hh] at hg
    injection hg with hg
    injection hg with _ ht
    exact hne ht
/-- What may be written without touching a row of bytes: a row of another kind. -/
def Other (w : World) (row : Option Nat) : Prop := ∀ g, row = some g → ∃ t cs, Blk w g t cs ∧ 5 ≠ t
theorem other_none (w : World) : Other w none := fun g h => by cases h
theorem other_blk {w : World} {g t : Nat} {cs : Array Value} (h : Blk w g t cs) (ht : 5 ≠ t) : Other w (some g) := fun g' e => by injection e with e; subst e; exact ⟨t, cs, h, ht⟩
theorem other_own {w : World} {base e size n : Nat} {v : Value} {xs : List Value} (h : w.ownsRow base e size v n xs) (he : 5 ≠ e) : Other w v.ownBlock := by
  intro g hg
  rcases h.2 with ⟨rfl, _⟩ | ⟨g', cap, cur, rfl, _, hh, _⟩
  · simp [Value.ownBlock] at hg
  · have : g' = g := by simpa [Value.ownBlock] using hg
    subst this
    exact ⟨e, cur, hh, he⟩
theorem own5_keep {w w' : World} {row : Option Nat} {base n : Nat} {v : Value} {xs : List Value} (h : w.ownsRow base 5 1 v n xs) (hg : w.grownBy w' row) (ho : Other w row) : w'.ownsRow base 5 1 v n xs := by
  refine h.kept hg ?_
  cases hv : v.ownBlock with
  | none => exact .inl rfl
  | some g =>
    refine .inr (fun e => ?_)
    obtain ⟨t, cs, hb, ht⟩ := ho g e.symm
    exact own_blk_ne h hb ht hv

/-- A packet in a list of the call's own: its data are a row of bytes of the call's own. -/
def PktO (p : Pkt) (w : World) (_ : Nat) (vs : List Value) : Prop :=
  ∃ A c, vs = [.int .i64 p.time, .int .i64 p.face, .int .i64 p.real, .slice A p.data.length c, .string p.note] ∧ w.ownsRow 0 5 1 (.slice A p.data.length c) p.data.length (p.data.map u8) ∧ (∀ x ∈ p.data, x < 256) ∧ p.data.length ≤ 140737488355328 ∧ p.note.size ≤ 140737488355328 ∧
    (-9223372036854775808 ≤ p.time ∧ p.time ≤ 9223372036854775807) ∧ (-9223372036854775808 ≤ p.face ∧ p.face ≤ 9223372036854775807) ∧ (-9223372036854775808 ≤ p.real ∧ p.real ≤ 9223372036854775807)
theorem PktO.pkt {p : Pkt} {w : World} {B : Nat} {vs : List Value} (h : PktO p w B vs) : PktE p w w.heap.size vs := by
  obtain ⟨A, c, e, ho, hlt, hdl, r⟩ := h
  refine ⟨A, c, e, ⟨byt_own hlt ho, ?_, hdl, fun hA => ?_⟩, r⟩
  · rcases ho.2 with ⟨e, h0⟩ | ⟨g, cap, cur, e, _, _, hn, _⟩
    · omega
    · injection e with _ _ e; omega
  · subst hA
    rcases ho.2 with ⟨e, h0⟩ | ⟨g, cap, cur, e, _, _, hn, _⟩
    · injection e
    · injection e with e; cases e
theorem PktO.keep {p : Pkt} {w w' : World} {B B' : Nat} {vs : List Value} {row : Option Nat} (h : PktO p w B vs) (hg : w.grownBy w' row) (ho : Other w row) : PktO p w' B' vs := by
  obtain ⟨A, c, e, h1, r⟩ := h
  exact ⟨A, c, e, own5_keep h1 hg ho, r⟩
/-- A list of packets of the call's own. -/
abbrev OwnP (w : World) (base : Nat) (v : Value) (xs : List Pkt) (rows : List (List Value)) : Prop := OwnL w base 50 5 PktO v xs rows
theorem OwnP.keep {w w' : World} {base : Nat} {v : Value} {xs : List Pkt} {rows : List (List Value)} {row : Option Nat} (h : OwnP w base v xs rows) (hg : w.grownBy w' row) (ho : Other w row) (hne : v.ownBlock = none ∨ v.ownBlock ≠ row) : OwnP w' base v xs rows :=
  ⟨h.own.kept hg hne, h.len, fun i h1 h2 => ⟨(h.each i h1 h2).1, (h.each i h1 h2).2.keep hg ho⟩, h.one⟩
theorem OwnP.below {w w' : World} {base : Nat} {v : Value} {xs : List Pkt} {rows : List (List Value)} (h : OwnP w base v xs rows) (hb : Below w.heap.size w w') : OwnP w' base v xs rows :=
  h.keep (grown_of_below hb) (other_none _) (by
    cases hb : v.ownBlock with
    | none => exact .inl rfl
    | some g => exact .inr (by simp))
theorem OwnP.set {w : World} {base g i : Nat} {v u : Value} {cs : Array Value} {xs : List Pkt} {rows : List (List Value)} (h : OwnP w base v xs rows) (hz : Blk w g 31 cs) : OwnP (w.setCell ⟨g, i, none⟩ u) base v xs rows :=
  h.keep (grown_set w g i u) (other_blk hz (by decide)) (.inr (own_blk_ne h.own hz (by decide)))
/-- One packet more. -/
theorem OwnP.snoc {w w7 : World} {base : Nat} {v v7 : Value} {xs : List Pkt} {rows : List (List Value)} {x : Pkt} {r : List Value} (h : OwnP w base v xs rows)
    (ho : w7.ownsRow base 50 5 v7 (xs.length + 1) (rows.flatten ++ r)) (hg : w.grownBy w7 v.ownBlock) (hr : r.length = 5) (hE : PktO x w w.heap.size r) (h1 : ∀ u ∈ r, u.oneCell' = true) : OwnP w7 base v7 (xs ++ [x]) (rows ++ [r]) := by
  have hoth := other_own h.own (by decide)
  refine ⟨by simpa using ho, by simp [h.len], fun j h1' h2' => ?_, fun q hq u hu => ?_⟩
  · by_cases hj : j < xs.length
    · have hjr : j < rows.length := by rw [h.len]; exact hj
      rw [List.getElem_append_left hj, List.getElem_append_left hjr]
      exact ⟨(h.each j hj hjr).1, (h.each j hj hjr).2.keep hg hoth⟩
    · have hje : j = xs.length := by rw [List.length_append] at h1'; simp at h1'; omega
      subst hje
      rw [List.getElem_append_right (Nat.le_refl _), List.getElem_append_right (by rw [h.len]; exact Nat.le_refl _)]
      simp only [h.len, Nat.sub_self, List.getElem_cons_zero]
      exact ⟨hr, hE.keep hg hoth⟩
  · rcases List.mem_append.1 hq with hq | hq
    · exact h.one q hq u hu
    · rw [List.mem_singleton] at hq; subst hq; exact h1 u hu
theorem OwnP.els {w : World} {base n c : Nat} {A : Option Addr} {xs : List Pkt} {rows : List (List Value)} (h : OwnP w base (.slice A n c) xs rows) : Els 5 PktE w w.heap.size A xs := by
  intro h0
  obtain ⟨b, o, e, hb, hi⟩ := OwnL.els h h0
  refine ⟨b, o, e, hb, fun i hx => ?_⟩
  obtain ⟨vs, hl, hE, hc⟩ := hi i hx
  exact ⟨vs, hl, hE.pkt, hc⟩
end Go.Proofs.Ytghdilmlfficlaa
