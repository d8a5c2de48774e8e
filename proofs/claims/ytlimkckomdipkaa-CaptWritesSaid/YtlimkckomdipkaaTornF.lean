/- A file's blocks and records, one by one; the capture that some of them are. -/
import Derived.Test.YtlimkckomdipkaaW10
import Derived.Test.YtlimkckomdipkaaParse
import Derived.Test.YtlimkckomdipkaaRead
import Derived.Test.YtlimkckomdipkaaBlks
import Derived.Test.YtlimkckomdipkaaRdPF
import Derived.Test.YtlimkckomdipkaaPairN
import Derived.Test.YtlimkckomdipkaaPairS
import Derived.Test.YtlimkckomdipkaaFace
import Derived.Test.YtlimkckomdipkaaSect
import Derived.Test.YtlimkckomdipkaaKind
import Derived.Test.YtlimkckomdipkaaRd3
import Derived.Test.YtlimkckomdipkaaRecs
import Derived.Test.YtlimkckomdipkaaRecN
import Derived.Test.YtlimkckomdipkaaBegM
import Derived.Test.YtlimkckomdipkaaPlM
namespace Go.Proofs.Ytlimkckomdipkaa
open Go.RowKit

/-- What a block of a file is. -/
inductive It
  | sect (s : ByteArray)
  | face (f : Fac)
  | name (x : Nam)
  | secr (x : Sec)
  | pkt (p : Pkt)
def kindI : It → Nat
  | .sect _ => 168627466
  | .face _ => 1
  | .name _ => 4
  | .secr _ => 10
  | .pkt _ => 6
def bodyI (low : Bool) : It → List Nat
  | .sect s => secH low ++ optB low 1 16 s
  | .face f => facBy low f.link.toNat f.snap.toNat f.name
  | .name x => pairB low x.addr (strL x.text)
  | .secr x => pairB low (strL x.label) x.key
  | .pkt p => pktBy low p.face.toNat p.time.toNat p.real.toNat p.data p.note
def blkI (low : Bool) (i : It) : List Nat := blkB low (kindI i) (bodyI low i)
def capI (c : Cap) : It → Cap
  | .sect s => ⟨s, c.faces, c.names, c.secs, c.pkts⟩
  | .face f => ⟨c.note, c.faces ++ [f], c.names, c.secs, c.pkts⟩
  | .name x => ⟨c.note, c.faces, c.names ++ [x], c.secs, c.pkts⟩
  | .secr x => ⟨c.note, c.faces, c.names, c.secs ++ [x], c.pkts⟩
  | .pkt p => ⟨c.note, c.faces, c.names, c.secs, c.pkts ++ [p]⟩
def itsC (c : Cap) : List It := .sect c.note :: (c.faces.map It.face ++ (c.names.map It.name ++ (c.secs.map It.secr ++ c.pkts.map It.pkt)))
def capL (l : List It) : Cap := l.foldl capI cap0

theorem blocksB_its (low : Bool) (c : Cap) : blocksB low c = (itsC c).flatMap (blkI low) := by
  unfold blocksB itsC
  simp only [List.flatMap_cons, List.flatMap_append, List.flatMap_map]
  rfl
theorem fold_face (l : List Fac) : ∀ c : Cap, (l.map It.face).foldl capI c = ⟨c.note, c.faces ++ l, c.names, c.secs, c.pkts⟩ := by
  induction l with
  | nil => intro c; simp
  | cons x l ih => intro c; rw [List.map_cons, List.foldl_cons, ih]; simp [capI]
theorem fold_name (l : List Nam) : ∀ c : Cap, (l.map It.name).foldl capI c = ⟨c.note, c.faces, c.names ++ l, c.secs, c.pkts⟩ := by
  induction l with
  | nil => intro c; simp
  | cons x l ih => intro c; rw [List.map_cons, List.foldl_cons, ih]; simp [capI]
theorem fold_secr (l : List Sec) : ∀ c : Cap, (l.map It.secr).foldl capI c = ⟨c.note, c.faces, c.names, c.secs ++ l, c.pkts⟩ := by
  induction l with
  | nil => intro c; simp
  | cons x l ih => intro c; rw [List.map_cons, List.foldl_cons, ih]; simp [capI]
theorem fold_pkt (l : List Pkt) : ∀ c : Cap, (l.map It.pkt).foldl capI c = ⟨c.note, c.faces, c.names, c.secs, c.pkts ++ l⟩ := by
  induction l with
  | nil => intro c; simp
  | cons x l ih => intro c; rw [List.map_cons, List.foldl_cons, ih]; simp [capI]
theorem capL_its (c : Cap) : capL (itsC c) = c := by
  unfold capL itsC
  rw [List.foldl_cons, List.foldl_append, List.foldl_append, List.foldl_append, fold_face, fold_name, fold_secr, fold_pkt]
  simp [capI]
/-- The capture of the first k blocks. -/
def capK (c : Cap) (k : Nat) : Cap := capL ((itsC c).take k)
/-- The same, part by part. -/
def capX (c : Cap) (k : Nat) : Cap :=
  ⟨c.note, c.faces.take (k - 1), c.names.take (k - 1 - c.faces.length), c.secs.take (k - 1 - c.faces.length - c.names.length), c.pkts.take (k - 1 - c.faces.length - c.names.length - c.secs.length)⟩
theorem its_capX (c : Cap) (k : Nat) (hk : 1 ≤ k) : itsC (capX c k) = (itsC c).take k := by
  obtain ⟨k, rfl⟩ : ∃ j, k = j + 1 := ⟨k - 1, by omega⟩
  unfold itsC capX
  simp only [List.take_succ_cons, List.take_append, List.length_map, List.map_take, Nat.add_sub_cancel]
theorem capK_eq (c : Cap) (k : Nat) (hk : 1 ≤ k) : capK c k = capX c k := by
  unfold capK
  rw [← its_capX c k hk, capL_its]
theorem capK_zero (c : Cap) : capK c 0 = cap0 := rfl
theorem capK_succ (c : Cap) (k : Nat) (h : k < (itsC c).length) : capK c (k + 1) = capI (capK c k) (itsC c)[k] := by
  unfold capK capL
  rw [List.take_succ_eq_append_getElem h, List.foldl_append]
  rfl
theorem its_len (c : Cap) : (itsC c).length = 1 + c.faces.length + c.names.length + c.secs.length + c.pkts.length := by
  unfold itsC
  simp only [List.length_cons, List.length_append, List.length_map]
  omega
theorem its_zero (c : Cap) (h : 0 < (itsC c).length) : (itsC c)[0] = .sect c.note := rfl
theorem its_sect (c : Cap) (k : Nat) (h : k < (itsC c).length) (s : ByteArray) (e : (itsC c)[k] = .sect s) : k = 0 := by
  rcases Nat.eq_zero_or_pos k with h0 | h0
  · exact h0
  · exfalso
    obtain ⟨k, rfl⟩ : ∃ j, k = j + 1 := ⟨k - 1, by omega⟩
    have hm : (itsC c)[k + 1] ∈ (c.faces.map It.face ++ (c.names.map It.name ++ (c.secs.map It.secr ++ c.pkts.map It.pkt))) := by
      have : (itsC c)[k + 1] = (c.faces.map It.face ++ (c.names.map It.name ++ (c.secs.map It.secr ++ c.pkts.map It.pkt)))[k]'(by unfold itsC at h; simpa using h) := rfl
      rw [this]; exact List.getElem_mem _
    rw [e] at hm
    simp at hm
theorem its_face {c : Cap} {k : Nat} (h : k < (itsC c).length) {f : Fac} (e : (itsC c)[k] = .face f) : f ∈ c.faces := by
  have hm : (itsC c)[k] ∈ itsC c := List.getElem_mem h
  rw [e] at hm
  simpa [itsC] using hm
theorem its_name {c : Cap} {k : Nat} (h : k < (itsC c).length) {f : Nam} (e : (itsC c)[k] = .name f) : f ∈ c.names := by
  have hm : (itsC c)[k] ∈ itsC c := List.getElem_mem h
  rw [e] at hm
  simpa [itsC] using hm
theorem its_secr {c : Cap} {k : Nat} (h : k < (itsC c).length) {f : Sec} (e : (itsC c)[k] = .secr f) : f ∈ c.secs := by
  have hm : (itsC c)[k] ∈ itsC c := List.getElem_mem h
  rw [e] at hm
  simpa [itsC] using hm
theorem its_pkt {c : Cap} {k : Nat} (h : k < (itsC c).length) {f : Pkt} (e : (itsC c)[k] = .pkt f) : f ∈ c.pkts := by
  have hm : (itsC c)[k] ∈ itsC c := List.getElem_mem h
  rw [e] at hm
  simpa [itsC] using hm
theorem its_note {c : Cap} {k : Nat} (h : k < (itsC c).length) {s : ByteArray} (e : (itsC c)[k] = .sect s) : s = c.note := by
  have hm : (itsC c)[k] ∈ itsC c := List.getElem_mem h
  rw [e] at hm
  simpa [itsC] using hm

/-- How many bytes a block's body has. -/
def lenI (low : Bool) (i : It) : Nat := (bodyI low i ++ padB (bodyI low i).length).length
theorem lenI_mod (low : Bool) (i : It) : lenI low i % 4 = 0 := by
  unfold lenI
  rw [List.length_append, padB_len]
  unfold padN
  omega
theorem blkI_len (low : Bool) (i : It) : (blkI low i).length = 12 + lenI low i := by
  unfold blkI blkB lenI
  simp only [List.length_append, len42, len4]
  omega
/-- Where the block k begins. -/
def atI (low : Bool) (l : List It) (k : Nat) : Nat := ((l.take k).flatMap (blkI low)).length
theorem atI_zero (low : Bool) (l : List It) : atI low l 0 = 0 := rfl
theorem atI_succ (low : Bool) (l : List It) (k : Nat) (h : k < l.length) : atI low l (k + 1) = atI low l k + (12 + lenI low l[k]) := by
  unfold atI
  rw [List.take_succ_eq_append_getElem h, List.flatMap_append, List.length_append]
  simp only [List.flatMap_cons, List.flatMap_nil, List.append_nil, blkI_len]
theorem atI_mono (low : Bool) (l : List It) {j k : Nat} (h : j ≤ k) : atI low l j ≤ atI low l k := by
  unfold atI
  have e : l.take j = (l.take k).take j := by rw [List.take_take, Nat.min_eq_left h]
  obtain ⟨r, hr⟩ : ∃ r, l.take k = l.take j ++ r := ⟨(l.take k).drop j, by rw [e, List.take_append_drop]⟩
  rw [hr, List.flatMap_append, List.length_append]
  omega
theorem atI_all (low : Bool) (l : List It) : atI low l l.length = (l.flatMap (blkI low)).length := by
  unfold atI; rw [List.take_length]
theorem atI_split (low : Bool) (l : List It) (k : Nat) (h : k < l.length) : ∃ r, l.flatMap (blkI low) = (l.take k).flatMap (blkI low) ++ (blkI low l[k] ++ r) := by
  refine ⟨(l.drop (k + 1)).flatMap (blkI low), ?_⟩
  conv => lhs; rw [← List.take_append_drop k l, List.drop_eq_getElem_cons h]
  rw [List.flatMap_append, List.flatMap_cons]
/-- How many whole blocks there are in n bytes. -/
theorem whole_ex (low : Bool) (l : List It) (n : Nat) : ∃ k, k ≤ l.length ∧ atI low l k ≤ n ∧ ∀ _ : k < l.length, n < atI low l (k + 1) := by
  have key : ∀ m, m ≤ l.length → (∃ k, k ≤ m ∧ atI low l k ≤ n ∧ (k < m → n < atI low l (k + 1))) := by
    intro m
    induction m with
    | zero => intro _; exact ⟨0, Nat.le_refl _, by rw [atI_zero]; omega, fun h => by omega⟩
    | succ m ih =>
      intro hm
      obtain ⟨k, h1, h2, h3⟩ := ih (by omega)
      rcases Nat.lt_or_ge k m with hk | hk
      · exact ⟨k, by omega, h2, fun _ => h3 hk⟩
      · have e : k = m := by omega
        subst e
        rcases Nat.lt_or_ge n (atI low l (k + 1)) with h4 | h4
        · exact ⟨k, by omega, h2, fun _ => h4⟩
        · exact ⟨k + 1, by omega, h4, fun h => by omega⟩
  obtain ⟨k, h1, h2, h3⟩ := key l.length (Nat.le_refl _)
  exact ⟨k, h1, h2, h3⟩

/-! ### What is valid -/
theorem textB_len {s : ByteArray} (h : textB s = true) : s.size ≤ 200 := textB_size h
structure Okay (c : Cap) : Prop where
  note : c.note.size ≤ 200
  faces : ∀ f ∈ c.faces, f.name.size ≤ 200 ∧ 0 ≤ f.link ∧ f.link ≤ 65535 ∧ 0 ≤ f.snap ∧ f.snap ≤ 400
  names : ∀ x ∈ c.names, x.text.size ≤ 200 ∧ x.addr.length ≤ 200
  secs : ∀ x ∈ c.secs, x.label.size ≤ 200 ∧ x.key.length ≤ 200
  pkts : ∀ p ∈ c.pkts, p.note.size ≤ 200 ∧ p.data.length ≤ 400 ∧ 0 ≤ p.face ∧ p.face < 65536 ∧ 0 ≤ p.time ∧ p.time ≤ 1000000000000000 ∧ 0 ≤ p.real ∧ p.real ≤ 1000000
  nf : 1 ≤ c.faces.length ∧ c.faces.length ≤ 4
  nn : c.names.length ≤ 60
  ns : c.secs.length ≤ 60
  np : c.pkts.length ≤ 100
theorem okay_of {c : Cap} (h : errV c = 0) : Okay c := by
  obtain ⟨hc, hh⟩ := errV_ok h
  have hh' := of_decide_eq_false hh
  simp only [capB, partsB, Bool.and_eq_true, decide_eq_true_eq, List.all_eq_true] at hc
  obtain ⟨⟨h0, ht⟩, hf, hn, hs, hp⟩ := hc
  refine ⟨textB_size ht, fun f hx => ?_, fun x hx => ?_, fun x hx => ?_, fun p hx => ?_, ⟨h0, by omega⟩, by omega, by omega, by omega⟩
  · have h := hf f hx
    simp only [facB, Bool.and_eq_true, within_iff] at h
    exact ⟨textB_size h.1, h.2.1.1, h.2.1.2, h.2.2.1, h.2.2.2⟩
  · have h := hn x hx
    simp only [namB, Bool.and_eq_true, within_iff] at h
    exact ⟨textB_size h.1, by omega⟩
  · have h := hs x hx
    simp only [secB, Bool.and_eq_true, within_iff, decide_eq_true_eq] at h
    exact ⟨textB_size h.1, by omega⟩
  · have h := hp p hx
    simp only [pktB, pktS, Bool.and_eq_true, within_iff, decide_eq_true_eq] at h
    obtain ⟨⟨a1, a2⟩, b1, ⟨b2, b3⟩, ⟨b4, _⟩, b5, b6⟩ := h
    exact ⟨textB_size b1, by omega, a1, by omega, b2, b3, by omega, b6⟩

/-- Captures that have the begin of a valid one's parts are valid, as long as there is an interface, and all interfaces if there is a packet. -/
theorem errV_sub {c d : Cap} (h : errV c = 0) (h0 : d.note = c.note) (h1 : ∃ k, 1 ≤ k ∧ d.faces = c.faces.take k) (h2 : ∃ k, d.names = c.names.take k) (h3 : ∃ k, d.secs = c.secs.take k) (h4 : ∃ k, d.pkts = c.pkts.take k)
    (h5 : d.faces = c.faces ∨ d.pkts = []) : errV d = 0 := by
  obtain ⟨hc, hh⟩ := errV_ok h
  have hh' := of_decide_eq_false hh
  simp only [capB, partsB, Bool.and_eq_true, decide_eq_true_eq, List.all_eq_true] at hc
  obtain ⟨⟨g0, gt⟩, gf, gn, gs, gp⟩ := hc
  obtain ⟨k1, hk1, e1⟩ := h1
  obtain ⟨k2, e2⟩ := h2
  obtain ⟨k3, e3⟩ := h3
  obtain ⟨k4, e4⟩ := h4
  have l1 : d.faces.length ≤ c.faces.length := by rw [e1, List.length_take]; omega
  have l1' : 0 < d.faces.length := by rw [e1, List.length_take]; omega
  have l2 : d.names.length ≤ c.names.length := by rw [e2, List.length_take]; omega
  have l3 : d.secs.length ≤ c.secs.length := by rw [e3, List.length_take]; omega
  have l4 : d.pkts.length ≤ c.pkts.length := by rw [e4, List.length_take]; omega
  have hu : hugeB d = false := decide_eq_false (by omega)
  have hb : capB d = true := by
    simp only [capB, partsB, Bool.and_eq_true, decide_eq_true_eq, List.all_eq_true]
    refine ⟨⟨l1', by rw [h0]; exact gt⟩, fun f hx => gf f (List.mem_of_mem_take (by rw [← e1]; exact hx)), fun f hx => gn f (List.mem_of_mem_take (by rw [← e2]; exact hx)), fun f hx => gs f (List.mem_of_mem_take (by rw [← e3]; exact hx)), fun p hx => ?_⟩
    rcases h5 with h5 | h5
    · rw [h5]; exact gp p (List.mem_of_mem_take (by rw [← e4]; exact hx))
    · rw [h5] at hx; cases hx
  unfold errV
  rw [hu, hb]; rfl
theorem errV_capX {c : Cap} (h : errV c = 0) {k : Nat} (hk : 2 ≤ k) : errV (capX c k) = 0 := by
  refine errV_sub h rfl ⟨k - 1, by omega, rfl⟩ ⟨_, rfl⟩ ⟨_, rfl⟩ ⟨_, rfl⟩ ?_
  rcases Nat.lt_or_ge (k - 1) c.faces.length with h1 | h1
  · right
    show c.pkts.take _ = []
    rw [show k - 1 - c.faces.length - c.names.length - c.secs.length = 0 by omega]; rfl
  · left
    show c.faces.take _ = _
    rw [List.take_of_length_le h1]
theorem errV_none {d : Cap} (h : d.faces = []) : ¬ errV d = 0 := by
  intro e
  have := (okay_of e).nf.1
  rw [h] at this
  simp at this
end Go.Proofs.Ytlimkckomdipkaa
/- What Read answers of a file of blocks whose last bytes are gone. -/
namespace Go.Proofs.Ytlimkckomdipkaa
open Go.RowKit

theorem kindI_lt (i : It) : kindI i < 4294967296 := by cases i <;> simp [kindI]
theorem Pc.mid {w : World} {b o : Nat} {pre mid post : List Nat} (h : Pc w b o (pre ++ (mid ++ post))) : Pc w b (o + pre.length) mid := h.right.left
theorem optB_mod (low : Bool) (code L : Nat) (s : ByteArray) (h : L % 4 = 0) : (optB low code L s).length % 4 = 0 := by
  unfold optB
  split
  · rfl
  · rw [List.length_append, List.length_append, List.length_append, numsB_len, numsB_len, strL_len, padB_len]
    simp only [List.length_cons, List.length_nil]
    unfold padN
    omega
theorem facBy_mod (low : Bool) (lk sn : Nat) (s : ByteArray) : (facBy low lk sn s).length % 4 = 0 := by
  unfold facBy
  have := optB_mod low 2 8 s (by decide)
  rw [List.length_append, List.length_append, len2, len4]
  omega
theorem sectBy_mod (low : Bool) (s : ByteArray) : (secH low ++ optB low 1 16 s).length % 4 = 0 := by
  have := optB_mod low 1 16 s (by decide)
  rw [List.length_append, secH_len]
  omega
theorem pktBy_mod (low : Bool) (fc t rl : Nat) (d : List Nat) (s : ByteArray) : (pktBy low fc t rl d s).length % 4 = 0 := by
  unfold pktBy
  have := optB_mod low 1 (20 + d.length + padN (20 + d.length)) s (by unfold padN; omega)
  rw [List.length_append, List.length_append, List.length_append, len45, padB_len]
  unfold padN at this ⊢
  omega
theorem padB_mod {n : Nat} (h : n % 4 = 0) : padB n = [] := by
  unfold padB padN
  rw [h]; rfl
/-- The pieces of a block. -/
theorem blk_pieces {w : World} {b o : Nat} (low : Bool) (i : It) (h : Pc w b o (blkI low i)) :
    Pc w b o (numB low 4 (kindI i)) ∧ Pc w b (o + 4) (numB low 4 (12 + lenI low i)) ∧ Pc w b (o + 8) (bodyI low i ++ padB (bodyI low i).length) ∧ Pc w b (o + (8 + lenI low i)) (numB low 4 (12 + lenI low i)) := by
  unfold blkI blkB at h
  rw [numsB_cons, numsB_one] at h
  have e4 : ∀ v, (numB low 4 v).length = 4 := fun v => numB_len low 4 v
  have h1 := h.left.left
  have h2 := h.left.right
  have h3 := h.mid
  have h4 := h.right.right
  rw [List.length_append, e4, e4] at h3 h4
  rw [e4] at h2
  exact ⟨h1, h2, h3, h4.at_ (by unfold lenI; omega)⟩
theorem capK_lens (c : Cap) (k : Nat) (hk : k < 1000) : (capK c k).faces.length < 1000 ∧ (capK c k).names.length < 1000 ∧ (capK c k).secs.length < 1000 ∧ (capK c k).pkts.length < 1000 := by
  rcases Nat.eq_zero_or_pos k with h0 | h0
  · subst h0; rw [capK_zero]; decide
  · rw [capK_eq c k h0]
    unfold capX
    simp only [List.length_take]
    omega
/-- A block of a file is read. -/
theorem item_any (low : Bool) {c : Cap} (ho : Okay c) {i : Nat} (hi : i < (itsC c).length) (hi2 : i < 1000) {w' : World} {R b b0 o L cc cp : Nat} {q : Pl} {A : Option Addr} {xs : List Value}
    (h : Rd w' R b (ordV low) q A cp xs (capK c i) i 0) (hp : Pc w' b0 o (bodyI low (itsC c)[i] ++ padB (bodyI low (itsC c)[i]).length)) (hL : lenI low (itsC c)[i] = L) (hc : L < cc) (hb : b0 < b) :
    Calls Try.prog 77 #[.pointer (some ⟨R, 0, none⟩), .int .i64 (kindI (itsC c)[i] : Nat), .slice (some ⟨b0, o, none⟩) L cc] w' (Red w' R b (ordV low) A cp xs (capK c (i + 1)) i 0) := by
  rw [capK_succ c i hi]
  obtain ⟨l1, l2, l3, l4⟩ := capK_lens c i hi2
  generalize hx : (itsC c)[i] = x at hp hL ⊢
  unfold lenI at hL
  cases x with
  | sect s =>
    have h0 := its_sect c i hi s hx
    subst h0
    have hs := its_note hi hx
    rw [show (bodyI low (.sect s)) = secH low ++ optB low 1 16 s from rfl, padB_mod (sectBy_mod low s), List.append_nil] at hp hL
    exact block_sect h ((section_any low h hp hL hc hb (by rw [hs]; exact ho.note)).mono fun e w2 ⟨h1, h2, h3⟩ => ⟨h1, ⟨_, h2⟩, h3⟩)
  | face f =>
    obtain ⟨f1, f2, f3, f4, f5⟩ := ho.faces f (its_face hi hx)
    rw [show (bodyI low (.face f)) = facBy low f.link.toNat f.snap.toNat f.name from rfl, padB_mod (facBy_mod low _ _ _), List.append_nil] at hp hL
    have hh := face_any low h hp hL hc hb f1 (by omega) (by omega) l1
    rw [Int.toNat_of_nonneg f2, Int.toNat_of_nonneg f4] at hh
    exact block_face hh
  | name f =>
    obtain ⟨f1, f2⟩ := ho.names f (its_name hi hx)
    exact block_name (name_any low h hp hL hc hb f1 f2 l2)
  | secr f =>
    obtain ⟨f1, f2⟩ := ho.secs f (its_secr hi hx)
    exact block_sec (sec_any low h hp hL hc hb f1 f2 l3)
  | pkt p =>
    obtain ⟨f1, f2, f3, f4, f5, f6, f7, f8⟩ := ho.pkts p (its_pkt hi hx)
    rw [show (bodyI low (.pkt p)) = pktBy low p.face.toNat p.time.toNat p.real.toNat p.data p.note from rfl, padB_mod (pktBy_mod low _ _ _ _ _), List.append_nil] at hp hL
    have hh := pkt_any low h hp hL hc hb f1 f2 (by omega) (by omega) (by omega) l4
    rw [Int.toNat_of_nonneg f3, Int.toNat_of_nonneg f5, Int.toNat_of_nonneg f7] at hh
    exact block_pkt hh

theorem flat_le {α : Type} (f : α → List Nat) (M : Nat) (l : List α) (h : ∀ x ∈ l, (f x).length ≤ M) : (l.flatMap f).length ≤ l.length * M := by
  induction l with
  | nil => simp
  | cons x l ih =>
    have h1 := h x (by simp)
    have h2 := ih (fun y hy => h y (by simp [hy]))
    rw [List.flatMap_cons, List.length_append, List.length_cons, Nat.add_mul, Nat.one_mul]
    omega
theorem lenI_le (low : Bool) (i : It) : lenI low i ≤ (bodyI low i).length + 3 := by
  unfold lenI
  have := padN_le (bodyI low i).length
  rw [List.length_append, padB_len]
  omega
theorem blocks_len {c : Cap} (ho : Okay c) (low : Bool) : (blocksB low c).length ≤ 131072 := by
  obtain ⟨h1, h2, h3, h4, h5, h6, h7, h8, h9⟩ := ho
  have hs : ∀ s : ByteArray, (strL s).length = s.size := strL_len
  have a1 : (sectB low c.note).length ≤ 242 := by
    have := blkB_len low 168627466 (secH low ++ optB low 1 16 c.note)
    have := optB_len low 1 16 c.note
    unfold sectB
    rw [List.length_append, secH_len] at *
    omega
  have a2 := flat_le (faceBl low) 234 c.faces (fun f hf => by
    have := blkB_len low 1 (facBy low f.link.toNat f.snap.toNat f.name)
    have := facBy_len low f.link.toNat f.snap.toNat f.name
    have := h2 f hf
    unfold faceBl; omega)
  have a3 := flat_le (nameBl low) 419 c.names (fun f hf => by
    have := blkB_len low 4 (pairB low f.addr (strL f.text))
    have := h3 f hf
    rw [pairB_len, hs] at *
    unfold nameBl; omega)
  have a4 := flat_le (secBl low) 419 c.secs (fun f hf => by
    have := blkB_len low 10 (pairB low (strL f.label) f.key)
    have := h4 f hf
    rw [pairB_len, hs] at *
    unfold secBl; omega)
  have a5 := flat_le (pktBl low) 649 c.pkts (fun p hp => by
    have := blkB_len low 6 (pktBy low p.face.toNat p.time.toNat p.real.toNat p.data p.note)
    have := pktBy_len low p.face.toNat p.time.toNat p.real.toNat p.data p.note
    have := h5 p hp
    unfold pktBl; omega)
  unfold blocksB
  rw [List.length_append, List.length_append, List.length_append, List.length_append]
  have b2 := Nat.mul_le_mul_right 234 h6.2
  have b3 := Nat.mul_le_mul_right 419 h7
  have b4 := Nat.mul_le_mul_right 419 h8
  have b5 := Nat.mul_le_mul_right 649 h9
  omega

/-- The blocks of a file, in either order. -/
theorem blocks_any (low : Bool) {w : World} {R b n N C b0 o : Nat} {K : Nat → Cap} {at_ kind len : Nat → Nat} (h : Rd w R b (ordV low) pl0 none 0 [] (K 0) 0 0) (hb : b0 < b) (hNC : N ≤ C) (hN : N ≤ 200000) (hn : n < 1000)
    (h0 : at_ 0 = 0) (hs : ∀ i, i < n → at_ (i + 1) = at_ i + (12 + len i) ∧ at_ (i + 1) ≤ N ∧ kind i < 4294967296 ∧ len i % 4 = 0)
    (hp : ∀ i, i < n → Pc w b0 (o + at_ i) (numB low 4 (kind i)) ∧ Pc w b0 (o + (at_ i + 4)) (numB low 4 (12 + len i)) ∧ Pc w b0 (o + (at_ i + (8 + len i))) (numB low 4 (12 + len i)))
    (hk : ∀ i, i < n → ∀ w', Below b w w' → ∀ q A cp xs, Rd w' R b (ordV low) q A cp xs (K i) i 0 → Calls Try.prog 77 #[.pointer (some ⟨R, 0, none⟩), .int .i64 (kind i : Nat), .slice (some ⟨b0, o + (at_ i + 8), none⟩) (len i) (C - (at_ i + 8))] w' (Red w' R b (ordV low) A cp xs (K (i + 1)) i 0))
    (ht : N - at_ n < 8 ∨ ∃ kd sz, Pc w b0 (o + at_ n) (numB low 4 kd) ∧ Pc w b0 (o + (at_ n + 4)) (numB low 4 sz) ∧ kd < 4294967296 ∧ sz < 4294967296 ∧ N - at_ n < sz ∧ 12 ≤ sz ∧ sz % 4 = 0) (hle : at_ n ≤ N) :
    Calls Try.prog 71 #[.pointer (some ⟨R, 0, none⟩), .slice (some ⟨b0, o, none⟩) N C] w fun e w' => e = .returned (.bool (decide (0 < at_ n))) ∧ (∃ q A cp xs, Rd w' R b (ordV low) q A cp xs (K n) n (N - at_ n)) ∧ Below b w w' := by
  cases low with
  | true => exact blocks_true h hb hNC hN hn h0 hs hp hk ht hle
  | false => exact blocks_false h hb hNC hN hn h0 hs hp hk ht hle

theorem post_bad {w : World} {c d : Cap} {S T : Nat} {e : Ending} {w' : World} (h : ReadPost w false c S e w') : ReadPost w false d T e w' := by
  obtain ⟨h1, ⟨⟨h2, _⟩, _⟩ | ⟨_, h3⟩⟩ := h
  · cases h2
  · exact ⟨h1, .inr ⟨fun h => (by cases h.1), h3⟩⟩

/-- The first numbers of a file, in either order. -/
theorem nums_at {w : World} {b0 C o : Nat} {l : List Nat} (h4 : l.length = 4) (hp : Pc w b0 o l) (hb : b0 < w.heap.size) (low : Bool) (w' : World) (hw : Below w.heap.size w w') :
    Calls Try.prog (getF low) #[.agg #[], .slice (some ⟨b0, o, none⟩) 4 C] w' fun e w2 => e = .returned (.int .i64 (numL low l : Nat)) ∧ Below w'.heap.size w' w2 := by
  have hz := hw.size
  have hby : Byt w' w'.heap.size (some ⟨b0, o, none⟩) l := (hp.below hw hb).byt (by omega)
  cases low with
  | true =>
    have := getlow_any (c := C) hby (by omega)
    rw [h4] at this
    exact this
  | false =>
    have := gethigh_any (c := C) hby (by omega)
    rw [h4] at this
    exact this
theorem kind_sect (low : Bool) (n : Nat) (h : 12 ≤ n) : kindR n (fun l => numL l (numB low 4 168627466)) (fun l => numL l (numB low 4 439041101)) = [.bool false, .bool low, .int .i64 0] := by
  have v1 : numL false (numB false 4 168627466) = 168627466 := by decide +kernel
  have v2 : numL false (numB true 4 168627466) = 168627466 := by decide +kernel
  have v3 : numL true (numB true 4 168627466) = 168627466 := by decide +kernel
  have u1 : numL false (numB false 4 439041101) = 439041101 := by decide +kernel
  have u2 : numL false (numB true 4 439041101) = 1295788826 := by decide +kernel
  have u3 : numL true (numB true 4 439041101) = 439041101 := by decide +kernel
  unfold kindR kindS
  cases low with
  | true => simp [v2, v3, u2, u3, h]
  | false => simp [v1, u1, h]
theorem kind_sect_short (low : Bool) (n : Nat) (u : Bool → Nat) (h : n < 12) : kindR n (fun l => numL l (numB low 4 168627466)) u = [.bool false, .bool false, .int .i64 11] := by
  have v1 : ∀ l, numL l (numB low 4 168627466) = 168627466 := by cases low <;> decide +kernel
  unfold kindR kindS
  simp only [v1]
  rw [if_neg (by omega), if_neg (by omega)]
  simp only []
  rw [if_neg (by omega), if_neg (by omega)]
set_option maxHeartbeats 1000000 in
theorem readNew {w : World} {b0 C n : Nat} {low : Bool} {c : Cap} (he : errV c = 0) (hF : Pc w b0 0 (blocksB low c)) (hb : b0 < w.heap.size) (hn : n ≤ (blocksB low c).length) (hC : (blocksB low c).length ≤ C) :
    ∃ k, k ≤ (itsC c).length ∧ atI low (itsC c) k ≤ n ∧ (∀ _ : k < (itsC c).length, n < atI low (itsC c) (k + 1)) ∧
      Calls Try.prog 14 #[.slice (some ⟨b0, 0, none⟩) n C] w (ReadPost w (decide (1 ≤ k)) (capK c k) (n - atI low (itsC c) k)) := by
  have ho := okay_of he
  have hlen := blocks_len ho low
  have hits := its_len c
  have hil : (itsC c).length < 1000 := by
    have := ho.nf; have := ho.nn; have := ho.ns; have := ho.np
    omega
  rw [blocksB_its] at hn hF hC hlen
  obtain ⟨k, hk, hkn, hk2⟩ := whole_ex low (itsC c) n
  refine ⟨k, hk, hkn, hk2, ?_⟩
  -- the blocks' pieces
  have hpc : ∀ i (h : i < (itsC c).length), Pc w b0 (atI low (itsC c) i) (blkI low (itsC c)[i]) := by
    intro i h
    obtain ⟨r, hr⟩ := atI_split low (itsC c) i h
    rw [hr] at hF
    exact hF.mid.at_ (by unfold atI; omega)
  have hl0 : 0 < (itsC c).length := by omega
  have hF0 := hpc 0 hl0
  rw [its_zero c hl0] at hF0
  have p0 := (blk_pieces low _ hF0).1
  have p2 := (blk_pieces low _ hF0).2.2.1
  have hsm : Pc w b0 8 (numB low 4 439041101) := by
    have h1 := p2.left
    have h2 : Pc w b0 _ (secH low ++ optB low 1 16 c.note) := h1
    have h3 := h2.left
    unfold secH at h3
    rw [numsB_one] at h3
    exact h3.left
  have hv : ∀ (l : Bool) (w' : World), Below w.heap.size w w' → Calls Try.prog (getF l) #[.agg #[], .slice (some ⟨b0, 0, none⟩) 4 C] w' fun e w2 => e = .returned (.int .i64 (numL l (numB low 4 168627466) : Nat)) ∧ Below w'.heap.size w' w2 :=
    fun l w' hw => nums_at (numB_len low 4 _) p0 hb l w' hw
  have hu : ∀ (l : Bool) (w' : World), Below w.heap.size w w' → Calls Try.prog (getF l) #[.agg #[], .slice (some ⟨b0, 0 + 8, none⟩) 4 (C - 8)] w' fun e w2 => e = .returned (.int .i64 (numL l (numB low 4 439041101) : Nat)) ∧ Below w'.heap.size w' w2 :=
    fun l w' hw => nums_at (numB_len low 4 _) hsm hb l w' hw
  have hkind : ∀ w', Below w.heap.size w w' → Calls Try.prog 15 #[.slice (some ⟨b0, 0, none⟩) n C] w' fun e w2 => e = .returned (.tuple (kindR n (fun l => numL l (numB low 4 168627466)) (fun l => numL l (numB low 4 439041101))).toArray) ∧ Below w'.heap.size w' w2 := by
    intro w' hw
    exact kind_any (fun l => numL l (numB low 4 168627466)) (fun l => numL l (numB low 4 439041101)) (by omega) (by omega) (fun _ l w2 h2 => hv l w2 (hw.trans (h2.mono hw.size))) (fun _ l w2 h2 => hu l w2 (hw.trans (h2.mono hw.size)))
  rcases Nat.lt_or_ge n 12 with h12 | h12
  · have hk0 : k = 0 := by
      rcases Nat.eq_zero_or_pos k with h | h
      · exact h
      · have h1 := atI_mono low (itsC c) (j := 1) (k := k) h
        have h2 : atI low (itsC c) 1 = _ := atI_succ low (itsC c) 0 hl0
        rw [atI_zero] at h2
        omega
    subst hk0
    refine (read_any (c := cap0) (n := 0) (T := 0) (ok := false) (low := false) fun w' hw => parse_bad (by omega) fun w2 h2 => ?_).mono fun e w2 h => post_bad h
    have := hkind w2 (hw.trans (h2.mono hw.size))
    rw [kind_sect_short low n _ h12] at this
    exact this
  · refine read_any (n := k) (low := low) fun w' hw => parse_new (by omega) (fun w2 h2 => ?_) fun w2 R h2 hR hrd => ?_
    · have := hkind w2 (hw.trans (h2.mono hw.size))
      rw [kind_sect low n h12] at this
      exact this
    · have hz := hw.size
      have hz2 := h2.size
      have hw2 : Below w.heap.size w w2 := hw.trans (h2.mono hz)
      have hpc2 : ∀ i (h : i < (itsC c).length), Pc w2 b0 (atI low (itsC c) i) (blkI low (itsC c)[i]) := fun i h => (hpc i h).below hw2 hb
      have hgd : ∀ i, i < k → ∃ x, (itsC c)[i]? = some x := fun i hi => ⟨_, List.getElem?_eq_getElem (by omega)⟩
      have hmain := blocks_any low (w := w2) (R := R) (b := R) (n := k) (N := n) (C := C) (b0 := b0) (o := 0) (K := capK c) (at_ := atI low (itsC c)) (kind := fun i => ((itsC c)[i]?.map kindI).getD 0) (len := fun i => ((itsC c)[i]?.map (lenI low)).getD 0)
        hrd (by omega) (by omega) (by omega) (by omega) (atI_zero _ _) ?_ ?_ ?_ ?_ hkn
      · refine hmain.mono fun e w3 ⟨h3, h4, h5⟩ => ⟨?_, h4, h5⟩
        rw [h3]
        congr 2
        rw [decide_eq_decide]
        rcases Nat.eq_zero_or_pos k with h | h
        · subst h; rw [atI_zero]; omega
        · have h6 := atI_mono low (itsC c) (j := 1) (k := k) h
          have h7 : atI low (itsC c) 1 = _ := atI_succ low (itsC c) 0 hl0
          rw [atI_zero] at h7
          omega
      · intro i hi
        have hil2 : i < (itsC c).length := by omega
        simp only [List.getElem?_eq_getElem hil2, Option.map_some, Option.getD_some]
        refine ⟨atI_succ low (itsC c) i hil2, Nat.le_trans (atI_mono low (itsC c) hi) hkn, ?_, lenI_mod low _⟩
        exact kindI_lt _
      · intro i hi
        have hil2 : i < (itsC c).length := by omega
        simp only [List.getElem?_eq_getElem hil2, Option.map_some, Option.getD_some, Nat.zero_add]
        obtain ⟨a1, a2, _, a4⟩ := blk_pieces low _ (hpc2 i hil2)
        exact ⟨a1, a2, a4⟩
      · intro i hi w3 h3 q A cp xs hrd3
        have hil2 : i < (itsC c).length := by omega
        have hb2 : b0 < R := by omega
        simp only [List.getElem?_eq_getElem hil2, Option.map_some, Option.getD_some, Nat.zero_add]
        obtain ⟨_, _, a3, _⟩ := blk_pieces low _ (hpc2 i hil2)
        refine item_any low ho hil2 (by omega) hrd3 (a3.below h3 hb2) rfl ?_ hb2
        have h6 := atI_mono low (itsC c) (j := i + 1) (k := k) hi
        have h7 := atI_succ low (itsC c) i hil2
        omega
      · rcases Nat.lt_or_ge k (itsC c).length with h | h
        · right
          obtain ⟨a1, a2, _, _⟩ := blk_pieces low _ (hpc2 k h)
          have h3 := hk2 h
          have h4 := atI_succ low (itsC c) k h
          have h5 := lenI_mod low (itsC c)[k]
          have h6 := atI_mono low (itsC c) (j := k + 1) (k := (itsC c).length) h
          rw [atI_all] at h6
          refine ⟨_, _, a1.at_ (by omega), a2.at_ (by omega), ?_, by omega, by omega, by omega, by omega⟩
          exact kindI_lt _
        · left
          have e : k = (itsC c).length := by omega
          rw [e, atI_all]
          omega
end Go.Proofs.Ytlimkckomdipkaa
/- What Read answers of a file of the old kind whose last bytes are gone. -/
namespace Go.Proofs.Ytlimkckomdipkaa
open Go.RowKit

theorem rec_any (low : Bool) {w : World} {R b np torn cp b0 o cc t rl L : Nat} {q : Pl} {c : Cap} {A : Option Addr} {xs : List Value} {a : List Nat} (h : Rd w R b (ordV low) q A cp xs c np torn)
    (hp : Pc w b0 o (numsB low 4 [t / 1000000, t % 1000000, a.length, rl] ++ a)) (hL : L = 16 + a.length) (hc : 16 + a.length ≤ cc) (hb : b0 < b) (ha : a.length ≤ 400) (ht : t ≤ 1000000000000000) (hrl : rl ≤ 1000000) (hn : c.pkts.length < 1000) :
    Calls Try.prog 76 #[.pointer (some ⟨R, 0, none⟩), .slice (some ⟨b0, o, none⟩) L cc] w fun e w' => e = .returned (.tuple #[]) ∧ (∃ q', Rd w' R b (ordV low) q' A cp xs ⟨c.note, c.faces, c.names, c.secs, c.pkts ++ [⟨(t : Int), 0, (rl : Int), a, ⟨#[]⟩⟩]⟩ np torn) ∧ Below b w w' := by
  rcases Nat.lt_or_ge 16 cc with h1 | h1
  · cases low with
    | true => exact rec_true h hp hL hc h1 hb ha ht hrl hn
    | false => exact rec_false h hp hL hc h1 hb ha ht hrl hn
  · have h0 : a = [] := List.eq_nil_of_length_eq_zero (by omega)
    cases low with
    | true => exact rec0_true h hp hL (by omega) h0 hb ha ht hrl hn
    | false => exact rec0_false h hp hL (by omega) h0 hb ha ht hrl hn
theorem records_any (low : Bool) {w : World} {R b n N C b0 o lk sn : Nat} {K : Nat → Cap} {at_ len : Nat → Nat} (h : Rd w R b (ordV low) pl0 none 0 [] cap0 0 0) (hb : b0 < b) (hNC : N ≤ C) (hN : N ≤ 200000) (h24 : 24 ≤ N) (hn : n < 1000) (hlk : lk < 65536) (hsn : sn < 65536)
    (hK : K 0 = ⟨⟨#[]⟩, [⟨⟨#[]⟩, lk, sn⟩], [], [], []⟩) (h0 : at_ 0 = 24) (hs : ∀ i, i < n → at_ (i + 1) = at_ i + (16 + len i) ∧ at_ (i + 1) ≤ N)
    (hold : Pc w b0 o (oldB low)) (hsnp : Pc w b0 (o + 16) (numB low 4 sn)) (hlkp : Pc w b0 (o + 20) (numB low 4 lk))
    (hp : ∀ i, i < n → Pc w b0 (o + (at_ i + 8)) (numB low 4 (len i)))
    (hk : ∀ i, i < n → ∀ w', Below b w w' → ∀ q A cp xs, Rd w' R b (ordV low) q A cp xs (K i) (i + 1) 0 → Calls Try.prog 76 #[.pointer (some ⟨R, 0, none⟩), .slice (some ⟨b0, o + at_ i, none⟩) (16 + len i) (C - at_ i)] w' fun e w2 => e = .returned (.tuple #[]) ∧ (∃ q', Rd w2 R b (ordV low) q' A cp xs (K (i + 1)) (i + 1) 0) ∧ Below b w' w2)
    (ht : N - at_ n < 16 ∨ ∃ ln, Pc w b0 (o + (at_ n + 8)) (numB low 4 ln) ∧ ln < 4294967296 ∧ N - at_ n < 16 + ln) (hle : at_ n ≤ N) :
    Calls Try.prog 70 #[.pointer (some ⟨R, 0, none⟩), .slice (some ⟨b0, o, none⟩) N C] w fun e w' => e = .returned (.bool true) ∧ (∃ q A cp xs, Rd w' R b (ordV low) q A cp xs (K n) (n + 1) (N - at_ n)) ∧ Below b w w' := by
  cases low with
  | true => exact records_true h hb hNC hN h24 hn hlk hsn hK h0 hs hold hsnp hlkp hp hk ht hle
  | false => exact records_false h hb hNC hN h24 hn hlk hsn hK h0 hs hold hsnp hlkp hp hk ht hle
set_option maxRecDepth 100000 in
set_option maxHeartbeats 1000000 in
theorem records_short {w : World} {R N C b0 o : Nat} (h : N < 24) :
    Calls Try.prog 70 #[.pointer (some ⟨R, 0, none⟩), .slice (some ⟨b0, o, none⟩) N C] w fun e w' => e = .returned (.bool false) ∧ Below w.heap.size w w' := by
  have h1 : decide ((N : Int) < 24) = true := decide_eq_true (by omega)
  go_enter Try.func70, Try.ntmps70
  go_wp2
  go_ret
  exact ⟨rfl, Below.refl _ _⟩

/-- Where the record k begins. -/
def atR (low : Bool) (l : List Pkt) (k : Nat) : Nat := 24 + ((l.take k).flatMap (recB low)).length
theorem recB_len (low : Bool) (p : Pkt) : (recB low p).length = 16 + p.data.length := by
  unfold recB
  rw [List.length_append, len44]
theorem atR_zero (low : Bool) (l : List Pkt) : atR low l 0 = 24 := rfl
theorem atR_succ (low : Bool) (l : List Pkt) (k : Nat) (h : k < l.length) : atR low l (k + 1) = atR low l k + (16 + l[k].data.length) := by
  unfold atR
  rw [List.take_succ_eq_append_getElem h, List.flatMap_append, List.length_append]
  simp only [List.flatMap_cons, List.flatMap_nil, List.append_nil, recB_len]
  omega
theorem atR_mono (low : Bool) (l : List Pkt) {j k : Nat} (h : j ≤ k) : atR low l j ≤ atR low l k := by
  unfold atR
  have e : l.take j = (l.take k).take j := by rw [List.take_take, Nat.min_eq_left h]
  obtain ⟨r, hr⟩ : ∃ r, l.take k = l.take j ++ r := ⟨(l.take k).drop j, by rw [e, List.take_append_drop]⟩
  rw [hr, List.flatMap_append, List.length_append]
  omega
theorem atR_all (low : Bool) (l : List Pkt) : atR low l l.length = 24 + (l.flatMap (recB low)).length := by
  unfold atR; rw [List.take_length]
theorem atR_split (low : Bool) (l : List Pkt) (k : Nat) (h : k < l.length) : ∃ r, l.flatMap (recB low) = (l.take k).flatMap (recB low) ++ (recB low l[k] ++ r) := by
  refine ⟨(l.drop (k + 1)).flatMap (recB low), ?_⟩
  conv => lhs; rw [← List.take_append_drop k l, List.drop_eq_getElem_cons h]
  rw [List.flatMap_append, List.flatMap_cons]
theorem wholeR_ex (low : Bool) (l : List Pkt) (n : Nat) (h : 24 ≤ n) : ∃ k, k ≤ l.length ∧ atR low l k ≤ n ∧ ∀ _ : k < l.length, n < atR low l (k + 1) := by
  have key : ∀ m, m ≤ l.length → (∃ k, k ≤ m ∧ atR low l k ≤ n ∧ (k < m → n < atR low l (k + 1))) := by
    intro m
    induction m with
    | zero => intro _; exact ⟨0, Nat.le_refl _, by rw [atR_zero]; omega, fun h => by omega⟩
    | succ m ih =>
      intro hm
      obtain ⟨k, h1, h2, h3⟩ := ih (by omega)
      rcases Nat.lt_or_ge k m with hk | hk
      · exact ⟨k, by omega, h2, fun _ => h3 hk⟩
      · have e : k = m := by omega
        subst e
        rcases Nat.lt_or_ge n (atR low l (k + 1)) with h4 | h4
        · exact ⟨k, by omega, h2, fun _ => h4⟩
        · exact ⟨k + 1, by omega, h4, fun h => by omega⟩
  obtain ⟨k, h1, h2, h3⟩ := key l.length (Nat.le_refl _)
  exact ⟨k, h1, h2, h3⟩
theorem plain_form {c : Cap} (h : c = plainC c) : ∃ lk sn ps, c = ⟨noT, [⟨noT, lk, sn⟩], [], [], ps⟩ ∧ ∀ p ∈ ps, p.face = 0 ∧ p.note = noT := by
  refine ⟨c.faces.head?.map Fac.link |>.getD 0, c.faces.head?.map Fac.snap |>.getD 0, c.pkts, ?_, fun p hp => ?_⟩
  · have e : (plainC c).pkts = c.pkts := by rw [← h]
    rw [← e]
    exact h
  · rw [h] at hp
    obtain ⟨x, _, rfl⟩ := List.mem_map.1 hp
    exact ⟨rfl, rfl⟩
theorem kind_old (low : Bool) (n : Nat) (u : Bool → Nat) (h : 4 ≤ n) : kindR n (fun l => numL l (numB low 4 2712847316)) u = [.bool true, .bool low, .int .i64 0] := by
  have v1 : numL false (numB false 4 2712847316) = 2712847316 := by decide +kernel
  have v2 : numL false (numB true 4 2712847316) = 3569595041 := by decide +kernel
  have v3 : numL true (numB true 4 2712847316) = 2712847316 := by decide +kernel
  unfold kindR kindS
  cases low with
  | true => simp [v2, v3, h]
  | false => simp [v1, h]
theorem kind_short (n : Nat) (v u : Bool → Nat) (h : n < 4) : kindR n v u = [.bool false, .bool false, .int .i64 11] := by
  unfold kindR kindS
  rw [if_neg (by omega), if_neg (by omega)]
  simp only []
  rw [if_neg (by omega), if_neg (by omega)]
theorem old_len {c : Cap} (ho : Okay c) (low : Bool) : (oldFileB low c).length ≤ 131072 := by
  have a5 := flat_le (recB low) 416 c.pkts (fun p hp => by
    have := ho.pkts p hp
    rw [recB_len]; omega)
  have := Nat.mul_le_mul_right 416 ho.np
  unfold oldFileB
  rw [List.length_append, List.length_append, oldB_len, len42]
  omega
set_option maxHeartbeats 1000000 in
theorem readOld {w : World} {b0 C n : Nat} {low : Bool} {c : Cap} (he : errV c = 0) (hpl : c = plainC c) (hF : Pc w b0 0 (oldFileB low c)) (hb : b0 < w.heap.size) (hn : n ≤ (oldFileB low c).length) (hC : (oldFileB low c).length ≤ C) :
    (n < 24 ∧ Calls Try.prog 14 #[.slice (some ⟨b0, 0, none⟩) n C] w (ReadPost w false cap0 0)) ∨
    (24 ≤ n ∧ ∃ k, k ≤ c.pkts.length ∧ atR low c.pkts k ≤ n ∧ (∀ _ : k < c.pkts.length, n < atR low c.pkts (k + 1)) ∧
      Calls Try.prog 14 #[.slice (some ⟨b0, 0, none⟩) n C] w (ReadPost w true ⟨c.note, c.faces, c.names, c.secs, c.pkts.take k⟩ (n - atR low c.pkts k))) := by
  have ho := okay_of he
  have hlen := old_len ho low
  obtain ⟨lk, sn, ps, rfl, hps⟩ := plain_form hpl
  clear hpl he
  obtain ⟨lk', rfl⟩ := Int.eq_ofNat_of_zero_le (ho.faces _ (List.mem_singleton.2 rfl)).2.1
  obtain ⟨sn', rfl⟩ := Int.eq_ofNat_of_zero_le (ho.faces _ (List.mem_singleton.2 rfl)).2.2.2.1
  have hb1 := (ho.faces _ (List.mem_singleton.2 rfl)).2.2.1
  have hb2 := (ho.faces _ (List.mem_singleton.2 rfl)).2.2.2.2
  change (lk' : Int) ≤ 65535 at hb1
  change (sn' : Int) ≤ 400 at hb2
  have hpn := ho.np
  change ps.length ≤ 100 at hpn
  change Pc w b0 0 ((oldB low ++ numsB low 4 [sn', lk']) ++ ps.flatMap (recB low)) at hF
  have hfl : (oldFileB low ⟨noT, [⟨noT, (lk' : Int), (sn' : Int)⟩], [], [], ps⟩).length = 24 + (ps.flatMap (recB low)).length := by
    show ((oldB low ++ numsB low 4 [sn', lk']) ++ ps.flatMap (recB low)).length = _
    rw [List.length_append, List.length_append, oldB_len, len42]
  rw [hfl] at hn hC hlen
  show (n < 24 ∧ _) ∨ (24 ≤ n ∧ ∃ k, k ≤ ps.length ∧ atR low ps k ≤ n ∧ (∀ _ : k < ps.length, n < atR low ps (k + 1)) ∧
      Calls Try.prog 14 #[.slice (some ⟨b0, 0, none⟩) n C] w (ReadPost w true ⟨noT, [⟨noT, (lk' : Int), (sn' : Int)⟩], [], [], ps.take k⟩ (n - atR low ps k)))
  have hold : Pc w b0 0 (oldB low) := hF.left.left
  have hnums : Pc w b0 16 (numsB low 4 [sn', lk']) := by
    have := hF.left.right
    rw [oldB_len] at this
    exact this
  rw [numsB_cons, numsB_one] at hnums
  have hsnp : Pc w b0 16 (numB low 4 sn') := hnums.left
  have hlkp : Pc w b0 20 (numB low 4 lk') := by
    have := hnums.right
    rw [numB_len] at this
    exact this
  have hrecs : Pc w b0 24 (ps.flatMap (recB low)) := by
    have := hF.right
    rw [List.length_append, oldB_len, len42] at this
    exact this
  have hpc : ∀ i (h : i < ps.length), Pc w b0 (atR low ps i) (recB low ps[i]) := by
    intro i h
    obtain ⟨r, hr⟩ := atR_split low ps i h
    rw [hr] at hrecs
    exact hrecs.mid
  have hlens : ∀ i (h : i < ps.length) (w2 : World), Pc w2 b0 (atR low ps i) (recB low ps[i]) → Pc w2 b0 (atR low ps i + 8) (numB low 4 ps[i].data.length) := by
    intro i h w2 hp
    unfold recB at hp
    have h1 := hp.left
    rw [numsB_cons, numsB_cons, numsB_cons, numsB_one] at h1
    have h2 := h1.right.right.left
    rw [numB_len, numB_len] at h2
    exact h2
  have p0 : Pc w b0 0 (numB low 4 2712847316) := by
    have := hold
    unfold oldB at this
    rw [numsB_one] at this
    exact this.left
  have p8 : Pc w b0 8 (numB low 4 0) := by
    have := hold
    unfold oldB at this
    have := this.right.right
    rw [len4, len2, numsB_cons, numsB_one] at this
    exact this.left
  have hkind : ∀ w', Below w.heap.size w w' → Calls Try.prog 15 #[.slice (some ⟨b0, 0, none⟩) n C] w' fun e w2 => e = .returned (.tuple (kindR n (fun l => numL l (numB low 4 2712847316)) (fun l => numL l (numB low 4 0))).toArray) ∧ Below w'.heap.size w' w2 := by
    intro w' hw
    exact kind_any (fun l => numL l (numB low 4 2712847316)) (fun l => numL l (numB low 4 0)) (by omega) (by omega) (fun _ l w2 h2 => nums_at (numB_len low 4 _) p0 hb l w2 (hw.trans (h2.mono hw.size))) (fun _ l w2 h2 => nums_at (numB_len low 4 _) p8 hb l w2 (hw.trans (h2.mono hw.size)))
  rcases Nat.lt_or_ge n 4 with h4 | h4
  · left
    refine ⟨by omega, read_any (n := 0) (low := false) fun w' hw => parse_bad (by omega) fun w2 h2 => ?_⟩
    have := hkind w2 (hw.trans (h2.mono hw.size))
    rw [kind_short n _ _ h4] at this
    exact this
  have hkd : ∀ w', Below w.heap.size w w' → Calls Try.prog 15 #[.slice (some ⟨b0, 0, none⟩) n C] w' fun e w2 => e = .returned (.tuple #[.bool true, .bool low, .int .i64 0]) ∧ Below w'.heap.size w' w2 := by
    intro w' hw
    have := hkind w' hw
    rw [kind_old low n _ h4] at this
    exact this
  rcases Nat.lt_or_ge n 24 with h24 | h24
  · left
    refine ⟨h24, read_any (n := 0) (low := low) fun w' hw => parse_old (by omega) (fun w2 h2 => hkd w2 (hw.trans (h2.mono hw.size))) fun w2 R h2 hR hrd => ?_⟩
    exact (records_short h24).mono fun e w3 ⟨h3, h5⟩ => ⟨h3, ⟨_, _, _, _, hrd.below h5⟩, h5.mono (Nat.le_of_lt hrd.lt)⟩
  · right
    obtain ⟨k, hk, hkn, hk2⟩ := wholeR_ex low ps n h24
    refine ⟨h24, k, hk, hkn, hk2, read_any (n := k + 1) (low := low) fun w' hw => parse_old (by omega) (fun w2 h2 => hkd w2 (hw.trans (h2.mono hw.size))) fun w2 R h2 hR hrd => ?_⟩
    have hz := hw.size
    have hz2 := h2.size
    have hw2 : Below w.heap.size w w2 := hw.trans (h2.mono hz)
    have hpc2 : ∀ i (h : i < ps.length), Pc w2 b0 (atR low ps i) (recB low ps[i]) := fun i h => (hpc i h).below hw2 hb
    refine records_any low (w := w2) (R := R) (b := R) (n := k) (N := n) (C := C) (b0 := b0) (o := 0) (lk := lk') (sn := sn') (K := fun i => ⟨noT, [⟨noT, (lk' : Int), (sn' : Int)⟩], [], [], ps.take i⟩) (at_ := atR low ps) (len := fun i => (ps[i]?.map fun p => p.data.length).getD 0)
      hrd (by omega) (by omega) (by omega) h24 (by omega) (by omega) (by omega) rfl (atR_zero _ _) ?_ (hold.below hw2 hb) ((hsnp.below hw2 hb).at_ (by omega)) ((hlkp.below hw2 hb).at_ (by omega)) ?_ ?_ ?_ hkn
    · intro i hi
      have hil2 : i < ps.length := by omega
      simp only [List.getElem?_eq_getElem hil2, Option.map_some, Option.getD_some]
      exact ⟨atR_succ low ps i hil2, Nat.le_trans (atR_mono low ps hi) hkn⟩
    · intro i hi
      have hil2 : i < ps.length := by omega
      simp only [List.getElem?_eq_getElem hil2, Option.map_some, Option.getD_some, Nat.zero_add]
      exact hlens i hil2 w2 (hpc2 i hil2)
    · intro i hi w3 h3 q A cp xs hrd3
      have hil2 : i < ps.length := by omega
      have hb3 : b0 < R := by omega
      obtain ⟨f1, f2, f3, f4, f5, f6, f7, f8⟩ := ho.pkts _ (List.getElem_mem hil2 : ps[i] ∈ ps)
      obtain ⟨g1, g2⟩ := hps _ (List.getElem_mem hil2)
      simp only [List.getElem?_eq_getElem hil2, Option.map_some, Option.getD_some, Nat.zero_add]
      have h6 := atR_mono low ps (j := i + 1) (k := k) hi
      have h7 := atR_succ low ps i hil2
      have hh := rec_any low (o := atR low ps i) (cc := C - atR low ps i) (L := 16 + ps[i].data.length) hrd3 ((hpc2 i hil2).below h3 hb3) rfl (by omega) hb3 f2 (by omega) (by omega) (by show (ps.take i).length < 1000; rw [List.length_take]; omega)
      refine hh.mono fun e w4 ⟨h8, ⟨q', h9⟩, h10⟩ => ⟨h8, ⟨q', ?_⟩, h10⟩
      rw [Int.toNat_of_nonneg f5, Int.toNat_of_nonneg f7] at h9
      have e1 : ps.take (i + 1) = ps.take i ++ [⟨ps[i].time, 0, ps[i].real, ps[i].data, ⟨#[]⟩⟩] := by
        rw [List.take_succ_eq_append_getElem hil2]
        congr 2
        generalize ps[i] = p at g1 g2 ⊢
        obtain ⟨a, b, c, d, e⟩ := p
        change b = 0 at g1
        change e = noT at g2
        subst g1; subst g2; rfl
      rw [e1]
      exact h9
    · rcases Nat.lt_or_ge k ps.length with h | h
      · right
        have h3 := hk2 h
        have h4 := atR_succ low ps k h
        obtain ⟨f1, f2, _⟩ := ho.pkts _ (List.getElem_mem h : ps[k] ∈ ps)
        exact ⟨_, (hlens k h w2 (hpc2 k h)).at_ (by omega), by omega, by omega⟩
      · left
        have e : k = ps.length := by omega
        rw [e, atR_all]
        omega
end Go.Proofs.Ytlimkckomdipkaa
/- What Read answers of a file, of either kind, whose last bytes are gone. -/
namespace Go.Proofs.Ytlimkckomdipkaa
open Go.RowKit

def fileB (old low : Bool) (c : Cap) : List Nat := if old then oldFileB low c else blocksB low c
def headC (c : Cap) : Cap := ⟨c.note, c.faces, [], [], []⟩
theorem plain_of_form {lk sn : Int} {ps : List Pkt} (h : ∀ p ∈ ps, p.face = 0 ∧ p.note = noT) : (⟨noT, [⟨noT, lk, sn⟩], [], [], ps⟩ : Cap) = plainC ⟨noT, [⟨noT, lk, sn⟩], [], [], ps⟩ := by
  unfold plainC
  simp only [List.head?_cons, Option.map_some, Option.getD_some, Cap.mk.injEq, true_and]
  rw [List.filter_eq_self.2 (show ∀ p ∈ ps, keepP p = true from fun p hp => decide_eq_true (h p hp).1)]
  have e : ps.map plainP = ps.map id := List.map_congr_left fun p hp => by
    obtain ⟨h1, h2⟩ := h p hp
    obtain ⟨a, b, c, d, f⟩ := p
    change b = 0 at h1
    change f = noT at h2
    subst h1; subst h2; rfl
  rw [e, List.map_id]
theorem plain_take {c : Cap} (h : c = plainC c) (k : Nat) : (⟨c.note, c.faces, c.names, c.secs, c.pkts.take k⟩ : Cap) = plainC ⟨c.note, c.faces, c.names, c.secs, c.pkts.take k⟩ := by
  obtain ⟨lk, sn, ps, rfl, hps⟩ := plain_form h
  exact plain_of_form (fun p hp => hps p (List.mem_of_mem_take hp))
theorem plain_head {c : Cap} (h : c = plainC c) : headC c = plainC (headC c) := by
  obtain ⟨lk, sn, ps, rfl, hps⟩ := plain_form h
  exact plain_of_form (fun p hp => by cases hp)
theorem head_capX (c : Cap) : capX c (1 + c.faces.length) = headC c := by
  unfold capX headC
  rw [show 1 + c.faces.length - 1 = c.faces.length by omega, Nat.sub_self]
  simp
theorem errV_head {c : Cap} (h : errV c = 0) : errV (headC c) = 0 := by
  rw [← head_capX]
  exact errV_capX h (by have := (okay_of h).nf; omega)
theorem blocks_capX (low : Bool) (c : Cap) (k : Nat) (hk : 1 ≤ k) : (blocksB low (capX c k)).length = atI low (itsC c) k := by
  rw [blocksB_its, its_capX c k hk]; rfl
theorem take_len {α : Type} (l : List α) (j : Nat) : l.take j = l.take (l.take j).length := by
  rw [List.length_take]
  rcases Nat.le_total j l.length with h | h
  · rw [Nat.min_eq_left h]
  · rw [Nat.min_eq_right h, List.take_length, List.take_of_length_le h]

/-- What the capture d, read of a file whose last bytes are gone, and T torn bytes are to the capture c. -/
structure Begun (old low : Bool) (c d : Cap) (n T : Nat) : Prop where
  err : errV d = 0
  same : d = beginC d c
  names : d.names.length ≤ c.names.length
  secs : d.secs.length ≤ c.secs.length
  pkts : d.pkts.length ≤ c.pkts.length
  ns : d.names.length < c.names.length → d.secs.length = 0
  sp : d.secs.length < c.secs.length → d.pkts.length = 0
  len : (fileB old low d).length + T = n
  plain : old = true → d = plainC d

theorem readCut (old low : Bool) {w : World} {b0 C n : Nat} {c : Cap} (he : errV c = 0) (hpl : old = true → c = plainC c) (hF : Pc w b0 0 (fileB old low c)) (hb : b0 < w.heap.size) (hn : n ≤ (fileB old low c).length) (hC : (fileB old low c).length ≤ C) :
    ∃ (ok : Bool) (d : Cap) (T : Nat), Calls Try.prog 14 #[.slice (some ⟨b0, 0, none⟩) n C] w (ReadPost w ok d T) ∧
      (n < (fileB old low (headC c)).length → ok = true → errV d = 0 → 1 ≤ d.faces.length ∧ d.faces.length < c.faces.length ∧ d.pkts.length = 0) ∧
      ((fileB old low (headC c)).length ≤ n → ok = true ∧ Begun old low c d n T) ∧
      (n = (fileB old low c).length → ok = true ∧ d = c ∧ T = 0) := by
  have ho := okay_of he
  cases old with
  | true =>
    have hpl := hpl rfl
    have hh : (fileB true low (headC c)).length = 24 := by
      show ((oldB low ++ numsB low 4 _) ++ [].flatMap (recB low)).length = 24
      rw [List.length_append, List.length_append, oldB_len, len42]; rfl
    have hf : (fileB true low c).length = atR low c.pkts c.pkts.length := by
      rw [atR_all]
      show ((oldB low ++ numsB low 4 _) ++ _).length = _
      rw [List.length_append, List.length_append, oldB_len, len42]
    rw [hh]
    rcases readOld he hpl hF hb hn hC with ⟨h1, h2⟩ | ⟨h1, k, hk, hkn, hk2, h2⟩
    · refine ⟨false, cap0, 0, h2, fun _ h => (by cases h), fun h => by omega, fun h => ?_⟩
      rw [hf] at h
      have := atR_mono low c.pkts (j := 0) (k := c.pkts.length) (Nat.zero_le _)
      rw [atR_zero] at this
      omega
    · refine ⟨true, _, _, h2, fun h => by omega, fun _ => ⟨rfl, ?_⟩, fun h => ⟨rfl, ?_⟩⟩
      · have hln : (c.pkts.take k).length ≤ c.pkts.length := by rw [List.length_take]; omega
        refine ⟨errV_sub he rfl ⟨c.faces.length, by have := ho.nf; omega, by simp⟩ ⟨c.names.length, by simp⟩ ⟨c.secs.length, by simp⟩ ⟨k, rfl⟩ (Or.inl rfl), ?_, Nat.le_refl _, Nat.le_refl _, hln, fun h => absurd h (Nat.lt_irrefl _), fun h => absurd h (Nat.lt_irrefl _), ?_, fun _ => plain_take hpl k⟩
        · unfold beginC
          simp only [List.take_length, ← take_len]
        · have e : (fileB true low (⟨c.note, c.faces, c.names, c.secs, c.pkts.take k⟩ : Cap)).length = atR low c.pkts k := by
            show ((oldB low ++ numsB low 4 _) ++ (c.pkts.take k).flatMap (recB low)).length = _
            rw [List.length_append, List.length_append, oldB_len, len42]; rfl
          rw [e]; omega
      · rw [hf] at h
        have hkl : k = c.pkts.length := by
          rcases Nat.lt_or_ge k c.pkts.length with h3 | h3
          · have h4 := hk2 h3
            have h5 := atR_mono low c.pkts (j := k + 1) (k := c.pkts.length) h3
            omega
          · omega
        subst hkl
        rw [List.take_length, h]
        exact ⟨rfl, Nat.sub_self _⟩
  | false =>
    obtain ⟨k, hk, hkn, hk2, h2⟩ := readNew he hF hb hn hC
    have hil := its_len c
    have hnf := ho.nf
    have hh : (fileB false low (headC c)).length = atI low (itsC c) (1 + c.faces.length) := by
      rw [← head_capX]
      exact blocks_capX low c _ (by omega)
    have hf : (fileB false low c).length = atI low (itsC c) (itsC c).length := by
      rw [atI_all]
      show (blocksB low c).length = _
      rw [blocksB_its]
    rw [hh]
    refine ⟨_, _, _, h2, fun h h3 h4 => ?_, fun h => ?_, fun h => ?_⟩
    · have h5 := of_decide_eq_true h3
      have h6 : k < 1 + c.faces.length := by
        rcases Nat.lt_or_ge k (1 + c.faces.length) with h7 | h7
        · exact h7
        · have := atI_mono low (itsC c) h7; omega
      rw [capK_eq c k h5] at h4 ⊢
      have h7 : 2 ≤ k := by
        rcases Nat.lt_or_ge k 2 with h8 | h8
        · exfalso
          refine errV_none ?_ h4
          show c.faces.take (k - 1) = []
          rw [show k - 1 = 0 by omega]; rfl
        · exact h8
      unfold capX
      simp only [List.length_take]
      omega
    · have h6 : 1 + c.faces.length ≤ k := by
        rcases Nat.lt_or_ge k (1 + c.faces.length) with h7 | h7
        · have h8 := hk2 (by omega)
          have := atI_mono low (itsC c) (j := k + 1) (k := 1 + c.faces.length) h7
          omega
        · exact h7
      refine ⟨decide_eq_true (by omega), ?_⟩
      rw [capK_eq c k (by omega)]
      refine ⟨errV_capX he (by omega), ?_, ?_, ?_, ?_, ?_, ?_, ?_, fun h => by cases h⟩
      · unfold beginC capX
        simp only [← take_len]
        rw [List.take_of_length_le (by omega)]
      · unfold capX; simp only [List.length_take]; omega
      · unfold capX; simp only [List.length_take]; omega
      · unfold capX; simp only [List.length_take]; omega
      · unfold capX; simp only [List.length_take]; omega
      · unfold capX; simp only [List.length_take]; omega
      · have : (fileB false low (capX c k)).length = atI low (itsC c) k := blocks_capX low c k (by omega)
        rw [this]; omega
    · rw [hf] at h
      have hkl : k = (itsC c).length := by
        rcases Nat.lt_or_ge k (itsC c).length with h3 | h3
        · have h4 := hk2 h3
          have h5 := atI_mono low (itsC c) (j := k + 1) (k := (itsC c).length) h3
          omega
        · omega
      subst hkl
      refine ⟨decide_eq_true (by omega), ?_, by omega⟩
      unfold capK
      rw [List.take_length, capL_its]

theorem fileB_pos (old low : Bool) (c : Cap) : 24 ≤ (fileB old low c).length := by
  cases old with
  | true =>
    show 24 ≤ ((oldB low ++ numsB low 4 _) ++ _).length
    rw [List.length_append, List.length_append, oldB_len, len42]; omega
  | false =>
    show 24 ≤ (blocksB low c).length
    rw [blocksB_its]
    have h1 := atI_mono low (itsC c) (j := 1) (k := (itsC c).length) (by have := its_len c; omega)
    have h2 : atI low (itsC c) 1 = _ := atI_succ low (itsC c) 0 (by have := its_len c; omega)
    rw [atI_zero, its_zero] at h2
    rw [atI_all] at h1
    have h3 : 16 ≤ lenI low (.sect c.note) := by
      unfold lenI
      show 16 ≤ ((secH low ++ optB low 1 16 c.note) ++ _).length
      rw [List.length_append, List.length_append, secH_len]; omega
    omega
theorem writeR_ok {old low : Bool} {c : Cap} (he : errV c = 0) (hp : old = true → c = plainC c) : writeR old low c = (fileB old low c, 0) := by
  unfold writeR fileB
  rw [if_pos he]
  cases old with
  | true => simp only [if_true]; rw [if_pos (eqB_true (hp rfl))]
  | false => rfl
theorem writeR_bad {old low : Bool} {c : Cap} (h : ¬ (errV c = 0 ∧ (old = true → c = plainC c))) : ∃ E : Int, ¬ E = 0 ∧ writeR old low c = ([], E) := by
  unfold writeR
  by_cases he : errV c = 0
  · rw [if_pos he]
    cases old with
    | true =>
      simp only [if_true]
      rw [if_neg (fun e => h ⟨he, fun _ => eqB_iff.1 e⟩)]
      exact ⟨10, by decide, rfl⟩
    | false => exact absurd ⟨he, fun h => by cases h⟩ h
  · rw [if_neg he]
    exact ⟨_, he, rfl⟩
end Go.Proofs.Ytlimkckomdipkaa
