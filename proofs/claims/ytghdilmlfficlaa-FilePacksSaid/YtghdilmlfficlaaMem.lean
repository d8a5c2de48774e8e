/- Plain data: captures, and which of them are valid. Nothing of the program is named here. -/
import Derived.RowKit
import Derived.Lib.Hide
import Derived.Test.YtghdilmlfficlaaProg
import Derived.WalkKit
import Derived.WalkSpells
import Derived.WalkLawsBesides
import Derived.Outline
import Derived.Below
import Derived.Laws.OwnMore
import Derived.Laws.BytesArg
import Derived.Lib.SmallJoins
import Derived.Deep.QuietTactic
import Derived.BigQuiet
import Derived.Deep.RegionHeld3
namespace Go.Proofs.Ytghdilmlfficlaa
open Go.RowKit

structure Fac where
  name : ByteArray
  link : Int
  snap : Int
structure Nam where
  addr : List Nat
  text : ByteArray
structure Sec where
  label : ByteArray
  key : List Nat
structure Pkt where
  time : Int
  face : Int
  real : Int
  data : List Nat
  note : ByteArray
structure Cap where
  note : ByteArray
  faces : List Fac
  names : List Nam
  secs : List Sec
  pkts : List Pkt

def charB (x : UInt8) : Bool := decide (32 ≤ (x.toNat : Int) ∧ (x.toNat : Int) ≤ 126)
def textB (s : ByteArray) : Bool := decide (s.size ≤ 200) && s.data.toList.all charB
def within (n a b : Int) : Bool := decide (a ≤ n ∧ n ≤ b)
def facB (f : Fac) : Bool := textB f.name && (within f.link 0 65535 && within f.snap 0 400)
def namB (x : Nam) : Bool := textB x.text && within x.addr.length 1 16
def secB (x : Sec) : Bool := textB x.label && (decide (0 < x.label.size) && within x.key.length 1 200)
/-- A packet at an interface with such a snap. -/
def pktS (snap : Int) (p : Pkt) : Bool := textB p.note && (within p.time 0 1000000000000000 && (decide ((p.data.length : Int) ≤ 400 ∧ (snap = 0 ∨ (p.data.length : Int) ≤ snap)) && within p.real p.data.length 1000000))
def pktB (fs : List Fac) (p : Pkt) : Bool := within p.face 0 ((fs.length : Int) - 1) && pktS (fs[p.face.toNat]?.map Fac.snap |>.getD 0) p
def partsB (c : Cap) : Bool := c.faces.all facB && (c.names.all namB && (c.secs.all secB && c.pkts.all (pktB c.faces)))
def capB (c : Cap) : Bool := (decide (0 < c.faces.length) && textB c.note) && partsB c
def hugeB (c : Cap) : Bool := decide (4 < c.faces.length ∨ 60 < c.names.length ∨ 60 < c.secs.length ∨ 100 < c.pkts.length)
def errV (c : Cap) : Int := if hugeB c then 3 else if capB c then 0 else 1

/-! ### Lists asked one by one -/
theorem all_take_succ {α : Type} (xs : List α) (p : α → Bool) (k : Nat) (h : k < xs.length) : (xs.take (k + 1)).all p = ((xs.take k).all p && p xs[k]) := by
  rw [List.take_succ_eq_append_getElem h, List.all_append]; simp
theorem all_false {α : Type} (xs : List α) (p : α → Bool) (k : Nat) (h : k < xs.length) (hp : p xs[k] = false) : xs.all p = false := by
  rw [List.all_eq_false]; exact ⟨xs[k], List.getElem_mem h, by simp [hp]⟩
theorem all_whole {α : Type} (xs : List α) (p : α → Bool) (k : Nat) (h : xs.length ≤ k) : (xs.take k).all p = xs.all p := by rw [List.take_of_length_le h]

theorem within_iff (n a b : Int) : within n a b = true ↔ a ≤ n ∧ n ≤ b := by simp [within]
theorem textB_size {s : ByteArray} (h : textB s = true) : s.size ≤ 200 := by
  simp only [textB, Bool.and_eq_true, decide_eq_true_eq] at h; exact h.1
end Go.Proofs.Ytghdilmlfficlaa
/- Bytes, lists of structs and captures in memory. -/
namespace Go.Proofs.Ytghdilmlfficlaa
open Go.RowKit

theorem ret_int {k : IntKind} {a b : Int} (h : a = b) : Ending.returned (.int k a) = .returned (.int k b) := by rw [h]
theorem ret_bool {a b : Bool} (h : a = b) : Ending.returned (.bool a) = .returned (.bool b) := by rw [h]

/-- The byte at a place; 0 where there is none. -/
def at8 (bs : List Nat) (k : Nat) : Nat := bs[k]?.getD 0
theorem at8_eq (bs : List Nat) (k : Nat) (h : k < bs.length) : at8 bs k = bs[k] := by simp [at8, h]
theorem at8_out (bs : List Nat) (k : Nat) (h : bs.length ≤ k) : at8 bs k = 0 := by simp [at8, List.getElem?_eq_none h]
theorem at8_lt {bs : List Nat} (h : ∀ x ∈ bs, x < 256) (k : Nat) : at8 bs k < 256 := by
  by_cases hk : k < bs.length
  · rw [at8_eq bs k hk]; exact h _ (List.getElem_mem hk)
  · rw [at8_out bs k (by omega)]; omega
def u8 (x : Nat) : Value := .int .u8 (x : Int)

/-- The slice that begins at A reads, in w, as the bytes bs, and lies below block B. -/
structure Byt (w : World) (B : Nat) (A : Option Addr) (bs : List Nat) : Prop where
  lt : ∀ x ∈ bs, x < 256
  cells : 0 < bs.length → ∃ b o, A = some ⟨b, o, none⟩ ∧ b < B ∧ ∀ k, k < bs.length → w.cell? ⟨b, o + k, none⟩ = some (.int .u8 (at8 bs k : Nat))
section
variable {w w' : World} {B B' : Nat} {A : Option Addr} {bs : List Nat}
theorem Byt.nil (w : World) (B : Nat) (A : Option Addr) : Byt w B A [] := ⟨by simp, by simp⟩
theorem Byt.more (h : Byt w B A bs) (hB : B ≤ B') : Byt w B' A bs :=
  ⟨h.lt, fun hn => by obtain ⟨b, o, e, hb, hc⟩ := h.cells hn; exact ⟨b, o, e, by omega, hc⟩⟩
theorem Byt.keep (h : Byt w B A bs) (hk : ∀ b o, b < B → w'.cell? ⟨b, o, none⟩ = w.cell? ⟨b, o, none⟩) : Byt w' B A bs :=
  ⟨h.lt, fun hn => by obtain ⟨b, o, e, hb, hc⟩ := h.cells hn; exact ⟨b, o, e, hb, fun k hk' => (hk _ _ hb).trans (hc k hk')⟩⟩
theorem Byt.below (h : Byt w B A bs) (hb : Below B w w') : Byt w' B A bs := h.keep fun b o hp => hb.cell (p := ⟨b, o, none⟩) hp
theorem Byt.alloc (h : Byt w B A bs) (hB : B ≤ w.heap.size) (o : Obj) : Byt (w.alloc o) B A bs := h.below ((Below.refl _ _).alloc hB o)
theorem Byt.drewN (h : Byt w B A bs) (n : Nat) : Byt (w.drewN n) B A bs := h.keep fun _ _ _ => rfl
end

/-- A slice of bytes with its capacity: nil has none. -/
structure Byc (w : World) (B : Nat) (A : Option Addr) (bs : List Nat) (c : Nat) : Prop where
  byt : Byt w B A bs
  le : bs.length ≤ c
  cap : bs.length ≤ 140737488355328
  nil : A = none → c = 0
section
variable {w w' : World} {B B' c : Nat} {A : Option Addr} {bs : List Nat}
theorem Byc.below (h : Byc w B A bs c) (hb : Below B w w') : Byc w' B A bs c := ⟨h.byt.below hb, h.le, h.cap, h.nil⟩
theorem Byc.more (h : Byc w B A bs c) (hB : B ≤ B') : Byc w B' A bs c := ⟨h.byt.more hB, h.le, h.cap, h.nil⟩
end

def FacE (f : Fac) (_ : World) (_ : Nat) (vs : List Value) : Prop :=
  vs = [.string f.name, .int .i64 f.link, .int .i64 f.snap] ∧ f.name.size ≤ 140737488355328 ∧ (-9223372036854775808 ≤ f.link ∧ f.link ≤ 9223372036854775807) ∧ (-9223372036854775808 ≤ f.snap ∧ f.snap ≤ 9223372036854775807)
def NamE (x : Nam) (w : World) (B : Nat) (vs : List Value) : Prop :=
  ∃ A c, vs = [.slice A x.addr.length c, .string x.text] ∧ Byc w B A x.addr c ∧ x.text.size ≤ 140737488355328
def SecE (x : Sec) (w : World) (B : Nat) (vs : List Value) : Prop :=
  ∃ A c, vs = [.string x.label, .slice A x.key.length c] ∧ Byc w B A x.key c ∧ x.label.size ≤ 140737488355328
def PktE (p : Pkt) (w : World) (B : Nat) (vs : List Value) : Prop :=
  ∃ A c, vs = [.int .i64 p.time, .int .i64 p.face, .int .i64 p.real, .slice A p.data.length c, .string p.note] ∧ Byc w B A p.data c ∧ p.note.size ≤ 140737488355328 ∧
    (-9223372036854775808 ≤ p.time ∧ p.time ≤ 9223372036854775807) ∧ (-9223372036854775808 ≤ p.face ∧ p.face ≤ 9223372036854775807) ∧ (-9223372036854775808 ≤ p.real ∧ p.real ≤ 9223372036854775807)

/-- The slice that begins at A reads as rows of k cells each, row i being xs[i] by E, and lies below block B. -/
def Els {α : Type} (k : Nat) (E : α → World → Nat → List Value → Prop) (w : World) (B : Nat) (A : Option Addr) (xs : List α) : Prop :=
  0 < xs.length → ∃ b o, A = some ⟨b, o, none⟩ ∧ b < B ∧ ∀ i (h : i < xs.length), ∃ vs : List Value, vs.length = k ∧ E xs[i] w B vs ∧ ∀ j v, vs[j]? = some v → w.cell? ⟨b, o + (i * k + j), none⟩ = some v
/-- What an E must do to be kept. -/
def Kept {α : Type} (E : α → World → Nat → List Value → Prop) : Prop := ∀ x w w' B B' vs, E x w B vs → Below B w w' → B ≤ B' → E x w' B' vs
theorem facK : Kept FacE := fun _ _ _ _ _ _ h _ _ => h
theorem namK : Kept NamE := fun _ _ _ _ _ _ ⟨A, c, e, h, r⟩ hb hB => ⟨A, c, e, (h.below hb).more hB, r⟩
theorem secK : Kept SecE := fun _ _ _ _ _ _ ⟨A, c, e, h, r⟩ hb hB => ⟨A, c, e, (h.below hb).more hB, r⟩
theorem pktK : Kept PktE := fun _ _ _ _ _ _ ⟨A, c, e, h, r⟩ hb hB => ⟨A, c, e, (h.below hb).more hB, r⟩
theorem Els.keep {α : Type} {k : Nat} {E : α → World → Nat → List Value → Prop} (hE : Kept E) {w w' : World} {B B' : Nat} {A : Option Addr} {xs : List α} (h : Els k E w B A xs) (hb : Below B w w') (hB : B ≤ B') : Els k E w' B' A xs := by
  intro hn
  obtain ⟨b, o, e, hlt, hi⟩ := h hn
  refine ⟨b, o, e, by omega, fun i hx => ?_⟩
  obtain ⟨vs, hl, he, hc⟩ := hi i hx
  exact ⟨vs, hl, hE _ _ _ _ _ _ he hb hB, fun j v hv => (hb.cell (p := ⟨b, o + (i * k + j), none⟩) hlt).trans (hc j v hv)⟩
theorem Els.nil {α : Type} (k : Nat) (E : α → World → Nat → List Value → Prop) (w : World) (B : Nat) (A : Option Addr) : Els k E w B A [] := by intro h; simp at h

/-- Where the four lists of a capture begin, and their capacities. -/
structure Pl where
  pf : Option Addr
  cf : Nat
  pn : Option Addr
  cn : Nat
  ps : Option Addr
  cs : Nat
  pp : Option Addr
  cp : Nat
/-- A capture as a value. -/
abbrev capV (p : Pl) (c : Cap) : Value := .agg #[.string c.note, .slice p.pf c.faces.length p.cf, .slice p.pn c.names.length p.cn, .slice p.ps c.secs.length p.cs, .slice p.pp c.pkts.length p.cp]
/-- The capture c lies at the places p, below block B. -/
structure CapM (w : World) (B : Nat) (p : Pl) (c : Cap) : Prop where
  note : c.note.size ≤ 140737488355328
  faces : Els 3 FacE w B p.pf c.faces
  names : Els 2 NamE w B p.pn c.names
  secs : Els 2 SecE w B p.ps c.secs
  pkts : Els 5 PktE w B p.pp c.pkts
  lf : c.faces.length ≤ p.cf ∧ c.faces.length * 32 ≤ 140737488355328 ∧ (p.pf = none → p.cf = 0)
  ln : c.names.length ≤ p.cn ∧ c.names.length * 40 ≤ 140737488355328 ∧ (p.pn = none → p.cn = 0)
  ls : c.secs.length ≤ p.cs ∧ c.secs.length * 40 ≤ 140737488355328 ∧ (p.ps = none → p.cs = 0)
  lp : c.pkts.length ≤ p.cp ∧ c.pkts.length * 64 ≤ 140737488355328 ∧ (p.pp = none → p.cp = 0)
theorem CapM.keep {w w' : World} {B B' : Nat} {p : Pl} {c : Cap} (h : CapM w B p c) (hb : Below B w w') (hB : B ≤ B') : CapM w' B' p c :=
  ⟨h.note, h.faces.keep facK hb hB, h.names.keep namK hb hB, h.secs.keep secK hb hB, h.pkts.keep pktK hb hB, h.lf, h.ln, h.ls, h.lp⟩
theorem below_drewN {B : Nat} {a w : World} (h : Below B a w) (n : Nat) : Below B a (w.drewN n) := ⟨h.os, h.tape, h.output, h.size, h.block⟩
/-! ### A block that is known whole -/
def Blk (w : World) (g : Nat) (t : TypeId) (cs : Array Value) : Prop := w.heap[g]? = some (.cells cs t (0, 0))
section
variable {w w' : World} {g : Nat} {t : TypeId} {cs : Array Value}
theorem Blk.lt (h : Blk w g t cs) : g < w.heap.size := by
  rcases Nat.lt_or_ge g w.heap.size with hlt | hge
  · exact hlt
  · unfold Blk at h; rw [Array.getElem?_eq_none hge] at h; cases h
theorem Blk.cell (h : Blk w g t cs) (i : Nat) : w.cell? ⟨g, i, none⟩ = cs[i]? := cell_of_row w g i cs t (0, 0) h
theorem Blk.frozen (h : Blk w g t cs) (i : Nat) : w.frozen? ⟨g, i, none⟩ = false := by
  unfold Blk at h
  simp [World.frozen?, h]
theorem Blk.new (w : World) (t : TypeId) (cs : Array Value) : Blk (w.alloc (.cells cs t)) w.heap.size t cs := heap_alloc_new w _
theorem Blk.drewN (h : Blk w g t cs) (n : Nat) : Blk (w.drewN n) g t cs := h
theorem Blk.alloc (h : Blk w g t cs) (o : Obj) : Blk (w.alloc o) g t cs := (Below.heap_alloc w o g h.lt).trans h
theorem Blk.set_ (h : Blk w g t cs) (i : Nat) (u : Value) : Blk (w.setCell ⟨g, i, none⟩ u) g t (cs.setIfInBounds i u) := by
  unfold Blk at h ⊢
  simp [World.setCell, Array.getElem?_modify, h]
theorem Blk.far (h : Blk w g t cs) {p : Addr} (hp : g ≠ p.block) (u : Value) : Blk (w.setCell p u) g t cs := (Below.heap_setCell w p u g hp).trans h
theorem Blk.below {B : Nat} (h : Blk w g t cs) (hb : Below B w w') (hg : g < B) : Blk w' g t cs := (hb.block g hg).trans h
theorem Blk.grown {row : Option Nat} (h : Blk w g t cs) (hb : w.grownBy w' row) (hg : some g ≠ row) : Blk w' g t cs := (hb.block g h.lt hg).trans h
end
theorem bcell {W w1 : World} (hb : Below W.heap.size W w1) : (∀ b o, b < W.heap.size → w1.cell? ⟨b, o, none⟩ = W.cell? ⟨b, o, none⟩) ∧ (∀ b o, b < W.heap.size → w1.frozen? ⟨b, o, none⟩ = W.frozen? ⟨b, o, none⟩) :=
  ⟨fun b o h => hb.cell (p := ⟨b, o, none⟩) h, fun b o h => hb.frozen (p := ⟨b, o, none⟩) h⟩
theorem alloc_size (w : World) (o : Obj) : (w.alloc o).heap.size = w.heap.size + 1 := by
  show (w.heap.push _).size = _
  rw [Array.size_push]
theorem round_keep {B : Nat} {w wr w1 : World} {t : TypeId} {cs : Array Value} {o : Obj} (h : Blk wr B t cs ∧ Below B w wr) (hB : Below (wr.alloc o).heap.size (wr.alloc o) w1) : Blk w1 B t cs ∧ Below B w w1 := by
  have h1 := h.1.lt
  refine ⟨(h.1.alloc o).below hB (by rw [alloc_size]; omega), h.2.trans (((Below.refl B wr).alloc (by omega) o).trans (hB.mono (by rw [alloc_size]; omega)))⟩
theorem round_alloc {B : Nat} {w wr : World} {t : TypeId} {cs : Array Value} (h : Blk wr B t cs ∧ Below B w wr) (o : Obj) : Blk (wr.alloc o) B t cs ∧ Below B w (wr.alloc o) :=
  ⟨h.1.alloc o, h.2.alloc (by have := h.1.lt; omega) o⟩
/-- The cells of a row. -/
theorem Els.row {α : Type} {k : Nat} {E : α → World → Nat → List Value → Prop} {w : World} {B : Nat} {A : Option Addr} {xs : List α} (h : Els k E w B A xs) (i : Nat) (hi : i < xs.length) :
    ∃ b o, A = some ⟨b, o, none⟩ ∧ b < B ∧ ∃ vs : List Value, vs.length = k ∧ E xs[i] w B vs ∧ ∀ j v, vs[j]? = some v → w.cell? ⟨b, o + i * k + j, none⟩ = some v := by
  obtain ⟨b, o, e, hb, hc⟩ := h (by omega)
  obtain ⟨vs, hl, he, hv⟩ := hc i hi
  exact ⟨b, o, e, hb, vs, hl, he, fun j v hj => by rw [Nat.add_assoc]; exact hv j v hj⟩
end Go.Proofs.Ytghdilmlfficlaa
/- A move of a walk over a drawn region, said shortly. -/
namespace Go.Proofs.Ytghdilmlfficlaa
open Go.RowKit

/-- Number i is taken first. -/
theorem tk {P : Program} {ops : Array Oper} {Q : Exit → Act → World → Prop} {md : Region.Mode} {S : World → Prop} (i : Nat) {oi : Oper} {v : Value} {fuel : Nat} {listed : Array Bool} {a : Act} {w : World}
    (h : wpAnyH P md ops Q S fuel (listed.setIfInBounds i true) (a.put oi.dst v) w) (hi : ops[i]? = some oi := by rfl)
    (hb : (Region.noSelect ops && (Region.free md ops listed i && (Region.ready md ops listed).contains i)) = true := by kernel_rfl) (hg : Region.wanted oi (yielded ops a.tmps) = true := by rfl)
    (hy : ∀ w, S w → (execOp a.eval oi).run P w = .ok (.value v) w := by intro w hSw; (try dsimp only at hSw); go_simp; try with_reducible rfl) (hS : S w := by assumption)
    (hQ : ∀ c a w, Q (.panic c) (a.put oi.dst v) w → Q (.panic c) a w := by exact fun _ _ _ h => h) : wpAnyH P md ops Q S (fuel + 1) listed a w := by
  rw [Bool.and_eq_true, Bool.and_eq_true] at hb
  exact wpAnyH_take hi hb.1 hb.2.1 hb.2.2 hQ (Or.inl ⟨hg, hy⟩) hS h
/-- What an operation leaves among the temporaries. -/
theorem putL (l : List Value) (n : Nat) (v : Value) (d : List Deferred) : Act.put { tmps := l.toArray, defers := d } (some n) v = { tmps := (l.set n v).toArray, defers := d } := by
  simp [Act.put]
end Go.Proofs.Ytghdilmlfficlaa
