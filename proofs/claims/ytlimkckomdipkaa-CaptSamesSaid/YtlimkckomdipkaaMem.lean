/- Bytes, lists of structs and captures in memory. -/
import Derived.Test.YtlimkckomdipkaaProg
import Derived.Test.YtlimkckomdipkaaMath
import Derived.WalkKit
import Derived.WalkSpells
import Derived.WalkLawsBesides
import Derived.Outline
import Derived.Below
import Derived.Laws.OwnMore
import Derived.Laws.BytesArg
import Derived.Lib.SmallJoins
import Derived.Deep.QuietTactic
import Derived.BigQuiet
namespace Go.Proofs.Ytlimkckomdipkaa
open Go.RowKit

theorem ret_int {k : IntKind} {a b : Int} (h : a = b) : Ending.returned (.int k a) = .returned (.int k b) := by rw [h]
theorem ret_bool {a b : Bool} (h : a = b) : Ending.returned (.bool a) = .returned (.bool b) := by rw [h]

/-- The byte at a place; 0 where there is none. -/
def at8 (bs : List Nat) (k : Nat) : Nat := bs[k]?.getD 0
theorem at8_eq (bs : List Nat) (k : Nat) (h : k < bs.length) : at8 bs k = bs[k] := by simp [at8, h]
theorem at8_out (bs : List Nat) (k : Nat) (h : bs.length ≤ k) : at8 bs k = 0 := by simp [at8, List.getElem?_eq_none h]
theorem at8_lt {bs : List Nat} (h : ∀ x ∈ bs, x < 256) (k : Nat) : at8 bs k < 256 := by
  by_cases hk : k < bs.length
  · rw [at8_eq bs k hk]; exact h _ (List.getElem_mem hk)
  · rw [at8_out bs k (by omega)]; omega
def u8 (x : Nat) : Value := .int .u8 (x : Int)

/-- The slice that begins at A reads, in w, as the bytes bs, and lies below block B. -/
structure Byt (w : World) (B : Nat) (A : Option Addr) (bs : List Nat) : Prop where
  lt : ∀ x ∈ bs, x < 256
  cells : 0 < bs.length → ∃ b o, A = some ⟨b, o, none⟩ ∧ b < B ∧ ∀ k, k < bs.length → w.cell? ⟨b, o + k, none⟩ = some (.int .u8 (at8 bs k : Nat))
section
variable {w w' : World} {B B' : Nat} {A : Option Addr} {bs : List Nat}
theorem Byt.nil (w : World) (B : Nat) (A : Option Addr) : Byt w B A [] := ⟨by simp, by simp⟩
theorem Byt.more (h : Byt w B A bs) (hB : B ≤ B') : Byt w B' A bs :=
  ⟨h.lt, fun hn => by obtain ⟨b, o, e, hb, hc⟩ := h.cells hn; exact ⟨b, o, e, by omega, hc⟩⟩
theorem Byt.keep (h : Byt w B A bs) (hk : ∀ b o, b < B → w'.cell? ⟨b, o, none⟩ = w.cell? ⟨b, o, none⟩) : Byt w' B A bs :=
  ⟨h.lt, fun hn => by obtain ⟨b, o, e, hb, hc⟩ := h.cells hn; exact ⟨b, o, e, hb, fun k hk' => (hk _ _ hb).trans (hc k hk')⟩⟩
theorem Byt.below (h : Byt w B A bs) (hb : Below B w w') : Byt w' B A bs := h.keep fun b o hp => hb.cell (p := ⟨b, o, none⟩) hp
theorem Byt.alloc (h : Byt w B A bs) (hB : B ≤ w.heap.size) (o : Obj) : Byt (w.alloc o) B A bs := h.below ((Below.refl _ _).alloc hB o)
theorem Byt.drewN (h : Byt w B A bs) (n : Nat) : Byt (w.drewN n) B A bs := h.keep fun _ _ _ => rfl
end

/-- A slice of bytes with its capacity: nil has none. -/
structure Byc (w : World) (B : Nat) (A : Option Addr) (bs : List Nat) (c : Nat) : Prop where
  byt : Byt w B A bs
  le : bs.length ≤ c
  cap : bs.length ≤ 140737488355328
  nil : A = none → c = 0
section
variable {w w' : World} {B B' c : Nat} {A : Option Addr} {bs : List Nat}
theorem Byc.below (h : Byc w B A bs c) (hb : Below B w w') : Byc w' B A bs c := ⟨h.byt.below hb, h.le, h.cap, h.nil⟩
theorem Byc.more (h : Byc w B A bs c) (hB : B ≤ B') : Byc w B' A bs c := ⟨h.byt.more hB, h.le, h.cap, h.nil⟩
end

def FacE (f : Fac) (_ : World) (_ : Nat) (vs : List Value) : Prop :=
  vs = [.string f.name, .int .i64 f.link, .int .i64 f.snap] ∧ f.name.size ≤ 140737488355328 ∧ (-9223372036854775808 ≤ f.link ∧ f.link ≤ 9223372036854775807) ∧ (-9223372036854775808 ≤ f.snap ∧ f.snap ≤ 9223372036854775807)
def NamE (x : Nam) (w : World) (B : Nat) (vs : List Value) : Prop :=
  ∃ A c, vs = [.slice A x.addr.length c, .string x.text] ∧ Byc w B A x.addr c ∧ x.text.size ≤ 140737488355328
def SecE (x : Sec) (w : World) (B : Nat) (vs : List Value) : Prop :=
  ∃ A c, vs = [.string x.label, .slice A x.key.length c] ∧ Byc w B A x.key c ∧ x.label.size ≤ 140737488355328
def PktE (p : Pkt) (w : World) (B : Nat) (vs : List Value) : Prop :=
  ∃ A c, vs = [.int .i64 p.time, .int .i64 p.face, .int .i64 p.real, .slice A p.data.length c, .string p.note] ∧ Byc w B A p.data c ∧ p.note.size ≤ 140737488355328 ∧
    (-9223372036854775808 ≤ p.time ∧ p.time ≤ 9223372036854775807) ∧ (-9223372036854775808 ≤ p.face ∧ p.face ≤ 9223372036854775807) ∧ (-9223372036854775808 ≤ p.real ∧ p.real ≤ 9223372036854775807)

/-- The slice that begins at A reads as rows of k cells each, row i being xs[i] by E, and lies below block B. -/
def Els {α : Type} (k : Nat) (E : α → World → Nat → List Value → Prop) (w : World) (B : Nat) (A : Option Addr) (xs : List α) : Prop :=
  0 < xs.length → ∃ b o, A = some ⟨b, o, none⟩ ∧ b < B ∧ ∀ i (h : i < xs.length), ∃ vs : List Value, vs.length = k ∧ E xs[i] w B vs ∧ ∀ j v, vs[j]? = some v → w.cell? ⟨b, o + (i * k + j), none⟩ = some v
/-- What an E must do to be kept. -/
def Kept {α : Type} (E : α → World → Nat → List Value → Prop) : Prop := ∀ x w w' B B' vs, E x w B vs → Below B w w' → B ≤ B' → E x w' B' vs
theorem facK : Kept FacE := fun _ _ _ _ _ _ h _ _ => h
theorem namK : Kept NamE := fun _ _ _ _ _ _ ⟨A, c, e, h, r⟩ hb hB => ⟨A, c, e, (h.below hb).more hB, r⟩
theorem secK : Kept SecE := fun _ _ _ _ _ _ ⟨A, c, e, h, r⟩ hb hB => ⟨A, c, e, (h.below hb).more hB, r⟩
theorem pktK : Kept PktE := fun _ _ _ _ _ _ ⟨A, c, e, h, r⟩ hb hB => ⟨A, c, e, (h.below hb).more hB, r⟩
theorem Els.keep {α : Type} {k : Nat} {E : α → World → Nat → List Value → Prop} (hE : Kept E) {w w' : World} {B B' : Nat} {A : Option Addr} {xs : List α} (h : Els k E w B A xs) (hb : Below B w w') (hB : B ≤ B') : Els k E w' B' A xs := by
  intro hn
  obtain ⟨b, o, e, hlt, hi⟩ := h hn
  refine ⟨b, o, e, by omega, fun i hx => ?_⟩
  obtain ⟨vs, hl, he, hc⟩ := hi i hx
  exact ⟨vs, hl, hE _ _ _ _ _ _ he hb hB, fun j v hv => (hb.cell (p := ⟨b, o + (i * k + j), none⟩) hlt).trans (hc j v hv)⟩
theorem Els.nil {α : Type} (k : Nat) (E : α → World → Nat → List Value → Prop) (w : World) (B : Nat) (A : Option Addr) : Els k E w B A [] := by intro h; simp at h

/-- Where the four lists of a capture begin, and their capacities. -/
structure Pl where
  pf : Option Addr
  cf : Nat
  pn : Option Addr
  cn : Nat
  ps : Option Addr
  cs : Nat
  pp : Option Addr
  cp : Nat
/-- A capture as a value. -/
abbrev capV (p : Pl) (c : Cap) : Value := .agg #[.string c.note, .slice p.pf c.faces.length p.cf, .slice p.pn c.names.length p.cn, .slice p.ps c.secs.length p.cs, .slice p.pp c.pkts.length p.cp]
/-- The capture c lies at the places p, below block B. -/
structure CapM (w : World) (B : Nat) (p : Pl) (c : Cap) : Prop where
  note : c.note.size ≤ 140737488355328
  faces : Els 3 FacE w B p.pf c.faces
  names : Els 2 NamE w B p.pn c.names
  secs : Els 2 SecE w B p.ps c.secs
  pkts : Els 5 PktE w B p.pp c.pkts
  lf : c.faces.length ≤ p.cf ∧ c.faces.length * 32 ≤ 140737488355328 ∧ (p.pf = none → p.cf = 0)
  ln : c.names.length ≤ p.cn ∧ c.names.length * 40 ≤ 140737488355328 ∧ (p.pn = none → p.cn = 0)
  ls : c.secs.length ≤ p.cs ∧ c.secs.length * 40 ≤ 140737488355328 ∧ (p.ps = none → p.cs = 0)
  lp : c.pkts.length ≤ p.cp ∧ c.pkts.length * 64 ≤ 140737488355328 ∧ (p.pp = none → p.cp = 0)
theorem CapM.keep {w w' : World} {B B' : Nat} {p : Pl} {c : Cap} (h : CapM w B p c) (hb : Below B w w') (hB : B ≤ B') : CapM w' B' p c :=
  ⟨h.note, h.faces.keep facK hb hB, h.names.keep namK hb hB, h.secs.keep secK hb hB, h.pkts.keep pktK hb hB, h.lf, h.ln, h.ls, h.lp⟩
theorem below_drewN {B : Nat} {a w : World} (h : Below B a w) (n : Nat) : Below B a (w.drewN n) := ⟨h.os, h.tape, h.output, h.size, h.block⟩
/-! ### A block that is known whole -/
def Blk (w : World) (g : Nat) (t : TypeId) (cs : Array Value) : Prop := w.heap[g]? = some (.cells cs t (0, 0))
section
variable {w w' : World} {g : Nat} {t : TypeId} {cs : Array Value}
theorem Blk.lt (h : Blk w g t cs) : g < w.heap.size := by
  rcases Nat.lt_or_ge g w.heap.size with hlt | hge
  · exact hlt
  · unfold Blk at h; rw [Array.getElem?_eq_none hge] at h; cases h
theorem Blk.cell (h : Blk w g t cs) (i : Nat) : w.cell? ⟨g, i, none⟩ = cs[i]? := cell_of_row w g i cs t (0, 0) h
theorem Blk.frozen (h : Blk w g t cs) (i : Nat) : w.frozen? ⟨g, i, none⟩ = false := by
  unfold Blk at h
  simp [World.frozen?, h]
theorem Blk.new (w : World) (t : TypeId) (cs : Array Value) : Blk (w.alloc (.cells cs t)) w.heap.size t cs := heap_alloc_new w _
theorem Blk.drewN (h : Blk w g t cs) (n : Nat) : Blk (w.drewN n) g t cs := h
theorem Blk.alloc (h : Blk w g t cs) (o : Obj) : Blk (w.alloc o) g t cs := (Below.heap_alloc w o g h.lt).trans h
theorem Blk.set_ (h : Blk w g t cs) (i : Nat) (u : Value) : Blk (w.setCell ⟨g, i, none⟩ u) g t (cs.setIfInBounds i u) := by
  unfold Blk at h ⊢
  simp [World.setCell, Array.getElem?_modify, h]
theorem Blk.far (h : Blk w g t cs) {p : Addr} (hp : g ≠ p.block) (u : Value) : Blk (w.setCell p u) g t cs := (Below.heap_setCell w p u g hp).trans h
theorem Blk.below {B : Nat} (h : Blk w g t cs) (hb : Below B w w') (hg : g < B) : Blk w' g t cs := (hb.block g hg).trans h
theorem Blk.grown {row : Option Nat} (h : Blk w g t cs) (hb : w.grownBy w' row) (hg : some g ≠ row) : Blk w' g t cs := (hb.block g h.lt hg).trans h
end
theorem bcell {W w1 : World} (hb : Below W.heap.size W w1) : (∀ b o, b < W.heap.size → w1.cell? ⟨b, o, none⟩ = W.cell? ⟨b, o, none⟩) ∧ (∀ b o, b < W.heap.size → w1.frozen? ⟨b, o, none⟩ = W.frozen? ⟨b, o, none⟩) :=
  ⟨fun b o h => hb.cell (p := ⟨b, o, none⟩) h, fun b o h => hb.frozen (p := ⟨b, o, none⟩) h⟩
theorem alloc_size (w : World) (o : Obj) : (w.alloc o).heap.size = w.heap.size + 1 := by
  show (w.heap.push _).size = _
  rw [Array.size_push]
theorem round_keep {B : Nat} {w wr w1 : World} {t : TypeId} {cs : Array Value} {o : Obj} (h : Blk wr B t cs ∧ Below B w wr) (hB : Below (wr.alloc o).heap.size (wr.alloc o) w1) : Blk w1 B t cs ∧ Below B w w1 := by
  have h1 := h.1.lt
  refine ⟨(h.1.alloc o).below hB (by rw [alloc_size]; omega), h.2.trans (((Below.refl B wr).alloc (by omega) o).trans (hB.mono (by rw [alloc_size]; omega)))⟩
theorem round_alloc {B : Nat} {w wr : World} {t : TypeId} {cs : Array Value} (h : Blk wr B t cs ∧ Below B w wr) (o : Obj) : Blk (wr.alloc o) B t cs ∧ Below B w (wr.alloc o) :=
  ⟨h.1.alloc o, h.2.alloc (by have := h.1.lt; omega) o⟩
/-- The cells of a row. -/
theorem Els.row {α : Type} {k : Nat} {E : α → World → Nat → List Value → Prop} {w : World} {B : Nat} {A : Option Addr} {xs : List α} (h : Els k E w B A xs) (i : Nat) (hi : i < xs.length) :
    ∃ b o, A = some ⟨b, o, none⟩ ∧ b < B ∧ ∃ vs : List Value, vs.length = k ∧ E xs[i] w B vs ∧ ∀ j v, vs[j]? = some v → w.cell? ⟨b, o + i * k + j, none⟩ = some v := by
  obtain ⟨b, o, e, hb, hc⟩ := h (by omega)
  obtain ⟨vs, hl, he, hv⟩ := hc i hi
  exact ⟨b, o, e, hb, vs, hl, he, fun j v hj => by rw [Nat.add_assoc]; exact hv j v hj⟩
end Go.Proofs.Ytlimkckomdipkaa
