/- A copy's memory: kinds of structs with bytes, and what a round of copying leaves. -/
import Derived.Test.YtlimkckomdipkaaClones
namespace Go.Proofs.Ytlimkckomdipkaa
open Go.RowKit

abbrev zeroB : Array Value := #[.string ⟨#[]⟩, .slice none 0 0, .slice none 0 0, .slice none 0 0, .slice none 0 0]
def namKd : Kind Nam := ⟨49, 2, 0, fun x v => [v, .string x.text], Nam.addr, fun x => x.text.size ≤ 140737488355328⟩
def secKd : Kind Sec := ⟨65, 2, 1, fun x v => [.string x.label, v], Sec.key, fun x => x.label.size ≤ 140737488355328⟩
def pktKd : Kind Pkt := ⟨47, 5, 3, fun p v => [.int .i64 p.time, .int .i64 p.face, .int .i64 p.real, v, .string p.note], Pkt.data, fun p => p.note.size ≤ 140737488355328 ∧
    (-9223372036854775808 ≤ p.time ∧ p.time ≤ 9223372036854775807) ∧ (-9223372036854775808 ≤ p.face ∧ p.face ≤ 9223372036854775807) ∧ (-9223372036854775808 ≤ p.real ∧ p.real ≤ 9223372036854775807)⟩
theorem namR : namKd.Right := ⟨fun _ _ => rfl, (by decide : 0 < 2), fun _ _ _ => rfl, fun x A n c u hu => by
  have hu : u ∈ [Value.slice A n c, .string x.text] := hu
  simp only [List.mem_cons, List.not_mem_nil, or_false] at hu
  rcases hu with rfl | rfl <;> rfl, (by decide : (49 : Nat) ≠ 5)⟩
theorem secR : secKd.Right := ⟨fun _ _ => rfl, (by decide : 1 < 2), fun _ _ _ => rfl, fun x A n c u hu => by
  have hu : u ∈ [.string x.label, Value.slice A n c] := hu
  simp only [List.mem_cons, List.not_mem_nil, or_false] at hu
  rcases hu with rfl | rfl <;> rfl, (by decide : (65 : Nat) ≠ 5)⟩
theorem pktR : pktKd.Right := ⟨fun _ _ => rfl, (by decide : 3 < 5), fun _ _ _ => rfl, fun x A n c u hu => by
  have hu : u ∈ [.int .i64 x.time, .int .i64 x.face, .int .i64 x.real, Value.slice A n c, .string x.note] := hu
  simp only [List.mem_cons, List.not_mem_nil, or_false] at hu
  rcases hu with rfl | rfl | rfl | rfl | rfl <;> rfl, (by decide : (47 : Nat) ≠ 5)⟩

/-- A list as it lay in w. -/
theorem Els.fix {α : Type} {k : Nat} {E : α → World → Nat → List Value → Prop} {w W : World} {B : Nat} {A : Option Addr} {xs : List α} (h : Els k E w B A xs) (hb : Below B w W) (hB : B ≤ W.heap.size) : Els k (fun x _ _ vs => E x w B vs) W W.heap.size A xs := by
  intro hn
  obtain ⟨b, o, e, hlt, hi⟩ := h hn
  refine ⟨b, o, e, by omega, fun i hx => ?_⟩
  obtain ⟨vs, hl, he, hc⟩ := hi i hx
  exact ⟨vs, hl, he, fun j v hv => (hb.cell (p := ⟨b, o + (i * k + j), none⟩) hlt).trans (hc j v hv)⟩

theorem OwnM.start {α : Type} {κ : Kind α} {w0 W w1 : World} {base : Nat} {v : Value} {xs : List α} {rows : List (List Value)} (ho : w1.ownsRow W.heap.size κ.T κ.K v xs.length rows.flatten) (hl : rows.length = xs.length)
    (he : ∀ i (hx : i < xs.length) (hr : i < rows.length), rows[i].length = κ.K ∧ KE κ xs[i] w0 w0.heap.size rows[i]) (hb : base ≤ W.heap.size) : OwnM κ w0 w1 base v xs rows 0 :=
  ⟨ho.mono hb, hl, fun i _ _ h => absurd h (by omega), fun i h1 h2 _ => (he i h1 h2).2⟩

theorem copy_step {α : Type} {κ : Kind α} (hκ : κ.Right) {w W4 w5 Ws : World} {B g n cap L c5 k : Nat} {xs : List α} {rows : List (List Value)} {A5 : Option Addr} {a : Nat} (ha : a = k * κ.K + κ.J)
    (hn : xs.length = n) (hk : k < xs.length) (hL : (κ.dat xs[k]).length = L) (HN : OwnM κ w W4 (B + 2) (.slice (some ⟨g, 0, none⟩) n cap) xs rows k) (HW : Below B w W4) (HA : AlikeT κ.T Ws W4) (hg : B + 2 ≤ g)
    (ho5 : w5.ownsRow W4.heap.size 5 1 (.slice A5 L c5) L ((κ.dat xs[k]).map u8)) (hb5 : Below W4.heap.size W4.drew w5) (hB : B + 2 ≤ W4.heap.size) :
    ∃ rows', OwnM κ w (w5.setCell ⟨g, a, none⟩ (.slice A5 L c5)) (B + 2) (.slice (some ⟨g, 0, none⟩) n cap) xs rows' (k + 1) ∧ Below B w (w5.setCell ⟨g, a, none⟩ (.slice A5 L c5)) ∧ AlikeT κ.T Ws (w5.setCell ⟨g, a, none⟩ (.slice A5 L c5)) := by
  subst hn
  subst ha
  have hb : Below W4.heap.size W4 w5 := ⟨hb5.os, hb5.tape, hb5.output, hb5.size, hb5.block⟩
  have hsz : W4.heap.size ≤ w5.heap.size := hb.size
  obtain ⟨h1, h2⟩ := (HN.below hb).store hκ hk hL (own_mono ho5 hB)
  refine ⟨_, h1, (HW.trans (hb.mono (by omega))).setCell (p := ⟨g, k * κ.K + κ.J, none⟩) (by show B ≤ g; omega) _, (HA.trans (AlikeT.below hb)).trans h2⟩

/-- A capture in memory of the call's own, not below block b. -/
structure CapO (w : World) (b : Nat) (q : Pl) (c : Cap) : Prop where
  note : c.note.size ≤ 140737488355328
  faces : ∃ rows, OwnL w b 54 3 FacE (.slice q.pf c.faces.length q.cf) c.faces rows
  names : ∃ w0 rows, OwnM namKd w0 w b (.slice q.pn c.names.length q.cn) c.names rows c.names.length
  secs : ∃ w0 rows, OwnM secKd w0 w b (.slice q.ps c.secs.length q.cs) c.secs rows c.secs.length
  pkts : ∃ w0 rows, OwnM pktKd w0 w b (.slice q.pp c.pkts.length q.cp) c.pkts rows c.pkts.length
  lf : c.faces.length * 32 ≤ 140737488355328
  ln : c.names.length * 40 ≤ 140737488355328
  ls : c.secs.length * 40 ≤ 140737488355328
  lp : c.pkts.length * 64 ≤ 140737488355328
theorem own_bounds {w : World} {base e size n k c : Nat} {A : Option Addr} {xs : List Value} (h : w.ownsRow base e size (.slice A n c) k xs) : n ≤ c ∧ (A = none → c = 0) := by
  rcases h.2 with ⟨e, h0⟩ | ⟨g, cap, cur, e, _, _, hn, _⟩
  · injection e with e1 e2 e3; subst e2; subst e3; exact ⟨Nat.le_refl _, fun _ => rfl⟩
  · injection e with e1 e2 e3; subst e1; subst e2; subst e3; exact ⟨hn, fun h => by cases h⟩
theorem facL_alike {t : Nat} {w w' : World} {b : Nat} {v : Value} {xs : List Fac} {rows : List (List Value)} (h : OwnL w b 54 3 FacE v xs rows) (ha : AlikeT t w w') (ht : t ≠ 54) : OwnL w' b 54 3 FacE v xs rows :=
  ⟨own_alikeT h.own ha (fun e => ht e.symm), h.len, fun i h1 h2 => h.each i h1 h2, h.one⟩
theorem CapO.alike {t : Nat} {w w' : World} {b : Nat} {q : Pl} {c : Cap} (h : CapO w b q c) (ha : AlikeT t w w') (ht : t ≠ 5 ∧ t ≠ 54 ∧ t ≠ 49 ∧ t ≠ 65 ∧ t ≠ 47) : CapO w' b q c := by
  obtain ⟨hn, ⟨rf, hf⟩, ⟨w1, rn, hn1⟩, ⟨w2, rs, hs1⟩, ⟨w3, rp, hp1⟩, a1, a2, a3, a4⟩ := h
  exact ⟨hn, ⟨rf, facL_alike hf ha ht.2.1⟩, ⟨w1, rn, hn1.alike ha ht.1 ht.2.2.1⟩, ⟨w2, rs, hs1.alike ha ht.1 ht.2.2.2.1⟩, ⟨w3, rp, hp1.alike ha ht.1 ht.2.2.2.2⟩, a1, a2, a3, a4⟩
theorem CapO.below {w w' : World} {b : Nat} {q : Pl} {c : Cap} (h : CapO w b q c) (hb : Below w.heap.size w w') : CapO w' b q c := h.alike (t := 27) (AlikeT.below hb) (by decide)
theorem CapO.capM {w : World} {b : Nat} {q : Pl} {c : Cap} (h : CapO w b q c) : CapM w w.heap.size q c := by
  obtain ⟨hn, ⟨rf, hf⟩, ⟨w1, rn, hn1⟩, ⟨w2, rs, hs1⟩, ⟨w3, rp, hp1⟩, a1, a2, a3, a4⟩ := h
  have bf := own_bounds hf.own
  have bn := own_bounds hn1.own
  have bs := own_bounds hs1.own
  have bp := own_bounds hp1.own
  exact ⟨hn, OwnL.els hf, hn1.els namR rfl, hs1.els secR rfl, hp1.els pktR rfl, ⟨bf.1, a1, bf.2⟩, ⟨bn.1, a2, bn.2⟩, ⟨bs.1, a3, bs.2⟩, ⟨bp.1, a4, bp.2⟩⟩
theorem CapO.capT {w : World} {b : Nat} {q : Pl} {c : Cap} (h : CapO w b q c) : CapT w q c := fun w' ha => (h.alike (t := 27) ha (by decide)).capM
/-- Five cells of a block written anew. -/
theorem set5 {w : World} {g T : Nat} {z0 z1 z2 z3 z4 : Value} (h : Blk w g T #[z0, z1, z2, z3, z4]) (u0 u1 u2 u3 u4 : Value) :
    Blk (((((w.setCell ⟨g, 0, none⟩ u0).setCell ⟨g, 1, none⟩ u1).setCell ⟨g, 2, none⟩ u2).setCell ⟨g, 3, none⟩ u3).setCell ⟨g, 4, none⟩ u4) g T #[u0, u1, u2, u3, u4] ∧
    AlikeT T w (((((w.setCell ⟨g, 0, none⟩ u0).setCell ⟨g, 1, none⟩ u1).setCell ⟨g, 2, none⟩ u2).setCell ⟨g, 3, none⟩ u3).setCell ⟨g, 4, none⟩ u4) ∧
    ∀ B w0, Below B w0 w → B ≤ g → Below B w0 (((((w.setCell ⟨g, 0, none⟩ u0).setCell ⟨g, 1, none⟩ u1).setCell ⟨g, 2, none⟩ u2).setCell ⟨g, 3, none⟩ u3).setCell ⟨g, 4, none⟩ u4) := by
  have b0 := h.set_ 0 u0
  have b1 := b0.set_ 1 u1
  have b2 := b1.set_ 2 u2
  have b3 := b2.set_ 3 u3
  have b4 := b3.set_ 4 u4
  refine ⟨by simpa using b4, ((((AlikeT.set h u0).trans (AlikeT.set b0 u1)).trans (AlikeT.set b1 u2)).trans (AlikeT.set b2 u3)).trans (AlikeT.set b3 u4), fun B w0 hb hB => ?_⟩
  exact ((((hb.setCell (p := ⟨g, 0, none⟩) hB _).setCell (p := ⟨g, 1, none⟩) hB _).setCell (p := ⟨g, 2, none⟩) hB _).setCell (p := ⟨g, 3, none⟩) hB _).setCell (p := ⟨g, 4, none⟩) hB _
end Go.Proofs.Ytlimkckomdipkaa
