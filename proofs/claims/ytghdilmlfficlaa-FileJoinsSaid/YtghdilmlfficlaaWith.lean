/- A capture with other packets: the program's and the reference's. -/
import Derived.Test.YtghdilmlfficlaaCopy
import Derived.Test.YtghdilmlfficlaaShift
namespace Go.Proofs.Ytghdilmlfficlaa
open Go.RowKit

theorem w_box {w : World} {B : Nat} (hB : w.heap.size = B) (cs : Array Value) (t : TypeId) :
    ∃ w0, w.alloc (.cells cs t) = w0 ∧ w0.heap.size = B + 1 ∧ Blk w0 B t cs ∧ Below B w w0 ∧ ∀ g t' cs', Blk w g t' cs' → Blk w0 g t' cs' := by
  subst hB
  exact ⟨_, rfl, alloc_size _ _, Blk.new _ _ _, (Below.refl _ _).alloc (Nat.le_refl _) _, fun g t' cs' h => h.alloc _⟩

set_option maxRecDepth 100000 in
set_option maxHeartbeats 4000000 in
theorem with_any {w : World} {p : Pl} {c : Cap} {zp : Option Addr} {zn zc : Nat} (hm : CapM w w.heap.size p c) :
    Calls Try.prog 72 #[.agg #[.string c.note, .slice p.pf c.faces.length p.cf, .slice p.pn c.names.length p.cn, .slice p.ps c.secs.length p.cs, .slice zp zn zc], .slice p.pp c.pkts.length p.cp] w fun e w' => ∃ q, e = .returned (capV q c) ∧ CapO w' w.heap.size q c ∧ Below w.heap.size w w' := by
  obtain ⟨pf, cf, pn, cn, ps, cs, pp, cp⟩ := p
  obtain ⟨B, hB⟩ : ∃ B, w.heap.size = B := ⟨_, rfl⟩
  obtain ⟨w0, e0, s0, g0, b0, k0⟩ := w_box hB #[.string c.note, .slice pf c.faces.length cf, .slice pn c.names.length cn, .slice ps c.secs.length cs, .slice pp c.pkts.length cp] 31
  obtain ⟨w1, e1, s1, g1, b1, k1⟩ := w_box s0 #[.string ⟨#[]⟩, .slice none 0 0, .slice none 0 0, .slice none 0 0, .slice none 0 0] 31
  have hb : Below B w w1 := b0.trans (b1.mono (by omega))
  have HC := Lib.hid (copy_any (hm.keep (by rw [hB]; exact hb) (by rw [s1]; omega) : CapM w1 w1.heap.size _ c))
  have HB1 := Lib.hid hb
  have HG1 := Lib.hid g1
  have HE0 := Lib.hid e0
  have HE1 := Lib.hid e1
  clear e0 e1 g0 g1 b0 b1 k0 k1 hb hm
  rw [hB]
  unfold capV at HC
  go_enter Try.func72, Try.ntmps72
  go_wp2_with fail
  rw [HE0.out, HE1.out]
  with_reducible refine HC.out.mono ?_
  rintro e w2 ⟨⟨af, bf, an, bn, as_, bs, ap, bp⟩, rfl, hO2, hb2⟩
  have HO2 := Lib.hid hO2
  have HZ2 := Lib.hid (HG1.out.below hb2 (by omega))
  have HB2 : Hid (Below B w w2) := Lib.hid (HB1.out.trans (hb2.mono (by omega)))
  clear hO2 hb2 HC HE0 HE1 HG1 HB1
  have z0 : w2.cell? ⟨B + 1, 0, none⟩ = some (.string ⟨#[]⟩) := HZ2.out.cell 0
  have f0 : w2.frozen? ⟨B + 1, 0, none⟩ = false := HZ2.out.frozen 0
  have z1 : w2.cell? ⟨B + 1, 1, none⟩ = some (.slice none 0 0) := HZ2.out.cell 1
  have f1 : w2.frozen? ⟨B + 1, 1, none⟩ = false := HZ2.out.frozen 1
  have z2 : w2.cell? ⟨B + 1, 2, none⟩ = some (.slice none 0 0) := HZ2.out.cell 2
  have f2 : w2.frozen? ⟨B + 1, 2, none⟩ = false := HZ2.out.frozen 2
  have z3 : w2.cell? ⟨B + 1, 3, none⟩ = some (.slice none 0 0) := HZ2.out.cell 3
  have f3 : w2.frozen? ⟨B + 1, 3, none⟩ = false := HZ2.out.frozen 3
  have z4 : w2.cell? ⟨B + 1, 4, none⟩ = some (.slice none 0 0) := HZ2.out.cell 4
  have f4 : w2.frozen? ⟨B + 1, 4, none⟩ = false := HZ2.out.frozen 4
  have HEND := Lib.hid (set5 HZ2.out (.string c.note) (.slice af c.faces.length bf) (.slice an c.names.length bn) (.slice as_ c.secs.length bs) (.slice ap c.pkts.length bp))
  go_wp2
  generalize hW9 : ((((w2.setCell ⟨B + 1, 0, none⟩ (.string c.note)).setCell ⟨B + 1, 1, none⟩ (.slice af c.faces.length bf)).setCell ⟨B + 1, 2, none⟩ (.slice an c.names.length bn)).setCell ⟨B + 1, 3, none⟩ (.slice as_ c.secs.length bs)).setCell ⟨B + 1, 4, none⟩ (.slice ap c.pkts.length bp) = W9 at HEND ⊢
  obtain ⟨hb9, ha9, hw9⟩ := HEND.out
  have y0 : W9.cell? ⟨B + 1, 0, none⟩ = some (.string c.note) := hb9.cell 0
  have y1 : W9.cell? ⟨B + 1, 1, none⟩ = some (.slice af c.faces.length bf) := hb9.cell 1
  have y2 : W9.cell? ⟨B + 1, 2, none⟩ = some (.slice an c.names.length bn) := hb9.cell 2
  have y3 : W9.cell? ⟨B + 1, 3, none⟩ = some (.slice as_ c.secs.length bs) := hb9.cell 3
  have y4 : W9.cell? ⟨B + 1, 4, none⟩ = some (.slice ap c.pkts.length bp) := hb9.cell 4
  exact bodyPost_ret (v := .agg #[.string c.note, .slice af c.faces.length bf, .slice an c.names.length bn, .slice as_ c.secs.length bs, .slice ap c.pkts.length bp]) (by simp [results, Try.results72, go_sem, y0, y1, y2, y3, y4]) rfl ⟨⟨af, bf, an, bn, as_, bs, ap, bp⟩, rfl, (HO2.out.alike ha9 (by decide)).mono (by omega), hw9 _ _ HB2.out (by omega)⟩

set_option maxRecDepth 100000 in
set_option maxHeartbeats 4000000 in
theorem rwith_any {w : World} {A : Option Addr} {n c : Nat} (s : ByteArray) {A1 A2 A3 A4 : Option Addr} {n1 n2 n3 n4 c1 c2 c3 c4 : Nat} :
    Calls Try.prog 65 #[.agg #[.string s, .slice A1 n1 c1, .slice A2 n2 c2, .slice A3 n3 c3, .slice A4 n4 c4], .slice A n c] w fun e w' => e = .returned (.agg #[.string s, .slice A1 n1 c1, .slice A2 n2 c2, .slice A3 n3 c3, .slice A n c]) ∧ Below w.heap.size w w' := by
  obtain ⟨B, hB⟩ : ∃ B, w.heap.size = B := ⟨_, rfl⟩
  obtain ⟨w0, e0, s0, g0, b0, k0⟩ := w_box hB #[.string s, .slice A1 n1 c1, .slice A2 n2 c2, .slice A3 n3 c3, .slice A n c] 31
  obtain ⟨w1, e1, s1, g1, b1, k1⟩ := w_box s0 #[.string s, .slice A1 n1 c1, .slice A2 n2 c2, .slice A3 n3 c3, .slice A n c] 31
  have HB1 : Hid (Below B w w1) := Lib.hid (b0.trans (b1.mono (by omega)))
  have HG1 := Lib.hid g1
  have HE0 := Lib.hid e0
  have HE1 := Lib.hid e1
  clear e0 e1 g0 g1 b0 b1 k0 k1 s0 s1
  rw [hB]
  go_enter Try.func65, Try.ntmps65
  go_wp2_with fail
  rw [HE0.out, HE1.out]
  have y0 := HG1.out.cell 0
  have y1 := HG1.out.cell 1
  have y2 := HG1.out.cell 2
  have y3 := HG1.out.cell 3
  have y4 := HG1.out.cell 4
  exact bodyPost_ret (v := .agg #[.string s, .slice A1 n1 c1, .slice A2 n2 c2, .slice A3 n3 c3, .slice A n c]) (by simp [results, Try.results65, go_sem, y0, y1, y2, y3, y4]) rfl ⟨rfl, HB1.out⟩
end Go.Proofs.Ytghdilmlfficlaa
