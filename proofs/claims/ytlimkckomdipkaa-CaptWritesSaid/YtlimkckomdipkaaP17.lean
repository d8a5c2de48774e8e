/- Plain: the program's. -/
import Derived.Test.YtlimkckomdipkaaPlain
namespace Go.Proofs.Ytlimkckomdipkaa
open Go.RowKit

/-- What Plain returns: nothing of a capture that is none. -/
def plainR (c : Cap) : Cap := if errV c = 0 then plainC c else ⟨noT, [], [], [], []⟩
theorem errV_ok {c : Cap} (h : errV c = 0) : capB c = true ∧ hugeB c = false := by
  unfold errV at h
  cases h1 : hugeB c <;> cases h2 : capB c <;> simp [h1, h2] at h ⊢
theorem capT_nil (w : World) : CapT w ⟨none, 0, none, 0, none, 0, none, 0⟩ ⟨noT, [], [], [], []⟩ := fun _ _ =>
  ⟨by show ByteArray.size ⟨#[]⟩ ≤ _; simp [ByteArray.size], els_nil, els_nil, els_nil, els_nil, ⟨Nat.le_refl _, (by decide : 0 * 32 ≤ 140737488355328), fun _ => rfl⟩, ⟨Nat.le_refl _, (by decide : 0 * 40 ≤ 140737488355328), fun _ => rfl⟩, ⟨Nat.le_refl _, (by decide : 0 * 40 ≤ 140737488355328), fun _ => rfl⟩, ⟨Nat.le_refl _, (by decide : 0 * 64 ≤ 140737488355328), fun _ => rfl⟩⟩
/-- A capture's five cells are written into a block: what the block holds, and what stays. -/
theorem five_set {w : World} {B g : Nat} {a : World} {z0 z1 z2 z3 z4 : Value} (v0 v1 v2 v3 v4 : Value) (h : Blk w g 27 #[z0, z1, z2, z3, z4]) (hB : Below B a w) (hg : B ≤ g) :
    Blk (((((w.setCell ⟨g, 0, none⟩ v0).setCell ⟨g, 1, none⟩ v1).setCell ⟨g, 2, none⟩ v2).setCell ⟨g, 3, none⟩ v3).setCell ⟨g, 4, none⟩ v4) g 27 #[v0, v1, v2, v3, v4] ∧ Below B a (((((w.setCell ⟨g, 0, none⟩ v0).setCell ⟨g, 1, none⟩ v1).setCell ⟨g, 2, none⟩ v2).setCell ⟨g, 3, none⟩ v3).setCell ⟨g, 4, none⟩ v4) ∧ Alike w (((((w.setCell ⟨g, 0, none⟩ v0).setCell ⟨g, 1, none⟩ v1).setCell ⟨g, 2, none⟩ v2).setCell ⟨g, 3, none⟩ v3).setCell ⟨g, 4, none⟩ v4) := by
  have hge : ∀ i, B ≤ (⟨g, i, none⟩ : Addr).block := fun i => hg
  exact ⟨by simpa using ((((h.set_ 0 v0).set_ 1 v1).set_ 2 v2).set_ 3 v3).set_ 4 v4, ((((hB.setCell (hge 0) _).setCell (hge 1) _).setCell (hge 2) _).setCell (hge 3) _).setCell (hge 4) _, ((((Alike.set h v0).trans (Alike.set (h.set_ 0 v0) v1)).trans (Alike.set ((h.set_ 0 v0).set_ 1 v1) v2)).trans (Alike.set (((h.set_ 0 v0).set_ 1 v1).set_ 2 v2) v3)).trans (Alike.set ((((h.set_ 0 v0).set_ 1 v1).set_ 2 v2).set_ 3 v3) v4)⟩

set_option maxRecDepth 100000 in
set_option maxHeartbeats 4000000 in
theorem Plain_any {w : World} {p : Pl} {c : Cap} (hm : CapM w w.heap.size p c) :
    Calls Try.prog 17 #[capV p c] w fun e w' => ∃ q, e = .returned (.tuple #[capV q (plainR c), .int .i64 (errV c)]) ∧ CapT w' q (plainR c) ∧ Below w.heap.size w w' := by
  obtain ⟨pf, cf, pn, cn, ps, cs, pp, cp⟩ := p
  obtain ⟨B, hB⟩ : ∃ B, w.heap.size = B := ⟨_, rfl⟩
  obtain ⟨W0, hW0⟩ : ∃ W0, (w.alloc (.cells #[.string c.note, .slice pf c.faces.length cf, .slice pn c.names.length cn, .slice ps c.secs.length cs, .slice pp c.pkts.length cp] 27)).alloc (.cells #[.string ⟨#[]⟩, .slice none 0 0, .slice none 0 0, .slice none 0 0, .slice none 0 0] 27) = W0 := ⟨_, rfl⟩
  have HM0 : Hid (CapM W0 W0.heap.size ⟨pf, cf, pn, cn, ps, cs, pp, cp⟩ c) := Lib.hid (by rw [← hW0]; exact boxed (boxed hm _) _)
  have HK0 : Hid (Blk W0 B 27 #[.string c.note, .slice pf c.faces.length cf, .slice pn c.names.length cn, .slice ps c.secs.length cs, .slice pp c.pkts.length cp] ∧ Below B w W0) := Lib.hid (by rw [← hW0, ← hB]; exact ⟨(Blk.new _ _ _).alloc _, ((Below.refl _ w).alloc (Nat.le_refl _) _).alloc (by rw [alloc_size]; omega) _⟩)
  have HZ0 : Hid (Blk W0 (B + 1) 27 #[.string ⟨#[]⟩, .slice none 0 0, .slice none 0 0, .slice none 0 0, .slice none 0 0]) := Lib.hid (by
    have h := Blk.new (w.alloc (.cells #[.string c.note, .slice pf c.faces.length cf, .slice pn c.names.length cn, .slice ps c.secs.length cs, .slice pp c.pkts.length cp] 27)) 27 #[.string ⟨#[]⟩, .slice none 0 0, .slice none 0 0, .slice none 0 0, .slice none 0 0]
    rw [alloc_size, hB] at h
    rw [← hW0]; exact h)
  rw [hB]
  have q0 : W0.cell? ⟨B, 0, none⟩ = some (.string c.note) := HK0.out.1.cell 0
  have q1 : W0.cell? ⟨B, 1, none⟩ = some (.slice pf c.faces.length cf) := HK0.out.1.cell 1
  have q2 : W0.cell? ⟨B, 2, none⟩ = some (.slice pn c.names.length cn) := HK0.out.1.cell 2
  have q3 : W0.cell? ⟨B, 3, none⟩ = some (.slice ps c.secs.length cs) := HK0.out.1.cell 3
  have q4 : W0.cell? ⟨B, 4, none⟩ = some (.slice pp c.pkts.length cp) := HK0.out.1.cell 4
  have HV := Lib.hid (vald_any HM0.out)
  clear hm
  by_cases he : errV c = 0
  · have HE : Hid (plainR c = plainC c) := Lib.hid (by unfold plainR; rw [if_pos he])
    have HB := Lib.hid (errV_ok he)
    have HEE := Lib.hid he
    go_enter Try.func17, Try.ntmps17
    go_wp2_with fail
    clear hW0
    refine HV.out.mono ?_
    rintro e w1 ⟨rfl, hb1⟩
    have hlB : B + 1 < W0.heap.size := HZ0.out.lt
    have HM1 := Lib.hid (HM0.out.keep hb1 hb1.size)
    have HK1 : Hid (Blk w1 B 27 #[.string c.note, .slice pf c.faces.length cf, .slice pn c.names.length cn, .slice ps c.secs.length cs, .slice pp c.pkts.length cp] ∧ Below B w w1) := Lib.hid ⟨HK0.out.1.below hb1 (by omega), HK0.out.2.trans (hb1.mono (by omega))⟩
    have HZ1 := Lib.hid (HZ0.out.below hb1 hlB)
    have HP := Lib.hid (plain_any HM1.out HB.out.1 HB.out.2)
    rw [he]
    clear hb1 q0 q1 q2 q3 q4
    have r0 : w1.cell? ⟨B, 0, none⟩ = some (.string c.note) := HK1.out.1.cell 0
    have r1 : w1.cell? ⟨B, 1, none⟩ = some (.slice pf c.faces.length cf) := HK1.out.1.cell 1
    have r2 : w1.cell? ⟨B, 2, none⟩ = some (.slice pn c.names.length cn) := HK1.out.1.cell 2
    have r3 : w1.cell? ⟨B, 3, none⟩ = some (.slice ps c.secs.length cs) := HK1.out.1.cell 3
    have r4 : w1.cell? ⟨B, 4, none⟩ = some (.slice pp c.pkts.length cp) := HK1.out.1.cell 4
    clear HV he
    go_wp2_with fail
    refine HP.out.mono ?_
    rintro e w2 ⟨⟨qf, df, qn, dn, qs, ds, qp, dp⟩, rfl, hm2, hb2⟩
    have hlB1 : B + 1 < w1.heap.size := HZ1.out.lt
    have HZ2 := Lib.hid (HZ1.out.below hb2 hlB1)
    have HB2 : Hid (Below B w w2) := Lib.hid (HK1.out.2.trans (hb2.mono (by omega)))
    have HM2 := Lib.hid hm2
    clear hm2 hb2 r0 r1 r2 r3 r4
    have z0 : w2.cell? ⟨B + 1, 0, none⟩ = some (.string ⟨#[]⟩) := HZ2.out.cell 0
    have zf0 : w2.frozen? ⟨B + 1, 0, none⟩ = false := HZ2.out.frozen 0
    have z1 : w2.cell? ⟨B + 1, 1, none⟩ = some (.slice none 0 0) := HZ2.out.cell 1
    have zf1 : w2.frozen? ⟨B + 1, 1, none⟩ = false := HZ2.out.frozen 1
    have z2 : w2.cell? ⟨B + 1, 2, none⟩ = some (.slice none 0 0) := HZ2.out.cell 2
    have zf2 : w2.frozen? ⟨B + 1, 2, none⟩ = false := HZ2.out.frozen 2
    have z3 : w2.cell? ⟨B + 1, 3, none⟩ = some (.slice none 0 0) := HZ2.out.cell 3
    have zf3 : w2.frozen? ⟨B + 1, 3, none⟩ = false := HZ2.out.frozen 3
    have z4 : w2.cell? ⟨B + 1, 4, none⟩ = some (.slice none 0 0) := HZ2.out.cell 4
    have zf4 : w2.frozen? ⟨B + 1, 4, none⟩ = false := HZ2.out.frozen 4
    have HEND := Lib.hid (five_set (.string (plainC c).note) (.slice qf (plainC c).faces.length df) (.slice qn (plainC c).names.length dn) (.slice qs (plainC c).secs.length ds) (.slice qp (plainC c).pkts.length dp) HZ2.out HB2.out (Nat.le_succ B))
    go_wp2
    generalize hW9 : ((((w2.setCell ⟨B + 1, 0, none⟩ (.string (plainC c).note)).setCell ⟨B + 1, 1, none⟩ (.slice qf (plainC c).faces.length df)).setCell ⟨B + 1, 2, none⟩ (.slice qn (plainC c).names.length dn)).setCell ⟨B + 1, 3, none⟩ (.slice qs (plainC c).secs.length ds)).setCell ⟨B + 1, 4, none⟩ (.slice qp (plainC c).pkts.length dp) = W9 at HEND ⊢
    obtain ⟨hb9, hw9, ha9⟩ := HEND.out
    have y0 : W9.cell? ⟨B + 1, 0, none⟩ = some (.string (plainC c).note) := hb9.cell 0
    have y1 : W9.cell? ⟨B + 1, 1, none⟩ = some (.slice qf (plainC c).faces.length df) := hb9.cell 1
    have y2 : W9.cell? ⟨B + 1, 2, none⟩ = some (.slice qn (plainC c).names.length dn) := hb9.cell 2
    have y3 : W9.cell? ⟨B + 1, 3, none⟩ = some (.slice qs (plainC c).secs.length ds) := hb9.cell 3
    have y4 : W9.cell? ⟨B + 1, 4, none⟩ = some (.slice qp (plainC c).pkts.length dp) := hb9.cell 4
    exact bodyPost_ret (v := .tuple #[.agg #[.string (plainC c).note, .slice qf (plainC c).faces.length df, .slice qn (plainC c).names.length dn, .slice qs (plainC c).secs.length ds, .slice qp (plainC c).pkts.length dp], .int .i64 0]) (by simp [results, Try.results17, go_sem, y0, y1, y2, y3, y4]) rfl ⟨⟨qf, df, qn, dn, qs, ds, qp, dp⟩, by rw [HE.out, HEE.out], by rw [HE.out]; exact HM2.out.keep ha9, hw9⟩
  · have HE : Hid (plainR c = ⟨noT, [], [], [], []⟩) := Lib.hid (by unfold plainR; rw [if_neg he])
    obtain ⟨E, hE⟩ : ∃ E, errV c = E := ⟨_, rfl⟩
    rw [hE] at HV he ⊢
    have hd : (E == 0) = false := by simpa using he
    have HV2 := HV
    clear hE he
    go_enter Try.func17, Try.ntmps17
    go_wp2_with fail
    clear hW0
    refine HV.out.mono ?_
    rintro e w1 ⟨rfl, hb1⟩
    have hlB : B + 1 < W0.heap.size := HZ0.out.lt
    have HB2 : Hid (Below B w w1) := Lib.hid (HK0.out.2.trans (hb1.mono (by omega)))
    have HZ2 := Lib.hid (HZ0.out.below hb1 hlB)
    clear hb1 q0 q1 q2 q3 q4 HV HV2
    have z0 : w1.cell? ⟨B + 1, 0, none⟩ = some (.string ⟨#[]⟩) := HZ2.out.cell 0
    have zf0 : w1.frozen? ⟨B + 1, 0, none⟩ = false := HZ2.out.frozen 0
    have z1 : w1.cell? ⟨B + 1, 1, none⟩ = some (.slice none 0 0) := HZ2.out.cell 1
    have zf1 : w1.frozen? ⟨B + 1, 1, none⟩ = false := HZ2.out.frozen 1
    have z2 : w1.cell? ⟨B + 1, 2, none⟩ = some (.slice none 0 0) := HZ2.out.cell 2
    have zf2 : w1.frozen? ⟨B + 1, 2, none⟩ = false := HZ2.out.frozen 2
    have z3 : w1.cell? ⟨B + 1, 3, none⟩ = some (.slice none 0 0) := HZ2.out.cell 3
    have zf3 : w1.frozen? ⟨B + 1, 3, none⟩ = false := HZ2.out.frozen 3
    have z4 : w1.cell? ⟨B + 1, 4, none⟩ = some (.slice none 0 0) := HZ2.out.cell 4
    have zf4 : w1.frozen? ⟨B + 1, 4, none⟩ = false := HZ2.out.frozen 4
    have HEND := Lib.hid (five_set (.string ⟨#[]⟩) (.slice none 0 0) (.slice none 0 0) (.slice none 0 0) (.slice none 0 0) HZ2.out HB2.out (Nat.le_succ B))
    go_wp2
    generalize hW9 : ((((w1.setCell ⟨B + 1, 0, none⟩ (.string ⟨#[]⟩)).setCell ⟨B + 1, 1, none⟩ (.slice none 0 0)).setCell ⟨B + 1, 2, none⟩ (.slice none 0 0)).setCell ⟨B + 1, 3, none⟩ (.slice none 0 0)).setCell ⟨B + 1, 4, none⟩ (.slice none 0 0) = W9 at HEND ⊢
    obtain ⟨hb9, hw9, ha9⟩ := HEND.out
    have y0 : W9.cell? ⟨B + 1, 0, none⟩ = some (.string ⟨#[]⟩) := hb9.cell 0
    have y1 : W9.cell? ⟨B + 1, 1, none⟩ = some (.slice none 0 0) := hb9.cell 1
    have y2 : W9.cell? ⟨B + 1, 2, none⟩ = some (.slice none 0 0) := hb9.cell 2
    have y3 : W9.cell? ⟨B + 1, 3, none⟩ = some (.slice none 0 0) := hb9.cell 3
    have y4 : W9.cell? ⟨B + 1, 4, none⟩ = some (.slice none 0 0) := hb9.cell 4
    exact bodyPost_ret (v := .tuple #[.agg #[.string ⟨#[]⟩, .slice none 0 0, .slice none 0 0, .slice none 0 0, .slice none 0 0], .int .i64 E]) (by simp [results, Try.results17, go_sem, y0, y1, y2, y3, y4]) rfl ⟨⟨none, 0, none, 0, none, 0, none, 0⟩, by rw [HE.out]; rfl, by rw [HE.out]; exact capT_nil _, hw9⟩
end Go.Proofs.Ytlimkckomdipkaa
