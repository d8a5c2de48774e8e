/- Shift. -/
import Derived.Test.YtghdilmlfficlaaShift
namespace Go.Proofs.Ytghdilmlfficlaa
open Go.RowKit

theorem errV_times {c : Cap} (h : errV c = 0) : ∀ x ∈ c.pkts, 0 ≤ x.time ∧ x.time ≤ 1000000000000000 := by
  intro x hx
  unfold errV at h
  cases h1 : hugeB c <;> cases h2 : capB c <;> simp [h1, h2] at h
  simp only [capB, partsB, Bool.and_eq_true, decide_eq_true_eq] at h2
  have h3 := List.all_eq_true.1 h2.2.2.2.2 x hx
  simp only [pktB, pktS, Bool.and_eq_true, within_iff] at h3
  exact h3.2.2.1
/-- What is wrong with a capture that is to be moved, and what it becomes. -/
def errSh (c : Cap) (d : Int) : Int := if errV c = 0 then errS d c else errV c
def shR (c : Cap) (d : Int) : Cap := if errV c = 0 then shiftR d c else noC

set_option maxRecDepth 100000 in
set_option maxHeartbeats 4000000 in
theorem shift_any {w : World} {p : Pl} {c : Cap} {d : Int} (hm : CapM w w.heap.size p c) (hd : -9223372036854775808 ≤ d ∧ d ≤ 9223372036854775807) :
    Calls Try.prog 19 #[capV p c, .int .i64 d] w fun e w' => ∃ q, e = .returned (.tuple #[capV q (shR c d), .int .i64 (errSh c d)]) ∧ CapO w' w.heap.size q (shR c d) ∧ Below w.heap.size w w' := by
  obtain ⟨pf, cf, pn, cn, ps, cs, pp, cp⟩ := p
  obtain ⟨B, hB⟩ : ∃ B, w.heap.size = B := ⟨_, rfl⟩
  obtain ⟨W0, hW0⟩ : ∃ W0, ((w.alloc (.cells #[.string c.note, .slice pf c.faces.length cf, .slice pn c.names.length cn, .slice ps c.secs.length cs, .slice pp c.pkts.length cp] 31)).alloc (.cells #[.int .i64 d] 3)).alloc (.cells #[.string ⟨#[]⟩, .slice none 0 0, .slice none 0 0, .slice none 0 0, .slice none 0 0] 31) = W0 := ⟨_, rfl⟩
  have HM0 : Hid (CapM W0 W0.heap.size ⟨pf, cf, pn, cn, ps, cs, pp, cp⟩ c) := Lib.hid (by rw [← hW0]; exact boxed (boxed (boxed hm _) _) _)
  have HK0 : Hid (Blk W0 B 31 #[.string c.note, .slice pf c.faces.length cf, .slice pn c.names.length cn, .slice ps c.secs.length cs, .slice pp c.pkts.length cp] ∧ Below B w W0) := Lib.hid (by rw [← hW0, ← hB]; exact ⟨((Blk.new _ _ _).alloc _).alloc _, (((Below.refl _ w).alloc (Nat.le_refl _) _).alloc (by rw [alloc_size]; omega) _).alloc (by rw [alloc_size, alloc_size]; omega) _⟩)
  have HD0 : Hid (Blk W0 (B + 1) 3 #[.int .i64 d]) := Lib.hid (by
    have h := (Blk.new (w.alloc (.cells #[.string c.note, .slice pf c.faces.length cf, .slice pn c.names.length cn, .slice ps c.secs.length cs, .slice pp c.pkts.length cp] 31)) 3 #[.int .i64 d]).alloc (.cells #[.string ⟨#[]⟩, .slice none 0 0, .slice none 0 0, .slice none 0 0, .slice none 0 0] 31)
    rw [alloc_size, hB] at h
    rw [← hW0]; exact h)
  have HZ0 : Hid (Blk W0 (B + 2) 31 #[.string ⟨#[]⟩, .slice none 0 0, .slice none 0 0, .slice none 0 0, .slice none 0 0]) := Lib.hid (by
    have h := Blk.new ((w.alloc (.cells #[.string c.note, .slice pf c.faces.length cf, .slice pn c.names.length cn, .slice ps c.secs.length cs, .slice pp c.pkts.length cp] 31)).alloc (.cells #[.int .i64 d] 3)) 31 #[.string ⟨#[]⟩, .slice none 0 0, .slice none 0 0, .slice none 0 0, .slice none 0 0]
    rw [alloc_size, alloc_size, hB] at h
    rw [← hW0]; exact h)
  rw [hB]
  have q0 : W0.cell? ⟨B, 0, none⟩ = some (.string c.note) := HK0.out.1.cell 0
  have q1 : W0.cell? ⟨B, 1, none⟩ = some (.slice pf c.faces.length cf) := HK0.out.1.cell 1
  have q2 : W0.cell? ⟨B, 2, none⟩ = some (.slice pn c.names.length cn) := HK0.out.1.cell 2
  have q3 : W0.cell? ⟨B, 3, none⟩ = some (.slice ps c.secs.length cs) := HK0.out.1.cell 3
  have q4 : W0.cell? ⟨B, 4, none⟩ = some (.slice pp c.pkts.length cp) := HK0.out.1.cell 4
  have HV := Lib.hid (vald_any HM0.out)
  have HDD := Lib.hid hd
  have hmf : ∀ (fn : Fn) (first cap : Array Value) (w : World), (Instr.makeFunc fn first cap).run Try.prog w = .ok (.func fn first cap) w := fun _ _ _ _ => rfl
  clear hm hd
  by_cases he : errV c = 0
  · have HE : Hid (errSh c d = errS d c ∧ shR c d = shiftR d c) := Lib.hid (by unfold errSh shR; rw [if_pos he, if_pos he]; exact ⟨rfl, rfl⟩)
    have HT := Lib.hid (errV_times he)
    rw [he] at HV
    clear he
    go_enter Try.func19, Try.ntmps19
    go_wp2_with fail
    clear hW0
    refine HV.out.mono ?_
    rintro e w1 ⟨rfl, hb1⟩
    have hlB : B + 2 < W0.heap.size := HZ0.out.lt
    have HM1 := Lib.hid (HM0.out.keep hb1 hb1.size)
    have HK1 : Hid (Blk w1 B 31 #[.string c.note, .slice pf c.faces.length cf, .slice pn c.names.length cn, .slice ps c.secs.length cs, .slice pp c.pkts.length cp] ∧ Below B w w1) := Lib.hid ⟨HK0.out.1.below hb1 (by omega), HK0.out.2.trans (hb1.mono (by omega))⟩
    have HZ1 := Lib.hid (HZ0.out.below hb1 hlB)
    have HD1 := Lib.hid (HD0.out.below hb1 (by omega))
    have r0 : w1.cell? ⟨B, 0, none⟩ = some (.string c.note) := HK1.out.1.cell 0
    have r1 : w1.cell? ⟨B, 1, none⟩ = some (.slice pf c.faces.length cf) := HK1.out.1.cell 1
    have r2 : w1.cell? ⟨B, 2, none⟩ = some (.slice pn c.names.length cn) := HK1.out.1.cell 2
    have r3 : w1.cell? ⟨B, 3, none⟩ = some (.slice ps c.secs.length cs) := HK1.out.1.cell 3
    have r4 : w1.cell? ⟨B, 4, none⟩ = some (.slice pp c.pkts.length cp) := HK1.out.1.cell 4
    have hlB1 : B + 2 < w1.heap.size := HZ1.out.lt
    have HR := Lib.hid (retime_any HM1.out (gd := B + 1) (HD1.out.cell 0) (by omega) HDD.out HT.out)
    clear HV q0 q1 q2 q3 q4 HK0 HZ0 HD0 hb1 hlB
    go_wp2_with fail
    refine HR.out.mono ?_
    rintro e w2 ⟨⟨af, bf, an, bn, as_, bs, ap, bp⟩, rfl, hO2, hb2⟩
    have HO2 := Lib.hid hO2
    have HZ2 := Lib.hid (HZ1.out.below hb2 hlB1)
    have HB2 : Hid (Below B w w2) := Lib.hid (HK1.out.2.trans (hb2.mono (by omega)))
    clear hO2 hb2 r0 r1 r2 r3 r4 HR
    have z0 : w2.cell? ⟨B + 2, 0, none⟩ = some (.string ⟨#[]⟩) := HZ2.out.cell 0
    have f0 : w2.frozen? ⟨B + 2, 0, none⟩ = false := HZ2.out.frozen 0
    have z1 : w2.cell? ⟨B + 2, 1, none⟩ = some (.slice none 0 0) := HZ2.out.cell 1
    have f1 : w2.frozen? ⟨B + 2, 1, none⟩ = false := HZ2.out.frozen 1
    have z2 : w2.cell? ⟨B + 2, 2, none⟩ = some (.slice none 0 0) := HZ2.out.cell 2
    have f2 : w2.frozen? ⟨B + 2, 2, none⟩ = false := HZ2.out.frozen 2
    have z3 : w2.cell? ⟨B + 2, 3, none⟩ = some (.slice none 0 0) := HZ2.out.cell 3
    have f3 : w2.frozen? ⟨B + 2, 3, none⟩ = false := HZ2.out.frozen 3
    have z4 : w2.cell? ⟨B + 2, 4, none⟩ = some (.slice none 0 0) := HZ2.out.cell 4
    have f4 : w2.frozen? ⟨B + 2, 4, none⟩ = false := HZ2.out.frozen 4
    have HEND := Lib.hid (set5 HZ2.out (.string (shiftR d c).note) (.slice af (shiftR d c).faces.length bf) (.slice an (shiftR d c).names.length bn) (.slice as_ (shiftR d c).secs.length bs) (.slice ap (shiftR d c).pkts.length bp))
    obtain ⟨ES, hES⟩ : ∃ ES, errS d c = ES := ⟨_, rfl⟩
    rw [hES] at HE ⊢
    clear hES
    go_wp2
    generalize hW9 : ((((w2.setCell ⟨B + 2, 0, none⟩ (.string (shiftR d c).note)).setCell ⟨B + 2, 1, none⟩ (.slice af (shiftR d c).faces.length bf)).setCell ⟨B + 2, 2, none⟩ (.slice an (shiftR d c).names.length bn)).setCell ⟨B + 2, 3, none⟩ (.slice as_ (shiftR d c).secs.length bs)).setCell ⟨B + 2, 4, none⟩ (.slice ap (shiftR d c).pkts.length bp) = W9 at HEND ⊢
    obtain ⟨hb9, ha9, hw9⟩ := HEND.out
    have y0 : W9.cell? ⟨B + 2, 0, none⟩ = some (.string (shiftR d c).note) := hb9.cell 0
    have y1 : W9.cell? ⟨B + 2, 1, none⟩ = some (.slice af (shiftR d c).faces.length bf) := hb9.cell 1
    have y2 : W9.cell? ⟨B + 2, 2, none⟩ = some (.slice an (shiftR d c).names.length bn) := hb9.cell 2
    have y3 : W9.cell? ⟨B + 2, 3, none⟩ = some (.slice as_ (shiftR d c).secs.length bs) := hb9.cell 3
    have y4 : W9.cell? ⟨B + 2, 4, none⟩ = some (.slice ap (shiftR d c).pkts.length bp) := hb9.cell 4
    exact bodyPost_ret (v := .tuple #[.agg #[.string (shiftR d c).note, .slice af (shiftR d c).faces.length bf, .slice an (shiftR d c).names.length bn, .slice as_ (shiftR d c).secs.length bs, .slice ap (shiftR d c).pkts.length bp], .int .i64 ES]) (by simp [results, Try.results19, go_sem, y0, y1, y2, y3, y4]) rfl ⟨⟨af, bf, an, bn, as_, bs, ap, bp⟩, by rw [HE.out.1, HE.out.2], by rw [HE.out.2]; exact ((HO2.out.alike ha9 (by decide)).mono (by omega)), hw9 _ _ HB2.out (by omega)⟩
  · have HE : Hid (errSh c d = errV c ∧ shR c d = noC) := Lib.hid (by unfold errSh shR; rw [if_neg he, if_neg he]; exact ⟨rfl, rfl⟩)
    obtain ⟨E, hE⟩ : ∃ E, errV c = E := ⟨_, rfl⟩
    rw [hE] at HV HE he
    have hd : (E != 0) = true := by simpa using he
    clear he hE
    go_enter Try.func19, Try.ntmps19
    go_wp2_with fail
    clear hW0
    refine HV.out.mono ?_
    rintro e w2 ⟨rfl, hb1⟩
    have hlB : B + 2 < W0.heap.size := HZ0.out.lt
    have HZ2 := Lib.hid (HZ0.out.below hb1 hlB)
    have HB2 : Hid (Below B w w2) := Lib.hid (HK0.out.2.trans (hb1.mono (by omega)))
    clear hb1 q0 q1 q2 q3 q4 HV HK0 HZ0 HD0
    have z0 : w2.cell? ⟨B + 2, 0, none⟩ = some (.string ⟨#[]⟩) := HZ2.out.cell 0
    have f0 : w2.frozen? ⟨B + 2, 0, none⟩ = false := HZ2.out.frozen 0
    have z1 : w2.cell? ⟨B + 2, 1, none⟩ = some (.slice none 0 0) := HZ2.out.cell 1
    have f1 : w2.frozen? ⟨B + 2, 1, none⟩ = false := HZ2.out.frozen 1
    have z2 : w2.cell? ⟨B + 2, 2, none⟩ = some (.slice none 0 0) := HZ2.out.cell 2
    have f2 : w2.frozen? ⟨B + 2, 2, none⟩ = false := HZ2.out.frozen 2
    have z3 : w2.cell? ⟨B + 2, 3, none⟩ = some (.slice none 0 0) := HZ2.out.cell 3
    have f3 : w2.frozen? ⟨B + 2, 3, none⟩ = false := HZ2.out.frozen 3
    have z4 : w2.cell? ⟨B + 2, 4, none⟩ = some (.slice none 0 0) := HZ2.out.cell 4
    have f4 : w2.frozen? ⟨B + 2, 4, none⟩ = false := HZ2.out.frozen 4
    have HEND := Lib.hid (set5 HZ2.out (.string ⟨#[]⟩) (.slice none 0 0) (.slice none 0 0) (.slice none 0 0) (.slice none 0 0))
    go_wp2
    generalize hW9 : ((((w2.setCell ⟨B + 2, 0, none⟩ (.string ⟨#[]⟩)).setCell ⟨B + 2, 1, none⟩ (.slice none 0 0)).setCell ⟨B + 2, 2, none⟩ (.slice none 0 0)).setCell ⟨B + 2, 3, none⟩ (.slice none 0 0)).setCell ⟨B + 2, 4, none⟩ (.slice none 0 0) = W9 at HEND ⊢
    obtain ⟨hb9, ha9, hw9⟩ := HEND.out
    have y0 : W9.cell? ⟨B + 2, 0, none⟩ = some (.string ⟨#[]⟩) := hb9.cell 0
    have y1 : W9.cell? ⟨B + 2, 1, none⟩ = some (.slice none 0 0) := hb9.cell 1
    have y2 : W9.cell? ⟨B + 2, 2, none⟩ = some (.slice none 0 0) := hb9.cell 2
    have y3 : W9.cell? ⟨B + 2, 3, none⟩ = some (.slice none 0 0) := hb9.cell 3
    have y4 : W9.cell? ⟨B + 2, 4, none⟩ = some (.slice none 0 0) := hb9.cell 4
    exact bodyPost_ret (v := .tuple #[.agg #[.string ⟨#[]⟩, .slice none 0 0, .slice none 0 0, .slice none 0 0, .slice none 0 0], .int .i64 E]) (by simp [results, Try.results19, go_sem, y0, y1, y2, y3, y4]) rfl ⟨⟨none, 0, none, 0, none, 0, none, 0⟩, by rw [HE.out.1, HE.out.2]; rfl, by rw [HE.out.2]; exact capO_no _ _, hw9 _ _ HB2.out (by omega)⟩
end Go.Proofs.Ytghdilmlfficlaa
