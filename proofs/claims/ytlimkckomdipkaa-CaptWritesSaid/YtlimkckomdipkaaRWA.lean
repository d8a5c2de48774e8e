/- The reference's Write, in all its ways. -/
import Derived.Test.YtlimkckomdipkaaRWr
import Derived.Test.YtlimkckomdipkaaRWO
namespace Go.Proofs.Ytlimkckomdipkaa
open Go.RowKit

/-- What the reference's Write leaves. -/
def RWPost (w : World) (r : List Nat × Int) (e : Ending) (w' : World) : Prop :=
  ∃ v, e = .returned (.tuple #[v, .int .i64 r.2]) ∧ Gro w' w.heap.size v r.1 ∧ Below w.heap.size w w'
set_option maxRecDepth 100000 in
set_option maxHeartbeats 4000000 in
theorem rwbad_any {w : World} {p : Pl} {c : Cap} (old low : Bool) (hm : CapM w w.heap.size p c) (he : ¬ errV c = 0) : Calls Try.prog 11 #[capV p c, .bool old, .bool low] w (RWPost w ([], errV c)) := by
  obtain ⟨pf, cf, pn, cn, ps, cs, pp, cp⟩ := p
  obtain ⟨B, hB⟩ : ∃ B, w.heap.size = B := ⟨_, rfl⟩
  obtain ⟨W0, hW0⟩ : ∃ W0, w.alloc (.cells #[.string c.note, .slice pf c.faces.length cf, .slice pn c.names.length cn, .slice ps c.secs.length cs, .slice pp c.pkts.length cp] 27) = W0 := ⟨_, rfl⟩
  have HM0 : Hid (CapM W0 W0.heap.size ⟨pf, cf, pn, cn, ps, cs, pp, cp⟩ c) := Lib.hid (by rw [← hW0]; exact boxed hm _)
  have HK0 : Hid (Blk W0 B 27 #[.string c.note, .slice pf c.faces.length cf, .slice pn c.names.length cn, .slice ps c.secs.length cs, .slice pp c.pkts.length cp] ∧ Below B w W0) := Lib.hid (by rw [← hW0, ← hB]; exact ⟨Blk.new _ _ _, (Below.refl _ w).alloc (Nat.le_refl _) _⟩)
  have HR := Lib.hid (rvald_any HM0.out)
  have hne : (errV c == 0) = false := by simpa using he
  have hne2 : (errV c != 0) = true := by simpa using he
  obtain ⟨E, hE⟩ : ∃ E, errV c = E := ⟨_, rfl⟩
  rw [hE] at hne hne2 HR ⊢
  clear he hE
  unfold RWPost
  rw [hB]
  have q0 : W0.cell? ⟨B, 0, none⟩ = some (.string c.note) := HK0.out.1.cell 0
  have q1 : W0.cell? ⟨B, 1, none⟩ = some (.slice pf c.faces.length cf) := HK0.out.1.cell 1
  have q2 : W0.cell? ⟨B, 2, none⟩ = some (.slice pn c.names.length cn) := HK0.out.1.cell 2
  have q3 : W0.cell? ⟨B, 3, none⟩ = some (.slice ps c.secs.length cs) := HK0.out.1.cell 3
  have q4 : W0.cell? ⟨B, 4, none⟩ = some (.slice pp c.pkts.length cp) := HK0.out.1.cell 4
  clear hm
  go_enter Try.func11, Try.ntmps11
  go_wp2_with fail
  clear hW0 hB
  refine HR.out.mono ?_
  rintro e w1 ⟨rfl, hb1⟩
  have HK1 : Hid (Blk w1 B 27 #[.string c.note, .slice pf c.faces.length cf, .slice pn c.names.length cn, .slice ps c.secs.length cs, .slice pp c.pkts.length cp] ∧ Below B w w1) := Lib.hid ⟨HK0.out.1.below hb1 HK0.out.1.lt, HK0.out.2.trans (hb1.mono (Nat.le_of_lt HK0.out.1.lt))⟩
  have HM1 := Lib.hid (HM0.out.keep hb1 hb1.size)
  clear hb1 HM0 HK0 HR q0 q1 q2 q3 q4
  go_wp2
  go_ret2
  exact ⟨_, rfl, nil_gro _ _, HK1.out.2⟩
set_option maxRecDepth 100000 in
set_option maxHeartbeats 4000000 in
theorem rwfit_any {w : World} {p : Pl} {c : Cap} (low : Bool) (hm : CapM w w.heap.size p c) (he : errV c = 0) (hp : ¬ c = plainC c) : Calls Try.prog 11 #[capV p c, .bool true, .bool low] w (RWPost w ([], 10)) := by
  obtain ⟨pf, cf, pn, cn, ps, cs, pp, cp⟩ := p
  obtain ⟨B, hB⟩ : ∃ B, w.heap.size = B := ⟨_, rfl⟩
  obtain ⟨W0, hW0⟩ : ∃ W0, w.alloc (.cells #[.string c.note, .slice pf c.faces.length cf, .slice pn c.names.length cn, .slice ps c.secs.length cs, .slice pp c.pkts.length cp] 27) = W0 := ⟨_, rfl⟩
  have HM0 : Hid (CapM W0 W0.heap.size ⟨pf, cf, pn, cn, ps, cs, pp, cp⟩ c) := Lib.hid (by rw [← hW0]; exact boxed hm _)
  have HK0 : Hid (Blk W0 B 27 #[.string c.note, .slice pf c.faces.length cf, .slice pn c.names.length cn, .slice ps c.secs.length cs, .slice pp c.pkts.length cp] ∧ Below B w W0) := Lib.hid (by rw [← hW0, ← hB]; exact ⟨Blk.new _ _ _, (Below.refl _ w).alloc (Nat.le_refl _) _⟩)
  have HR := Lib.hid (rvald_any HM0.out)
  rw [he] at HR
  have HE := Lib.hid he
  have HP := Lib.hid (eqB_false hp)
  clear he hp
  unfold RWPost
  rw [hB]
  have q0 : W0.cell? ⟨B, 0, none⟩ = some (.string c.note) := HK0.out.1.cell 0
  have q1 : W0.cell? ⟨B, 1, none⟩ = some (.slice pf c.faces.length cf) := HK0.out.1.cell 1
  have q2 : W0.cell? ⟨B, 2, none⟩ = some (.slice pn c.names.length cn) := HK0.out.1.cell 2
  have q3 : W0.cell? ⟨B, 3, none⟩ = some (.slice ps c.secs.length cs) := HK0.out.1.cell 3
  have q4 : W0.cell? ⟨B, 4, none⟩ = some (.slice pp c.pkts.length cp) := HK0.out.1.cell 4
  clear hm
  go_enter Try.func11, Try.ntmps11
  go_wp2_with fail
  clear hW0 hB
  refine HR.out.mono ?_
  rintro e w1 ⟨rfl, hb1⟩
  have HK1 : Hid (Blk w1 B 27 #[.string c.note, .slice pf c.faces.length cf, .slice pn c.names.length cn, .slice ps c.secs.length cs, .slice pp c.pkts.length cp] ∧ Below B w w1) := Lib.hid ⟨HK0.out.1.below hb1 HK0.out.1.lt, HK0.out.2.trans (hb1.mono (Nat.le_of_lt HK0.out.1.lt))⟩
  have HM1 := Lib.hid (HM0.out.keep hb1 hb1.size)
  clear hb1 HM0 HK0 HR q0 q1 q2 q3 q4
  have r0 : w1.cell? ⟨B, 0, none⟩ = some (.string c.note) := HK1.out.1.cell 0
  have r1 : w1.cell? ⟨B, 1, none⟩ = some (.slice pf c.faces.length cf) := HK1.out.1.cell 1
  have r2 : w1.cell? ⟨B, 2, none⟩ = some (.slice pn c.names.length cn) := HK1.out.1.cell 2
  have r3 : w1.cell? ⟨B, 3, none⟩ = some (.slice ps c.secs.length cs) := HK1.out.1.cell 3
  have r4 : w1.cell? ⟨B, 4, none⟩ = some (.slice pp c.pkts.length cp) := HK1.out.1.cell 4
  have HF := Lib.hid (fits_any HM1.out HE.out)
  rw [HP.out] at HF
  go_wp2_with fail
  refine HF.out.mono ?_
  rintro e w2 ⟨rfl, hb2⟩
  have HK2 : Hid (Below B w w2) := Lib.hid (HK1.out.2.trans (hb2.mono (Nat.le_of_lt HK1.out.1.lt)))
  clear hb2
  go_wp2
  go_ret2
  exact ⟨_, rfl, nil_gro _ _, HK2.out⟩
set_option maxRecDepth 100000 in
set_option maxHeartbeats 4000000 in
theorem rwoldw_any {w : World} {p : Pl} {c : Cap} (low : Bool) (hm : CapM w w.heap.size p c) (he : errV c = 0) (hp : c = plainC c) : Calls Try.prog 11 #[capV p c, .bool true, .bool low] w (RWPost w (oldFileB low c, 0)) := by
  obtain ⟨pf, cf, pn, cn, ps, cs, pp, cp⟩ := p
  obtain ⟨B, hB⟩ : ∃ B, w.heap.size = B := ⟨_, rfl⟩
  obtain ⟨W0, hW0⟩ : ∃ W0, w.alloc (.cells #[.string c.note, .slice pf c.faces.length cf, .slice pn c.names.length cn, .slice ps c.secs.length cs, .slice pp c.pkts.length cp] 27) = W0 := ⟨_, rfl⟩
  have HM0 : Hid (CapM W0 W0.heap.size ⟨pf, cf, pn, cn, ps, cs, pp, cp⟩ c) := Lib.hid (by rw [← hW0]; exact boxed hm _)
  have HK0 : Hid (Blk W0 B 27 #[.string c.note, .slice pf c.faces.length cf, .slice pn c.names.length cn, .slice ps c.secs.length cs, .slice pp c.pkts.length cp] ∧ Below B w W0) := Lib.hid (by rw [← hW0, ← hB]; exact ⟨Blk.new _ _ _, (Below.refl _ w).alloc (Nat.le_refl _) _⟩)
  have HR := Lib.hid (rvald_any HM0.out)
  rw [he] at HR
  have HE := Lib.hid he
  have HP := Lib.hid (eqB_true hp)
  clear he hp
  unfold RWPost
  rw [hB]
  have q0 : W0.cell? ⟨B, 0, none⟩ = some (.string c.note) := HK0.out.1.cell 0
  have q1 : W0.cell? ⟨B, 1, none⟩ = some (.slice pf c.faces.length cf) := HK0.out.1.cell 1
  have q2 : W0.cell? ⟨B, 2, none⟩ = some (.slice pn c.names.length cn) := HK0.out.1.cell 2
  have q3 : W0.cell? ⟨B, 3, none⟩ = some (.slice ps c.secs.length cs) := HK0.out.1.cell 3
  have q4 : W0.cell? ⟨B, 4, none⟩ = some (.slice pp c.pkts.length cp) := HK0.out.1.cell 4
  clear hm
  go_enter Try.func11, Try.ntmps11
  go_wp2_with fail
  clear hW0 hB
  refine HR.out.mono ?_
  rintro e w1 ⟨rfl, hb1⟩
  have HK1 : Hid (Blk w1 B 27 #[.string c.note, .slice pf c.faces.length cf, .slice pn c.names.length cn, .slice ps c.secs.length cs, .slice pp c.pkts.length cp] ∧ Below B w w1) := Lib.hid ⟨HK0.out.1.below hb1 HK0.out.1.lt, HK0.out.2.trans (hb1.mono (Nat.le_of_lt HK0.out.1.lt))⟩
  have HM1 := Lib.hid (HM0.out.keep hb1 hb1.size)
  clear hb1 HM0 HK0 HR q0 q1 q2 q3 q4
  have r0 : w1.cell? ⟨B, 0, none⟩ = some (.string c.note) := HK1.out.1.cell 0
  have r1 : w1.cell? ⟨B, 1, none⟩ = some (.slice pf c.faces.length cf) := HK1.out.1.cell 1
  have r2 : w1.cell? ⟨B, 2, none⟩ = some (.slice pn c.names.length cn) := HK1.out.1.cell 2
  have r3 : w1.cell? ⟨B, 3, none⟩ = some (.slice ps c.secs.length cs) := HK1.out.1.cell 3
  have r4 : w1.cell? ⟨B, 4, none⟩ = some (.slice pp c.pkts.length cp) := HK1.out.1.cell 4
  have HF := Lib.hid (fits_any HM1.out HE.out)
  rw [HP.out] at HF
  have hl1 : B < w1.heap.size := HK1.out.1.lt
  go_wp2_with fail
  refine HF.out.mono ?_
  rintro e w2 ⟨rfl, hb2⟩
  have HK2 : Hid (Blk w2 B 27 #[.string c.note, .slice pf c.faces.length cf, .slice pn c.names.length cn, .slice ps c.secs.length cs, .slice pp c.pkts.length cp] ∧ Below B w w2) := Lib.hid ⟨HK1.out.1.below hb2 HK1.out.1.lt, HK1.out.2.trans (hb2.mono (Nat.le_of_lt HK1.out.1.lt))⟩
  have HM2 := Lib.hid (HM1.out.keep hb2 hb2.size)
  have HO := Lib.hid (rwold_any low HM2.out HE.out)
  have hl2 : B < w2.heap.size := HK2.out.1.lt
  clear hb2 r0 r1 r2 r3 r4 HM1 HK1
  have r0 : w2.cell? ⟨B, 0, none⟩ = some (.string c.note) := HK2.out.1.cell 0
  have r1 : w2.cell? ⟨B, 1, none⟩ = some (.slice pf c.faces.length cf) := HK2.out.1.cell 1
  have r2 : w2.cell? ⟨B, 2, none⟩ = some (.slice pn c.names.length cn) := HK2.out.1.cell 2
  have r3 : w2.cell? ⟨B, 3, none⟩ = some (.slice ps c.secs.length cs) := HK2.out.1.cell 3
  have r4 : w2.cell? ⟨B, 4, none⟩ = some (.slice pp c.pkts.length cp) := HK2.out.1.cell 4
  go_wp2_with fail
  refine HO.out.mono ?_
  rintro e w3 ⟨v3, rfl, g3, hb3⟩
  have G3 : Hid (Gro w3 B v3 (oldFileB low c) ∧ Below B w w3) := Lib.hid ⟨g3.mono (Nat.le_of_lt hl2), HK2.out.2.trans (hb3.mono (Nat.le_of_lt hl2))⟩
  clear g3 hb3
  go_wp2
  go_ret2
  exact ⟨_, rfl, G3.out.1, G3.out.2⟩
theorem rwrite_any {w : World} {p : Pl} {c : Cap} (old low : Bool) (hm : CapM w w.heap.size p c) : Calls Try.prog 11 #[capV p c, .bool old, .bool low] w (RWPost w (writeR old low c)) := by
  unfold writeR
  by_cases he : errV c = 0
  · rw [if_pos he]
    cases old with
    | true =>
      simp only [if_true]
      by_cases hp : c = plainC c
      · rw [if_pos (eqB_true hp)]
        exact rwoldw_any low hm he hp
      · rw [if_neg (by rw [eqB_false hp]; decide)]
        exact rwfit_any low hm he hp
    | false => exact rwblocks_any low hm he
  · rw [if_neg he]
    exact rwbad_any old low hm he
end Go.Proofs.Ytlimkckomdipkaa
