/- Write: the program's. -/
import Derived.Test.YtlimkckomdipkaaP17
import Derived.Test.YtlimkckomdipkaaWB
import Derived.Test.YtlimkckomdipkaaWO
import Derived.Test.YtlimkckomdipkaaSame
namespace Go.Proofs.Ytlimkckomdipkaa
open Go.RowKit

/-- The file of a capture, and why there is none. -/
noncomputable def writeR (old low : Bool) (c : Cap) : List Nat × Int :=
  if errV c = 0 then (if old then (if eqB c (plainC c) then (oldFileB low c, 0) else ([], 10)) else (blocksB low c, 0)) else ([], errV c)

theorem order_any (w : World) (low : Bool) : Calls Try.prog 27 #[.bool low] w fun e w' => e = .returned (ordV low) ∧ w' = w := by
  cases low
  · go_enter Try.func27, Try.ntmps27
    go_wp2
    go_ret
    exact ⟨rfl, rfl⟩
  · go_enter Try.func27, Try.ntmps27
    go_wp2
    go_ret
    exact ⟨rfl, rfl⟩

def WritePost (w : World) (r : List Nat × Int) (e : Ending) (w' : World) : Prop :=
  ∃ v, e = .returned (.tuple #[v, .int .i64 r.2]) ∧ w'.ownsRow w.heap.size 5 1 v r.1.length (r.1.map u8) ∧ Below w.heap.size w w'

set_option maxRecDepth 100000 in
set_option maxHeartbeats 4000000 in
theorem write_any {w : World} {p : Pl} {c : Cap} (old low : Bool) (hm : CapM w w.heap.size p c) :
    Calls Try.prog 10 #[capV p c, .bool old, .bool low] w (WritePost w (writeR old low c)) := by
  obtain ⟨pf, cf, pn, cn, ps, cs, pp, cp⟩ := p
  obtain ⟨B, hB⟩ : ∃ B, w.heap.size = B := ⟨_, rfl⟩
  have HBW : Hid (w.heap.size = B) := Lib.hid hB
  obtain ⟨W0, hW0⟩ : ∃ W0, w.alloc (.cells #[.string c.note, .slice pf c.faces.length cf, .slice pn c.names.length cn, .slice ps c.secs.length cs, .slice pp c.pkts.length cp] 27) = W0 := ⟨_, rfl⟩
  have HM0 : Hid (CapM W0 W0.heap.size ⟨pf, cf, pn, cn, ps, cs, pp, cp⟩ c) := Lib.hid (by rw [← hW0]; exact boxed hm _)
  have HK0 : Hid (Blk W0 B 27 #[.string c.note, .slice pf c.faces.length cf, .slice pn c.names.length cn, .slice ps c.secs.length cs, .slice pp c.pkts.length cp] ∧ Below B w W0) := Lib.hid (by rw [← hW0, ← hB]; exact ⟨Blk.new _ _ _, (Below.refl _ w).alloc (Nat.le_refl _) _⟩)
  skip
  have q0 : W0.cell? ⟨B, 0, none⟩ = some (.string c.note) := HK0.out.1.cell 0
  have q1 : W0.cell? ⟨B, 1, none⟩ = some (.slice pf c.faces.length cf) := HK0.out.1.cell 1
  have q2 : W0.cell? ⟨B, 2, none⟩ = some (.slice pn c.names.length cn) := HK0.out.1.cell 2
  have q3 : W0.cell? ⟨B, 3, none⟩ = some (.slice ps c.secs.length cs) := HK0.out.1.cell 3
  have q4 : W0.cell? ⟨B, 4, none⟩ = some (.slice pp c.pkts.length cp) := HK0.out.1.cell 4
  have HV := Lib.hid (vald_any HM0.out)
  clear hm
  by_cases he : errV c = 0
  · have HEE := Lib.hid he
    have HB := Lib.hid (errV_ok he)
    go_enter Try.func10, Try.ntmps10
    go_wp2_with fail
    clear hW0
    refine HV.out.mono ?_
    rintro e w1 ⟨rfl, hb1⟩
    have hlB : B < W0.heap.size := HK0.out.1.lt
    have HM1 := Lib.hid (HM0.out.keep hb1 hb1.size)
    have HK1 : Hid (Blk w1 B 27 #[.string c.note, .slice pf c.faces.length cf, .slice pn c.names.length cn, .slice ps c.secs.length cs, .slice pp c.pkts.length cp] ∧ Below B w w1) := Lib.hid ⟨HK0.out.1.below hb1 hlB, HK0.out.2.trans (hb1.mono (by omega))⟩
    rw [he]
    clear hb1 q0 q1 q2 q3 q4 HV he hlB
    have r0 : w1.cell? ⟨B, 0, none⟩ = some (.string c.note) := HK1.out.1.cell 0
    have r1 : w1.cell? ⟨B, 1, none⟩ = some (.slice pf c.faces.length cf) := HK1.out.1.cell 1
    have r2 : w1.cell? ⟨B, 2, none⟩ = some (.slice pn c.names.length cn) := HK1.out.1.cell 2
    have r3 : w1.cell? ⟨B, 3, none⟩ = some (.slice ps c.secs.length cs) := HK1.out.1.cell 3
    have r4 : w1.cell? ⟨B, 4, none⟩ = some (.slice pp c.pkts.length cp) := HK1.out.1.cell 4
    cases old with
    | false =>
      have HR : Hid (writeR false low c = (blocksB low c, 0)) := Lib.hid (by unfold writeR; rw [if_pos HEE.out]; rfl)
      have H27 := Lib.hid (order_any w1.drew low)
      have H26 := Lib.hid (wblocks_any (w := w1.drew) low (HM1.out.keep (Below.refl _ _).drew (Nat.le_refl _)) HB.out.1 HB.out.2)
      go_wp2_with fail
      go_region_held3 (fun w' => w'.cell? ⟨B, 0, none⟩ = some (.string c.note) ∧ w'.cell? ⟨B, 1, none⟩ = some (.slice pf c.faces.length cf) ∧ w'.cell? ⟨B, 2, none⟩ = some (.slice pn c.names.length cn) ∧ w'.cell? ⟨B, 3, none⟩ = some (.slice ps c.secs.length cs) ∧ w'.cell? ⟨B, 4, none⟩ = some (.slice pp c.pkts.length cp)) (first | exact ⟨r0, r1, r2, r3, r4⟩ | exact ⟨t0, t1, t2, t3, t4⟩) ((first
        | (go_at_call 27; ((with_reducible refine H27.out.mono ?_); rintro e w2 ⟨rfl, rfl⟩))
        | (go_at_call 26; ((with_reducible refine H26.out.mono ?_); rintro e w3 ⟨v3, rfl, ho3, hb3a⟩); have hb3 : Below w1.heap.size w1 w3 := (Below.refl _ w1).drew.trans hb3a; have HK3 : Hid (Blk w3 B 27 #[.string c.note, .slice pf c.faces.length cf, .slice pn c.names.length cn, .slice ps c.secs.length cs, .slice pp c.pkts.length cp] ∧ Below B w w3) := Lib.hid ⟨HK1.out.1.below hb3 HK1.out.1.lt, HK1.out.2.trans (hb3.mono (Nat.le_of_lt HK1.out.1.lt))⟩; have HO3 : Hid (w3.ownsRow B 5 1 v3 (blocksB low c).length ((blocksB low c).map u8)) := Lib.hid (own_mono ho3 (Nat.le_of_lt HK1.out.1.lt)); have t0 := HK3.out.1.cell 0; have t1 := HK3.out.1.cell 1; have t2 := HK3.out.1.cell 2; have t3 := HK3.out.1.cell 3; have t4 := HK3.out.1.cell 4; clear ho3 hb3 hb3a)))
      all_goals
        go_wp2
        refine bodyPost_ret (v := .tuple #[v3, .int .i64 0]) (by simp [results, Try.results10, go_sem]) rfl ?_
        exact ⟨v3, by rw [HR.out], by rw [HBW.out, HR.out]; exact HO3.out, by rw [HBW.out]; exact HK3.out.2⟩
    | true =>
      have HP := Lib.hid (plain_any (w := w1.drew) (HM1.out.keep (Below.refl _ _).drew (Nat.le_refl _)) HB.out.1 HB.out.2)
      go_wp2_with fail
      go_region_held3 (fun w' => w'.cell? ⟨B, 0, none⟩ = some (.string c.note) ∧ w'.cell? ⟨B, 1, none⟩ = some (.slice pf c.faces.length cf) ∧ w'.cell? ⟨B, 2, none⟩ = some (.slice pn c.names.length cn) ∧ w'.cell? ⟨B, 3, none⟩ = some (.slice ps c.secs.length cs) ∧ w'.cell? ⟨B, 4, none⟩ = some (.slice pp c.pkts.length cp)) (first | exact ⟨r0, r1, r2, r3, r4⟩ | exact ⟨t0, t1, t2, t3, t4⟩ | exact ⟨s0, s1, s2, s3, s4⟩) ((first
        | (go_at_call 28; ((with_reducible refine HP.out.mono ?_); rintro e w2 ⟨q2, rfl, hm2, hb2a⟩); have hb2 : Below w1.heap.size w1 w2 := (Below.refl _ w1).drew.trans hb2a; have HK2 : Hid (Blk w2 B 27 #[.string c.note, .slice pf c.faces.length cf, .slice pn c.names.length cn, .slice ps c.secs.length cs, .slice pp c.pkts.length cp] ∧ Below B w w2) := Lib.hid ⟨HK1.out.1.below hb2 HK1.out.1.lt, HK1.out.2.trans (hb2.mono (Nat.le_of_lt HK1.out.1.lt))⟩; have HM2 : Hid (CapM w2 w2.heap.size ⟨pf, cf, pn, cn, ps, cs, pp, cp⟩ c) := Lib.hid (HM1.out.keep hb2 hb2.size); have HS := Lib.hid (same_any HM2.out hm2.capM); have t0 := HK2.out.1.cell 0; have t1 := HK2.out.1.cell 1; have t2 := HK2.out.1.cell 2; have t3 := HK2.out.1.cell 3; have t4 := HK2.out.1.cell 4; clear hm2 hb2 hb2a)
        | (go_at_call 21; ((with_reducible refine HS.out.mono ?_); rintro e w3 ⟨rfl, hb3⟩); have HK3 : Hid (Blk w3 B 27 #[.string c.note, .slice pf c.faces.length cf, .slice pn c.names.length cn, .slice ps c.secs.length cs, .slice pp c.pkts.length cp] ∧ Below B w w3) := Lib.hid ⟨HK2.out.1.below hb3 HK2.out.1.lt, HK2.out.2.trans (hb3.mono (Nat.le_of_lt HK2.out.1.lt))⟩; have HM3 : Hid (CapM w3 w3.heap.size ⟨pf, cf, pn, cn, ps, cs, pp, cp⟩ c) := Lib.hid (HM2.out.keep hb3 hb3.size); have s0 := HK3.out.1.cell 0; have s1 := HK3.out.1.cell 1; have s2 := HK3.out.1.cell 2; have s3 := HK3.out.1.cell 3; have s4 := HK3.out.1.cell 4; clear hb3)))
      all_goals
        cases hq : eqB c (plainC c) with
        | false =>
          have HR : Hid (writeR true low c = ([], 10)) := Lib.hid (by unfold writeR; rw [if_pos HEE.out, hq]; rfl)
          clear hq
          go_wp2
          refine bodyPost_ret (v := .tuple #[.slice none 0 0, .int .i64 10]) (by simp [results, Try.results10, go_sem]) rfl ?_
          exact ⟨.slice none 0 0, by rw [HR.out], by rw [HR.out]; exact World.ownsRow_nil _ _ _ _, by rw [HBW.out]; exact HK3.out.2⟩
        | true =>
          have HR : Hid (writeR true low c = (oldFileB low c, 0)) := Lib.hid (by unfold writeR; rw [if_pos HEE.out, hq]; rfl)
          have H27 := Lib.hid (order_any w3.drew low)
          have H29 := Lib.hid (wold_any (w := w3.drew) low (HM3.out.keep (Below.refl _ _).drew (Nat.le_refl _)) HB.out.1 HB.out.2)
          clear hq r0 r1 r2 r3 r4 t0 t1 t2 t3 t4
          go_wp2_with fail
          go_region_held3 (fun w' => w'.cell? ⟨B, 0, none⟩ = some (.string c.note) ∧ w'.cell? ⟨B, 1, none⟩ = some (.slice pf c.faces.length cf) ∧ w'.cell? ⟨B, 2, none⟩ = some (.slice pn c.names.length cn) ∧ w'.cell? ⟨B, 3, none⟩ = some (.slice ps c.secs.length cs) ∧ w'.cell? ⟨B, 4, none⟩ = some (.slice pp c.pkts.length cp)) (first | exact ⟨s0, s1, s2, s3, s4⟩ | exact ⟨t0, t1, t2, t3, t4⟩) ((first
            | (go_at_call 27; ((with_reducible refine H27.out.mono ?_); rintro e w4 ⟨rfl, rfl⟩))
            | (go_at_call 29; ((with_reducible refine H29.out.mono ?_); rintro e w5 ⟨v5, rfl, ho5, hb5a⟩); have hb5 : Below w3.heap.size w3 w5 := (Below.refl _ w3).drew.trans hb5a; have HK5 : Hid (Blk w5 B 27 #[.string c.note, .slice pf c.faces.length cf, .slice pn c.names.length cn, .slice ps c.secs.length cs, .slice pp c.pkts.length cp] ∧ Below B w w5) := Lib.hid ⟨HK3.out.1.below hb5 HK3.out.1.lt, HK3.out.2.trans (hb5.mono (Nat.le_of_lt HK3.out.1.lt))⟩; have HO5 : Hid (w5.ownsRow B 5 1 v5 (oldFileB low c).length ((oldFileB low c).map u8)) := Lib.hid (own_mono ho5 (Nat.le_of_lt HK3.out.1.lt)); have t0 := HK5.out.1.cell 0; have t1 := HK5.out.1.cell 1; have t2 := HK5.out.1.cell 2; have t3 := HK5.out.1.cell 3; have t4 := HK5.out.1.cell 4; clear ho5 hb5 hb5a)))
          all_goals
            go_wp2
            refine bodyPost_ret (v := .tuple #[v5, .int .i64 0]) (by simp [results, Try.results10, go_sem]) rfl ?_
            exact ⟨v5, by rw [HR.out], by rw [HBW.out, HR.out]; exact HO5.out, by rw [HBW.out]; exact HK5.out.2⟩
  · have HR : Hid (writeR old low c = ([], errV c)) := Lib.hid (by unfold writeR; rw [if_neg he])
    obtain ⟨E, hE⟩ : ∃ E, errV c = E := ⟨_, rfl⟩
    rw [hE] at HV he HR
    have hd : (E == 0) = false := by simpa using he
    clear hE he
    go_enter Try.func10, Try.ntmps10
    go_wp2_with fail
    clear hW0
    refine HV.out.mono ?_
    rintro e w1 ⟨rfl, hb1⟩
    have HB2 : Hid (Below B w w1) := Lib.hid (HK0.out.2.trans (hb1.mono (by have := HK0.out.1.lt; omega)))
    clear hb1 q0 q1 q2 q3 q4 HV
    go_wp2
    refine bodyPost_ret (v := .tuple #[.slice none 0 0, .int .i64 E]) (by simp [results, Try.results10, go_sem]) rfl ?_
    exact ⟨.slice none 0 0, by rw [HR.out], by rw [HR.out]; exact World.ownsRow_nil _ _ _ _, by rw [HBW.out]; exact HB2.out⟩
end Go.Proofs.Ytlimkckomdipkaa
