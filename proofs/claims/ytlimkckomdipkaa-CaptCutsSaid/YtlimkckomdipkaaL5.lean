/- The law of what a capture is whose packets are cut. -/
import Derived.Test.YtlimkckomdipkaaCut
import Derived.Test.YtlimkckomdipkaaRCut
import Derived.Test.YtlimkckomdipkaaK9
import Derived.Test.YtlimkckomdipkaaS16
import Derived.Test.YtlimkckomdipkaaWeight
namespace Go.Proofs.Ytlimkckomdipkaa
open Go.RowKit

set_option maxRecDepth 100000 in
set_option maxHeartbeats 4000000 in
theorem lawCuts_any {w : World} {p : Pl} {c : Cap} {n : Int} (hm : CapM w w.heap.size p c) (hn : -9223372036854775808 ≤ n ∧ n ≤ 9223372036854775807) :
    Calls Try.prog 5 #[capV p c, .int .i64 n] w fun e w' => e = .returned (.bool true) ∧ Below w.heap.size w w' := by
  obtain ⟨pf, cf, pn, cn, ps, cs, pp, cp⟩ := p
  obtain ⟨B, hB⟩ : ∃ B, w.heap.size = B := ⟨_, rfl⟩
  obtain ⟨W0, hW0⟩ : ∃ W0, w.alloc (.cells #[.string c.note, .slice pf c.faces.length cf, .slice pn c.names.length cn, .slice ps c.secs.length cs, .slice pp c.pkts.length cp] 27) = W0 := ⟨_, rfl⟩
  have HM0 : Hid (CapM W0 W0.heap.size ⟨pf, cf, pn, cn, ps, cs, pp, cp⟩ c) := Lib.hid (by rw [← hW0]; exact boxed hm _)
  have HK0 : Hid (Blk W0 B 27 #[.string c.note, .slice pf c.faces.length cf, .slice pn c.names.length cn, .slice ps c.secs.length cs, .slice pp c.pkts.length cp] ∧ Below B w W0) := Lib.hid (by rw [← hW0, ← hB]; exact ⟨Blk.new _ _ _, (Below.refl _ w).alloc (Nat.le_refl _) _⟩)
  rw [hB]
  have HNB := Lib.hid hn
  clear hn
  have q0 : W0.cell? ⟨B, 0, none⟩ = some (.string c.note) := HK0.out.1.cell 0
  have q1 : W0.cell? ⟨B, 1, none⟩ = some (.slice pf c.faces.length cf) := HK0.out.1.cell 1
  have q2 : W0.cell? ⟨B, 2, none⟩ = some (.slice pn c.names.length cn) := HK0.out.1.cell 2
  have q3 : W0.cell? ⟨B, 3, none⟩ = some (.slice ps c.secs.length cs) := HK0.out.1.cell 3
  have q4 : W0.cell? ⟨B, 4, none⟩ = some (.slice pp c.pkts.length cp) := HK0.out.1.cell 4
  have HV := Lib.hid (over_any HM0.out)
  clear hm
  go_enter Try.func5, Try.ntmps5
  go_wp2_with fail
  clear hW0
  refine HV.out.mono ?_
  rintro e w1 ⟨⟨r, rfl⟩, hb1⟩
  have hlB : B < W0.heap.size := HK0.out.1.lt
  have HM1 := Lib.hid (HM0.out.keep hb1 hb1.size)
  have HK1 : Hid (Blk w1 B 27 #[.string c.note, .slice pf c.faces.length cf, .slice pn c.names.length cn, .slice ps c.secs.length cs, .slice pp c.pkts.length cp] ∧ Below B w w1) := Lib.hid ⟨HK0.out.1.below hb1 hlB, HK0.out.2.trans (hb1.mono (by omega))⟩
  have r0 : w1.cell? ⟨B, 0, none⟩ = some (.string c.note) := HK1.out.1.cell 0
  have r1 : w1.cell? ⟨B, 1, none⟩ = some (.slice pf c.faces.length cf) := HK1.out.1.cell 1
  have r2 : w1.cell? ⟨B, 2, none⟩ = some (.slice pn c.names.length cn) := HK1.out.1.cell 2
  have r3 : w1.cell? ⟨B, 3, none⟩ = some (.slice ps c.secs.length cs) := HK1.out.1.cell 3
  have r4 : w1.cell? ⟨B, 4, none⟩ = some (.slice pp c.pkts.length cp) := HK1.out.1.cell 4
  clear hb1 q0 q1 q2 q3 q4 HV hlB
  cases r with
  | true =>
    go_wp2_with fail
    refine (known_any w1).mono ?_
    rintro e w2 ⟨rfl, hb2⟩
    have HB2 : Hid (Below B w w2) := Lib.hid (HK1.out.2.trans (hb2.mono (Nat.le_of_lt HK1.out.1.lt)))
    clear hb2
    go_wp2
    go_ret
    exact ⟨rfl, HB2.out⟩
  | false =>
    have HP := Lib.hid (Cut_any HM1.out HNB.out)
    go_wp2_with fail
    refine HP.out.mono ?_
    rintro e w2 ⟨⟨af, ag, an, ao, as_, at_, ap, aq⟩, rfl, ha2, hb2⟩
    have HA2 := Lib.hid ha2
    have HM2 := Lib.hid (HM1.out.keep hb2 hb2.size)
    have HK2 : Hid (Blk w2 B 27 #[.string c.note, .slice pf c.faces.length cf, .slice pn c.names.length cn, .slice ps c.secs.length cs, .slice pp c.pkts.length cp] ∧ Below B w w2) := Lib.hid ⟨HK1.out.1.below hb2 HK1.out.1.lt, HK1.out.2.trans (hb2.mono (Nat.le_of_lt HK1.out.1.lt))⟩
    clear hb2 ha2 r0 r1 r2 r3 r4 HP
    have s0 : w2.cell? ⟨B, 0, none⟩ = some (.string c.note) := HK2.out.1.cell 0
    have s1 : w2.cell? ⟨B, 1, none⟩ = some (.slice pf c.faces.length cf) := HK2.out.1.cell 1
    have s2 : w2.cell? ⟨B, 2, none⟩ = some (.slice pn c.names.length cn) := HK2.out.1.cell 2
    have s3 : w2.cell? ⟨B, 3, none⟩ = some (.slice ps c.secs.length cs) := HK2.out.1.cell 3
    have s4 : w2.cell? ⟨B, 4, none⟩ = some (.slice pp c.pkts.length cp) := HK2.out.1.cell 4
    obtain ⟨N, hN⟩ : ∃ N, w2.heap.size = N := ⟨_, rfl⟩
    have hBN : B < N := by rw [← hN]; exact HK2.out.1.lt
    go_wp2_with fail
    have hb3 : Below w2.heap.size w2 (w2.alloc (.cells #[.string (cutR c n).note, .slice af (cutR c n).faces.length ag, .slice an (cutR c n).names.length ao, .slice as_ (cutR c n).secs.length at_, .slice ap (cutR c n).pkts.length aq] 27)) := (Below.refl _ w2).alloc (Nat.le_refl _) _
    have HN3 : Hid (Blk (w2.alloc (.cells #[.string (cutR c n).note, .slice af (cutR c n).faces.length ag, .slice an (cutR c n).names.length ao, .slice as_ (cutR c n).secs.length at_, .slice ap (cutR c n).pkts.length aq] 27)) N 27 #[.string (cutR c n).note, .slice af (cutR c n).faces.length ag, .slice an (cutR c n).names.length ao, .slice as_ (cutR c n).secs.length at_, .slice ap (cutR c n).pkts.length aq]) := Lib.hid (by rw [← hN]; exact Blk.new _ _ _)
    have HM3 := Lib.hid (HM2.out.keep hb3 hb3.size)
    have HA3 := Lib.hid (HA2.out.keep (Alike.below hb3))
    have HB3 : Hid (Below B w (w2.alloc (.cells #[.string (cutR c n).note, .slice af (cutR c n).faces.length ag, .slice an (cutR c n).names.length ao, .slice as_ (cutR c n).secs.length at_, .slice ap (cutR c n).pkts.length aq] 27))) := Lib.hid (HK2.out.2.trans (hb3.mono (by rw [hN]; omega)))
    generalize w2.alloc (.cells #[.string (cutR c n).note, .slice af (cutR c n).faces.length ag, .slice an (cutR c n).names.length ao, .slice as_ (cutR c n).secs.length at_, .slice ap (cutR c n).pkts.length aq] 27) = w3 at HN3 HM3 HA3 HB3 ⊢
    clear hb3 hN s0 s1 s2 s3 s4
    refine (rcut_any HM3.out HNB.out).mono ?_
    rintro e w4 ⟨⟨bf, bg, bn, bo, bs, bt, bp, bq⟩, rfl, hb2, hw4⟩
    have HB4 := Lib.hid (hb2)
    have HA4 := Lib.hid (HA3.out.keep (Alike.below hw4))
    have HN4 := Lib.hid (HN3.out.below hw4 HN3.out.lt)
    have HW4 : Hid (Below B w w4) := Lib.hid (HB3.out.trans (hw4.mono (by have := HN3.out.lt; omega)))
    clear hb2 hw4
    obtain ⟨M, hM⟩ : ∃ M, w4.heap.size = M := ⟨_, rfl⟩
    have hNM : N < M := by rw [← hM]; exact HN4.out.lt
    have u0 : w4.cell? ⟨N, 0, none⟩ = some (.string (cutR c n).note) := HN4.out.cell 0
    have u1 : w4.cell? ⟨N, 1, none⟩ = some (.slice af (cutR c n).faces.length ag) := HN4.out.cell 1
    have u2 : w4.cell? ⟨N, 2, none⟩ = some (.slice an (cutR c n).names.length ao) := HN4.out.cell 2
    have u3 : w4.cell? ⟨N, 3, none⟩ = some (.slice as_ (cutR c n).secs.length at_) := HN4.out.cell 3
    have u4 : w4.cell? ⟨N, 4, none⟩ = some (.slice ap (cutR c n).pkts.length aq) := HN4.out.cell 4
    go_wp2_with fail
    have hb5 : Below w4.heap.size w4 (w4.alloc (.cells #[.string (cutR c n).note, .slice bf (cutR c n).faces.length bg, .slice bn (cutR c n).names.length bo, .slice bs (cutR c n).secs.length bt, .slice bp (cutR c n).pkts.length bq] 27)) := (Below.refl _ w4).alloc (Nat.le_refl _) _
    have HM5 : Hid (Blk (w4.alloc (.cells #[.string (cutR c n).note, .slice bf (cutR c n).faces.length bg, .slice bn (cutR c n).names.length bo, .slice bs (cutR c n).secs.length bt, .slice bp (cutR c n).pkts.length bq] 27)) M 27 #[.string (cutR c n).note, .slice bf (cutR c n).faces.length bg, .slice bn (cutR c n).names.length bo, .slice bs (cutR c n).secs.length bt, .slice bp (cutR c n).pkts.length bq]) := Lib.hid (by rw [← hM]; exact Blk.new _ _ _)
    have HN5 := Lib.hid (HN4.out.below hb5 HN4.out.lt)
    have HA5 := Lib.hid (HA4.out.keep (Alike.below hb5))
    have HB5 := Lib.hid (HB4.out.keep (Alike.below hb5))
    have HW5 : Hid (Below B w (w4.alloc (.cells #[.string (cutR c n).note, .slice bf (cutR c n).faces.length bg, .slice bn (cutR c n).names.length bo, .slice bs (cutR c n).secs.length bt, .slice bp (cutR c n).pkts.length bq] 27))) := Lib.hid (HW4.out.trans (hb5.mono (by rw [hM]; omega)))
    generalize w4.alloc (.cells #[.string (cutR c n).note, .slice bf (cutR c n).faces.length bg, .slice bn (cutR c n).names.length bo, .slice bs (cutR c n).secs.length bt, .slice bp (cutR c n).pkts.length bq] 27) = w5 at HM5 HN5 HA5 HB5 HW5 ⊢
    clear hb5 hM u0 u1 u2 u3 u4
    refine (rsame_any HA5.out.capM HB5.out.capM).mono ?_
    rintro e w6 ⟨rfl, hw6⟩
    rw [eqB_true rfl]
    have HW6 : Hid (Below B w w6) := Lib.hid (HW5.out.trans (hw6.mono (by have := HN5.out.lt; omega)))
    have HB6 : Hid (B < w6.heap.size) := Lib.hid (by have := hw6.size; have := HN5.out.lt; omega)
    clear hw6
    generalize errCut c n = E
    go_wp2_with fail
    refine (known_any w6).mono ?_
    rintro e w7 ⟨rfl, hw7⟩
    have HW7 : Hid (Below B w w7) := Lib.hid (HW6.out.trans (hw7.mono (Nat.le_of_lt HB6.out)))
    clear hw7
    go_wp2
    go_ret
    exact ⟨rfl, HW7.out⟩
end Go.Proofs.Ytlimkckomdipkaa
