/- The law of what the old kind can have. -/
import Derived.Test.YtlimkckomdipkaaPlM
import Derived.Test.YtlimkckomdipkaaK9
import Derived.Test.YtlimkckomdipkaaR18
import Derived.Test.YtlimkckomdipkaaS16
import Derived.Test.YtlimkckomdipkaaWeight
namespace Go.Proofs.Ytlimkckomdipkaa
open Go.RowKit

set_option maxRecDepth 100000 in
set_option maxHeartbeats 4000000 in
theorem lawPlain_any {w : World} {p : Pl} {c : Cap} (hm : CapM w w.heap.size p c) :
    Calls Try.prog 4 #[capV p c] w fun e w' => e = .returned (.bool true) ∧ Below w.heap.size w w' := by
  obtain ⟨pf, cf, pn, cn, ps, cs, pp, cp⟩ := p
  obtain ⟨B, hB⟩ : ∃ B, w.heap.size = B := ⟨_, rfl⟩
  obtain ⟨W0, hW0⟩ : ∃ W0, w.alloc (.cells #[.string c.note, .slice pf c.faces.length cf, .slice pn c.names.length cn, .slice ps c.secs.length cs, .slice pp c.pkts.length cp] 27) = W0 := ⟨_, rfl⟩
  have HM0 : Hid (CapM W0 W0.heap.size ⟨pf, cf, pn, cn, ps, cs, pp, cp⟩ c) := Lib.hid (by rw [← hW0]; exact boxed hm _)
  have HK0 : Hid (Blk W0 B 27 #[.string c.note, .slice pf c.faces.length cf, .slice pn c.names.length cn, .slice ps c.secs.length cs, .slice pp c.pkts.length cp] ∧ Below B w W0) := Lib.hid (by rw [← hW0, ← hB]; exact ⟨Blk.new _ _ _, (Below.refl _ w).alloc (Nat.le_refl _) _⟩)
  rw [hB]
  have q0 : W0.cell? ⟨B, 0, none⟩ = some (.string c.note) := HK0.out.1.cell 0
  have q1 : W0.cell? ⟨B, 1, none⟩ = some (.slice pf c.faces.length cf) := HK0.out.1.cell 1
  have q2 : W0.cell? ⟨B, 2, none⟩ = some (.slice pn c.names.length cn) := HK0.out.1.cell 2
  have q3 : W0.cell? ⟨B, 3, none⟩ = some (.slice ps c.secs.length cs) := HK0.out.1.cell 3
  have q4 : W0.cell? ⟨B, 4, none⟩ = some (.slice pp c.pkts.length cp) := HK0.out.1.cell 4
  have HV := Lib.hid (over_any HM0.out)
  clear hm
  go_enter Try.func4, Try.ntmps4
  go_wp2_with fail
  clear hW0
  refine HV.out.mono ?_
  rintro e w1 ⟨⟨r, rfl⟩, hb1⟩
  have hlB : B < W0.heap.size := HK0.out.1.lt
  have HM1 := Lib.hid (HM0.out.keep hb1 hb1.size)
  have HK1 : Hid (Blk w1 B 27 #[.string c.note, .slice pf c.faces.length cf, .slice pn c.names.length cn, .slice ps c.secs.length cs, .slice pp c.pkts.length cp] ∧ Below B w w1) := Lib.hid ⟨HK0.out.1.below hb1 hlB, HK0.out.2.trans (hb1.mono (by omega))⟩
  have r0 : w1.cell? ⟨B, 0, none⟩ = some (.string c.note) := HK1.out.1.cell 0
  have r1 : w1.cell? ⟨B, 1, none⟩ = some (.slice pf c.faces.length cf) := HK1.out.1.cell 1
  have r2 : w1.cell? ⟨B, 2, none⟩ = some (.slice pn c.names.length cn) := HK1.out.1.cell 2
  have r3 : w1.cell? ⟨B, 3, none⟩ = some (.slice ps c.secs.length cs) := HK1.out.1.cell 3
  have r4 : w1.cell? ⟨B, 4, none⟩ = some (.slice pp c.pkts.length cp) := HK1.out.1.cell 4
  clear hb1 q0 q1 q2 q3 q4 HV hlB
  cases r with
  | true =>
    go_wp2_with fail
    refine (known_any w1).mono ?_
    rintro e w2 ⟨rfl, hb2⟩
    have HB2 : Hid (Below B w w2) := Lib.hid (HK1.out.2.trans (hb2.mono (Nat.le_of_lt HK1.out.1.lt)))
    clear hb2
    go_wp2
    go_ret
    exact ⟨rfl, HB2.out⟩
  | false =>
    have HP := Lib.hid (Plain_any HM1.out)
    go_wp2_with fail
    refine HP.out.mono ?_
    rintro e w2 ⟨⟨af, ag, an, ao, as_, at_, ap, aq⟩, rfl, ha2, hb2⟩
    have HA2 := Lib.hid ha2
    have HM2 := Lib.hid (HM1.out.keep hb2 hb2.size)
    have HK2 : Hid (Blk w2 B 27 #[.string c.note, .slice pf c.faces.length cf, .slice pn c.names.length cn, .slice ps c.secs.length cs, .slice pp c.pkts.length cp] ∧ Below B w w2) := Lib.hid ⟨HK1.out.1.below hb2 HK1.out.1.lt, HK1.out.2.trans (hb2.mono (Nat.le_of_lt HK1.out.1.lt))⟩
    clear hb2 ha2 r0 r1 r2 r3 r4 HP
    have s0 : w2.cell? ⟨B, 0, none⟩ = some (.string c.note) := HK2.out.1.cell 0
    have s1 : w2.cell? ⟨B, 1, none⟩ = some (.slice pf c.faces.length cf) := HK2.out.1.cell 1
    have s2 : w2.cell? ⟨B, 2, none⟩ = some (.slice pn c.names.length cn) := HK2.out.1.cell 2
    have s3 : w2.cell? ⟨B, 3, none⟩ = some (.slice ps c.secs.length cs) := HK2.out.1.cell 3
    have s4 : w2.cell? ⟨B, 4, none⟩ = some (.slice pp c.pkts.length cp) := HK2.out.1.cell 4
    obtain ⟨N, hN⟩ : ∃ N, w2.heap.size = N := ⟨_, rfl⟩
    have hBN : B < N := by rw [← hN]; exact HK2.out.1.lt
    go_wp2_with fail
    have hb3 : Below w2.heap.size w2 (w2.alloc (.cells #[.string (plainR c).note, .slice af (plainR c).faces.length ag, .slice an (plainR c).names.length ao, .slice as_ (plainR c).secs.length at_, .slice ap (plainR c).pkts.length aq] 27)) := (Below.refl _ w2).alloc (Nat.le_refl _) _
    have HN3 : Hid (Blk (w2.alloc (.cells #[.string (plainR c).note, .slice af (plainR c).faces.length ag, .slice an (plainR c).names.length ao, .slice as_ (plainR c).secs.length at_, .slice ap (plainR c).pkts.length aq] 27)) N 27 #[.string (plainR c).note, .slice af (plainR c).faces.length ag, .slice an (plainR c).names.length ao, .slice as_ (plainR c).secs.length at_, .slice ap (plainR c).pkts.length aq]) := Lib.hid (by rw [← hN]; exact Blk.new _ _ _)
    have HM3 := Lib.hid (HM2.out.keep hb3 hb3.size)
    have HA3 := Lib.hid (HA2.out.keep (Alike.below hb3))
    have HB3 : Hid (Below B w (w2.alloc (.cells #[.string (plainR c).note, .slice af (plainR c).faces.length ag, .slice an (plainR c).names.length ao, .slice as_ (plainR c).secs.length at_, .slice ap (plainR c).pkts.length aq] 27))) := Lib.hid (HK2.out.2.trans (hb3.mono (by rw [hN]; omega)))
    generalize w2.alloc (.cells #[.string (plainR c).note, .slice af (plainR c).faces.length ag, .slice an (plainR c).names.length ao, .slice as_ (plainR c).secs.length at_, .slice ap (plainR c).pkts.length aq] 27) = w3 at HN3 HM3 HA3 HB3 ⊢
    clear hb3 hN s0 s1 s2 s3 s4
    refine (RPlain_any HM3.out).mono ?_
    rintro e w4 ⟨⟨bf, bg, bn, bo, bs, bt, bp, bq⟩, rfl, hb2, hw4⟩
    have HB4 := Lib.hid (hb2)
    have HA4 := Lib.hid (HA3.out.keep (Alike.below hw4))
    have HN4 := Lib.hid (HN3.out.below hw4 HN3.out.lt)
    have HW4 : Hid (Below B w w4) := Lib.hid (HB3.out.trans (hw4.mono (by have := HN3.out.lt; omega)))
    clear hb2 hw4
    obtain ⟨M, hM⟩ : ∃ M, w4.heap.size = M := ⟨_, rfl⟩
    have hNM : N < M := by rw [← hM]; exact HN4.out.lt
    have u0 : w4.cell? ⟨N, 0, none⟩ = some (.string (plainR c).note) := HN4.out.cell 0
    have u1 : w4.cell? ⟨N, 1, none⟩ = some (.slice af (plainR c).faces.length ag) := HN4.out.cell 1
    have u2 : w4.cell? ⟨N, 2, none⟩ = some (.slice an (plainR c).names.length ao) := HN4.out.cell 2
    have u3 : w4.cell? ⟨N, 3, none⟩ = some (.slice as_ (plainR c).secs.length at_) := HN4.out.cell 3
    have u4 : w4.cell? ⟨N, 4, none⟩ = some (.slice ap (plainR c).pkts.length aq) := HN4.out.cell 4
    go_wp2_with fail
    have hb5 : Below w4.heap.size w4 (w4.alloc (.cells #[.string (plainR c).note, .slice bf (plainR c).faces.length bg, .slice bn (plainR c).names.length bo, .slice bs (plainR c).secs.length bt, .slice bp (plainR c).pkts.length bq] 27)) := (Below.refl _ w4).alloc (Nat.le_refl _) _
    have HM5 : Hid (Blk (w4.alloc (.cells #[.string (plainR c).note, .slice bf (plainR c).faces.length bg, .slice bn (plainR c).names.length bo, .slice bs (plainR c).secs.length bt, .slice bp (plainR c).pkts.length bq] 27)) M 27 #[.string (plainR c).note, .slice bf (plainR c).faces.length bg, .slice bn (plainR c).names.length bo, .slice bs (plainR c).secs.length bt, .slice bp (plainR c).pkts.length bq]) := Lib.hid (by rw [← hM]; exact Blk.new _ _ _)
    have HN5 := Lib.hid (HN4.out.below hb5 HN4.out.lt)
    have HA5 := Lib.hid (HA4.out.keep (Alike.below hb5))
    have HB5 := Lib.hid (HB4.out.keep (Alike.below hb5))
    have HW5 : Hid (Below B w (w4.alloc (.cells #[.string (plainR c).note, .slice bf (plainR c).faces.length bg, .slice bn (plainR c).names.length bo, .slice bs (plainR c).secs.length bt, .slice bp (plainR c).pkts.length bq] 27))) := Lib.hid (HW4.out.trans (hb5.mono (by rw [hM]; omega)))
    generalize w4.alloc (.cells #[.string (plainR c).note, .slice bf (plainR c).faces.length bg, .slice bn (plainR c).names.length bo, .slice bs (plainR c).secs.length bt, .slice bp (plainR c).pkts.length bq] 27) = w5 at HM5 HN5 HA5 HB5 HW5 ⊢
    clear hb5 hM u0 u1 u2 u3 u4
    refine (rsame_any HA5.out.capM HB5.out.capM).mono ?_
    rintro e w6 ⟨rfl, hw6⟩
    rw [eqB_true rfl]
    have HA6 := Lib.hid (HA5.out.keep (Alike.below hw6))
    have HN6 := Lib.hid (HN5.out.below hw6 HN5.out.lt)
    have HW6 : Hid (Below B w w6) := Lib.hid (HW5.out.trans (hw6.mono (by have := HN5.out.lt; omega)))
    clear hw6
    by_cases he : errV c = 0
    · have HE := Lib.hid he
      have HPR : Hid (plainR c = plainC c) := Lib.hid (by unfold plainR; rw [if_pos he])
      rw [he]
      clear he
      have v0 : w6.cell? ⟨N, 0, none⟩ = some (.string (plainR c).note) := HN6.out.cell 0
      have v1 : w6.cell? ⟨N, 1, none⟩ = some (.slice af (plainR c).faces.length ag) := HN6.out.cell 1
      have v2 : w6.cell? ⟨N, 2, none⟩ = some (.slice an (plainR c).names.length ao) := HN6.out.cell 2
      have v3 : w6.cell? ⟨N, 3, none⟩ = some (.slice as_ (plainR c).secs.length at_) := HN6.out.cell 3
      have v4 : w6.cell? ⟨N, 4, none⟩ = some (.slice ap (plainR c).pkts.length aq) := HN6.out.cell 4
      go_wp2_with fail
      have HEP : Hid (errV (plainR c) = 0) := Lib.hid (by rw [HPR.out]; exact errV_plain HE.out)
      have HRR : Hid (plainR (plainR c) = plainR c) := Lib.hid (by
        rw [show plainR (plainR c) = plainC (plainR c) from if_pos HEP.out, HPR.out, plainC_twice])
      have HWR : Hid (writeR true false (plainR c) = (oldFileB false (plainR c), 0)) := Lib.hid (by
        unfold writeR; rw [if_pos HEP.out, eqB_true (by rw [HPR.out, plainC_twice])]; rfl)
      refine (write_any true false HA6.out.capM).mono ?_
      rintro e w7 ⟨v7, rfl, ho7, hw7⟩
      rw [HWR.out] at ho7 ⊢
      dsimp only at ho7 ⊢
      have HA7 := Lib.hid (HA6.out.keep (Alike.below hw7))
      have HN7 := Lib.hid (HN6.out.below hw7 HN6.out.lt)
      have HW7 : Hid (Below B w w7) := Lib.hid (HW6.out.trans (hw7.mono (by have := HN6.out.lt; omega)))
      clear ho7 hw7 v0 v1 v2 v3 v4
      have x0 : w7.cell? ⟨N, 0, none⟩ = some (.string (plainR c).note) := HN7.out.cell 0
      have x1 : w7.cell? ⟨N, 1, none⟩ = some (.slice af (plainR c).faces.length ag) := HN7.out.cell 1
      have x2 : w7.cell? ⟨N, 2, none⟩ = some (.slice an (plainR c).names.length ao) := HN7.out.cell 2
      have x3 : w7.cell? ⟨N, 3, none⟩ = some (.slice as_ (plainR c).secs.length at_) := HN7.out.cell 3
      have x4 : w7.cell? ⟨N, 4, none⟩ = some (.slice ap (plainR c).pkts.length aq) := HN7.out.cell 4
      go_wp2_with fail
      refine (Plain_any HA7.out.capM).mono ?_
      rw [HRR.out, HEP.out]
      rintro e w8 ⟨⟨zf, zg, zn, zo, zs, zt, zp, zq⟩, rfl, hz8, hw8⟩
      have HZ8 := Lib.hid hz8
      have HA8 := Lib.hid (HA7.out.keep (Alike.below hw8))
      have HN8 := Lib.hid (HN7.out.below hw8 HN7.out.lt)
      have HW8 : Hid (Below B w w8) := Lib.hid (HW7.out.trans (hw8.mono (by have := HN7.out.lt; omega)))
      clear hz8 hw8 x0 x1 x2 x3 x4
      obtain ⟨G, hG⟩ : ∃ G, w8.heap.size = G := ⟨_, rfl⟩
      have hNG : N < G := by rw [← hG]; exact HN8.out.lt
      have y0 : w8.cell? ⟨N, 0, none⟩ = some (.string (plainR c).note) := HN8.out.cell 0
      have y1 : w8.cell? ⟨N, 1, none⟩ = some (.slice af (plainR c).faces.length ag) := HN8.out.cell 1
      have y2 : w8.cell? ⟨N, 2, none⟩ = some (.slice an (plainR c).names.length ao) := HN8.out.cell 2
      have y3 : w8.cell? ⟨N, 3, none⟩ = some (.slice as_ (plainR c).secs.length at_) := HN8.out.cell 3
      have y4 : w8.cell? ⟨N, 4, none⟩ = some (.slice ap (plainR c).pkts.length aq) := HN8.out.cell 4
      go_wp2_with fail
      have hb9 : Below w8.heap.size w8 (w8.alloc (.cells #[.string (plainR c).note, .slice zf (plainR c).faces.length zg, .slice zn (plainR c).names.length zo, .slice zs (plainR c).secs.length zt, .slice zp (plainR c).pkts.length zq] 27)) := (Below.refl _ w8).alloc (Nat.le_refl _) _
      have HA9 := Lib.hid (HA8.out.keep (Alike.below hb9))
      have HZ9 := Lib.hid (HZ8.out.keep (Alike.below hb9))
      have HG9 : Hid (G < (w8.alloc (.cells #[.string (plainR c).note, .slice zf (plainR c).faces.length zg, .slice zn (plainR c).names.length zo, .slice zs (plainR c).secs.length zt, .slice zp (plainR c).pkts.length zq] 27)).heap.size) := Lib.hid (by rw [alloc_size, hG]; omega)
      have HW9 : Hid (Below B w (w8.alloc (.cells #[.string (plainR c).note, .slice zf (plainR c).faces.length zg, .slice zn (plainR c).names.length zo, .slice zs (plainR c).secs.length zt, .slice zp (plainR c).pkts.length zq] 27))) := Lib.hid (HW8.out.trans (hb9.mono (by rw [hG]; omega)))
      generalize w8.alloc (.cells #[.string (plainR c).note, .slice zf (plainR c).faces.length zg, .slice zn (plainR c).names.length zo, .slice zs (plainR c).secs.length zt, .slice zp (plainR c).pkts.length zq] 27) = w9 at HA9 HZ9 HG9 HW9 ⊢
      clear hb9 hG y0 y1 y2 y3 y4
      refine (rsame_any HZ9.out.capM HA9.out.capM).mono ?_
      rintro e w10 ⟨rfl, hw10⟩
      rw [eqB_true rfl]
      have HGA : Hid (B < w10.heap.size) := Lib.hid (by have := HG9.out; have := hw10.size; omega)
      have HWA : Hid (Below B w w10) := Lib.hid (HW9.out.trans (hw10.mono (by have := HG9.out; omega)))
      clear hw10
      go_wp2_with fail
      refine (known_any w10).mono ?_
      rintro e w11 ⟨rfl, hw11⟩
      have HWB : Hid (Below B w w11) := Lib.hid (HWA.out.trans (hw11.mono (Nat.le_of_lt HGA.out)))
      clear hw11
      go_wp2
      go_ret
      exact ⟨rfl, HWB.out⟩
    · have hne : (errV c == 0) = false := by simpa using he
      generalize errV c = E at hne ⊢
      go_wp2_with fail
      refine (known_any w6).mono ?_
      rintro e w7 ⟨rfl, hw7⟩
      have HW7 : Hid (Below B w w7) := Lib.hid (HW6.out.trans (hw7.mono (by have := HN6.out.lt; omega)))
      clear hw7
      go_wp2
      go_ret
      exact ⟨rfl, HW7.out⟩
end Go.Proofs.Ytlimkckomdipkaa
