/- FileSplits: the two agree. -/
import Derived.Test.YtghdilmlfficlaaSplitE
import Derived.Test.YtghdilmlfficlaaRSplitE
import Derived.Test.YtghdilmlfficlaaSame25
import Derived.Test.YtghdilmlfficlaaWeight
import Derived.Test.YtghdilmlfficlaaKnown2
namespace Go.Proofs.Ytghdilmlfficlaa
open Go.RowKit

set_option maxRecDepth 100000 in
set_option maxHeartbeats 8000000 in
theorem lawSp_any {w : World} {p : Pl} {c : Cap} {W n : Int} (hm : CapM w w.heap.size p c) (hn : -9223372036854775808 ≤ n ∧ n ≤ 9223372036854775807) :
    Calls Try.prog 5 #[capV p c, .int .i64 W, .int .i64 n] w fun e w' => e = .returned (.bool true) ∧ Below w.heap.size w w' := by
  obtain ⟨B, hB⟩ : ∃ B, w.heap.size = B := ⟨_, rfl⟩
  obtain ⟨w1, e0, s1, g0, hb, k0⟩ := w_box hB (capV p c).cells 31
  have HV := Lib.hid (weight_any (hm.keep (by rw [hB]; exact hb) (by rw [s1]; omega) : CapM w1 w1.heap.size p c))
  have HB1 := Lib.hid hb
  have HBS := Lib.hid hB
  have HG := Lib.hid g0
  have HE0 := Lib.hid e0
  have HM := Lib.hid hm
  have lp : c.pkts.length * 64 ≤ 140737488355328 := hm.lp.2.1
  have hcells : (capV p c).cells = #[.string c.note, .slice p.pf c.faces.length p.cf, .slice p.pn c.names.length p.cn, .slice p.ps c.secs.length p.cs, .slice p.pp c.pkts.length p.cp] := rfl
  rw [hcells] at HG HE0
  clear hcells e0 hm k0 g0 hb
  rw [hB]
  unfold capV at HV ⊢
  go_enter Try.func5, Try.ntmps5
  go_wp2_with fail
  rw [HE0.out]
  with_reducible refine HV.out.mono ?_
  rintro e v1 ⟨⟨z, rfl⟩, hb1⟩
  have HW1 : Hid (Blk v1 B 31 #[.string c.note, .slice p.pf c.faces.length p.cf, .slice p.pn c.names.length p.cn, .slice p.ps c.secs.length p.cs, .slice p.pp c.pkts.length p.cp] ∧ Below B w v1 ∧ B + 1 ≤ v1.heap.size) := Lib.hid ⟨HG.out.below hb1 (by rw [s1]; omega), HB1.out.trans (hb1.mono (by rw [s1]; omega)), by have := hb1.size; omega⟩
  clear HE0 HV HG hb1 HB1 s1 hB
  by_cases hz : 400000 < z
  · have hd1 : decide ((400000 : Int) < z) = true := decide_eq_true hz
    have HK := Lib.hid (known_any v1)
    clear hz
    go_wp2_with fail
    with_reducible refine HK.out.mono ?_
    rintro e v2 ⟨rfl, hb2⟩
    have HW2 : Hid (Below B w v2) := Lib.hid (HW1.out.2.1.trans (hb2.mono (by have := HW1.out.2.2; omega)))
    clear hb2 HK
    go_wp2
    go_ret
    exact ⟨rfl, HW2.out⟩
  · have hd1 : decide ((400000 : Int) < z) = false := decide_eq_false hz
    have HD1 := Lib.hid (split_any (w := v1) (kind := W) (n := n) (HM.out.keep (by rw [HBS.out]; exact HW1.out.2.1) (by rw [HBS.out]; have := HW1.out.2.2; omega) : CapM v1 v1.heap.size p c) hn.2)
    have l0 : v1.cell? ⟨B, 0, none⟩ = some (.string c.note) := HW1.out.1.cell 0
    have l1 : v1.cell? ⟨B, 1, none⟩ = some (.slice p.pf c.faces.length p.cf) := HW1.out.1.cell 1
    have l2 : v1.cell? ⟨B, 2, none⟩ = some (.slice p.pn c.names.length p.cn) := HW1.out.1.cell 2
    have l3 : v1.cell? ⟨B, 3, none⟩ = some (.slice p.ps c.secs.length p.cs) := HW1.out.1.cell 3
    have l4 : v1.cell? ⟨B, 4, none⟩ = some (.slice p.pp c.pkts.length p.cp) := HW1.out.1.cell 4
    have hrl := spR_len c W n
    obtain ⟨L, hL⟩ : ∃ L, spR c W n = L := ⟨_, rfl⟩
    obtain ⟨E, hE⟩ : ∃ E, spE c W n = E := ⟨_, rfl⟩
    have HLE : Hid (spR c W n = L ∧ spE c W n = E) := Lib.hid ⟨hL, hE⟩
    rw [hL, hE] at HD1
    rw [hL] at hrl
    clear hz hL hE
    unfold capV at HD1
    go_wp2_with fail
    with_reducible refine HD1.out.mono ?_
    rintro e v2 ⟨A1, c1, rfl, ho1, hb2⟩
    have HW2 : Hid (Blk v2 B 31 #[.string c.note, .slice p.pf c.faces.length p.cf, .slice p.pn c.names.length p.cn, .slice p.ps c.secs.length p.cs, .slice p.pp c.pkts.length p.cp] ∧ Below B w v2 ∧ B + 1 ≤ v2.heap.size) := Lib.hid ⟨HW1.out.1.below hb2 HW1.out.1.lt, HW1.out.2.1.trans (hb2.mono (by have := HW1.out.2.2; omega)), by have := hb2.size; have := HW1.out.2.2; omega⟩
    have HO1 := Lib.hid ho1
    have HD2 := Lib.hid (rsplit_any (w := v2) (kind := W) (n := n) (HM.out.keep (by rw [HBS.out]; exact HW2.out.2.1) (by rw [HBS.out]; have := HW2.out.2.2; omega) : CapM v2 v2.heap.size p c) hn.2)
    rw [HLE.out.1, HLE.out.2] at HD2
    clear l0 l1 l2 l3 l4 hb2 ho1 HD1 HW1
    have l0 : v2.cell? ⟨B, 0, none⟩ = some (.string c.note) := HW2.out.1.cell 0
    have l1 : v2.cell? ⟨B, 1, none⟩ = some (.slice p.pf c.faces.length p.cf) := HW2.out.1.cell 1
    have l2 : v2.cell? ⟨B, 2, none⟩ = some (.slice p.pn c.names.length p.cn) := HW2.out.1.cell 2
    have l3 : v2.cell? ⟨B, 3, none⟩ = some (.slice p.ps c.secs.length p.cs) := HW2.out.1.cell 3
    have l4 : v2.cell? ⟨B, 4, none⟩ = some (.slice p.pp c.pkts.length p.cp) := HW2.out.1.cell 4
    unfold capV at HD2
    go_wp2_with fail
    with_reducible refine HD2.out.mono ?_
    rintro e v3 ⟨A2, c2, rfl, ho2, hb3⟩
    have HW3 : Hid (Below B w v3 ∧ B + 1 ≤ v3.heap.size) := Lib.hid ⟨HW2.out.2.1.trans (hb3.mono (by have := HW2.out.2.2; omega)), by have := hb3.size; have := HW2.out.2.2; omega⟩
    have HS := Lib.hid (same_true (c1 := c1) (c2 := c2) (HO1.out.keep capK hb3 hb3.size) ho2 (by omega))
    clear l0 l1 l2 l3 l4 ho2 hb3 HD2 HO1 HW2
    go_wp2_with fail
    with_reducible refine HS.out.mono ?_
    rintro e v4 ⟨rfl, hb4⟩
    have HW4 : Hid (Below B w v4 ∧ B + 1 ≤ v4.heap.size) := Lib.hid ⟨HW3.out.1.trans (hb4.mono (by have := HW3.out.2; omega)), by have := hb4.size; have := HW3.out.2; omega⟩
    have HK := Lib.hid (known_any v4)
    clear hb4 HS HW3
    go_wp2_with fail
    with_reducible refine HK.out.mono ?_
    rintro e v5 ⟨rfl, hb5⟩
    have HW5 : Hid (Below B w v5) := Lib.hid (HW4.out.1.trans (hb5.mono (by have := HW4.out.2; omega)))
    clear hb5 HK
    go_wp2
    go_ret
    exact ⟨rfl, HW5.out⟩
end Go.Proofs.Ytghdilmlfficlaa
