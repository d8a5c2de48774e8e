/- FileJoins: the two agree. -/
import Derived.Test.YtghdilmlfficlaaRJoin
import Derived.Test.YtghdilmlfficlaaKnown2
namespace Go.Proofs.Ytghdilmlfficlaa
open Go.RowKit

theorem weights_u {w : World} {A : Option Addr} {c : Nat} {l : List Cap} (hm : Els 5 CapE w w.heap.size A l) (hl : l.length ≤ 1300000000000) :
    Calls Try.prog 13 #[.slice A l.length c] w fun e w' => (∃ z : Int, e = .returned (.int .i64 z) ∧ (errL l = 0 → (l.length : Int) + 8 * (sumP l : Int) ≤ z)) ∧ Below w.heap.size w w' := by
  by_cases h : errL l = 0
  · refine (weights_b hm hl (errL_all h)).mono ?_
    rintro e w' ⟨⟨z, rfl, hz⟩, hb⟩
    exact ⟨⟨z, rfl, fun _ => hz⟩, hb⟩
  · refine (weights_any hm hl).mono ?_
    rintro e w' ⟨⟨z, rfl⟩, hb⟩
    exact ⟨⟨z, rfl, fun h' => absurd h' h⟩, hb⟩

set_option maxRecDepth 100000 in
set_option maxHeartbeats 8000000 in
theorem lawJo_any {w : World} {A : Option Addr} {c : Nat} {l : List Cap} (hm : Els 5 CapE w w.heap.size A l) (hl : l.length ≤ 1300000000000) :
    Calls Try.prog 6 #[.slice A l.length c] w fun e w' => e = .returned (.bool true) ∧ Below w.heap.size w w' := by
  obtain ⟨B, hB⟩ : ∃ B, w.heap.size = B := ⟨_, rfl⟩
  have HV := Lib.hid (weights_u (c := c) hm hl)
  have HM : Hid (∀ W, Below B w W → B ≤ W.heap.size → Els 5 CapE W W.heap.size A l) := Lib.hid (fun W h1 h2 => hm.keep capK (by rw [hB]; exact h1) (by rw [hB]; exact h2))
  have HB := Lib.hid hB
  rw [hB]
  clear hm hB
  go_enter Try.func6, Try.ntmps6
  go_wp2_with fail
  with_reducible refine HV.out.mono ?_
  rintro e v1 ⟨⟨z, rfl, hz⟩, hb1⟩
  have HZ := Lib.hid hz
  have HW1 : Hid (Below B w v1 ∧ B ≤ v1.heap.size) := Lib.hid (by rw [HB.out] at hb1; exact ⟨hb1, by have := hb1.size; rw [HB.out] at this; exact this⟩)
  clear HV hb1 hz
  by_cases hq : 400000 < z
  · have hd1 : decide ((400000 : Int) < z) = true := decide_eq_true hq
    have HK := Lib.hid (known_any v1)
    clear hq
    go_wp2_with fail
    with_reducible refine HK.out.mono ?_
    rintro e v2 ⟨rfl, hb2⟩
    have HW2 : Hid (Below B w v2) := Lib.hid (HW1.out.1.trans (hb2.mono HW1.out.2))
    clear hb2 HK
    go_wp2
    go_ret
    exact ⟨rfl, HW2.out⟩
  · have hd1 : decide ((400000 : Int) < z) = false := decide_eq_false hq
    have HS : Hid (errL l = 0 → sumP l ≤ 50000) := Lib.hid (fun h => by have := HZ.out h; omega)
    have HJ := Lib.hid (join_any (c := c) (HM.out v1 HW1.out.1 HW1.out.2) hl)
    obtain ⟨R, hR⟩ : ∃ R, joinR l = R := ⟨_, rfl⟩
    obtain ⟨E, hE⟩ : ∃ E, joinE l = E := ⟨_, rfl⟩
    have HRE : Hid (joinR l = R ∧ joinE l = E) := Lib.hid ⟨hR, hE⟩
    rw [hR, hE] at HJ
    clear hq hR hE HZ
    go_wp2_with fail
    with_reducible refine HJ.out.mono ?_
    rintro e v2 ⟨⟨af, bf, an, bn, as_, bs, ap, bp⟩, rfl, hm1, hb2⟩
    obtain ⟨N, hN⟩ : ∃ N, v2.heap.size = N := ⟨_, rfl⟩
    obtain ⟨v3, e3, s3, g3, b3, k3⟩ := w_box hN #[.string R.note, .slice af R.faces.length bf, .slice an R.names.length bn, .slice as_ R.secs.length bs, .slice ap R.pkts.length bp] 31
    have HE3 := Lib.hid e3
    have HG3 := Lib.hid g3
    have HW3 : Hid (Below B w v3 ∧ B ≤ v3.heap.size) := Lib.hid ⟨(HW1.out.1.trans (hb2.mono HW1.out.2)).trans (b3.mono (by have := hb2.size; have := HW1.out.2; omega)), by have := hb2.size; have := HW1.out.2; omega⟩
    have HM1 : Hid (CapM v3 v3.heap.size ⟨af, bf, an, bn, as_, bs, ap, bp⟩ R) := Lib.hid (hm1.keep (by rw [hN]; exact b3) (by omega))
    have HJ2 := Lib.hid (rjoin_any (c := c) (HM.out v3 HW3.out.1 HW3.out.2) hl HS.out)
    rw [HRE.out.1, HRE.out.2] at HJ2
    clear e3 s3 g3 b3 k3 hm1 hb2 HJ HW1
    dsimp only
    go_wp2_with fail
    rw [HE3.out]
    with_reducible refine HJ2.out.mono ?_
    rintro e v4 ⟨⟨cf, df, cn, dn, cs, ds, cp, dp⟩, rfl, hm2, hb4⟩
    obtain ⟨M, hM⟩ : ∃ M, v4.heap.size = M := ⟨_, rfl⟩
    obtain ⟨v5, e5, s5, g5, b5, k5⟩ := w_box hM #[.string R.note, .slice cf R.faces.length df, .slice cn R.names.length dn, .slice cs R.secs.length ds, .slice cp R.pkts.length dp] 31
    have HE5 := Lib.hid e5
    have HW5 : Hid (Below B w v5 ∧ B ≤ v5.heap.size) := Lib.hid ⟨(HW3.out.1.trans (hb4.mono HW3.out.2)).trans (b5.mono (by have := hb4.size; have := HW3.out.2; omega)), by have := hb4.size; have := HW3.out.2; omega⟩
    have hN5 : Blk v5 N 31 #[.string R.note, .slice af R.faces.length bf, .slice an R.names.length bn, .slice as_ R.secs.length bs, .slice ap R.pkts.length bp] := k5 _ _ _ (HG3.out.below hb4 HG3.out.lt)
    have n0 : (v4.alloc (.cells #[.string R.note, .slice cf R.faces.length df, .slice cn R.names.length dn, .slice cs R.secs.length ds, .slice cp R.pkts.length dp] 31)).cell? ⟨N, 0, none⟩ = some (.string R.note) := by rw [e5]; exact hN5.cell 0
    have n1 : (v4.alloc (.cells #[.string R.note, .slice cf R.faces.length df, .slice cn R.names.length dn, .slice cs R.secs.length ds, .slice cp R.pkts.length dp] 31)).cell? ⟨N, 1, none⟩ = some (.slice af R.faces.length bf) := by rw [e5]; exact hN5.cell 1
    have n2 : (v4.alloc (.cells #[.string R.note, .slice cf R.faces.length df, .slice cn R.names.length dn, .slice cs R.secs.length ds, .slice cp R.pkts.length dp] 31)).cell? ⟨N, 2, none⟩ = some (.slice an R.names.length bn) := by rw [e5]; exact hN5.cell 2
    have n3 : (v4.alloc (.cells #[.string R.note, .slice cf R.faces.length df, .slice cn R.names.length dn, .slice cs R.secs.length ds, .slice cp R.pkts.length dp] 31)).cell? ⟨N, 3, none⟩ = some (.slice as_ R.secs.length bs) := by rw [e5]; exact hN5.cell 3
    have n4 : (v4.alloc (.cells #[.string R.note, .slice cf R.faces.length df, .slice cn R.names.length dn, .slice cs R.secs.length ds, .slice cp R.pkts.length dp] 31)).cell? ⟨N, 4, none⟩ = some (.slice ap R.pkts.length bp) := by rw [e5]; exact hN5.cell 4
    have m0 : (v4.alloc (.cells #[.string R.note, .slice cf R.faces.length df, .slice cn R.names.length dn, .slice cs R.secs.length ds, .slice cp R.pkts.length dp] 31)).cell? ⟨M, 0, none⟩ = some (.string R.note) := by rw [e5]; exact g5.cell 0
    have m1 : (v4.alloc (.cells #[.string R.note, .slice cf R.faces.length df, .slice cn R.names.length dn, .slice cs R.secs.length ds, .slice cp R.pkts.length dp] 31)).cell? ⟨M, 1, none⟩ = some (.slice cf R.faces.length df) := by rw [e5]; exact g5.cell 1
    have m2 : (v4.alloc (.cells #[.string R.note, .slice cf R.faces.length df, .slice cn R.names.length dn, .slice cs R.secs.length ds, .slice cp R.pkts.length dp] 31)).cell? ⟨M, 2, none⟩ = some (.slice cn R.names.length dn) := by rw [e5]; exact g5.cell 2
    have m3 : (v4.alloc (.cells #[.string R.note, .slice cf R.faces.length df, .slice cn R.names.length dn, .slice cs R.secs.length ds, .slice cp R.pkts.length dp] 31)).cell? ⟨M, 3, none⟩ = some (.slice cs R.secs.length ds) := by rw [e5]; exact g5.cell 3
    have m4 : (v4.alloc (.cells #[.string R.note, .slice cf R.faces.length df, .slice cn R.names.length dn, .slice cs R.secs.length ds, .slice cp R.pkts.length dp] 31)).cell? ⟨M, 4, none⟩ = some (.slice cp R.pkts.length dp) := by rw [e5]; exact g5.cell 4
    have HC := Lib.hid (rsame_any (w := v5) (p := ⟨af, bf, an, bn, as_, bs, ap, bp⟩) (q := ⟨cf, df, cn, dn, cs, ds, cp, dp⟩) (c := R) (d := R) (HM1.out.keep (hb4.trans (b5.mono (by have := hb4.size; omega))) (by have := hb4.size; omega)) (hm2.keep (by rw [hM]; exact b5) (by omega)))
    rw [eqB_true rfl] at HC
    unfold capV at HC
    have hEE : (E == E) = true := by simp
    clear e5 s5 g5 b5 k5 hm2 hb4 hN5 HJ2 HW3 HM1 HG3 HE3
    dsimp only
    go_wp2_with fail
    rw [HE5.out]
    with_reducible refine HC.out.mono ?_
    rintro e v6 ⟨rfl, hb6⟩
    have HW6 : Hid (Below B w v6 ∧ B ≤ v6.heap.size) := Lib.hid ⟨HW5.out.1.trans (hb6.mono HW5.out.2), Nat.le_trans HW5.out.2 hb6.size⟩
    have HK := Lib.hid (known_any v6)
    clear hb6 HC HW5 n0 n1 n2 n3 n4 m0 m1 m2 m3 m4 HE5
    go_wp2_with fail
    with_reducible refine HK.out.mono ?_
    rintro e v7 ⟨rfl, hb7⟩
    have HW7 : Hid (Below B w v7) := Lib.hid (HW6.out.1.trans (hb7.mono HW6.out.2))
    clear hb7 HK
    go_wp2
    go_ret
    exact ⟨rfl, HW7.out⟩
end Go.Proofs.Ytghdilmlfficlaa
