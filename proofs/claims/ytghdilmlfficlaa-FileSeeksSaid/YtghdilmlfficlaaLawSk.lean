/- FileSeeks: the two agree. -/
import Derived.Test.YtghdilmlfficlaaRIndex
import Derived.Test.YtghdilmlfficlaaWeight
import Derived.Test.YtghdilmlfficlaaKnown2
import Derived.ChangeKeysEq
namespace Go.Proofs.Ytghdilmlfficlaa
open Go.RowKit

noncomputable def idxL (c : Cap) : List Pr := if errV c = 0 then prs (tms c) c.pkts.length else []
def IdxA (c : Cap) (w : World) (e : Ending) (w' : World) : Prop :=
  ∃ (A : Option Addr) (k : Nat) (l : List Pr), e = .returned (.tuple #[.slice A l.length k, .int .i64 (errV c)]) ∧ Els 2 PrE w' w'.heap.size A l ∧ l.Perm (idxL c) ∧ l.Pairwise leP ∧ Below w.heap.size w w'
theorem index_any {w : World} {p : Pl} {c : Cap} (hm : CapM w w.heap.size p c) : Calls Try.prog 33 #[capV p c] w (IdxA c w) := by
  by_cases h1 : errV c = 0
  · refine (index_ok hm h1).mono ?_
    rintro e w' ⟨A, k, l, rfl, h2, h3, h4, h5⟩
    exact ⟨A, k, l, by rw [h1], h2, by unfold idxL; rw [if_pos h1]; exact h3, h4, h5⟩
  · refine (index_err hm h1).mono ?_
    rintro e w' ⟨rfl, hb⟩
    exact ⟨none, 0, [], rfl, els_nil, by unfold idxL; rw [if_neg h1], List.Pairwise.nil, hb⟩
theorem rindex_any {w : World} {p : Pl} {c : Cap} (hm : CapM w w.heap.size p c) : Calls Try.prog 34 #[capV p c] w (IdxA c w) := by
  by_cases h1 : errV c = 0
  · refine (rindex_ok hm h1).mono ?_
    rintro e w' ⟨A, k, l, rfl, h2, h3, h4, h5⟩
    exact ⟨A, k, l, by rw [h1], h2, by unfold idxL; rw [if_pos h1]; exact h3, h4, h5⟩
  · refine (rindex_err hm h1).mono ?_
    rintro e w' ⟨rfl, hb⟩
    exact ⟨none, 0, [], rfl, els_nil, by unfold idxL; rw [if_neg h1], List.Pairwise.nil, hb⟩
theorem idxL_len (c : Cap) : (idxL c).length ≤ c.pkts.length := by
  unfold idxL
  split
  · rw [prs_len]; exact Nat.le_refl _
  · exact Nat.zero_le _

set_option maxRecDepth 20000 in
theorem neq_pr (x : Pr) (w : World) : Sem.run Try.prog (binOp .neq 59 (.agg #[.int .i64 x.1, .int .i64 x.2]) (.agg #[.int .i64 x.1, .int .i64 x.2])) w = .ok (.bool false) w := by
  have u3 := Try.underlying3
  have a3 := Try.isAgg3
  have z3 := Try.sizeOf3
  have hu : Try.prog.underlying 59 = some (.array 2 3) := by kernel_rfl
  obtain ⟨i, hi⟩ : ∃ i, Try.prog.info? 3 = some i := Option.isSome_iff_exists.1 (by kernel_rfl)
  have hc : Try.prog.cellsOf 3 = 1 := by kernel_rfl
  rw [run_neq_struct, show (10000 : Nat) = 9999 + 1 from rfl, run_equalIn_array w 9999 _ _ hu hi, hc]
  simp only [show List.range 2 = [0, 1] from rfl, Op.eqItems]
  go_simp
theorem grd_pr (x : Pr) (a b : Operand) (w : World) : (eqGuard .neq 59 a b (.agg #[.int .i64 x.1, .int .i64 x.2]) (.agg #[.int .i64 x.1, .int .i64 x.2])).run Try.prog w = .ok () w :=
  run_eqGuard_agg w .neq 59 a b _ _ (by kernel_rfl)

set_option maxRecDepth 100000 in
set_option maxHeartbeats 8000000 in
theorem lawSk_any {w : World} {p : Pl} {c : Cap} {t : Int} {A3 : Option Addr} {c3 : Nat} {x : List Pr} (hm : CapM w w.heap.size p c) (hx : Els 2 PrE w w.heap.size A3 x) (hxl : x.length ≤ 140737488355328) :
    Calls Try.prog 9 #[capV p c, .int .i64 t, .slice A3 x.length c3] w fun e w' => e = .returned (.bool true) ∧ Below w.heap.size w w' := by
  obtain ⟨B, hB⟩ : ∃ B, w.heap.size = B := ⟨_, rfl⟩
  obtain ⟨w1, e0, s1, g0, hb, k0⟩ := w_box hB (capV p c).cells 31
  have HV := Lib.hid (weight_any (hm.keep (by rw [hB]; exact hb) (by rw [s1]; omega) : CapM w1 w1.heap.size p c))
  have HB1 := Lib.hid hb
  have HBS := Lib.hid hB
  have HG := Lib.hid g0
  have HE0 := Lib.hid e0
  have HM := Lib.hid hm
  have HXX := Lib.hid hx
  have lp : c.pkts.length * 64 ≤ 140737488355328 := hm.lp.2.1
  have hcells : (capV p c).cells = #[.string c.note, .slice p.pf c.faces.length p.cf, .slice p.pn c.names.length p.cn, .slice p.ps c.secs.length p.cs, .slice p.pp c.pkts.length p.cp] := rfl
  rw [hcells] at HG HE0
  clear hcells e0 hm k0 g0 hb hx
  rw [hB]
  unfold capV at HV ⊢
  go_enter Try.func9, Try.ntmps9
  go_wp2_with fail
  rw [HE0.out]
  with_reducible refine HV.out.mono ?_
  rintro e v1 ⟨⟨z, rfl⟩, hb1⟩
  have HW1 : Hid (Blk v1 B 31 #[.string c.note, .slice p.pf c.faces.length p.cf, .slice p.pn c.names.length p.cn, .slice p.ps c.secs.length p.cs, .slice p.pp c.pkts.length p.cp] ∧ Below B w v1 ∧ B + 1 ≤ v1.heap.size) := Lib.hid ⟨HG.out.below hb1 (by rw [s1]; omega), HB1.out.trans (hb1.mono (by rw [s1]; omega)), by have := hb1.size; omega⟩
  clear HE0 HV HG hb1 HB1 s1 hB
  obtain ⟨q, hq⟩ : ∃ q, IntKind.i64.wrap (z + (x.length : Int)) = q := ⟨_, rfl⟩
  by_cases hz : 400000 < q
  · have hd1 : decide ((400000 : Int) < q) = true := decide_eq_true hz
    have HK := Lib.hid (known_any v1)
    clear hz
    go_wp2_with fail
    with_reducible refine HK.out.mono ?_
    rintro e v2 ⟨rfl, hb2⟩
    have HW2 : Hid (Below B w v2) := Lib.hid (HW1.out.2.1.trans (hb2.mono (by have := HW1.out.2.2; omega)))
    clear hb2 HK
    go_wp2
    go_ret
    exact ⟨rfl, HW2.out⟩
  · have hd1 : decide ((400000 : Int) < q) = false := decide_eq_false hz
    have HD1 := Lib.hid (index_any (w := v1) (HM.out.keep (by rw [HBS.out]; exact HW1.out.2.1) (by rw [HBS.out]; have := HW1.out.2.2; omega) : CapM v1 v1.heap.size p c))
    have l0 : v1.cell? ⟨B, 0, none⟩ = some (.string c.note) := HW1.out.1.cell 0
    have m1 : v1.cell? ⟨B, 1, none⟩ = some (.slice p.pf c.faces.length p.cf) := HW1.out.1.cell 1
    have l2 : v1.cell? ⟨B, 2, none⟩ = some (.slice p.pn c.names.length p.cn) := HW1.out.1.cell 2
    have l3 : v1.cell? ⟨B, 3, none⟩ = some (.slice p.ps c.secs.length p.cs) := HW1.out.1.cell 3
    have l4 : v1.cell? ⟨B, 4, none⟩ = some (.slice p.pp c.pkts.length p.cp) := HW1.out.1.cell 4
    clear hz
    unfold capV at HD1
    go_wp2_with fail
    with_reducible refine HD1.out.mono ?_
    rintro e v2 ⟨A1, c1, l1, rfl, ho1, hp1, hs1, hb2⟩
    have HW2 : Hid (Blk v2 B 31 #[.string c.note, .slice p.pf c.faces.length p.cf, .slice p.pn c.names.length p.cn, .slice p.ps c.secs.length p.cs, .slice p.pp c.pkts.length p.cp] ∧ Below B w v2 ∧ B + 1 ≤ v2.heap.size) := Lib.hid ⟨HW1.out.1.below hb2 HW1.out.1.lt, HW1.out.2.1.trans (hb2.mono (by have := HW1.out.2.2; omega)), by have := hb2.size; have := HW1.out.2.2; omega⟩
    have HO1 := Lib.hid ho1
    have HP1 : Hid (l1.Perm (idxL c) ∧ l1.Pairwise leP) := Lib.hid ⟨hp1, hs1⟩
    have HD2 := Lib.hid (rindex_any (w := v2) (HM.out.keep (by rw [HBS.out]; exact HW2.out.2.1) (by rw [HBS.out]; have := HW2.out.2.2; omega) : CapM v2 v2.heap.size p c))
    clear l0 m1 l2 l3 l4 hb2 ho1 HD1 HW1 hp1 hs1 hq hd1
    have l0 : v2.cell? ⟨B, 0, none⟩ = some (.string c.note) := HW2.out.1.cell 0
    have m1 : v2.cell? ⟨B, 1, none⟩ = some (.slice p.pf c.faces.length p.cf) := HW2.out.1.cell 1
    have l2 : v2.cell? ⟨B, 2, none⟩ = some (.slice p.pn c.names.length p.cn) := HW2.out.1.cell 2
    have l3 : v2.cell? ⟨B, 3, none⟩ = some (.slice p.ps c.secs.length p.cs) := HW2.out.1.cell 3
    have l4 : v2.cell? ⟨B, 4, none⟩ = some (.slice p.pp c.pkts.length p.cp) := HW2.out.1.cell 4
    unfold capV at HD2
    go_wp2_with fail
    with_reducible refine HD2.out.mono ?_
    rintro e v3 ⟨A2, c2, l2_, rfl, ho2, hp2, hs2, hb3⟩
    have hll : l2_ = l1 := sorted_eq hs2 HP1.out.2 (hp2.trans HP1.out.1.symm)
    subst hll
    have hlen : l2_.length ≤ 140737488355328 := by have h1 := HP1.out.1.length_eq; have h2 := idxL_len c; omega
    have HW3 : Hid (Below B w v3 ∧ B + 1 ≤ v3.heap.size) := Lib.hid ⟨HW2.out.2.1.trans (hb3.mono (by have := HW2.out.2.2; omega)), by have := hb3.size; have := HW2.out.2.2; omega⟩
    obtain ⟨M, hM⟩ : ∃ M, v3.heap.size = M := ⟨_, rfl⟩
    have H1 : Hid (Els 2 PrE v3 M A1 l2_) := Lib.hid (by rw [← hM]; exact HO1.out.keep prK hb3 hb3.size)
    have H2 : Hid (Els 2 PrE v3 M A2 l2_) := Lib.hid (by rw [← hM]; exact ho2)
    have H3 : Hid (Els 2 PrE v3 M A3 x) := Lib.hid (by rw [← hM]; exact HXX.out.keep prK (by rw [HBS.out]; exact HW3.out.1) (by rw [HBS.out]; have := HW3.out.2; omega))
    have HMM := Lib.hid hM
    have HBM : Hid (B + 1 ≤ M) := Lib.hid (by rw [← hM]; exact HW3.out.2)
    have hn1 : ((l2_.length : Int) != (l2_.length : Int)) = false := by simp
    obtain ⟨E, hE⟩ : ∃ E, errV c = E := ⟨_, rfl⟩
    rw [hE]
    have hn2 : (E != E) = false := by simp
    clear l0 m1 l2 l3 l4 ho2 hb3 HD2 HO1 HW2 hp2 hs2 HP1 hE hM
    go_wp2_with fail
    go_loopw [11] (fun i wr => ∃ k : Nat, i = .int .i64 k ∧ k ≤ l2_.length ∧ Hid (Below M v3 wr)) (fun i _ => l2_.length - (intOf i).toNat)
    case atStart => exact ⟨0, rfl, Nat.zero_le _, Lib.hid (Below.refl _ _)⟩
    case round =>
      obtain ⟨k, rfl, hk, HW⟩ := hrel
      have hMw : M ≤ wr.heap.size := by have := HW.out.size; rw [HMM.out] at this; exact this
      by_cases hlt : k < l2_.length
      · obtain ⟨b1, o1, hA1, hb1, vs1, _, rfl, hc1⟩ := (H1.out.keep prK HW.out (Nat.le_refl _)).row k hlt
        obtain ⟨b2, o2, hA2, hb2, vs2, _, rfl, hc2⟩ := (H2.out.keep prK HW.out (Nat.le_refl _)).row k hlt
        subst hA1
        subst hA2
        have x0 : wr.cell? ⟨b1, o1 + k * 2, none⟩ = _ := hc1 0 _ rfl
        have x1 := hc1 1 _ rfl
        have y0 : wr.cell? ⟨b2, o2 + k * 2, none⟩ = _ := hc2 0 _ rfl
        have y1 := hc2 1 _ rfl
        obtain ⟨y, hy⟩ : ∃ y, l2_[k] = y := ⟨_, rfl⟩
        rw [hy] at x0 x1 y0 y1
        have hnq := neq_pr y
        have hgd := fun a b w => grd_pr y a b w
        clear hc1 hc2 hy
        go_wp2
        go_quiet (fail)
        go_wp2
        go_roundw
        case rel => exact ⟨k + 1, by go_num, by omega, Lib.hid (below_drewN HW.out _)⟩
        case measure => simp [intOf]; omega
      · have HWR : Hid (Below M v3 wr ∧ M ≤ wr.heap.size) := Lib.hid ⟨HW.out, hMw⟩
        have HS1 := Lib.hid (seek_any (w := wr) (c := c3) t (H3.out.keep prK HW.out hMw) hxl)
        obtain ⟨r1, hr1⟩ : ∃ r, seekA x t = r := ⟨_, rfl⟩
        obtain ⟨r2, hr2⟩ : ∃ r, seekA l2_ t = r := ⟨_, rfl⟩
        have HR : Hid (seekA x t = r1 ∧ seekA l2_ t = r2) := Lib.hid ⟨hr1, hr2⟩
        rw [hr1] at HS1
        clear hr1 hr2 HW
        go_wp2_with fail
        with_reducible refine HS1.out.mono ?_
        rintro e v4 ⟨rfl, hb4⟩
        have HW4 : Hid (Below M v3 v4 ∧ M ≤ v4.heap.size) := Lib.hid ⟨HWR.out.1.trans (hb4.mono HWR.out.2), by have := hb4.size; have := HWR.out.2; omega⟩
        have HS2 := Lib.hid (rseek_any (w := v4) (c := c3) t (H3.out.keep prK HW4.out.1 HW4.out.2) hxl)
        rw [HR.out.1] at HS2
        clear hb4 HS1 HWR hMw
        go_wp2_with fail
        with_reducible refine HS2.out.mono ?_
        rintro e v5 ⟨rfl, hb5⟩
        have HW5 : Hid (Below M v3 v5 ∧ M ≤ v5.heap.size) := Lib.hid ⟨HW4.out.1.trans (hb5.mono HW4.out.2), by have := hb5.size; have := HW4.out.2; omega⟩
        have HS3 := Lib.hid (seek_any (w := v5) (c := c1) t (H1.out.keep prK HW5.out.1 HW5.out.2) hlen)
        rw [HR.out.2] at HS3
        clear hb5 HS2 HW4
        go_wp2_with fail
        with_reducible refine HS3.out.mono ?_
        rintro e v6 ⟨rfl, hb6⟩
        have HW6 : Hid (Below M v3 v6 ∧ M ≤ v6.heap.size) := Lib.hid ⟨HW5.out.1.trans (hb6.mono HW5.out.2), by have := hb6.size; have := HW5.out.2; omega⟩
        have HS4 := Lib.hid (rseek_any (w := v6) (c := c2) t (H2.out.keep prK HW6.out.1 HW6.out.2) hlen)
        rw [HR.out.2] at HS4
        clear hb6 HS3 HW5
        go_wp2_with fail
        with_reducible refine HS4.out.mono ?_
        rintro e v7 ⟨rfl, hb7⟩
        have HW7 : Hid (Below M v3 v7 ∧ M ≤ v7.heap.size) := Lib.hid ⟨HW6.out.1.trans (hb7.mono HW6.out.2), by have := hb7.size; have := HW6.out.2; omega⟩
        have HK := Lib.hid (known_any v7)
        clear hb7 HS4 HW6
        go_wp2_with fail
        with_reducible refine HK.out.mono ?_
        rintro e v8 ⟨rfl, hb8⟩
        have HW8 : Hid (Below B w v8) := Lib.hid (HW3.out.1.trans ((HW7.out.1.mono (by have := HBM.out; omega)).trans (hb8.mono (by have := HBM.out; have := HW7.out.2; omega))))
        clear hb8 HK
        go_wp2
        go_ret
        exact ⟨rfl, HW8.out⟩
end Go.Proofs.Ytghdilmlfficlaa
