/- The weight of a valid capture: its bounds; the weights of captures. -/
import Derived.Test.YtghdilmlfficlaaWeight
import Derived.Test.YtghdilmlfficlaaTurn
import Derived.Test.YtghdilmlfficlaaRVald
import Derived.Test.YtghdilmlfficlaaWith
import Derived.Test.YtghdilmlfficlaaRSplM
namespace Go.Proofs.Ytghdilmlfficlaa
open Go.RowKit

/-- How great the parts of a valid capture are. -/
structure Sizes (c : Cap) : Prop where
  note : c.note.size ≤ 200
  nf : c.faces.length ≤ 4
  nn : c.names.length ≤ 60
  ns : c.secs.length ≤ 60
  np : c.pkts.length ≤ 100
  f : ∀ x ∈ c.faces, x.name.size ≤ 200
  n : ∀ x ∈ c.names, x.text.size ≤ 200 ∧ x.addr.length ≤ 16
  s : ∀ x ∈ c.secs, x.label.size ≤ 200 ∧ x.key.length ≤ 200
  p : ∀ x ∈ c.pkts, x.note.size ≤ 200 ∧ x.data.length ≤ 400
theorem errV_sizes {c : Cap} (h : errV c = 0) : Sizes c := by
  unfold errV at h
  cases h1 : hugeB c <;> cases h2 : capB c <;> simp [h1, h2] at h
  have h3 : ¬ (4 < c.faces.length ∨ 60 < c.names.length ∨ 60 < c.secs.length ∨ 100 < c.pkts.length) := of_decide_eq_false h1
  simp only [capB, partsB, Bool.and_eq_true, decide_eq_true_eq] at h2
  obtain ⟨⟨_, a0⟩, a1, a2, a3, a4⟩ := h2
  refine ⟨textB_size a0, by omega, by omega, by omega, by omega, fun x hx => ?_, fun x hx => ?_, fun x hx => ?_, fun x hx => ?_⟩
  · have := List.all_eq_true.1 a1 x hx
    simp only [facB, Bool.and_eq_true] at this
    exact textB_size this.1
  · have := List.all_eq_true.1 a2 x hx
    simp only [namB, Bool.and_eq_true, within_iff] at this
    exact ⟨textB_size this.1, by have := this.2.2; omega⟩
  · have := List.all_eq_true.1 a3 x hx
    simp only [secB, Bool.and_eq_true, within_iff] at this
    exact ⟨textB_size this.1, by have := this.2.2.2; omega⟩
  · have := List.all_eq_true.1 a4 x hx
    simp only [pktB, pktS, Bool.and_eq_true, within_iff, decide_eq_true_eq] at this
    exact ⟨textB_size this.2.1, by have := this.2.2.2.1.1; omega⟩

set_option maxRecDepth 100000 in
set_option maxHeartbeats 4000000 in
theorem weight_b {w : World} {p : Pl} {c : Cap} (hm : CapM w w.heap.size p c) (he : errV c = 0) :
    Calls Try.prog 18 #[capV p c] w fun e w' => (∃ z : Int, e = .returned (.int .i64 z) ∧ 8 * (c.pkts.length : Int) ≤ z ∧ z ≤ 100000) ∧ Below w.heap.size w w' := by
  have HS := Lib.hid (errV_sizes he)
  have hnt := (errV_sizes he).note
  have h4 := (errV_sizes he).nf
  have h60 := (errV_sizes he).nn
  have h61 := (errV_sizes he).ns
  have h100 := (errV_sizes he).np
  clear he
  obtain ⟨B, hB⟩ : ∃ B, w.heap.size = B := ⟨_, rfl⟩
  have HB := Lib.hid hB
  have lf : c.faces.length ≤ 140737488355328 := by have := hm.lf; omega
  have ln : c.names.length ≤ 140737488355328 := by have := hm.ln; omega
  have ls : c.secs.length ≤ 140737488355328 := by have := hm.ls; omega
  have lp : c.pkts.length ≤ 140737488355328 := by have := hm.lp; omega
  have HM := Lib.hid hm
  have hnote := hm.note
  rw [hB] at HM
  clear hB hm
  go_enter Try.func18, Try.ntmps18
  go_wp2
  rw [HB.out]
  go_loopw [3, 4] (fun n i wr => ∃ (z : Int) (k : Nat), n = .int .i64 z ∧ i = .int .i64 k ∧ k ≤ c.faces.length ∧ Hid (8 * (c.pkts.length : Int) ≤ z ∧ z ≤ 2000 + k * 200) ∧ Hid (Blk wr B 31 (capV p c).cells ∧ Below B w wr)) (fun _ i _ => c.faces.length - (intOf i).toNat)
  case atStart => exact ⟨_, 0, rfl, rfl, Nat.zero_le _, Lib.hid (by omega), Lib.hid ⟨by rw [← HB.out]; exact Blk.new _ _ _, (Below.refl _ _).alloc (by rw [HB.out]; omega) _⟩⟩
  case round =>
    obtain ⟨z, k, rfl, rfl, hk, HZ, HW⟩ := hrel
    have hbc := HW.out.1.cell 1
    by_cases hlt : k < c.faces.length
    · have hsz := HS.out.f _ (List.getElem_mem hlt)
      obtain ⟨b, o, hA, hb, vs, hl, ⟨rfl, hbig, _, _⟩, hcell⟩ := (HM.out.faces.keep facK HW.out.2 (Nat.le_refl _)).row k hlt
      have c0 : wr.cell? ⟨b, o + k * 3, none⟩ = _ := hcell 0 _ rfl
      clear hcell
      go_wp2
      go_roundw
      case rel => exact ⟨_, k + 1, rfl, by go_num, by omega, Lib.hid (by have := HZ.out; simp only [wrap64]; omega), HW⟩
      case measure => simp [intOf]; omega
    · have hkn : k = c.faces.length := by omega
      subst hkn
      go_wp2
      clear hbc
      go_loopw [3, 5] (fun n i wr => ∃ (z : Int) (k : Nat), n = .int .i64 z ∧ i = .int .i64 k ∧ k ≤ c.names.length ∧ Hid (8 * (c.pkts.length : Int) ≤ z ∧ z ≤ 2800 + k * 216) ∧ Hid (Blk wr B 31 (capV p c).cells ∧ Below B w wr)) (fun _ i _ => c.names.length - (intOf i).toNat)
      case atStart => exact ⟨_, 0, rfl, rfl, Nat.zero_le _, Lib.hid (by have := HZ.out; omega), Lib.hid ⟨HW.out.1, HW.out.2⟩⟩
      case round =>
        obtain ⟨z, k, rfl, rfl, hk, HZ, HW⟩ := hrel
        have hbc := HW.out.1.cell 2
        by_cases hlt : k < c.names.length
        · have hsz := HS.out.n _ (List.getElem_mem hlt)
          obtain ⟨b, o, hA, hb, vs, hl, ⟨A2, cp2, rfl, hbyc, hbig⟩, hcell⟩ := (HM.out.names.keep namK HW.out.2 (Nat.le_refl _)).row k hlt
          have c0 : wr.cell? ⟨b, o + k * 2, none⟩ = _ := hcell 0 _ rfl
          have c1 := hcell 1 _ rfl
          have hlen2 := hbyc.le
          have hcap2 := hbyc.cap
          clear hcell
          go_wp2
          go_quiet (fail)
          go_wp2
          go_roundw
          case rel => exact ⟨_, k + 1, rfl, by go_num, by omega, Lib.hid (by have := HZ.out; simp only [wrap64]; omega), Lib.hid ⟨HW.out.1.drewN _, below_drewN HW.out.2 _⟩⟩
          case measure => simp [intOf]; omega
        · have hkn : k = c.names.length := by omega
          subst hkn
          go_wp2
          clear hbc
          go_loopw [3, 6] (fun n i wr => ∃ (z : Int) (k : Nat), n = .int .i64 z ∧ i = .int .i64 k ∧ k ≤ c.secs.length ∧ Hid (8 * (c.pkts.length : Int) ≤ z ∧ z ≤ 16000 + k * 400) ∧ Hid (Blk wr B 31 (capV p c).cells ∧ Below B w wr)) (fun _ i _ => c.secs.length - (intOf i).toNat)
          case atStart => exact ⟨_, 0, rfl, rfl, Nat.zero_le _, Lib.hid (by have := HZ.out; omega), Lib.hid ⟨HW.out.1, HW.out.2⟩⟩
          case round =>
            obtain ⟨z, k, rfl, rfl, hk, HZ, HW⟩ := hrel
            have hbc := HW.out.1.cell 3
            by_cases hlt : k < c.secs.length
            · have hsz := HS.out.s _ (List.getElem_mem hlt)
              obtain ⟨b, o, hA, hb, vs, hl, ⟨A2, cp2, rfl, hbyc, hbig⟩, hcell⟩ := (HM.out.secs.keep secK HW.out.2 (Nat.le_refl _)).row k hlt
              have c0 : wr.cell? ⟨b, o + k * 2, none⟩ = _ := hcell 0 _ rfl
              have c1 := hcell 1 _ rfl
              have hlen2 := hbyc.le
              have hcap2 := hbyc.cap
              clear hcell
              go_wp2
              go_quiet (fail)
              go_wp2
              go_roundw
              case rel => exact ⟨_, k + 1, rfl, by go_num, by omega, Lib.hid (by have := HZ.out; simp only [wrap64]; omega), Lib.hid ⟨HW.out.1.drewN _, below_drewN HW.out.2 _⟩⟩
              case measure => simp [intOf]; omega
            · have hkn : k = c.secs.length := by omega
              subst hkn
              go_wp2
              clear hbc
              go_loopw [3, 7] (fun n i wr => ∃ (z : Int) (k : Nat), n = .int .i64 z ∧ i = .int .i64 k ∧ k ≤ c.pkts.length ∧ Hid (8 * (c.pkts.length : Int) ≤ z ∧ z ≤ 40000 + k * 600) ∧ Hid (Blk wr B 31 (capV p c).cells ∧ Below B w wr)) (fun _ i _ => c.pkts.length - (intOf i).toNat)
              case atStart => exact ⟨_, 0, rfl, rfl, Nat.zero_le _, Lib.hid (by have := HZ.out; omega), Lib.hid ⟨HW.out.1, HW.out.2⟩⟩
              case round =>
                obtain ⟨z, k, rfl, rfl, hk, HZ, HW⟩ := hrel
                have hbc := HW.out.1.cell 4
                by_cases hlt : k < c.pkts.length
                · have hsz := HS.out.p _ (List.getElem_mem hlt)
                  obtain ⟨b, o, hA, hb, vs, hl, ⟨A2, cp2, rfl, hbyc, hbig, _, _, _⟩, hcell⟩ := (HM.out.pkts.keep pktK HW.out.2 (Nat.le_refl _)).row k hlt
                  have c0 := hcell 3 _ rfl
                  have c1 := hcell 4 _ rfl
                  have hlen2 := hbyc.le
                  have hcap2 := hbyc.cap
                  clear hcell
                  go_wp2
                  go_quiet (fail)
                  go_wp2
                  go_roundw
                  case rel => exact ⟨_, k + 1, rfl, by go_num, by omega, Lib.hid (by have := HZ.out; simp only [wrap64]; omega), Lib.hid ⟨HW.out.1.drewN _, below_drewN HW.out.2 _⟩⟩
                  case measure => simp [intOf]; omega
                · have hkn : k = c.pkts.length := by omega
                  subst hkn
                  go_wp2
                  clear hbc
                  go_ret
                  exact ⟨⟨_, rfl, HZ.out.1, by have := HZ.out.2; omega⟩, by rw [HB.out]; exact HW.out.2⟩


set_option maxRecDepth 100000 in
set_option maxHeartbeats 4000000 in
theorem weights_any {w : World} {A : Option Addr} {c : Nat} {l : List Cap} (hm : Els 5 CapE w w.heap.size A l) (hl : l.length ≤ 1300000000000) :
    Calls Try.prog 13 #[.slice A l.length c] w (SomeInt w) := by
  have HM := Lib.hid hm
  skip
  clear hm 
  obtain ⟨B, hB⟩ : ∃ B, w.heap.size = B := ⟨_, rfl⟩
  have HB := Lib.hid hB
  unfold SomeInt
  rw [hB] at HM ⊢
  clear hB
  go_enter Try.func13, Try.ntmps13
  go_wp2
  go_loopw [3, 4] (fun n i wr => ∃ (z : Int) (k : Nat), n = .int .i64 z ∧ i = .int .i64 k ∧ k ≤ l.length ∧ Hid True ∧ Hid (Below B w wr ∧ B ≤ wr.heap.size)) (fun _ i _ => l.length - (intOf i).toNat)
  case atStart => exact ⟨_, 0, rfl, rfl, Nat.zero_le _, Lib.hid trivial, Lib.hid ⟨Below.refl _ _, by rw [HB.out]; exact Nat.le_refl _⟩⟩
  case round =>
    obtain ⟨z, k, rfl, rfl, hk, HZ, HW⟩ := hrel
    by_cases hlt : k < l.length
    · obtain ⟨b, o, hA, hb, vs, hvl, ⟨⟨pf, cf, pn, cn, ps, cs, pp, cp⟩, rfl, hcap⟩, hcell⟩ := (HM.out.keep capK HW.out.1 (Nat.le_refl _)).row k hlt
      subst hA
      have c0 : wr.cell? ⟨b, o + k * 5, none⟩ = _ := hcell 0 _ rfl
      have c1 := hcell 1 _ rfl
      have c2 := hcell 2 _ rfl
      have c3 := hcell 3 _ rfl
      have c4 := hcell 4 _ rfl
      have HC : Hid (CapM wr wr.heap.size ⟨pf, cf, pn, cn, ps, cs, pp, cp⟩ l[k]) := Lib.hid (hcap.keep (Below.refl _ _) HW.out.2)
      have HWG := Lib.hid (weight_any HC.out)
      have hsum := sumP_take l k hlt
      clear hcell hcap HC hvl
      obtain ⟨x, hx⟩ : ∃ x, l[k] = x := ⟨_, rfl⟩
      rw [hx] at c0 c1 c2 c3 c4 HWG hsum
      skip
      clear hx hsum
      unfold capV SomeInt at HWG
      go_wp2_with fail
      with_reducible refine HWG.out.mono ?_
      rintro e w1 ⟨⟨q, rfl⟩, hb1⟩
      have HW1 : Hid (Below B w w1 ∧ B ≤ w1.heap.size) := Lib.hid ⟨HW.out.1.trans (hb1.mono HW.out.2), Nat.le_trans HW.out.2 hb1.size⟩
      skip
      clear hb1 c0 c1 c2 c3 c4 
      go_wp2
      go_roundw
      case rel => exact ⟨_, k + 1, rfl, by go_num, by omega, Lib.hid trivial, HW1⟩
      case measure => simp [intOf]; omega
    · have hke : k = l.length := by omega
      subst hke
      skip
      go_wp2
      go_ret
      exact ⟨⟨_, rfl⟩, HW.out.1⟩

set_option maxRecDepth 100000 in
set_option maxHeartbeats 4000000 in
theorem weights_b {w : World} {A : Option Addr} {c : Nat} {l : List Cap} (hm : Els 5 CapE w w.heap.size A l) (hl : l.length ≤ 1300000000000) (hv : ∀ x ∈ l, errV x = 0) :
    Calls Try.prog 13 #[.slice A l.length c] w fun e w' => (∃ z : Int, e = .returned (.int .i64 z) ∧ (l.length : Int) + 8 * (sumP l : Int) ≤ z) ∧ Below w.heap.size w w' := by
  have HM := Lib.hid hm
  have HV := Lib.hid hv
  clear hm hv
  obtain ⟨B, hB⟩ : ∃ B, w.heap.size = B := ⟨_, rfl⟩
  have HB := Lib.hid hB
  
  rw [hB] at HM ⊢
  clear hB
  go_enter Try.func13, Try.ntmps13
  go_wp2
  go_loopw [3, 4] (fun n i wr => ∃ (z : Int) (k : Nat), n = .int .i64 z ∧ i = .int .i64 k ∧ k ≤ l.length ∧ Hid (((l.take k).length : Int) + 8 * (sumP (l.take k) : Int) ≤ z ∧ z ≤ k * 100001) ∧ Hid (Below B w wr ∧ B ≤ wr.heap.size)) (fun _ i _ => l.length - (intOf i).toNat)
  case atStart => exact ⟨_, 0, rfl, rfl, Nat.zero_le _, Lib.hid (by simp [sumP]), Lib.hid ⟨Below.refl _ _, by rw [HB.out]; exact Nat.le_refl _⟩⟩
  case round =>
    obtain ⟨z, k, rfl, rfl, hk, HZ, HW⟩ := hrel
    by_cases hlt : k < l.length
    · obtain ⟨b, o, hA, hb, vs, hvl, ⟨⟨pf, cf, pn, cn, ps, cs, pp, cp⟩, rfl, hcap⟩, hcell⟩ := (HM.out.keep capK HW.out.1 (Nat.le_refl _)).row k hlt
      subst hA
      have c0 : wr.cell? ⟨b, o + k * 5, none⟩ = _ := hcell 0 _ rfl
      have c1 := hcell 1 _ rfl
      have c2 := hcell 2 _ rfl
      have c3 := hcell 3 _ rfl
      have c4 := hcell 4 _ rfl
      have HC : Hid (CapM wr wr.heap.size ⟨pf, cf, pn, cn, ps, cs, pp, cp⟩ l[k]) := Lib.hid (hcap.keep (Below.refl _ _) HW.out.2)
      have HWG := Lib.hid (weight_b HC.out (HV.out _ (List.getElem_mem hlt)))
      have hsum := sumP_take l k hlt
      clear hcell hcap HC hvl
      obtain ⟨x, hx⟩ : ∃ x, l[k] = x := ⟨_, rfl⟩
      rw [hx] at c0 c1 c2 c3 c4 HWG hsum
      have HSM := Lib.hid hsum
      clear hx hsum
      unfold capV at HWG
      go_wp2_with fail
      with_reducible refine HWG.out.mono ?_
      rintro e w1 ⟨⟨q, rfl, hq1, hq2⟩, hb1⟩
      have HW1 : Hid (Below B w w1 ∧ B ≤ w1.heap.size) := Lib.hid ⟨HW.out.1.trans (hb1.mono HW.out.2), Nat.le_trans HW.out.2 hb1.size⟩
      have HQ := Lib.hid (And.intro hq1 hq2)
      clear hb1 c0 c1 c2 c3 c4 hq1 hq2
      go_wp2
      go_roundw
      case rel => exact ⟨_, k + 1, rfl, by go_num, by omega, Lib.hid (by have h1 := HZ.out; have h2 := HQ.out; rw [HSM.out]; rw [List.length_take] at h1 ⊢; simp only [wrap64]; omega), HW1⟩
      case measure => simp [intOf]; omega
    · have hke : k = l.length := by omega
      subst hke
      have HZ2 : Hid ((l.length : Int) + 8 * (sumP l : Int) ≤ z) := Lib.hid (by have := HZ.out.1; rw [List.take_of_length_le (Nat.le_refl _)] at this; exact this)
      go_wp2
      go_ret
      exact ⟨⟨_, rfl, HZ2.out⟩, HW.out.1⟩
end Go.Proofs.Ytghdilmlfficlaa
/- validate of all: the reference's; tooMany for captures that are given. -/
namespace Go.Proofs.Ytghdilmlfficlaa
open Go.RowKit

set_option maxRecDepth 100000 in
set_option maxHeartbeats 4000000 in
theorem rall_any {w : World} {A : Option Addr} {c : Nat} {l : List Cap} (hm : Els 5 CapE w w.heap.size A l) (hl : l.length ≤ 140737488355328) :
    Calls Try.prog 53 #[.slice A l.length c] w fun e w' => e = .returned (.int .i64 (errL l)) ∧ Below w.heap.size w w' := by
  have HM := Lib.hid hm
  clear hm
  obtain ⟨B, hB⟩ : ∃ B, w.heap.size = B := ⟨_, rfl⟩
  have HB := Lib.hid hB
  rw [hB] at HM ⊢
  clear hB
  go_enter Try.func53, Try.ntmps53
  go_wp2
  go_loopw [3] (fun i wr => ∃ k : Nat, i = .int .i64 k ∧ k ≤ l.length ∧ Hid (errL l = errL (l.drop k)) ∧ Hid (Below B w wr ∧ B ≤ wr.heap.size)) (fun i _ => l.length - (intOf i).toNat)
  case atStart => exact ⟨0, rfl, Nat.zero_le _, Lib.hid rfl, Lib.hid ⟨Below.refl _ _, by rw [HB.out]; exact Nat.le_refl _⟩⟩
  case round =>
    obtain ⟨k, rfl, hk, HE, HW⟩ := hrel
    by_cases hlt : k < l.length
    · obtain ⟨b, o, hA, hb, vs, hvl, ⟨⟨pf, cf, pn, cn, ps, cs, pp, cp⟩, rfl, hcap⟩, hcell⟩ := (HM.out.keep capK HW.out.1 HW.out.2).row k hlt
      subst hA
      have c0 : wr.cell? ⟨b, o + k * 5, none⟩ = _ := hcell 0 _ rfl
      have c1 := hcell 1 _ rfl
      have c2 := hcell 2 _ rfl
      have c3 := hcell 3 _ rfl
      have c4 := hcell 4 _ rfl
      have HV := Lib.hid (rvald_any hcap)
      have HD : Hid (errL (l.drop k) = if errV l[k] = 0 then errL (l.drop (k + 1)) else errV l[k]) := Lib.hid (errL_drop l k hlt)
      clear hcell hvl hcap
      obtain ⟨x, hx⟩ : ∃ x, l[k] = x := ⟨_, rfl⟩
      rw [hx] at c0 c1 c2 c3 c4 HV HD
      unfold capV at HV
      clear hx
      by_cases he : errV x = 0
      · have HD2 : Hid (errL l = errL (l.drop (k + 1))) := Lib.hid (by rw [HE.out, HD.out, if_pos he])
        rw [he] at HV
        clear he HD HE
        go_wp2_with fail
        with_reducible refine HV.out.mono ?_
        rintro e w1 ⟨rfl, hb1⟩
        have HW1 : Hid (Below B w w1 ∧ B ≤ w1.heap.size) := Lib.hid ⟨HW.out.1.trans (hb1.mono HW.out.2), Nat.le_trans HW.out.2 hb1.size⟩
        clear hb1 c0 c1 c2 c3 c4 HV
        go_wp2
        go_roundw
        case rel => exact ⟨k + 1, by go_num, by omega, HD2, HW1⟩
        case measure => simp [intOf]; omega
      · have HD2 : Hid (errL l = errV x) := Lib.hid (by rw [HE.out, HD.out, if_neg he])
        obtain ⟨E, hE⟩ : ∃ E, errV x = E := ⟨_, rfl⟩
        rw [hE] at HV HD2 he
        have hd : (E != 0) = true := by simpa using he
        clear hE he HD HE
        go_wp2_with fail
        with_reducible refine HV.out.mono ?_
        rintro e w1 ⟨rfl, hb1⟩
        have HW1 : Hid (Below B w w1 ∧ B ≤ w1.heap.size) := Lib.hid ⟨HW.out.1.trans (hb1.mono HW.out.2), Nat.le_trans HW.out.2 hb1.size⟩
        clear hb1 c0 c1 c2 c3 c4 HV
        go_wp2
        go_ret
        exact ⟨ret_int HD2.out.symm, HW1.out.1⟩
    · have HR : Hid (errL l = 0) := Lib.hid (by rw [HE.out, List.drop_eq_nil_of_le (by omega)]; rfl)
      go_wp2
      go_ret
      exact ⟨ret_int HR.out.symm, HW.out.1⟩

set_option maxRecDepth 100000 in
set_option maxHeartbeats 4000000 in
theorem many_els {w : World} {A : Option Addr} {c : Nat} {l : List Cap} (hm : Els 5 CapE w w.heap.size A l) (hl : l.length ≤ 1300000000000) (hp : ∀ x ∈ l, x.pkts.length ≤ 100) :
    Calls Try.prog 50 #[.slice A l.length c] w fun e w' => e = .returned (.bool (decide (100 < (sumP l : Int)))) ∧ Below w.heap.size w w' := by
  have HM := Lib.hid hm
  have HP := Lib.hid hp
  clear hm hp
  obtain ⟨B, hB⟩ : ∃ B, w.heap.size = B := ⟨_, rfl⟩
  have HB := Lib.hid hB
  rw [hB] at HM ⊢
  clear hB
  go_enter Try.func50, Try.ntmps50
  go_wp2
  go_loopw [3, 8] (fun n i wr => ∃ z k : Nat, n = .int .i64 z ∧ i = .int .i64 k ∧ k ≤ l.length ∧ Hid (z = sumP (l.take k) ∧ z ≤ k * 100) ∧ Hid (Below B w wr ∧ B ≤ wr.heap.size)) (fun _ i _ => l.length - (intOf i).toNat)
  case atStart => exact ⟨0, 0, rfl, rfl, Nat.zero_le _, Lib.hid (by simp [sumP]), Lib.hid ⟨Below.refl _ _, by rw [HB.out]; exact Nat.le_refl _⟩⟩
  case round =>
    obtain ⟨z, k, rfl, rfl, hk, HZ, HW⟩ := hrel
    by_cases hlt : k < l.length
    · obtain ⟨b, o, hA, hb, vs, hvl, ⟨⟨pf, cf, pn, cn, ps, cs, pp, cp⟩, rfl, hcap⟩, hcell⟩ := (HM.out.keep capK HW.out.1 HW.out.2).row k hlt
      subst hA
      have c0 : wr.cell? ⟨b, o + k * 5, none⟩ = _ := hcell 0 _ rfl
      have c1 := hcell 1 _ rfl
      have c2 := hcell 2 _ rfl
      have c3 := hcell 3 _ rfl
      have c4 := hcell 4 _ rfl
      have hsum := sumP_take l k hlt
      have hx100 := HP.out _ (List.getElem_mem hlt)
      obtain ⟨x, hx⟩ : ∃ x, l[k] = x := ⟨_, rfl⟩
      rw [hx] at c0 c1 c2 c3 c4 hsum hx100
      obtain ⟨L, hL⟩ : ∃ L, x.pkts.length = L := ⟨_, rfl⟩
      rw [hL] at c4 hsum hx100
      have HZ2 : Hid (z + L = sumP (l.take (k + 1)) ∧ z + L ≤ (k + 1) * 100) := Lib.hid ⟨by rw [hsum, HZ.out.1], by have := HZ.out.2; omega⟩
      have hzb : z ≤ 130000000000000 := by have := HZ.out.2; omega
      have hadd : IntKind.i64.wrap ((z : Int) + (L : Int)) = ((z + L : Nat) : Int) := by rw [IntKind.wrap_i64]; omega
      have HB1 : Hid (Below B w (wr.alloc (.cells #[.string x.note, .slice pf x.faces.length cf, .slice pn x.names.length cn, .slice ps x.secs.length cs, .slice pp L cp] 31)) ∧ B ≤ (wr.alloc (.cells #[.string x.note, .slice pf x.faces.length cf, .slice pn x.names.length cn, .slice ps x.secs.length cs, .slice pp L cp] 31)).heap.size) := Lib.hid ⟨HW.out.1.alloc HW.out.2 _, by rw [alloc_size]; have := HW.out.2; omega⟩
      clear hcell hvl hcap hsum hx hL hx100
      go_wp2
      go_roundw
      case rel => exact ⟨z + L, k + 1, by go_num, by go_num, by omega, HZ2, HB1⟩
      case measure => simp [intOf]; omega
    · have hke : k = l.length := by omega
      have HR : Hid (z = sumP l) := Lib.hid (by have := HZ.out.1; rw [List.take_of_length_le (by omega)] at this; exact this)
      clear hke
      go_wp2
      go_ret
      exact ⟨ret_bool (a := decide ((100 : Int) < (z : Int))) (by rw [HR.out]), HW.out.1⟩
end Go.Proofs.Ytghdilmlfficlaa
/- Joining: plain data; packets appended behind one another. -/
namespace Go.Proofs.Ytghdilmlfficlaa
open Go.RowKit

theorem run_app_none {w : World} {base n : Nat} {v : Value} {xs : List Value} (h : w.ownsRow base 50 5 v n xs) : (Builtin.append_ #[29, 29] 29 #[v, .slice none 0 0]).run Try.prog w = .ok v w := by
  rcases h.2 with ⟨rfl, rfl⟩ | ⟨g, cap, cur, rfl, _, _, hn, _⟩
  · simp [Builtin.append_, go_sem]
  · have : ¬ cap < n := by omega
    simp [Builtin.append_, go_sem, this]
theorem app_pkts {M : Nat} {w : World} {v : Value} {cur : List Pkt} {rows2 : List (List Value)} {A : Option Addr} {c : Nat} {ps : List Pkt} (hn : OwnL w M 50 5 (PB M) v cur rows2) (hs : Els 5 PktE w M A ps) (hA : A = none → c = 0) (hl : cur.length + ps.length ≤ 100000) (hM : M ≤ w.heap.size) :
    ∃ v7 w7 rows7, (Builtin.append_ #[29, 29] 29 #[v, .slice A ps.length c]).run Try.prog w = .ok v7 w7 ∧ OwnL w7 M 50 5 (PB M) v7 (cur ++ ps) rows7 ∧ Below M w w7 ∧ AlikeT 50 w w7 := by
  cases A with
  | none =>
    have h0 : ps = [] := by
      rcases Nat.eq_zero_or_pos ps.length with h | h
      · exact List.length_eq_zero_iff.1 h
      · obtain ⟨b, o, e, _⟩ := hs h; cases e
    subst h0
    rw [hA rfl]
    exact ⟨v, w, rows2, run_app_none hn.own, by rw [List.append_nil]; exact hn, Below.refl _ _, AlikeT.refl _ _⟩
  | some a =>
    obtain ⟨rows, hrl, hre, hrc⟩ := els_rows hs
    have hflat : ∀ (rs : List (List Value)), (∀ (q : Nat) (hq : q < rs.length), rs[q].length = 5) → rs.flatten.length = rs.length * 5 := by
      intro rs
      induction rs with
      | nil => intro _; rfl
      | cons r rs ih =>
        intro hr
        rw [List.flatten_cons, List.length_append, ih (fun q hq => hr (q + 1) (by simpa using hq)), List.length_cons, Nat.succ_mul]
        have : r.length = 5 := hr 0 (by simp)
        omega
    have hfl : rows.flatten.length = ps.length * 5 := by rw [hflat rows (fun q hq => (hre q (by rw [← hrl]; exact hq) hq).1), hrl]
    have hone : ∀ r ∈ rows, ∀ u ∈ r, u.oneCell' = true := fun r hr u hu => by
      obtain ⟨i, hi, rfl⟩ := List.mem_iff_getElem.1 hr
      exact pktOne _ _ _ _ (hre i (by rw [← hrl]; exact hi) hi).2 u hu
    obtain ⟨i, hi, hz, hsize, hby⟩ := info_parts info47
    obtain ⟨v7, w7, hrun, ho7, hg7, _, _⟩ := run_append_own_at (P := Try.prog) w M 29 29 50 i _ 5 64 Try.underlying29 hi hz hsize hby (by rfl) (by decide) v cur.length rows2.flatten hn.own a ps.length c rows.flatten hfl (hrc a rfl) (fun u hu => by
      obtain ⟨r, hr, hu⟩ := List.mem_flatten.1 hu
      exact hone r hr u hu) (by unfold maxLen; omega) (by omega) hM
    have ha : AlikeT 50 w w7 := AlikeT.grown hn.own hg7
    have hb7 : Below M w w7 := (Below.refl _ _).grown hg7 hM (fun k hk => (hn.own.lt _ hk).1)
    refine ⟨v7, w7, rows2 ++ rows, hrun, ⟨by rw [List.length_append, List.flatten_append]; exact ho7, by rw [List.length_append, List.length_append, hn.len, hrl], fun j h1 h2 => ?_, fun r hr u hu => ?_⟩, hb7, ha⟩
    · by_cases hj : j < cur.length
      · have hjr : j < rows2.length := by rw [hn.len]; exact hj
        rw [List.getElem_append_left hj, List.getElem_append_left hjr]
        exact ⟨(hn.each j hj hjr).1, pktK _ _ _ _ _ _ (hn.each j hj hjr).2 hb7 (Nat.le_refl _)⟩
      · have hrr : rows2.length ≤ j := by rw [hn.len]; omega
        have hcc : cur.length ≤ j := by omega
        rw [List.getElem_append_right hrr, List.getElem_append_right hcc]
        have hj2 : j - cur.length < ps.length := by rw [List.length_append] at h1; omega
        have e := hre (j - cur.length) hj2 (by rw [hrl]; exact hj2)
        simp only [hn.len]
        exact ⟨e.1, pktK _ _ _ _ _ _ e.2 hb7 (Nat.le_refl _)⟩
    · rcases List.mem_append.1 hr with hr | hr
      · exact hn.one r hr u hu
      · exact hone r hr u hu

noncomputable def bare (c : Cap) : Cap := mkC c []
noncomputable def alikeB (a : Cap) (l : List Cap) : Bool := l.all fun c => eqB (bare c) (bare a)
noncomputable def joinE : List Cap → Int
  | [] => 1
  | a :: r => if errL (a :: r) = 0 then (if alikeB a (a :: r) then (if 100 < sumP (a :: r) then 3 else 0) else 10) else errL (a :: r)
noncomputable def joinR : List Cap → Cap
  | [] => noC
  | a :: r => if joinE (a :: r) = 0 then mkC a ((a :: r).flatMap (·.pkts)) else noC
theorem alike_take (a : Cap) (l : List Cap) (k : Nat) (h : k < l.length) : alikeB a (l.take (k + 1)) = (alikeB a (l.take k) && eqB (bare l[k]) (bare a)) := all_take_succ l _ k h
theorem alike_no (a : Cap) (l : List Cap) (k : Nat) (h : k < l.length) (hq : eqB (bare l[k]) (bare a) = false) : alikeB a l = false := all_false l _ k h hq
theorem sumP_len : ∀ (l : List Cap), (l.flatMap (·.pkts)).length = sumP l
  | [] => rfl
  | c :: l => by rw [List.flatMap_cons, List.length_append, sumP_len l]; rfl
theorem flat_take (l : List Cap) (k : Nat) (h : k < l.length) : (l.take (k + 1)).flatMap (·.pkts) = (l.take k).flatMap (·.pkts) ++ l[k].pkts := by
  rw [List.take_succ_eq_append_getElem h, List.flatMap_append]; simp
theorem sumP_mono (l : List Cap) (k : Nat) : sumP (l.take k) ≤ sumP l := by
  have : ∀ (l : List Cap) (k : Nat), sumP (l.take k) ≤ sumP l := by
    intro l
    induction l with
    | nil => intro k; simp [sumP]
    | cons c l ih =>
      intro k
      cases k with
      | zero => simp [sumP]
      | succ k => rw [List.take_succ_cons]; simp only [sumP]; have := ih k; omega
  exact this l k
theorem errL_all {l : List Cap} (h : errL l = 0) : ∀ x ∈ l, errV x = 0 := by
  induction l with
  | nil => intro x hx; cases hx
  | cons c l ih =>
    rw [errL] at h
    intro x hx
    by_cases he : errV c = 0
    · rw [if_pos he] at h
      rcases List.mem_cons.1 hx with rfl | hx
      · exact he
      · exact ih h x hx
    · rw [if_neg he] at h; exact absurd h he
/-- A capture with the first one's parts and packets that lie elsewhere. -/
theorem cap_join {M c2 n : Nat} {w : World} {q : Pl} {a : Cap} {A2 : Option Addr} {cur : List Pkt} {rows2 : List (List Value)} {d : Cap} (ha : CapM w w.heap.size q d) (e1 : d.note = a.note) (e2 : d.faces = a.faces) (e3 : d.names = a.names) (e4 : d.secs = a.secs)
    (hn : OwnL w M 50 5 (PB M) (.slice A2 n c2) cur rows2) (hnn : n = cur.length) (hl : cur.length ≤ 100000) (hM : M ≤ w.heap.size) : CapM w w.heap.size ⟨q.pf, q.cf, q.pn, q.cn, q.ps, q.cs, A2, c2⟩ (mkC a cur) := by
  subst hnn
  have h3 := own_bounds hn.own
  obtain ⟨n1, n2, n3, n4⟩ := a
  obtain ⟨m0, m1, m2, m3, m4⟩ := d
  dsimp only at e1 e2 e3 e4
  subst e1; subst e2; subst e3; subst e4
  exact ⟨ha.note, ha.faces, ha.names, ha.secs, ownPB_els hn hM, ha.lf, ha.ln, ha.ls, ⟨h3.1, by show cur.length * 64 ≤ _; omega, h3.2⟩⟩
end Go.Proofs.Ytghdilmlfficlaa
