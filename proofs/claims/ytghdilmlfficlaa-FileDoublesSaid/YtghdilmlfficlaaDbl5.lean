/- The reference's Doubles. -/
import Derived.Test.YtghdilmlfficlaaDbl4
import Derived.Test.YtghdilmlfficlaaRVald
namespace Go.Proofs.Ytghdilmlfficlaa
open Go.RowKit

theorem any_take (f : Pkt → Bool) (l : List Pkt) (i : Nat) (h : i < l.length) : (l.take (i + 1)).any f = ((l.take i).any f || f l[i]) := by
  rw [List.take_add_one, List.any_append, List.getElem?_eq_getElem h]; simp

set_option maxRecDepth 100000 in
set_option maxHeartbeats 16000000 in
theorem rdoubles_any {w : World} {p : Pl} {c : Cap} {m : Nat} {n : Int} (hm : CapM w w.heap.size p c) (h1 : errV c = 0) (hm1 : 1 ≤ m) (hm100 : m ≤ 100) (ht : isT n = true) :
    Calls Try.prog 31 #[capV p c, .int .i64 m, .int .i64 n] w (DblP w (dbls n m c.pkts c.pkts.length, 0)) := by
  obtain ⟨B, hB⟩ : ∃ B, w.heap.size = B := ⟨_, rfl⟩
  obtain ⟨w1, e0, s1, g0, hb, k0⟩ := k_box hB (capV p c).cells 31
  have HV := Lib.hid (rvald_any (hm.keep (by rw [hB]; exact hb) (by rw [s1]; omega) : CapM w1 w1.heap.size p c))
  have HB1 := Lib.hid hb
  have HBS := Lib.hid hB
  have HG := Lib.hid g0
  have HE0 := Lib.hid e0
  have HM := Lib.hid hm
  have hn0 : 0 ≤ n ∧ n ≤ 1000000000000000 := by
    unfold isT at ht
    simpa using ht
  have hd1 : decide ((m : Int) < 1) = false := decide_eq_false (by omega)
  have hd2 : decide ((100 : Int) < (m : Int)) = false := decide_eq_false (by omega)
  have HTO : Hid (∀ q ∈ c.pkts, timeOk q) := Lib.hid (errV_times h1)
  have lp : c.pkts.length ≤ 140737488355328 := by have := hm.lp; omega
  have lp64 : c.pkts.length * 64 ≤ 140737488355328 := hm.lp.2.1
  rw [h1] at HV
  have hcells : (capV p c).cells = #[.string c.note, .slice p.pf c.faces.length p.cf, .slice p.pn c.names.length p.cn, .slice p.ps c.secs.length p.cs, .slice p.pp c.pkts.length p.cp] := rfl
  rw [hcells] at HG HE0
  clear hcells e0 h1 hm k0 g0 hb
  unfold capV at HV ⊢
  go_enter Try.func31, Try.ntmps31
  go_wp2_with fail
  rw [HE0.out]
  with_reducible refine HV.out.mono ?_
  rintro e v1 ⟨rfl, hb1⟩
  have HW1 : Hid (Blk v1 B 31 #[.string c.note, .slice p.pf c.faces.length p.cf, .slice p.pn c.names.length p.cn, .slice p.ps c.secs.length p.cs, .slice p.pp c.pkts.length p.cp] ∧ Below B w v1 ∧ B + 1 ≤ v1.heap.size) := Lib.hid ⟨HG.out.below hb1 (by rw [s1]; omega), HB1.out.trans (hb1.mono (by rw [s1]; omega)), by have := hb1.size; omega⟩
  have HT := Lib.hid (risT_any n v1)
  rw [ht] at HT
  clear HE0 HV HG hb1 HB1 s1 hB
  go_wp2_with fail
  with_reducible refine HT.out.mono ?_
  rintro e v2 ⟨rfl, hb2⟩
  have HW2 : Hid (Blk v2 B 31 #[.string c.note, .slice p.pf c.faces.length p.cf, .slice p.pn c.names.length p.cn, .slice p.ps c.secs.length p.cs, .slice p.pp c.pkts.length p.cp] ∧ Below B w v2 ∧ B + 1 ≤ v2.heap.size) := Lib.hid ⟨HW1.out.1.below hb2 HW1.out.1.lt, HW1.out.2.1.trans (hb2.mono (by have := HW1.out.2.2; omega)), by have := hb2.size; have := HW1.out.2.2; omega⟩
  clear HT hb2 HW1
  go_wp2
  go_loopw [9, 10] (fun t9 t10 wr => ∃ (k : Nat) (Ao : Option Addr) (co ol : Nat) (out : List Int), t10 = .int .i64 k ∧ t9 = .slice Ao ol co ∧ k ≤ c.pkts.length ∧ ol ≤ k ∧ Hid (out.length = ol) ∧ Hid (out = dbls n m c.pkts k) ∧ Hid (wr.ownsRow (B + 1) 3 1 (.slice Ao ol co) ol (out.map i64)) ∧ Hid (Blk wr B 31 #[.string c.note, .slice p.pf c.faces.length p.cf, .slice p.pn c.names.length p.cn, .slice p.ps c.secs.length p.cs, .slice p.pp c.pkts.length p.cp] ∧ Below B w wr ∧ B + 1 ≤ wr.heap.size)) (fun _ t10 _ => c.pkts.length - (intOf t10).toNat)
  case atStart => exact ⟨0, none, 0, 0, [], rfl, rfl, Nat.zero_le _, Nat.zero_le _, Lib.hid rfl, Lib.hid rfl, Lib.hid (World.ownsRow_nil _ _ _ _), HW2⟩
  case round =>
    obtain ⟨k, Ao, co, ol, out, rfl, rfl, hk, hol, HOL, HOU, HOW, HW⟩ := hrel
    have l4 : wr.cell? ⟨B, 4, none⟩ = some (.slice p.pp c.pkts.length p.cp) := HW.out.1.cell 4
    by_cases hlt : k < c.pkts.length
    · have hd3 : decide ((k : Int) < (c.pkts.length : Int)) = true := decide_eq_true (by omega)
      obtain ⟨lo, hlo⟩ : ∃ lo, k - m = lo := ⟨_, rfl⟩
      have HLO : Hid (k - m = lo) := Lib.hid hlo
      have hlk : lo ≤ k := by omega
      have hmx : (0 : Int) < (k : Int) - (m : Int) ∧ (k : Int) - (m : Int) = (lo : Int) ∨ ¬ (0 : Int) < (k : Int) - (m : Int) ∧ lo = 0 := by omega
      clear hlo
      obtain ⟨M, hM⟩ : ∃ M, wr.heap.size = M := ⟨_, rfl⟩
      have HMS := Lib.hid hM
      have hBM : B < M := by have := HW.out.2.2; omega
      clear hM
      rcases hmx with ⟨hmx, hml⟩ | ⟨hmx, hml⟩
      all_goals
        go_wp2
        go_loopw [11, 12] (fun t11 t12 wi => ∃ (j : Nat) (q : Bool), t11 = .bool q ∧ t12 = .int .i64 j ∧ lo ≤ j ∧ j ≤ k ∧ Hid ((((c.pkts.take k).drop lo).take (j - lo)).any (dblB n c.pkts[k]) = q) ∧ Hid (Below M wr wi)) (fun _ t12 _ => k - (intOf t12).toNat)
        case atStart =>
          first
            | exact ⟨lo, false, rfl, by first | rfl | (rw [hml]; done) | (rw [hml]; rfl), Nat.le_refl _, hlk, Lib.hid (by rw [Nat.sub_self]; rfl), Lib.hid (Below.refl _ _)⟩
        case round =>
          obtain ⟨j, q, rfl, rfl, hlj, hjk, HQ, HI⟩ := hrel
          have HWI : Hid (Blk wr B 31 #[.string c.note, .slice p.pf c.faces.length p.cf, .slice p.pn c.names.length p.cn, .slice p.ps c.secs.length p.cs, .slice p.pp c.pkts.length p.cp] ∧ Below B w wr ∧ B + 1 ≤ wr.heap.size) := Lib.hid ⟨HW.out.1.below HI.out hBM, HW.out.2.1.trans (HI.out.mono (by omega)), by have := HI.out.size; have := HW.out.2.2; have := HMS.out; omega⟩
          by_cases hj : j < k
          · have hd4 : decide ((j : Int) < (k : Int)) = true := decide_eq_true (by omega)
            have hjl : j < c.pkts.length := by omega
            have HPK : Hid (Els 5 PktE wr B p.pp c.pkts) := Lib.hid (HM.out.pkts.keep pktK (by rw [HBS.out]; exact HWI.out.2.1) (by rw [HBS.out]; exact Nat.le_refl _))
            obtain ⟨b, o, hA, hbB, vs, hvl, ⟨Ap, cp, rfl, hbp, _, _, _, _⟩, hcell⟩ := HPK.out.row k hlt
            obtain ⟨b2, o2, hA2, hbB2, vs2, hvl2, ⟨Aq, cq, rfl, hbq, _, _, _, _⟩, hcell2⟩ := HPK.out.row j hjl
            rw [hA] at hA2
            injection hA2 with hA2
            injection hA2 with hA3 hA4
            subst hA3; subst hA4
            obtain ⟨N, hN⟩ : ∃ N, wr.heap.size = N := ⟨_, rfl⟩
            have hBN : B < N := by have := HWI.out.2.2; omega
            have hbN : b < N := by omega
            have l5 : wr.cell? ⟨B, 4, none⟩ = some (.slice (some ⟨b, o, none⟩) c.pkts.length p.cp) := by rw [← hA]; exact HWI.out.1.cell 4
            have HSB : Hid (∀ w', Below N wr w' → w'.cell? ⟨B, 4, none⟩ = some (.slice (some ⟨b, o, none⟩) c.pkts.length p.cp) ∧ w'.cell? ⟨b, o + k * 5, none⟩ = some (.int .i64 c.pkts[k].time) ∧ w'.cell? ⟨b, o + k * 5 + 1, none⟩ = some (.int .i64 c.pkts[k].face) ∧ w'.cell? ⟨b, o + k * 5 + 2, none⟩ = some (.int .i64 c.pkts[k].real) ∧ w'.cell? ⟨b, o + k * 5 + 3, none⟩ = some (.slice Ap c.pkts[k].data.length cp) ∧ w'.cell? ⟨b, o + k * 5 + 4, none⟩ = some (.string c.pkts[k].note) ∧ w'.cell? ⟨b, o + j * 5, none⟩ = some (.int .i64 c.pkts[j].time) ∧ w'.cell? ⟨b, o + j * 5 + 1, none⟩ = some (.int .i64 c.pkts[j].face) ∧ w'.cell? ⟨b, o + j * 5 + 2, none⟩ = some (.int .i64 c.pkts[j].real) ∧ w'.cell? ⟨b, o + j * 5 + 3, none⟩ = some (.slice Aq c.pkts[j].data.length cq) ∧ w'.cell? ⟨b, o + j * 5 + 4, none⟩ = some (.string c.pkts[j].note)) := Lib.hid (fun w' hb => ⟨(hb.cell (p := ⟨B, 4, none⟩) hBN).trans l5, (hb.cell (p := ⟨b, o + (k * 5 + 0), none⟩) hbN).trans (hcell 0 _ rfl), (hb.cell (p := ⟨b, o + (k * 5 + 1), none⟩) hbN).trans (hcell 1 _ rfl), (hb.cell (p := ⟨b, o + (k * 5 + 2), none⟩) hbN).trans (hcell 2 _ rfl), (hb.cell (p := ⟨b, o + (k * 5 + 3), none⟩) hbN).trans (hcell 3 _ rfl), (hb.cell (p := ⟨b, o + (k * 5 + 4), none⟩) hbN).trans (hcell 4 _ rfl), (hb.cell (p := ⟨b, o + (j * 5 + 0), none⟩) hbN).trans (hcell2 0 _ rfl), (hb.cell (p := ⟨b, o + (j * 5 + 1), none⟩) hbN).trans (hcell2 1 _ rfl), (hb.cell (p := ⟨b, o + (j * 5 + 2), none⟩) hbN).trans (hcell2 2 _ rfl), (hb.cell (p := ⟨b, o + (j * 5 + 3), none⟩) hbN).trans (hcell2 3 _ rfl), (hb.cell (p := ⟨b, o + (j * 5 + 4), none⟩) hbN).trans (hcell2 4 _ rfl)⟩)
            have HBP := Lib.hid hbp
            have HBQ := Lib.hid hbq
            have HN := Lib.hid hN
            clear hcell hcell2 hbp hbq l5 hd1 hd2
            rw [hA]
            go_wp2
            go_region_held3 (fun w' => w'.cell? ⟨B, 4, none⟩ = some (.slice (some ⟨b, o, none⟩) c.pkts.length p.cp) ∧ w'.cell? ⟨b, o + k * 5, none⟩ = some (.int .i64 c.pkts[k].time) ∧ w'.cell? ⟨b, o + k * 5 + 1, none⟩ = some (.int .i64 c.pkts[k].face) ∧ w'.cell? ⟨b, o + k * 5 + 2, none⟩ = some (.int .i64 c.pkts[k].real) ∧ w'.cell? ⟨b, o + k * 5 + 3, none⟩ = some (.slice Ap c.pkts[k].data.length cp) ∧ w'.cell? ⟨b, o + k * 5 + 4, none⟩ = some (.string c.pkts[k].note) ∧ w'.cell? ⟨b, o + j * 5, none⟩ = some (.int .i64 c.pkts[j].time) ∧ w'.cell? ⟨b, o + j * 5 + 1, none⟩ = some (.int .i64 c.pkts[j].face) ∧ w'.cell? ⟨b, o + j * 5 + 2, none⟩ = some (.int .i64 c.pkts[j].real) ∧ w'.cell? ⟨b, o + j * 5 + 3, none⟩ = some (.slice Aq c.pkts[j].data.length cq) ∧ w'.cell? ⟨b, o + j * 5 + 4, none⟩ = some (.string c.pkts[j].note)) ((refine HSB.out _ ?_; (repeat' (first | exact Below.refl _ _ | refine Below.drew ?_ | refine Below.alloc ?_ ?_ _ | refine Below.setCell ?_ ?_ _)) <;> (first | omega | (simp only [alloc_size]; omega) | (simp; omega)))) (fail)
            · obtain ⟨W2, hW2⟩ : ∃ W2, ((wr.alloc (.cells #[.int .i64 c.pkts[j].time, .int .i64 c.pkts[j].face, .int .i64 c.pkts[j].real, .slice Aq c.pkts[j].data.length cq, .string c.pkts[j].note] 50)).alloc (.cells #[.int .i64 c.pkts[k].time, .int .i64 c.pkts[k].face, .int .i64 c.pkts[k].real, .slice Ap c.pkts[k].data.length cp, .string c.pkts[k].note] 50)).drew = W2 := ⟨_, rfl⟩
              have hbl : Below N wr W2 := by rw [← hW2]; exact (((Below.refl _ _).alloc (by omega) _).alloc (by rw [alloc_size]; omega) _).drew
              have hB1 : Blk W2 N 50 #[.int .i64 c.pkts[j].time, .int .i64 c.pkts[j].face, .int .i64 c.pkts[j].real, .slice Aq c.pkts[j].data.length cq, .string c.pkts[j].note] := by rw [← hW2, ← hN]; exact (Blk.new wr 50 _).alloc _
              have hB2 : Blk W2 (N + 1) 50 #[.int .i64 c.pkts[k].time, .int .i64 c.pkts[k].face, .int .i64 c.pkts[k].real, .slice Ap c.pkts[k].data.length cp, .string c.pkts[k].note] := by
                have h := Blk.new (wr.alloc (.cells #[.int .i64 c.pkts[j].time, .int .i64 c.pkts[j].face, .int .i64 c.pkts[j].real, .slice Aq c.pkts[j].data.length cq, .string c.pkts[j].note] 50)) 50 #[.int .i64 c.pkts[k].time, .int .i64 c.pkts[k].face, .int .i64 c.pkts[k].real, .slice Ap c.pkts[k].data.length cp, .string c.pkts[k].note]
                rw [alloc_size, hN] at h
                rw [← hW2]; exact h
              rw [hW2]
              clear hW2
              have a0 := hB1.cell 0
              have d0 := hB2.cell 0
              have a1 := hB1.cell 1
              have d1 := hB2.cell 1
              have a2 := hB1.cell 2
              have d2 := hB2.cell 2
              have a3 := hB1.cell 3
              have d3 := hB2.cell 3
              have a4 := hB1.cell 4
              have d4 := hB2.cell 4
              have HI2 : Hid (Below M _ W2) := Lib.hid (HI.out.trans (hbl.mono (by have := HI.out.size; have := HMS.out; omega)))
              have v1 := conv_any (HBQ.out.byt.below (hbl.mono (by omega))) cq
              have v2 := conv_any (HBP.out.byt.below (hbl.mono (by omega))) cp
              clear hB1 hB2 hbl
              have tj := HTO.out _ (List.getElem_mem hjl)
              have tk := HTO.out _ (List.getElem_mem hlt)
              unfold timeOk at tj tk
              obtain ⟨tj1, tj2⟩ := tj
              obtain ⟨tk1, tk2⟩ := tk
              have HQ1 : Hid ((((c.pkts.take k).drop lo).take (j + 1 - lo)).any (dblB n c.pkts[k]) = (q || dblB n c.pkts[k] c.pkts[j])) := Lib.hid (by
                have hx : j - lo < ((c.pkts.take k).drop lo).length := by rw [List.length_drop, List.length_take]; omega
                rw [show j + 1 - lo = (j - lo) + 1 by omega, any_take _ _ _ hx, HQ.out]
                have : ((c.pkts.take k).drop lo)[j - lo]'hx = c.pkts[j] := by simp [show lo + (j - lo) = j by omega]
                rw [this])
              cases q with
              | true =>
                clear v1 v2
                go_wp2
                go_roundw
                case rel => exact ⟨j + 1, true, rfl, by go_num, by omega, by omega, Lib.hid (by rw [HQ1.out]; rfl), HI2⟩
                case measure => simp [intOf]; omega
              | false =>
                have HD : Hid (dblB n c.pkts[k] c.pkts[j] = (decide (-n ≤ c.pkts[k].time - c.pkts[j].time) && decide (c.pkts[k].time - c.pkts[j].time ≤ n) && (c.pkts[k].real == c.pkts[j].real) && eqB c.pkts[k].data c.pkts[j].data)) := Lib.hid rfl
                by_cases e1 : c.pkts[k].data = c.pkts[j].data
                · have HEQ : Hid (eqB c.pkts[k].data c.pkts[j].data = true) := Lib.hid (eqB_true e1)
                  rw [e1] at v2
                  obtain ⟨S, hS⟩ : ∃ S, strB c.pkts[j].data = S := ⟨_, rfl⟩
                  rw [hS] at v1 v2
                  have e2 : c.pkts[k].data.length = c.pkts[j].data.length := by rw [e1]
                  rw [← e2] at v2
                  clear e1 e2 hS
                  by_cases r1 : c.pkts[k].real = c.pkts[j].real
                  · have r2 : (c.pkts[j].real == c.pkts[k].real) = true := by rw [r1]; simp
                    have HR1 : Hid ((c.pkts[k].real == c.pkts[j].real) = true) := Lib.hid (by rw [r1]; simp)
                    clear r1
                    by_cases t1 : c.pkts[j].time - c.pkts[k].time ≤ n
                    · have u1 : decide (c.pkts[j].time - c.pkts[k].time ≤ n) = true := decide_eq_true t1
                      by_cases t2 : -(c.pkts[j].time - c.pkts[k].time) ≤ n
                      · have u2 : decide (-(c.pkts[j].time - c.pkts[k].time) ≤ n) = true := decide_eq_true t2
                        have u3 : decide (c.pkts[k].time - c.pkts[j].time ≤ n) = true := decide_eq_true (by omega)
                        have HZ : Hid (dblB n c.pkts[k] c.pkts[j] = true) := Lib.hid (by rw [HD.out, HEQ.out, HR1.out, u3, decide_eq_true (by omega : -n ≤ c.pkts[k].time - c.pkts[j].time)]; rfl)
                        clear t1 t2
                        go_wp2
                        go_roundw
                        case rel => exact ⟨j + 1, true, rfl, by go_num, by omega, by omega, Lib.hid (by rw [HQ1.out, HZ.out]; rfl), HI2⟩
                        case measure => simp [intOf]; omega
                      · have u2 : decide (-(c.pkts[j].time - c.pkts[k].time) ≤ n) = false := decide_eq_false t2
                        have u3 : decide (c.pkts[k].time - c.pkts[j].time ≤ n) = false := decide_eq_false (by omega)
                        have HZ : Hid (dblB n c.pkts[k] c.pkts[j] = false) := Lib.hid (by rw [HD.out, u3]; simp)
                        clear t1 t2
                        go_wp2
                        go_roundw
                        case rel => exact ⟨j + 1, false, rfl, by go_num, by omega, by omega, Lib.hid (by rw [HQ1.out, HZ.out]; rfl), HI2⟩
                        case measure => simp [intOf]; omega
                    · have u1 : decide (c.pkts[j].time - c.pkts[k].time ≤ n) = false := decide_eq_false t1
                      have HZ : Hid (dblB n c.pkts[k] c.pkts[j] = false) := Lib.hid (by rw [HD.out, decide_eq_false (by omega : ¬ -n ≤ c.pkts[k].time - c.pkts[j].time)]; simp)
                      clear t1
                      go_wp2
                      go_roundw
                      case rel => exact ⟨j + 1, false, rfl, by go_num, by omega, by omega, Lib.hid (by rw [HQ1.out, HZ.out]; rfl), HI2⟩
                      case measure => simp [intOf]; omega
                  · have r2 : (c.pkts[j].real == c.pkts[k].real) = false := by rw [beq_eq_false_iff_ne]; exact fun e => r1 e.symm
                    have HZ : Hid (dblB n c.pkts[k] c.pkts[j] = false) := Lib.hid (by rw [HD.out, show (c.pkts[k].real == c.pkts[j].real) = false from beq_eq_false_iff_ne.2 r1]; simp)
                    clear r1
                    go_wp2
                    go_roundw
                    case rel => exact ⟨j + 1, false, rfl, by go_num, by omega, by omega, Lib.hid (by rw [HQ1.out, HZ.out]; rfl), HI2⟩
                    case measure => simp [intOf]; omega
                · have HZ : Hid (dblB n c.pkts[k] c.pkts[j] = false) := Lib.hid (by rw [HD.out, eqB_false e1]; simp)
                  have hne : ¬ strB c.pkts[j].data = strB c.pkts[k].data := fun e => e1 (strB_inj HBQ.out.byt.lt HBP.out.byt.lt e).symm
                  have hne2 := str_ne hne
                  obtain ⟨S1, hS1⟩ : ∃ S, strB c.pkts[j].data = S := ⟨_, rfl⟩
                  obtain ⟨S2, hS2⟩ : ∃ S, strB c.pkts[k].data = S := ⟨_, rfl⟩
                  rw [hS1] at v1 hne2
                  rw [hS2] at v2 hne2
                  clear hS1 hS2 e1 hne
                  go_wp2
                  go_roundw
                  case rel => exact ⟨j + 1, false, rfl, by go_num, by omega, by omega, Lib.hid (by rw [HQ1.out, HZ.out]; rfl), HI2⟩
                  case measure => simp [intOf]; omega
            · obtain ⟨W2, hW2⟩ : ∃ W2, ((wr.alloc (.cells #[.int .i64 c.pkts[k].time, .int .i64 c.pkts[k].face, .int .i64 c.pkts[k].real, .slice Ap c.pkts[k].data.length cp, .string c.pkts[k].note] 50)).alloc (.cells #[.int .i64 c.pkts[j].time, .int .i64 c.pkts[j].face, .int .i64 c.pkts[j].real, .slice Aq c.pkts[j].data.length cq, .string c.pkts[j].note] 50)).drew = W2 := ⟨_, rfl⟩
              have hbl : Below N wr W2 := by rw [← hW2]; exact (((Below.refl _ _).alloc (by omega) _).alloc (by rw [alloc_size]; omega) _).drew
              have hB1 : Blk W2 N 50 #[.int .i64 c.pkts[k].time, .int .i64 c.pkts[k].face, .int .i64 c.pkts[k].real, .slice Ap c.pkts[k].data.length cp, .string c.pkts[k].note] := by rw [← hW2, ← hN]; exact (Blk.new wr 50 _).alloc _
              have hB2 : Blk W2 (N + 1) 50 #[.int .i64 c.pkts[j].time, .int .i64 c.pkts[j].face, .int .i64 c.pkts[j].real, .slice Aq c.pkts[j].data.length cq, .string c.pkts[j].note] := by
                have h := Blk.new (wr.alloc (.cells #[.int .i64 c.pkts[k].time, .int .i64 c.pkts[k].face, .int .i64 c.pkts[k].real, .slice Ap c.pkts[k].data.length cp, .string c.pkts[k].note] 50)) 50 #[.int .i64 c.pkts[j].time, .int .i64 c.pkts[j].face, .int .i64 c.pkts[j].real, .slice Aq c.pkts[j].data.length cq, .string c.pkts[j].note]
                rw [alloc_size, hN] at h
                rw [← hW2]; exact h
              rw [hW2]
              clear hW2
              have a0 := hB2.cell 0
              have d0 := hB1.cell 0
              have a1 := hB2.cell 1
              have d1 := hB1.cell 1
              have a2 := hB2.cell 2
              have d2 := hB1.cell 2
              have a3 := hB2.cell 3
              have d3 := hB1.cell 3
              have a4 := hB2.cell 4
              have d4 := hB1.cell 4
              have HI2 : Hid (Below M _ W2) := Lib.hid (HI.out.trans (hbl.mono (by have := HI.out.size; have := HMS.out; omega)))
              have v1 := conv_any (HBQ.out.byt.below (hbl.mono (by omega))) cq
              have v2 := conv_any (HBP.out.byt.below (hbl.mono (by omega))) cp
              clear hB1 hB2 hbl
              have tj := HTO.out _ (List.getElem_mem hjl)
              have tk := HTO.out _ (List.getElem_mem hlt)
              unfold timeOk at tj tk
              obtain ⟨tj1, tj2⟩ := tj
              obtain ⟨tk1, tk2⟩ := tk
              have HQ1 : Hid ((((c.pkts.take k).drop lo).take (j + 1 - lo)).any (dblB n c.pkts[k]) = (q || dblB n c.pkts[k] c.pkts[j])) := Lib.hid (by
                have hx : j - lo < ((c.pkts.take k).drop lo).length := by rw [List.length_drop, List.length_take]; omega
                rw [show j + 1 - lo = (j - lo) + 1 by omega, any_take _ _ _ hx, HQ.out]
                have : ((c.pkts.take k).drop lo)[j - lo]'hx = c.pkts[j] := by simp [show lo + (j - lo) = j by omega]
                rw [this])
              cases q with
              | true =>
                clear v1 v2
                go_wp2
                go_roundw
                case rel => exact ⟨j + 1, true, rfl, by go_num, by omega, by omega, Lib.hid (by rw [HQ1.out]; rfl), HI2⟩
                case measure => simp [intOf]; omega
              | false =>
                have HD : Hid (dblB n c.pkts[k] c.pkts[j] = (decide (-n ≤ c.pkts[k].time - c.pkts[j].time) && decide (c.pkts[k].time - c.pkts[j].time ≤ n) && (c.pkts[k].real == c.pkts[j].real) && eqB c.pkts[k].data c.pkts[j].data)) := Lib.hid rfl
                by_cases e1 : c.pkts[k].data = c.pkts[j].data
                · have HEQ : Hid (eqB c.pkts[k].data c.pkts[j].data = true) := Lib.hid (eqB_true e1)
                  rw [e1] at v2
                  obtain ⟨S, hS⟩ : ∃ S, strB c.pkts[j].data = S := ⟨_, rfl⟩
                  rw [hS] at v1 v2
                  have e2 : c.pkts[k].data.length = c.pkts[j].data.length := by rw [e1]
                  rw [← e2] at v2
                  clear e1 e2 hS
                  by_cases r1 : c.pkts[k].real = c.pkts[j].real
                  · have r2 : (c.pkts[j].real == c.pkts[k].real) = true := by rw [r1]; simp
                    have HR1 : Hid ((c.pkts[k].real == c.pkts[j].real) = true) := Lib.hid (by rw [r1]; simp)
                    clear r1
                    by_cases t1 : c.pkts[j].time - c.pkts[k].time ≤ n
                    · have u1 : decide (c.pkts[j].time - c.pkts[k].time ≤ n) = true := decide_eq_true t1
                      by_cases t2 : -(c.pkts[j].time - c.pkts[k].time) ≤ n
                      · have u2 : decide (-(c.pkts[j].time - c.pkts[k].time) ≤ n) = true := decide_eq_true t2
                        have u3 : decide (c.pkts[k].time - c.pkts[j].time ≤ n) = true := decide_eq_true (by omega)
                        have HZ : Hid (dblB n c.pkts[k] c.pkts[j] = true) := Lib.hid (by rw [HD.out, HEQ.out, HR1.out, u3, decide_eq_true (by omega : -n ≤ c.pkts[k].time - c.pkts[j].time)]; rfl)
                        clear t1 t2
                        go_wp2
                        go_roundw
                        case rel => exact ⟨j + 1, true, rfl, by go_num, by omega, by omega, Lib.hid (by rw [HQ1.out, HZ.out]; rfl), HI2⟩
                        case measure => simp [intOf]; omega
                      · have u2 : decide (-(c.pkts[j].time - c.pkts[k].time) ≤ n) = false := decide_eq_false t2
                        have u3 : decide (c.pkts[k].time - c.pkts[j].time ≤ n) = false := decide_eq_false (by omega)
                        have HZ : Hid (dblB n c.pkts[k] c.pkts[j] = false) := Lib.hid (by rw [HD.out, u3]; simp)
                        clear t1 t2
                        go_wp2
                        go_roundw
                        case rel => exact ⟨j + 1, false, rfl, by go_num, by omega, by omega, Lib.hid (by rw [HQ1.out, HZ.out]; rfl), HI2⟩
                        case measure => simp [intOf]; omega
                    · have u1 : decide (c.pkts[j].time - c.pkts[k].time ≤ n) = false := decide_eq_false t1
                      have HZ : Hid (dblB n c.pkts[k] c.pkts[j] = false) := Lib.hid (by rw [HD.out, decide_eq_false (by omega : ¬ -n ≤ c.pkts[k].time - c.pkts[j].time)]; simp)
                      clear t1
                      go_wp2
                      go_roundw
                      case rel => exact ⟨j + 1, false, rfl, by go_num, by omega, by omega, Lib.hid (by rw [HQ1.out, HZ.out]; rfl), HI2⟩
                      case measure => simp [intOf]; omega
                  · have r2 : (c.pkts[j].real == c.pkts[k].real) = false := by rw [beq_eq_false_iff_ne]; exact fun e => r1 e.symm
                    have HZ : Hid (dblB n c.pkts[k] c.pkts[j] = false) := Lib.hid (by rw [HD.out, show (c.pkts[k].real == c.pkts[j].real) = false from beq_eq_false_iff_ne.2 r1]; simp)
                    clear r1
                    go_wp2
                    go_roundw
                    case rel => exact ⟨j + 1, false, rfl, by go_num, by omega, by omega, Lib.hid (by rw [HQ1.out, HZ.out]; rfl), HI2⟩
                    case measure => simp [intOf]; omega
                · have HZ : Hid (dblB n c.pkts[k] c.pkts[j] = false) := Lib.hid (by rw [HD.out, eqB_false e1]; simp)
                  have hne : ¬ strB c.pkts[j].data = strB c.pkts[k].data := fun e => e1 (strB_inj HBQ.out.byt.lt HBP.out.byt.lt e).symm
                  have hne2 := str_ne hne
                  obtain ⟨S1, hS1⟩ : ∃ S, strB c.pkts[j].data = S := ⟨_, rfl⟩
                  obtain ⟨S2, hS2⟩ : ∃ S, strB c.pkts[k].data = S := ⟨_, rfl⟩
                  rw [hS1] at v1 hne2
                  rw [hS2] at v2 hne2
                  clear hS1 hS2 e1 hne
                  go_wp2
                  go_roundw
                  case rel => exact ⟨j + 1, false, rfl, by go_num, by omega, by omega, Lib.hid (by rw [HQ1.out, HZ.out]; rfl), HI2⟩
                  case measure => simp [intOf]; omega
          · have hd4 : decide ((j : Int) < (k : Int)) = false := decide_eq_false (by omega)
            have HQ2 : Hid (((c.pkts.take k).drop (k - m)).any (dblB n c.pkts[k]) = q) := Lib.hid (by
              rw [HLO.out]
              have h := HQ.out
              rw [List.take_of_length_le (by rw [List.length_drop, List.length_take]; omega)] at h
              exact h)
            have HO2 := Lib.hid (own_bel HOW.out (by have h := HI.out; rw [← HMS.out] at h; exact h))
            clear HQ
            cases q with
            | true =>
              have HD : Hid (dbls n m c.pkts (k + 1) = dbls n m c.pkts k ++ [(k : Int)]) := Lib.hid (by rw [dbls, List.getElem?_eq_getElem hlt]; simp only [HQ2.out, if_true])
              have hbase2 : B + 1 ≤ wr.heap.size := HWI.out.2.2
              obtain ⟨v7, w7, hrun, ho7, hg7, _⟩ := run_own_struct wr (B + 1) 3 1 8 23 (.int .i64 0) Try.underlying23 (by kernel_rfl) (by rfl) (by decide) _ _ _ HO2.out [.int .i64 (k : Int)] rfl (by
                intro u hu; simp only [List.mem_cons, List.not_mem_nil, or_false] at hu; rcases hu with rfl; rfl) (by unfold maxLen; omega) (by omega) hbase2
              obtain ⟨A7, c7, rfl⟩ : ∃ A c, v7 = .slice A (ol + 1) c := by
                rcases ho7.2 with ⟨e, h0⟩ | ⟨g, cap, _, e, _⟩
                · omega
                · exact ⟨_, _, e⟩
              have HO7 : Hid (w7.ownsRow (B + 1) 3 1 (.slice A7 (ol + 1) c7) (ol + 1) ((out ++ [(k : Int)]).map i64)) := Lib.hid (by
                rw [List.map_append]
                exact ho7)
              have hgr : wr.heap.size ≤ w7.heap.size := by
                have := hg7.size
                rw [alloc_size] at this
                omega
              have hnb : ∀ g t cs, g < B + 1 → Blk wr g t cs → Blk w7 g t cs := fun g t cs hg hk => (hk.alloc _).grown hg7 (fun e => by
                have h := (HO2.out.lt g e.symm).1
                omega)
              have HW7 : Hid (Blk w7 B 31 #[.string c.note, .slice p.pf c.faces.length p.cf, .slice p.pn c.names.length p.cn, .slice p.ps c.secs.length p.cs, .slice p.pp c.pkts.length p.cp] ∧ Below B w w7 ∧ B + 1 ≤ w7.heap.size) := Lib.hid ⟨hnb _ _ _ (by omega) HWI.out.1, (HWI.out.2.1.alloc (by omega) _).grown hg7 (by rw [alloc_size]; omega) (fun j hj => by have := (HO2.out.lt _ hj).1; omega), by omega⟩
              have HOL7 : Hid ((out ++ [(k : Int)]).length = ol + 1) := Lib.hid (by rw [List.length_append, HOL.out]; rfl)
              have HOU7 : Hid (out ++ [(k : Int)] = dbls n m c.pkts (k + 1)) := Lib.hid (by rw [HD.out, HOU.out])
              clear ho7 hg7 hgr hnb
              go_wp2_with (at_builtin; refine Lib.wpList_append_run _ rfl _ _ _ _ rfl _ _ rfl rfl _ _ hrun ?_)
              go_roundw
              case rel => exact ⟨k + 1, A7, c7, ol + 1, out ++ [(k : Int)], by go_num, rfl, by omega, by omega, HOL7, HOU7, HO7, HW7⟩
              case measure => simp [intOf]; omega
            | false =>
              have HOU2 : Hid (out = dbls n m c.pkts (k + 1)) := Lib.hid (by rw [dbls, List.getElem?_eq_getElem hlt]; simp only [HQ2.out]; exact HOU.out)
              go_wp2
              go_roundw
              case rel => exact ⟨k + 1, Ao, co, ol, out, by go_num, rfl, by omega, by omega, HOL, HOU2, HO2, HWI⟩
              case measure => simp [intOf]; omega
    · have hke : k = c.pkts.length := by omega
      subst hke
      have hd3 : decide ((c.pkts.length : Int) < (c.pkts.length : Int)) = false := decide_eq_false (by omega)
      go_wp2
      go_ret2
      have ho := HOW.out
      have hol2 := HOL.out
      rw [HOU.out] at ho hol2
      exact ⟨Ao, co, by show _ = _; rw [hol2]; rfl, by simp only [hol2]; rw [HBS.out]; exact ho.mono (by omega), by rw [HBS.out]; exact HW.out.2.1⟩
end Go.Proofs.Ytghdilmlfficlaa
