/- The body of a secret, read. -/
import Derived.Test.YtlimkckomdipkaaRd2
import Derived.Deep.RegionHeld3
import Derived.Test.YtlimkckomdipkaaMem
namespace Go.Proofs.Ytlimkckomdipkaa
open Go.RowKit

set_option maxRecDepth 100000 in
set_option maxHeartbeats 8000000 in
theorem sec_true {w : World} {R b np torn cp b0 o L cc : Nat} {q : Pl} {c : Cap} {A : Option Addr} {xs : List Value} {s : ByteArray} {a : List Nat} (h : Rd w R b (.iface 96 (.agg #[])) q A cp xs c np torn)
    (hp : Pc w b0 o (pairB true (strL s) a ++ padB (pairB true (strL s) a).length)) (hL : (pairB true (strL s) a ++ padB (pairB true (strL s) a).length).length = L) (hc : L < cc) (hb : b0 < b) (hs : s.size ≤ 200) (ha : a.length ≤ 200) (hn : c.secs.length < 1000) :
    Calls Try.prog 83 #[.pointer (some ⟨R, 0, none⟩), .slice (some ⟨b0, o, none⟩) L cc, .bool false] w fun e w' => e = .returned (.bool true) ∧ (∃ q', Rd w' R b (.iface 96 (.agg #[])) q' A cp xs ⟨c.note, c.faces, c.names, c.secs ++ [⟨s, a⟩], c.pkts⟩ np torn) ∧ Below b w w' := by
  obtain ⟨la, hla⟩ : ∃ la, a.length = la := ⟨_, rfl⟩
  obtain ⟨lt, hlt⟩ : ∃ lt, (strL s).length = lt := ⟨_, rfl⟩
  have hlts : lt ≤ 200 := by rw [← hlt, strL_len]; exact hs
  have hl2 : (numsB true 2 [lt, la]).length = 4 := by rw [numsB_len]; rfl
  have hpl : (pairB true (strL s) a).length = 4 + (la + lt) := by
    unfold pairB
    rw [hla, hlt, List.length_append, List.length_append, hla, hlt, hl2]
    try omega
  have hpn : padN (4 + (la + lt)) = padN (la + lt) := by unfold padN; omega
  rw [List.length_append, padB_len, hpl, hpn] at hL
  rw [hpl] at hp
  unfold padB at hp
  rw [hpn] at hp
  have hbw : b0 < w.heap.size := by have := h.lt; omega
  have hp1 := hp.left
  unfold pairB at hp1
  rw [hla, hlt] at hp1
  have hpr := hp.right
  rw [hpl] at hpr
  have hq := hp1.left
  rw [numsB_cons, numsB_one] at hq
  have P1 : Hid (Pc w b0 o (numB true 2 lt)) := Lib.hid hq.left
  have P2 : Hid (Pc w b0 (o + 2) (numB true 2 la)) := Lib.hid (hq.right.at_ (by rw [numB_len2]))
  have hr := hp1.right
  rw [hl2] at hr
  have PA : Hid (Pc w b0 (o + 4 + lt) a) := Lib.hid (hr.right.at_ (by rw [hlt]))
  have PT : Hid (Pc w b0 (o + 4) (strL s)) := Lib.hid hr.left
  have PZ : Hid (Pc w b0 (o + 4 + (la + lt)) (List.replicate (padN (la + lt)) 0)) := Lib.hid (hpr.at_ (by omega))
  have hpd := padN_le (la + lt)
  have HLA := Lib.hid hla
  have HLT := Lib.hid PA.out.lt
  have hok : secKd.ok ⟨s, a⟩ := by show s.size ≤ 140737488355328; omega
  have H := Lib.hid h
  have q0 := h.cell0
  have q1 : w.drew.cell? ⟨R, 0, none⟩ = some (.iface 96 (.agg #[])) := q0
  have G1 := Lib.hid (get_true (w := w.drew) (c := cc) (P1.out.below (Below.refl _ w).drew hbw) (by decide) hbw (by omega))
  have FI := Lib.hid (fun (w' : World) (hw : Below b w w') => filled_any (w := w') (b := b0) (o := o + 4) (L := L - 4) (c := cc - 4) (n := la + lt) (by omega) (by omega) (by omega) (fun i hi => by
    have h := (PZ.out.below hw hb).cells i (by simpa using hi)
    rw [h]
    simp [at8, hi]))
  have CV := Lib.hid (fun (w' : World) (hw' : Below b w w') => conv_any (B := w'.heap.size) ((PT.out.below hw' hb).byt (Nat.lt_of_lt_of_le hbw (by have := hw'.size; omega))) (cc - 4))
  rw [hlt, strB_strL] at CV
  have CL0 := Lib.hid (fun (w' : World) (hw' : Below b w w') (k : b < w'.heap.size) => bclone_any ((PA.out.below hw' hb).byc (Nat.lt_trans hb k) (c := (cc - 4 - lt)) (by omega) (by omega)))
  rw [hla] at CL0
  obtain ⟨n, hnn⟩ : ∃ n, la + lt = n := ⟨_, rfl⟩
  rw [hnn] at FI PZ hpd
  have hfs : ((lt : Nat) : Int) + ((la : Nat) : Int) = (n : Int) := by omega
  have hk0 : decide ((L : Int) < 4) = false := by simp; omega
  have hk1 : (4 : Int) ≤ (L : Int) := by omega
  have hk2 : (4 : Int) ≤ (cc : Int) := by omega
  have hk3 : ¬ cc = 4 := by omega
  have hk4 : ¬ cc = 2 := by omega
  have hk5 : (2 : Int) ≤ (cc : Int) := by omega
  have hz : L - 4 - (n + padN n) = 0 := by rw [← hnn]; omega
  rw [hz] at FI
  have HNN := Lib.hid hnn
  have HLL : Hid (4 + n ≤ L) := Lib.hid (by omega)
  have nah : ∀ (w : World), (nilAhead 246 96 (.agg #[]) "wireglass/capt.get").run Try.prog w = .ok (some false) w := fun w => by kernel_rfl
  have mth : ∀ (w : World), (method 246 96 (.agg #[]) "wireglass/capt.get").run Try.prog w = .ok (114, .agg #[]) w := fun w => by kernel_rfl
  clear hnn h hp hp1 hpr hq hr hL hl2 hpl hpn hz
  go_enter Try.func83, Try.ntmps83
  go_wp2_with fail
  refine wp_region_held_drew (S := fun w' => w'.cell? ⟨R, 0, none⟩ = some (.iface 96 (.agg #[]))) (by kernel_rfl) q1 (fun hHeld => ?_)
  refine tk 0 ?_
  repeat (rw [putL]; simp only [List.set])
  refine tk 1 ?_
  repeat (rw [putL]; simp only [List.set])
  refine tk 2 ?_
  repeat (rw [putL]; simp only [List.set])
  refine tk 3 ?_
  repeat (rw [putL]; simp only [List.set])
  refine tk 4 ?_
  repeat (rw [putL]; simp only [List.set])
  refine tk 5 ?_
  repeat (rw [putL]; simp only [List.set])
  refine tk 6 ?_
  repeat (rw [putL]; simp only [List.set])
  refine tk 7 ?_
  repeat (rw [putL]; simp only [List.set])
  refine tk 9 ?_
  repeat (rw [putL]; simp only [List.set])
  refine tk 10 ?_
  repeat (rw [putL]; simp only [List.set])
  refine tk 11 ?_
  repeat (rw [putL]; simp only [List.set])
  refine tk 12 ?_
  repeat (rw [putL]; simp only [List.set])
  refine tk 13 ?_
  repeat (rw [putL]; simp only [List.set])
  refine tk 14 ?_
  repeat (rw [putL]; simp only [List.set])
  refine tk 15 ?_
  repeat (rw [putL]; simp only [List.set])
  refine tk 16 ?_
  repeat (rw [putL]; simp only [List.set])
  refine wpAnyH_ready (rs := [8]) (by kernel_rfl) (by simp) ?_
  refine AllReadyH.cons rfl (fun K hK => ?_) (AllReadyH.nil)
  go_simp
  go_at_call 114
  with_reducible refine G1.out.mono ?_
  rintro e w1 ⟨rfl, hb1⟩
  have H1 := Lib.hid (H.out.drew.below hb1)
  have B1 : Hid (Below b w w1) := Lib.hid ((Below.refl _ w).drew.trans (hb1.mono (Nat.le_of_lt H.out.lt)))
  have t1 := H1.out.cell0
  clear hb1
  have G2 := Lib.hid (get_true (c := cc - 2) (P2.out.below B1.out hb) (by decide) (Nat.lt_trans hb H1.out.lt) (by omega))
  dsimp only
  refine hK.out _ _ t1 (fun hHeld => ?_)
  clear hK K
  repeat (rw [putL]; simp only [List.set])
  refine wpAnyH_ready (rs := [17]) (by kernel_rfl) (by simp) ?_
  refine AllReadyH.cons rfl (fun K hK => ?_) (AllReadyH.nil)
  go_simp
  go_at_call 114
  with_reducible refine G2.out.mono ?_
  rintro e w2 ⟨rfl, hb2⟩
  have H2 := Lib.hid (H1.out.below hb2)
  have B2 : Hid (Below b w w2) := Lib.hid (B1.out.trans (hb2.mono (Nat.le_of_lt H1.out.lt)))
  have t2 := H2.out.cell0
  clear hb2
  dsimp only
  refine hK.out _ _ t2 (fun hHeld => ?_)
  clear hK K
  repeat (rw [putL]; simp only [List.set])
  refine tk 18 ?_
  repeat (rw [putL]; simp only [List.set])
  refine tk 19 ?_
  repeat (rw [putL]; simp only [List.set])
  refine wpAnyH_done (by kernel_rfl) ?_ _
  have FJ := Lib.hid (FI.out w2 B2.out)
  clear FI q0 q1
  go_wp2_with fail
  refine FJ.out.mono ?_
  rintro e w3 ⟨rfl, hb3⟩
  have HD := Lib.hid (H2.out.below hb3).drew
  have BD : Hid (Below b w w3.drew) := Lib.hid ((B2.out.trans (hb3.mono (Nat.le_of_lt H2.out.lt))).drew)
  have td0 : w3.drew.cell? ⟨R, 0, none⟩ = some (.iface 96 (.agg #[])) := HD.out.cell0
  have e0 : w3.drew.cell? ⟨R, 4, none⟩ = some (.slice q.ps c.secs.length q.cs) := by rw [HD.out.blk.cell]; rfl
  have CL := Lib.hid (CL0.out w3.drew BD.out HD.out.lt)
  have C0 := CV.out w3.drew BD.out
  have hi1 : (lt : Int) ≤ (n : Int) := by have := HNN.out; omega
  have hi2 : (lt : Int) ≤ ((cc - 4 : Nat) : Int) := by have := HNN.out; have := HLL.out; omega
  have hi3 : ¬ cc - 4 = lt := by have := HNN.out; have := HLL.out; omega
  have hi4 : n - lt = la := by have := HNN.out; omega
  clear FJ hb3 CL0
  go_wp2_with fail
  refine wp_region_held_drew (S := fun w' => w'.cell? ⟨R, 0, none⟩ = some (.iface 96 (.agg #[]))) (by kernel_rfl) td0 (fun hHeld => ?_)
  refine tk 0 ?_
  repeat (rw [putL]; simp only [List.set])
  refine tk 1 ?_
  repeat (rw [putL]; simp only [List.set])
  refine tk 2 ?_
  repeat (rw [putL]; simp only [List.set])
  refine tk 3 ?_
  repeat (rw [putL]; simp only [List.set])
  refine tk 4 ?_
  repeat (rw [putL]; simp only [List.set])
  refine tk 6 ?_
  repeat (rw [putL]; simp only [List.set])
  refine tk 7 ?_
  repeat (rw [putL]; simp only [List.set])
  refine tk 8 ?_
  repeat (rw [putL]; simp only [List.set])
  refine tk 10 ?_
  repeat (rw [putL]; simp only [List.set])
  refine tk 11 ?_
  repeat (rw [putL]; simp only [List.set])
  refine tk 12 ?_
  repeat (rw [putL]; simp only [List.set])
  refine wpAnyH_ready (rs := [5, 9, 13]) (by kernel_rfl) (by simp) ?_
  refine AllReadyH.cons rfl (fun K hK => ?_) (AllReadyH.cons rfl (fun K hK => ?_) (AllReadyH.cons rfl (fun K hK => ?_) (AllReadyH.nil)))
  go_simp
  refine hK.out _ _ td0 (fun hHeld => ?_)
  clear hK K
  repeat (rw [putL]; simp only [List.set])
  refine wpAnyH_ready (rs := [9, 13]) (by kernel_rfl) (by simp) ?_
  refine AllReadyH.cons rfl (fun K hK => ?_) (AllReadyH.cons rfl (fun K hK => ?_) (AllReadyH.nil))
  go_simp
  refine hK.out _ _ td0 (fun hHeld => ?_)
  clear hK K
  repeat (rw [putL]; simp only [List.set])
  refine wpAnyH_ready (rs := [13]) (by kernel_rfl) (by simp) ?_
  refine AllReadyH.cons rfl (fun K hK => ?_) (AllReadyH.nil)
  go_simp
  go_at_call 54
  with_reducible refine CL.out.mono ?_
  rintro e w5 hcl5
  obtain ⟨A5, c5, rfl, ho5, hb5⟩ := hcl5
  have H5 := Lib.hid (HD.out.below hb5)
  have B5 := Lib.hid (BD.out.trans (hb5.mono (Nat.le_of_lt HD.out.lt)))
  rw [HLA.out] at ho5 ⊢
  have t5 := H5.out.cell0
  obtain ⟨w0, rows, HF⟩ := H5.out.cap.secs
  obtain ⟨A7, c7, w7, hrun, ho7, hg7, ha7, hb7⟩ := row_more (cs := (secKd.row ⟨s, a⟩ (.slice A5 la c5))) Try.underlying24 info65 (by rfl) (by decide) (by decide) HF.own rfl (secR.one _ _ _ _) (by omega) (Nat.le_of_lt H5.out.lt)
  have END := Lib.hid (And.intro (Rd.sec (x := ⟨s, a⟩) H5.out HF ho7 hg7 ha7 HLA.out (own_mono ho5 (Nat.le_of_lt HD.out.lt)) HLT.out (by omega) hok (by omega)) ((B5.out.trans hb7).setCell (p := ⟨R, 4, none⟩) H5.out.le (.slice A7 (c.secs.length + 1) c7)))
  have tc : (w5.alloc (.cells (secKd.row ⟨s, a⟩ (.slice A5 la c5)).toArray 65)).cell? ⟨R, 0, none⟩ = some (.iface 96 (.agg #[])) := by rw [(H5.out.blk.alloc _).cell]; rfl
  have hk7 : Blk w7 R 70 (rdV (.iface 96 (.agg #[])) q c A np cp torn) := ha7.2 R 70 _ (by decide) H5.out.blk
  have td : w7.cell? ⟨R, 0, none⟩ = some (.iface 96 (.agg #[])) := by rw [hk7.cell]; rfl
  have e7 : w7.cell? ⟨R, 4, none⟩ = some (.slice q.ps c.secs.length q.cs) := by rw [hk7.cell]; rfl
  have f7 : w7.frozen? ⟨R, 4, none⟩ = false := hk7.frozen 4
  have te : (w7.setCell ⟨R, 4, none⟩ (.slice A7 (c.secs.length + 1) c7)).cell? ⟨R, 0, none⟩ = some (.iface 96 (.agg #[])) := by rw [(hk7.set_ 4 _).cell]; rfl
  have e5 : w5.cell? ⟨R, 4, none⟩ = some (.slice q.ps c.secs.length q.cs) := by rw [H5.out.blk.cell]; rfl
  have eC : (w5.alloc (.cells (secKd.row ⟨s, a⟩ (.slice A5 la c5)).toArray 65)).cell? ⟨R, 4, none⟩ = some (.slice q.ps c.secs.length q.cs) := by rw [(H5.out.blk.alloc _).cell]; rfl
  have C5 := CV.out w5 B5.out
  change _ = Result.ok _ _ at hrun
  simp only [secKd] at hrun tc eC
  clear hb5 HF ho7 hg7 ha7 hb7 hk7 ho5
  dsimp only
  refine hK.out _ _ t5 (fun hHeld => ?_)
  clear hK K
  repeat (rw [putL]; simp only [List.set])
  refine tk 14 ?_
  repeat (rw [putL]; simp only [List.set])
  refine wpAnyH_ready (rs := [15]) (by kernel_rfl) (by simp) ?_
  refine AllReadyH.cons rfl (fun K hK => ?_) (AllReadyH.nil)
  go_simp
  refine hK.out _ _ tc (fun hHeld => ?_)
  clear hK K
  repeat (rw [putL]; simp only [List.set])
  refine wpAnyH_ready (rs := [16]) (by kernel_rfl) (by simp) ?_
  refine AllReadyH.cons rfl (fun K hK => ?_) (AllReadyH.nil)
  refine step_append_run _ rfl _ _ _ _ rfl _ _ (by rfl) (by rfl) _ w7 hrun ?_
  refine hK.out _ _ td (fun hHeld => ?_)
  clear hK K
  repeat (rw [putL]; simp only [List.set])
  refine tk 17 ?_
  repeat (rw [putL]; simp only [List.set])
  refine tk 18 ?_
  repeat (rw [putL]; simp only [List.set])
  refine tk 19 ?_
  repeat (rw [putL]; simp only [List.set])
  refine wpAnyH_ready (rs := [20]) (by kernel_rfl) (by simp) ?_
  refine AllReadyH.cons rfl (fun K hK => ?_) (AllReadyH.nil)
  go_simp
  refine hK.out _ _ te (fun hHeld => ?_)
  clear hK K
  repeat (rw [putL]; simp only [List.set])
  refine wpAnyH_done (by kernel_rfl) ?_ _
  rotate_left 1
  go_simp
  go_at_call 54
  with_reducible refine CL.out.mono ?_
  rintro e w5 hcl5
  obtain ⟨A5, c5, rfl, ho5, hb5⟩ := hcl5
  have H5 := Lib.hid (HD.out.below hb5)
  have B5 := Lib.hid (BD.out.trans (hb5.mono (Nat.le_of_lt HD.out.lt)))
  rw [HLA.out] at ho5 ⊢
  have t5 := H5.out.cell0
  obtain ⟨w0, rows, HF⟩ := H5.out.cap.secs
  obtain ⟨A7, c7, w7, hrun, ho7, hg7, ha7, hb7⟩ := row_more (cs := (secKd.row ⟨s, a⟩ (.slice A5 la c5))) Try.underlying24 info65 (by rfl) (by decide) (by decide) HF.own rfl (secR.one _ _ _ _) (by omega) (Nat.le_of_lt H5.out.lt)
  have END := Lib.hid (And.intro (Rd.sec (x := ⟨s, a⟩) H5.out HF ho7 hg7 ha7 HLA.out (own_mono ho5 (Nat.le_of_lt HD.out.lt)) HLT.out (by omega) hok (by omega)) ((B5.out.trans hb7).setCell (p := ⟨R, 4, none⟩) H5.out.le (.slice A7 (c.secs.length + 1) c7)))
  have tc : (w5.alloc (.cells (secKd.row ⟨s, a⟩ (.slice A5 la c5)).toArray 65)).cell? ⟨R, 0, none⟩ = some (.iface 96 (.agg #[])) := by rw [(H5.out.blk.alloc _).cell]; rfl
  have hk7 : Blk w7 R 70 (rdV (.iface 96 (.agg #[])) q c A np cp torn) := ha7.2 R 70 _ (by decide) H5.out.blk
  have td : w7.cell? ⟨R, 0, none⟩ = some (.iface 96 (.agg #[])) := by rw [hk7.cell]; rfl
  have e7 : w7.cell? ⟨R, 4, none⟩ = some (.slice q.ps c.secs.length q.cs) := by rw [hk7.cell]; rfl
  have f7 : w7.frozen? ⟨R, 4, none⟩ = false := hk7.frozen 4
  have te : (w7.setCell ⟨R, 4, none⟩ (.slice A7 (c.secs.length + 1) c7)).cell? ⟨R, 0, none⟩ = some (.iface 96 (.agg #[])) := by rw [(hk7.set_ 4 _).cell]; rfl
  have e5 : w5.cell? ⟨R, 4, none⟩ = some (.slice q.ps c.secs.length q.cs) := by rw [H5.out.blk.cell]; rfl
  have eC : (w5.alloc (.cells (secKd.row ⟨s, a⟩ (.slice A5 la c5)).toArray 65)).cell? ⟨R, 4, none⟩ = some (.slice q.ps c.secs.length q.cs) := by rw [(H5.out.blk.alloc _).cell]; rfl
  have C5 := CV.out w5 B5.out
  change _ = Result.ok _ _ at hrun
  simp only [secKd] at hrun tc eC
  clear hb5 HF ho7 hg7 ha7 hb7 hk7 ho5
  dsimp only
  refine hK.out _ _ t5 (fun hHeld => ?_)
  clear hK K
  repeat (rw [putL]; simp only [List.set])
  refine wpAnyH_ready (rs := [9]) (by kernel_rfl) (by simp) ?_
  refine AllReadyH.cons rfl (fun K hK => ?_) (AllReadyH.nil)
  go_simp
  refine hK.out _ _ t5 (fun hHeld => ?_)
  clear hK K
  repeat (rw [putL]; simp only [List.set])
  refine tk 14 ?_
  repeat (rw [putL]; simp only [List.set])
  refine wpAnyH_ready (rs := [15]) (by kernel_rfl) (by simp) ?_
  refine AllReadyH.cons rfl (fun K hK => ?_) (AllReadyH.nil)
  go_simp
  refine hK.out _ _ tc (fun hHeld => ?_)
  clear hK K
  repeat (rw [putL]; simp only [List.set])
  refine wpAnyH_ready (rs := [16]) (by kernel_rfl) (by simp) ?_
  refine AllReadyH.cons rfl (fun K hK => ?_) (AllReadyH.nil)
  refine step_append_run _ rfl _ _ _ _ rfl _ _ (by rfl) (by rfl) _ w7 hrun ?_
  refine hK.out _ _ td (fun hHeld => ?_)
  clear hK K
  repeat (rw [putL]; simp only [List.set])
  refine tk 17 ?_
  repeat (rw [putL]; simp only [List.set])
  refine tk 18 ?_
  repeat (rw [putL]; simp only [List.set])
  refine tk 19 ?_
  repeat (rw [putL]; simp only [List.set])
  refine wpAnyH_ready (rs := [20]) (by kernel_rfl) (by simp) ?_
  refine AllReadyH.cons rfl (fun K hK => ?_) (AllReadyH.nil)
  go_simp
  refine hK.out _ _ te (fun hHeld => ?_)
  clear hK K
  repeat (rw [putL]; simp only [List.set])
  refine wpAnyH_done (by kernel_rfl) ?_ _
  rotate_left 1
  go_simp
  refine hK.out _ _ td0 (fun hHeld => ?_)
  clear hK K
  repeat (rw [putL]; simp only [List.set])
  refine wpAnyH_ready (rs := [5, 13]) (by kernel_rfl) (by simp) ?_
  refine AllReadyH.cons rfl (fun K hK => ?_) (AllReadyH.cons rfl (fun K hK => ?_) (AllReadyH.nil))
  go_simp
  refine hK.out _ _ td0 (fun hHeld => ?_)
  clear hK K
  repeat (rw [putL]; simp only [List.set])
  refine wpAnyH_ready (rs := [13]) (by kernel_rfl) (by simp) ?_
  refine AllReadyH.cons rfl (fun K hK => ?_) (AllReadyH.nil)
  go_simp
  go_at_call 54
  with_reducible refine CL.out.mono ?_
  rintro e w5 hcl5
  obtain ⟨A5, c5, rfl, ho5, hb5⟩ := hcl5
  have H5 := Lib.hid (HD.out.below hb5)
  have B5 := Lib.hid (BD.out.trans (hb5.mono (Nat.le_of_lt HD.out.lt)))
  rw [HLA.out] at ho5 ⊢
  have t5 := H5.out.cell0
  obtain ⟨w0, rows, HF⟩ := H5.out.cap.secs
  obtain ⟨A7, c7, w7, hrun, ho7, hg7, ha7, hb7⟩ := row_more (cs := (secKd.row ⟨s, a⟩ (.slice A5 la c5))) Try.underlying24 info65 (by rfl) (by decide) (by decide) HF.own rfl (secR.one _ _ _ _) (by omega) (Nat.le_of_lt H5.out.lt)
  have END := Lib.hid (And.intro (Rd.sec (x := ⟨s, a⟩) H5.out HF ho7 hg7 ha7 HLA.out (own_mono ho5 (Nat.le_of_lt HD.out.lt)) HLT.out (by omega) hok (by omega)) ((B5.out.trans hb7).setCell (p := ⟨R, 4, none⟩) H5.out.le (.slice A7 (c.secs.length + 1) c7)))
  have tc : (w5.alloc (.cells (secKd.row ⟨s, a⟩ (.slice A5 la c5)).toArray 65)).cell? ⟨R, 0, none⟩ = some (.iface 96 (.agg #[])) := by rw [(H5.out.blk.alloc _).cell]; rfl
  have hk7 : Blk w7 R 70 (rdV (.iface 96 (.agg #[])) q c A np cp torn) := ha7.2 R 70 _ (by decide) H5.out.blk
  have td : w7.cell? ⟨R, 0, none⟩ = some (.iface 96 (.agg #[])) := by rw [hk7.cell]; rfl
  have e7 : w7.cell? ⟨R, 4, none⟩ = some (.slice q.ps c.secs.length q.cs) := by rw [hk7.cell]; rfl
  have f7 : w7.frozen? ⟨R, 4, none⟩ = false := hk7.frozen 4
  have te : (w7.setCell ⟨R, 4, none⟩ (.slice A7 (c.secs.length + 1) c7)).cell? ⟨R, 0, none⟩ = some (.iface 96 (.agg #[])) := by rw [(hk7.set_ 4 _).cell]; rfl
  have e5 : w5.cell? ⟨R, 4, none⟩ = some (.slice q.ps c.secs.length q.cs) := by rw [H5.out.blk.cell]; rfl
  have eC : (w5.alloc (.cells (secKd.row ⟨s, a⟩ (.slice A5 la c5)).toArray 65)).cell? ⟨R, 4, none⟩ = some (.slice q.ps c.secs.length q.cs) := by rw [(H5.out.blk.alloc _).cell]; rfl
  have C5 := CV.out w5 B5.out
  change _ = Result.ok _ _ at hrun
  simp only [secKd] at hrun tc eC
  clear hb5 HF ho7 hg7 ha7 hb7 hk7 ho5
  dsimp only
  refine hK.out _ _ t5 (fun hHeld => ?_)
  clear hK K
  repeat (rw [putL]; simp only [List.set])
  refine tk 14 ?_
  repeat (rw [putL]; simp only [List.set])
  refine wpAnyH_ready (rs := [15]) (by kernel_rfl) (by simp) ?_
  refine AllReadyH.cons rfl (fun K hK => ?_) (AllReadyH.nil)
  go_simp
  refine hK.out _ _ tc (fun hHeld => ?_)
  clear hK K
  repeat (rw [putL]; simp only [List.set])
  refine wpAnyH_ready (rs := [16]) (by kernel_rfl) (by simp) ?_
  refine AllReadyH.cons rfl (fun K hK => ?_) (AllReadyH.nil)
  refine step_append_run _ rfl _ _ _ _ rfl _ _ (by rfl) (by rfl) _ w7 hrun ?_
  refine hK.out _ _ td (fun hHeld => ?_)
  clear hK K
  repeat (rw [putL]; simp only [List.set])
  refine tk 17 ?_
  repeat (rw [putL]; simp only [List.set])
  refine tk 18 ?_
  repeat (rw [putL]; simp only [List.set])
  refine tk 19 ?_
  repeat (rw [putL]; simp only [List.set])
  refine wpAnyH_ready (rs := [20]) (by kernel_rfl) (by simp) ?_
  refine AllReadyH.cons rfl (fun K hK => ?_) (AllReadyH.nil)
  go_simp
  refine hK.out _ _ te (fun hHeld => ?_)
  clear hK K
  repeat (rw [putL]; simp only [List.set])
  refine wpAnyH_done (by kernel_rfl) ?_ _
  rotate_left 1
  go_simp
  go_at_call 54
  with_reducible refine CL.out.mono ?_
  rintro e w5 hcl5
  obtain ⟨A5, c5, rfl, ho5, hb5⟩ := hcl5
  have H5 := Lib.hid (HD.out.below hb5)
  have B5 := Lib.hid (BD.out.trans (hb5.mono (Nat.le_of_lt HD.out.lt)))
  rw [HLA.out] at ho5 ⊢
  have t5 := H5.out.cell0
  obtain ⟨w0, rows, HF⟩ := H5.out.cap.secs
  obtain ⟨A7, c7, w7, hrun, ho7, hg7, ha7, hb7⟩ := row_more (cs := (secKd.row ⟨s, a⟩ (.slice A5 la c5))) Try.underlying24 info65 (by rfl) (by decide) (by decide) HF.own rfl (secR.one _ _ _ _) (by omega) (Nat.le_of_lt H5.out.lt)
  have END := Lib.hid (And.intro (Rd.sec (x := ⟨s, a⟩) H5.out HF ho7 hg7 ha7 HLA.out (own_mono ho5 (Nat.le_of_lt HD.out.lt)) HLT.out (by omega) hok (by omega)) ((B5.out.trans hb7).setCell (p := ⟨R, 4, none⟩) H5.out.le (.slice A7 (c.secs.length + 1) c7)))
  have tc : (w5.alloc (.cells (secKd.row ⟨s, a⟩ (.slice A5 la c5)).toArray 65)).cell? ⟨R, 0, none⟩ = some (.iface 96 (.agg #[])) := by rw [(H5.out.blk.alloc _).cell]; rfl
  have hk7 : Blk w7 R 70 (rdV (.iface 96 (.agg #[])) q c A np cp torn) := ha7.2 R 70 _ (by decide) H5.out.blk
  have td : w7.cell? ⟨R, 0, none⟩ = some (.iface 96 (.agg #[])) := by rw [hk7.cell]; rfl
  have e7 : w7.cell? ⟨R, 4, none⟩ = some (.slice q.ps c.secs.length q.cs) := by rw [hk7.cell]; rfl
  have f7 : w7.frozen? ⟨R, 4, none⟩ = false := hk7.frozen 4
  have te : (w7.setCell ⟨R, 4, none⟩ (.slice A7 (c.secs.length + 1) c7)).cell? ⟨R, 0, none⟩ = some (.iface 96 (.agg #[])) := by rw [(hk7.set_ 4 _).cell]; rfl
  have e5 : w5.cell? ⟨R, 4, none⟩ = some (.slice q.ps c.secs.length q.cs) := by rw [H5.out.blk.cell]; rfl
  have eC : (w5.alloc (.cells (secKd.row ⟨s, a⟩ (.slice A5 la c5)).toArray 65)).cell? ⟨R, 4, none⟩ = some (.slice q.ps c.secs.length q.cs) := by rw [(H5.out.blk.alloc _).cell]; rfl
  have C5 := CV.out w5 B5.out
  change _ = Result.ok _ _ at hrun
  simp only [secKd] at hrun tc eC
  clear hb5 HF ho7 hg7 ha7 hb7 hk7 ho5
  dsimp only
  refine hK.out _ _ t5 (fun hHeld => ?_)
  clear hK K
  repeat (rw [putL]; simp only [List.set])
  refine tk 14 ?_
  repeat (rw [putL]; simp only [List.set])
  refine wpAnyH_ready (rs := [5, 15]) (by kernel_rfl) (by simp) ?_
  refine AllReadyH.cons rfl (fun K hK => ?_) (AllReadyH.cons rfl (fun K hK => ?_) (AllReadyH.nil))
  go_simp
  refine hK.out _ _ t5 (fun hHeld => ?_)
  clear hK K
  repeat (rw [putL]; simp only [List.set])
  refine wpAnyH_ready (rs := [15]) (by kernel_rfl) (by simp) ?_
  refine AllReadyH.cons rfl (fun K hK => ?_) (AllReadyH.nil)
  go_simp
  refine hK.out _ _ tc (fun hHeld => ?_)
  clear hK K
  repeat (rw [putL]; simp only [List.set])
  refine wpAnyH_ready (rs := [16]) (by kernel_rfl) (by simp) ?_
  refine AllReadyH.cons rfl (fun K hK => ?_) (AllReadyH.nil)
  refine step_append_run _ rfl _ _ _ _ rfl _ _ (by rfl) (by rfl) _ w7 hrun ?_
  refine hK.out _ _ td (fun hHeld => ?_)
  clear hK K
  repeat (rw [putL]; simp only [List.set])
  refine tk 17 ?_
  repeat (rw [putL]; simp only [List.set])
  refine tk 18 ?_
  repeat (rw [putL]; simp only [List.set])
  refine tk 19 ?_
  repeat (rw [putL]; simp only [List.set])
  refine wpAnyH_ready (rs := [20]) (by kernel_rfl) (by simp) ?_
  refine AllReadyH.cons rfl (fun K hK => ?_) (AllReadyH.nil)
  go_simp
  refine hK.out _ _ te (fun hHeld => ?_)
  clear hK K
  repeat (rw [putL]; simp only [List.set])
  refine wpAnyH_done (by kernel_rfl) ?_ _
  rotate_left 1
  go_simp
  refine hK.out _ _ tc (fun hHeld => ?_)
  clear hK K
  repeat (rw [putL]; simp only [List.set])
  refine wpAnyH_ready (rs := [5]) (by kernel_rfl) (by simp) ?_
  refine AllReadyH.cons rfl (fun K hK => ?_) (AllReadyH.nil)
  go_simp
  refine hK.out _ _ tc (fun hHeld => ?_)
  clear hK K
  repeat (rw [putL]; simp only [List.set])
  refine wpAnyH_ready (rs := [16]) (by kernel_rfl) (by simp) ?_
  refine AllReadyH.cons rfl (fun K hK => ?_) (AllReadyH.nil)
  refine step_append_run _ rfl _ _ _ _ rfl _ _ (by rfl) (by rfl) _ w7 hrun ?_
  refine hK.out _ _ td (fun hHeld => ?_)
  clear hK K
  repeat (rw [putL]; simp only [List.set])
  refine tk 17 ?_
  repeat (rw [putL]; simp only [List.set])
  refine tk 18 ?_
  repeat (rw [putL]; simp only [List.set])
  refine tk 19 ?_
  repeat (rw [putL]; simp only [List.set])
  refine wpAnyH_ready (rs := [20]) (by kernel_rfl) (by simp) ?_
  refine AllReadyH.cons rfl (fun K hK => ?_) (AllReadyH.nil)
  go_simp
  refine hK.out _ _ te (fun hHeld => ?_)
  clear hK K
  repeat (rw [putL]; simp only [List.set])
  refine wpAnyH_done (by kernel_rfl) ?_ _
  rotate_left 1
  go_simp
  go_at_call 54
  with_reducible refine CL.out.mono ?_
  rintro e w5 hcl5
  obtain ⟨A5, c5, rfl, ho5, hb5⟩ := hcl5
  have H5 := Lib.hid (HD.out.below hb5)
  have B5 := Lib.hid (BD.out.trans (hb5.mono (Nat.le_of_lt HD.out.lt)))
  rw [HLA.out] at ho5 ⊢
  have t5 := H5.out.cell0
  obtain ⟨w0, rows, HF⟩ := H5.out.cap.secs
  obtain ⟨A7, c7, w7, hrun, ho7, hg7, ha7, hb7⟩ := row_more (cs := (secKd.row ⟨s, a⟩ (.slice A5 la c5))) Try.underlying24 info65 (by rfl) (by decide) (by decide) HF.own rfl (secR.one _ _ _ _) (by omega) (Nat.le_of_lt H5.out.lt)
  have END := Lib.hid (And.intro (Rd.sec (x := ⟨s, a⟩) H5.out HF ho7 hg7 ha7 HLA.out (own_mono ho5 (Nat.le_of_lt HD.out.lt)) HLT.out (by omega) hok (by omega)) ((B5.out.trans hb7).setCell (p := ⟨R, 4, none⟩) H5.out.le (.slice A7 (c.secs.length + 1) c7)))
  have tc : (w5.alloc (.cells (secKd.row ⟨s, a⟩ (.slice A5 la c5)).toArray 65)).cell? ⟨R, 0, none⟩ = some (.iface 96 (.agg #[])) := by rw [(H5.out.blk.alloc _).cell]; rfl
  have hk7 : Blk w7 R 70 (rdV (.iface 96 (.agg #[])) q c A np cp torn) := ha7.2 R 70 _ (by decide) H5.out.blk
  have td : w7.cell? ⟨R, 0, none⟩ = some (.iface 96 (.agg #[])) := by rw [hk7.cell]; rfl
  have e7 : w7.cell? ⟨R, 4, none⟩ = some (.slice q.ps c.secs.length q.cs) := by rw [hk7.cell]; rfl
  have f7 : w7.frozen? ⟨R, 4, none⟩ = false := hk7.frozen 4
  have te : (w7.setCell ⟨R, 4, none⟩ (.slice A7 (c.secs.length + 1) c7)).cell? ⟨R, 0, none⟩ = some (.iface 96 (.agg #[])) := by rw [(hk7.set_ 4 _).cell]; rfl
  have e5 : w5.cell? ⟨R, 4, none⟩ = some (.slice q.ps c.secs.length q.cs) := by rw [H5.out.blk.cell]; rfl
  have eC : (w5.alloc (.cells (secKd.row ⟨s, a⟩ (.slice A5 la c5)).toArray 65)).cell? ⟨R, 4, none⟩ = some (.slice q.ps c.secs.length q.cs) := by rw [(H5.out.blk.alloc _).cell]; rfl
  have C5 := CV.out w5 B5.out
  change _ = Result.ok _ _ at hrun
  simp only [secKd] at hrun tc eC
  clear hb5 HF ho7 hg7 ha7 hb7 hk7 ho5
  dsimp only
  refine hK.out _ _ t5 (fun hHeld => ?_)
  clear hK K
  repeat (rw [putL]; simp only [List.set])
  refine wpAnyH_ready (rs := [5, 9]) (by kernel_rfl) (by simp) ?_
  refine AllReadyH.cons rfl (fun K hK => ?_) (AllReadyH.cons rfl (fun K hK => ?_) (AllReadyH.nil))
  go_simp
  refine hK.out _ _ t5 (fun hHeld => ?_)
  clear hK K
  repeat (rw [putL]; simp only [List.set])
  refine wpAnyH_ready (rs := [9]) (by kernel_rfl) (by simp) ?_
  refine AllReadyH.cons rfl (fun K hK => ?_) (AllReadyH.nil)
  go_simp
  refine hK.out _ _ t5 (fun hHeld => ?_)
  clear hK K
  repeat (rw [putL]; simp only [List.set])
  refine tk 14 ?_
  repeat (rw [putL]; simp only [List.set])
  refine wpAnyH_ready (rs := [15]) (by kernel_rfl) (by simp) ?_
  refine AllReadyH.cons rfl (fun K hK => ?_) (AllReadyH.nil)
  go_simp
  refine hK.out _ _ tc (fun hHeld => ?_)
  clear hK K
  repeat (rw [putL]; simp only [List.set])
  refine wpAnyH_ready (rs := [16]) (by kernel_rfl) (by simp) ?_
  refine AllReadyH.cons rfl (fun K hK => ?_) (AllReadyH.nil)
  refine step_append_run _ rfl _ _ _ _ rfl _ _ (by rfl) (by rfl) _ w7 hrun ?_
  refine hK.out _ _ td (fun hHeld => ?_)
  clear hK K
  repeat (rw [putL]; simp only [List.set])
  refine tk 17 ?_
  repeat (rw [putL]; simp only [List.set])
  refine tk 18 ?_
  repeat (rw [putL]; simp only [List.set])
  refine tk 19 ?_
  repeat (rw [putL]; simp only [List.set])
  refine wpAnyH_ready (rs := [20]) (by kernel_rfl) (by simp) ?_
  refine AllReadyH.cons rfl (fun K hK => ?_) (AllReadyH.nil)
  go_simp
  refine hK.out _ _ te (fun hHeld => ?_)
  clear hK K
  repeat (rw [putL]; simp only [List.set])
  refine wpAnyH_done (by kernel_rfl) ?_ _
  rotate_left 1
  go_simp
  refine hK.out _ _ t5 (fun hHeld => ?_)
  clear hK K
  repeat (rw [putL]; simp only [List.set])
  refine tk 14 ?_
  repeat (rw [putL]; simp only [List.set])
  refine wpAnyH_ready (rs := [5, 15]) (by kernel_rfl) (by simp) ?_
  refine AllReadyH.cons rfl (fun K hK => ?_) (AllReadyH.cons rfl (fun K hK => ?_) (AllReadyH.nil))
  go_simp
  refine hK.out _ _ t5 (fun hHeld => ?_)
  clear hK K
  repeat (rw [putL]; simp only [List.set])
  refine wpAnyH_ready (rs := [15]) (by kernel_rfl) (by simp) ?_
  refine AllReadyH.cons rfl (fun K hK => ?_) (AllReadyH.nil)
  go_simp
  refine hK.out _ _ tc (fun hHeld => ?_)
  clear hK K
  repeat (rw [putL]; simp only [List.set])
  refine wpAnyH_ready (rs := [16]) (by kernel_rfl) (by simp) ?_
  refine AllReadyH.cons rfl (fun K hK => ?_) (AllReadyH.nil)
  refine step_append_run _ rfl _ _ _ _ rfl _ _ (by rfl) (by rfl) _ w7 hrun ?_
  refine hK.out _ _ td (fun hHeld => ?_)
  clear hK K
  repeat (rw [putL]; simp only [List.set])
  refine tk 17 ?_
  repeat (rw [putL]; simp only [List.set])
  refine tk 18 ?_
  repeat (rw [putL]; simp only [List.set])
  refine tk 19 ?_
  repeat (rw [putL]; simp only [List.set])
  refine wpAnyH_ready (rs := [20]) (by kernel_rfl) (by simp) ?_
  refine AllReadyH.cons rfl (fun K hK => ?_) (AllReadyH.nil)
  go_simp
  refine hK.out _ _ te (fun hHeld => ?_)
  clear hK K
  repeat (rw [putL]; simp only [List.set])
  refine wpAnyH_done (by kernel_rfl) ?_ _
  rotate_left 1
  go_simp
  refine hK.out _ _ tc (fun hHeld => ?_)
  clear hK K
  repeat (rw [putL]; simp only [List.set])
  refine wpAnyH_ready (rs := [5]) (by kernel_rfl) (by simp) ?_
  refine AllReadyH.cons rfl (fun K hK => ?_) (AllReadyH.nil)
  go_simp
  refine hK.out _ _ tc (fun hHeld => ?_)
  clear hK K
  repeat (rw [putL]; simp only [List.set])
  refine wpAnyH_ready (rs := [16]) (by kernel_rfl) (by simp) ?_
  refine AllReadyH.cons rfl (fun K hK => ?_) (AllReadyH.nil)
  refine step_append_run _ rfl _ _ _ _ rfl _ _ (by rfl) (by rfl) _ w7 hrun ?_
  refine hK.out _ _ td (fun hHeld => ?_)
  clear hK K
  repeat (rw [putL]; simp only [List.set])
  refine tk 17 ?_
  repeat (rw [putL]; simp only [List.set])
  refine tk 18 ?_
  repeat (rw [putL]; simp only [List.set])
  refine tk 19 ?_
  repeat (rw [putL]; simp only [List.set])
  refine wpAnyH_ready (rs := [20]) (by kernel_rfl) (by simp) ?_
  refine AllReadyH.cons rfl (fun K hK => ?_) (AllReadyH.nil)
  go_simp
  refine hK.out _ _ te (fun hHeld => ?_)
  clear hK K
  repeat (rw [putL]; simp only [List.set])
  refine wpAnyH_done (by kernel_rfl) ?_ _
  all_goals
    go_wp2_with fail
    go_ret
    exact ⟨rfl, ⟨_, END.out.1⟩, END.out.2⟩

set_option maxRecDepth 100000 in
set_option maxHeartbeats 8000000 in
theorem sec_false {w : World} {R b np torn cp b0 o L cc : Nat} {q : Pl} {c : Cap} {A : Option Addr} {xs : List Value} {s : ByteArray} {a : List Nat} (h : Rd w R b (.iface 97 (.agg #[])) q A cp xs c np torn)
    (hp : Pc w b0 o (pairB false (strL s) a ++ padB (pairB false (strL s) a).length)) (hL : (pairB false (strL s) a ++ padB (pairB false (strL s) a).length).length = L) (hc : L < cc) (hb : b0 < b) (hs : s.size ≤ 200) (ha : a.length ≤ 200) (hn : c.secs.length < 1000) :
    Calls Try.prog 83 #[.pointer (some ⟨R, 0, none⟩), .slice (some ⟨b0, o, none⟩) L cc, .bool false] w fun e w' => e = .returned (.bool true) ∧ (∃ q', Rd w' R b (.iface 97 (.agg #[])) q' A cp xs ⟨c.note, c.faces, c.names, c.secs ++ [⟨s, a⟩], c.pkts⟩ np torn) ∧ Below b w w' := by
  obtain ⟨la, hla⟩ : ∃ la, a.length = la := ⟨_, rfl⟩
  obtain ⟨lt, hlt⟩ : ∃ lt, (strL s).length = lt := ⟨_, rfl⟩
  have hlts : lt ≤ 200 := by rw [← hlt, strL_len]; exact hs
  have hl2 : (numsB false 2 [lt, la]).length = 4 := by rw [numsB_len]; rfl
  have hpl : (pairB false (strL s) a).length = 4 + (la + lt) := by
    unfold pairB
    rw [hla, hlt, List.length_append, List.length_append, hla, hlt, hl2]
    try omega
  have hpn : padN (4 + (la + lt)) = padN (la + lt) := by unfold padN; omega
  rw [List.length_append, padB_len, hpl, hpn] at hL
  rw [hpl] at hp
  unfold padB at hp
  rw [hpn] at hp
  have hbw : b0 < w.heap.size := by have := h.lt; omega
  have hp1 := hp.left
  unfold pairB at hp1
  rw [hla, hlt] at hp1
  have hpr := hp.right
  rw [hpl] at hpr
  have hq := hp1.left
  rw [numsB_cons, numsB_one] at hq
  have P1 : Hid (Pc w b0 o (numB false 2 lt)) := Lib.hid hq.left
  have P2 : Hid (Pc w b0 (o + 2) (numB false 2 la)) := Lib.hid (hq.right.at_ (by rw [numB_len2]))
  have hr := hp1.right
  rw [hl2] at hr
  have PA : Hid (Pc w b0 (o + 4 + lt) a) := Lib.hid (hr.right.at_ (by rw [hlt]))
  have PT : Hid (Pc w b0 (o + 4) (strL s)) := Lib.hid hr.left
  have PZ : Hid (Pc w b0 (o + 4 + (la + lt)) (List.replicate (padN (la + lt)) 0)) := Lib.hid (hpr.at_ (by omega))
  have hpd := padN_le (la + lt)
  have HLA := Lib.hid hla
  have HLT := Lib.hid PA.out.lt
  have hok : secKd.ok ⟨s, a⟩ := by show s.size ≤ 140737488355328; omega
  have H := Lib.hid h
  have q0 := h.cell0
  have q1 : w.drew.cell? ⟨R, 0, none⟩ = some (.iface 97 (.agg #[])) := q0
  have G1 := Lib.hid (get_false (w := w.drew) (c := cc) (P1.out.below (Below.refl _ w).drew hbw) (by decide) hbw (by omega))
  have FI := Lib.hid (fun (w' : World) (hw : Below b w w') => filled_any (w := w') (b := b0) (o := o + 4) (L := L - 4) (c := cc - 4) (n := la + lt) (by omega) (by omega) (by omega) (fun i hi => by
    have h := (PZ.out.below hw hb).cells i (by simpa using hi)
    rw [h]
    simp [at8, hi]))
  have CV := Lib.hid (fun (w' : World) (hw' : Below b w w') => conv_any (B := w'.heap.size) ((PT.out.below hw' hb).byt (Nat.lt_of_lt_of_le hbw (by have := hw'.size; omega))) (cc - 4))
  rw [hlt, strB_strL] at CV
  have CL0 := Lib.hid (fun (w' : World) (hw' : Below b w w') (k : b < w'.heap.size) => bclone_any ((PA.out.below hw' hb).byc (Nat.lt_trans hb k) (c := (cc - 4 - lt)) (by omega) (by omega)))
  rw [hla] at CL0
  obtain ⟨n, hnn⟩ : ∃ n, la + lt = n := ⟨_, rfl⟩
  rw [hnn] at FI PZ hpd
  have hfs : ((lt : Nat) : Int) + ((la : Nat) : Int) = (n : Int) := by omega
  have hk0 : decide ((L : Int) < 4) = false := by simp; omega
  have hk1 : (4 : Int) ≤ (L : Int) := by omega
  have hk2 : (4 : Int) ≤ (cc : Int) := by omega
  have hk3 : ¬ cc = 4 := by omega
  have hk4 : ¬ cc = 2 := by omega
  have hk5 : (2 : Int) ≤ (cc : Int) := by omega
  have hz : L - 4 - (n + padN n) = 0 := by rw [← hnn]; omega
  rw [hz] at FI
  have HNN := Lib.hid hnn
  have HLL : Hid (4 + n ≤ L) := Lib.hid (by omega)
  have nah : ∀ (w : World), (nilAhead 246 97 (.agg #[]) "wireglass/capt.get").run Try.prog w = .ok (some false) w := fun w => by kernel_rfl
  have mth : ∀ (w : World), (method 246 97 (.agg #[]) "wireglass/capt.get").run Try.prog w = .ok (116, .agg #[]) w := fun w => by kernel_rfl
  clear hnn h hp hp1 hpr hq hr hL hl2 hpl hpn hz
  go_enter Try.func83, Try.ntmps83
  go_wp2_with fail
  refine wp_region_held_drew (S := fun w' => w'.cell? ⟨R, 0, none⟩ = some (.iface 97 (.agg #[]))) (by kernel_rfl) q1 (fun hHeld => ?_)
  refine tk 0 ?_
  repeat (rw [putL]; simp only [List.set])
  refine tk 1 ?_
  repeat (rw [putL]; simp only [List.set])
  refine tk 2 ?_
  repeat (rw [putL]; simp only [List.set])
  refine tk 3 ?_
  repeat (rw [putL]; simp only [List.set])
  refine tk 4 ?_
  repeat (rw [putL]; simp only [List.set])
  refine tk 5 ?_
  repeat (rw [putL]; simp only [List.set])
  refine tk 6 ?_
  repeat (rw [putL]; simp only [List.set])
  refine tk 7 ?_
  repeat (rw [putL]; simp only [List.set])
  refine tk 9 ?_
  repeat (rw [putL]; simp only [List.set])
  refine tk 10 ?_
  repeat (rw [putL]; simp only [List.set])
  refine tk 11 ?_
  repeat (rw [putL]; simp only [List.set])
  refine tk 12 ?_
  repeat (rw [putL]; simp only [List.set])
  refine tk 13 ?_
  repeat (rw [putL]; simp only [List.set])
  refine tk 14 ?_
  repeat (rw [putL]; simp only [List.set])
  refine tk 15 ?_
  repeat (rw [putL]; simp only [List.set])
  refine tk 16 ?_
  repeat (rw [putL]; simp only [List.set])
  refine wpAnyH_ready (rs := [8]) (by kernel_rfl) (by simp) ?_
  refine AllReadyH.cons rfl (fun K hK => ?_) (AllReadyH.nil)
  go_simp
  go_at_call 116
  with_reducible refine G1.out.mono ?_
  rintro e w1 ⟨rfl, hb1⟩
  have H1 := Lib.hid (H.out.drew.below hb1)
  have B1 : Hid (Below b w w1) := Lib.hid ((Below.refl _ w).drew.trans (hb1.mono (Nat.le_of_lt H.out.lt)))
  have t1 := H1.out.cell0
  clear hb1
  have G2 := Lib.hid (get_false (c := cc - 2) (P2.out.below B1.out hb) (by decide) (Nat.lt_trans hb H1.out.lt) (by omega))
  dsimp only
  refine hK.out _ _ t1 (fun hHeld => ?_)
  clear hK K
  repeat (rw [putL]; simp only [List.set])
  refine wpAnyH_ready (rs := [17]) (by kernel_rfl) (by simp) ?_
  refine AllReadyH.cons rfl (fun K hK => ?_) (AllReadyH.nil)
  go_simp
  go_at_call 116
  with_reducible refine G2.out.mono ?_
  rintro e w2 ⟨rfl, hb2⟩
  have H2 := Lib.hid (H1.out.below hb2)
  have B2 : Hid (Below b w w2) := Lib.hid (B1.out.trans (hb2.mono (Nat.le_of_lt H1.out.lt)))
  have t2 := H2.out.cell0
  clear hb2
  dsimp only
  refine hK.out _ _ t2 (fun hHeld => ?_)
  clear hK K
  repeat (rw [putL]; simp only [List.set])
  refine tk 18 ?_
  repeat (rw [putL]; simp only [List.set])
  refine tk 19 ?_
  repeat (rw [putL]; simp only [List.set])
  refine wpAnyH_done (by kernel_rfl) ?_ _
  have FJ := Lib.hid (FI.out w2 B2.out)
  clear FI q0 q1
  go_wp2_with fail
  refine FJ.out.mono ?_
  rintro e w3 ⟨rfl, hb3⟩
  have HD := Lib.hid (H2.out.below hb3).drew
  have BD : Hid (Below b w w3.drew) := Lib.hid ((B2.out.trans (hb3.mono (Nat.le_of_lt H2.out.lt))).drew)
  have td0 : w3.drew.cell? ⟨R, 0, none⟩ = some (.iface 97 (.agg #[])) := HD.out.cell0
  have e0 : w3.drew.cell? ⟨R, 4, none⟩ = some (.slice q.ps c.secs.length q.cs) := by rw [HD.out.blk.cell]; rfl
  have CL := Lib.hid (CL0.out w3.drew BD.out HD.out.lt)
  have C0 := CV.out w3.drew BD.out
  have hi1 : (lt : Int) ≤ (n : Int) := by have := HNN.out; omega
  have hi2 : (lt : Int) ≤ ((cc - 4 : Nat) : Int) := by have := HNN.out; have := HLL.out; omega
  have hi3 : ¬ cc - 4 = lt := by have := HNN.out; have := HLL.out; omega
  have hi4 : n - lt = la := by have := HNN.out; omega
  clear FJ hb3 CL0
  go_wp2_with fail
  refine wp_region_held_drew (S := fun w' => w'.cell? ⟨R, 0, none⟩ = some (.iface 97 (.agg #[]))) (by kernel_rfl) td0 (fun hHeld => ?_)
  refine tk 0 ?_
  repeat (rw [putL]; simp only [List.set])
  refine tk 1 ?_
  repeat (rw [putL]; simp only [List.set])
  refine tk 2 ?_
  repeat (rw [putL]; simp only [List.set])
  refine tk 3 ?_
  repeat (rw [putL]; simp only [List.set])
  refine tk 4 ?_
  repeat (rw [putL]; simp only [List.set])
  refine tk 6 ?_
  repeat (rw [putL]; simp only [List.set])
  refine tk 7 ?_
  repeat (rw [putL]; simp only [List.set])
  refine tk 8 ?_
  repeat (rw [putL]; simp only [List.set])
  refine tk 10 ?_
  repeat (rw [putL]; simp only [List.set])
  refine tk 11 ?_
  repeat (rw [putL]; simp only [List.set])
  refine tk 12 ?_
  repeat (rw [putL]; simp only [List.set])
  refine wpAnyH_ready (rs := [5, 9, 13]) (by kernel_rfl) (by simp) ?_
  refine AllReadyH.cons rfl (fun K hK => ?_) (AllReadyH.cons rfl (fun K hK => ?_) (AllReadyH.cons rfl (fun K hK => ?_) (AllReadyH.nil)))
  go_simp
  refine hK.out _ _ td0 (fun hHeld => ?_)
  clear hK K
  repeat (rw [putL]; simp only [List.set])
  refine wpAnyH_ready (rs := [9, 13]) (by kernel_rfl) (by simp) ?_
  refine AllReadyH.cons rfl (fun K hK => ?_) (AllReadyH.cons rfl (fun K hK => ?_) (AllReadyH.nil))
  go_simp
  refine hK.out _ _ td0 (fun hHeld => ?_)
  clear hK K
  repeat (rw [putL]; simp only [List.set])
  refine wpAnyH_ready (rs := [13]) (by kernel_rfl) (by simp) ?_
  refine AllReadyH.cons rfl (fun K hK => ?_) (AllReadyH.nil)
  go_simp
  go_at_call 54
  with_reducible refine CL.out.mono ?_
  rintro e w5 hcl5
  obtain ⟨A5, c5, rfl, ho5, hb5⟩ := hcl5
  have H5 := Lib.hid (HD.out.below hb5)
  have B5 := Lib.hid (BD.out.trans (hb5.mono (Nat.le_of_lt HD.out.lt)))
  rw [HLA.out] at ho5 ⊢
  have t5 := H5.out.cell0
  obtain ⟨w0, rows, HF⟩ := H5.out.cap.secs
  obtain ⟨A7, c7, w7, hrun, ho7, hg7, ha7, hb7⟩ := row_more (cs := (secKd.row ⟨s, a⟩ (.slice A5 la c5))) Try.underlying24 info65 (by rfl) (by decide) (by decide) HF.own rfl (secR.one _ _ _ _) (by omega) (Nat.le_of_lt H5.out.lt)
  have END := Lib.hid (And.intro (Rd.sec (x := ⟨s, a⟩) H5.out HF ho7 hg7 ha7 HLA.out (own_mono ho5 (Nat.le_of_lt HD.out.lt)) HLT.out (by omega) hok (by omega)) ((B5.out.trans hb7).setCell (p := ⟨R, 4, none⟩) H5.out.le (.slice A7 (c.secs.length + 1) c7)))
  have tc : (w5.alloc (.cells (secKd.row ⟨s, a⟩ (.slice A5 la c5)).toArray 65)).cell? ⟨R, 0, none⟩ = some (.iface 97 (.agg #[])) := by rw [(H5.out.blk.alloc _).cell]; rfl
  have hk7 : Blk w7 R 70 (rdV (.iface 97 (.agg #[])) q c A np cp torn) := ha7.2 R 70 _ (by decide) H5.out.blk
  have td : w7.cell? ⟨R, 0, none⟩ = some (.iface 97 (.agg #[])) := by rw [hk7.cell]; rfl
  have e7 : w7.cell? ⟨R, 4, none⟩ = some (.slice q.ps c.secs.length q.cs) := by rw [hk7.cell]; rfl
  have f7 : w7.frozen? ⟨R, 4, none⟩ = false := hk7.frozen 4
  have te : (w7.setCell ⟨R, 4, none⟩ (.slice A7 (c.secs.length + 1) c7)).cell? ⟨R, 0, none⟩ = some (.iface 97 (.agg #[])) := by rw [(hk7.set_ 4 _).cell]; rfl
  have e5 : w5.cell? ⟨R, 4, none⟩ = some (.slice q.ps c.secs.length q.cs) := by rw [H5.out.blk.cell]; rfl
  have eC : (w5.alloc (.cells (secKd.row ⟨s, a⟩ (.slice A5 la c5)).toArray 65)).cell? ⟨R, 4, none⟩ = some (.slice q.ps c.secs.length q.cs) := by rw [(H5.out.blk.alloc _).cell]; rfl
  have C5 := CV.out w5 B5.out
  change _ = Result.ok _ _ at hrun
  simp only [secKd] at hrun tc eC
  clear hb5 HF ho7 hg7 ha7 hb7 hk7 ho5
  dsimp only
  refine hK.out _ _ t5 (fun hHeld => ?_)
  clear hK K
  repeat (rw [putL]; simp only [List.set])
  refine tk 14 ?_
  repeat (rw [putL]; simp only [List.set])
  refine wpAnyH_ready (rs := [15]) (by kernel_rfl) (by simp) ?_
  refine AllReadyH.cons rfl (fun K hK => ?_) (AllReadyH.nil)
  go_simp
  refine hK.out _ _ tc (fun hHeld => ?_)
  clear hK K
  repeat (rw [putL]; simp only [List.set])
  refine wpAnyH_ready (rs := [16]) (by kernel_rfl) (by simp) ?_
  refine AllReadyH.cons rfl (fun K hK => ?_) (AllReadyH.nil)
  refine step_append_run _ rfl _ _ _ _ rfl _ _ (by rfl) (by rfl) _ w7 hrun ?_
  refine hK.out _ _ td (fun hHeld => ?_)
  clear hK K
  repeat (rw [putL]; simp only [List.set])
  refine tk 17 ?_
  repeat (rw [putL]; simp only [List.set])
  refine tk 18 ?_
  repeat (rw [putL]; simp only [List.set])
  refine tk 19 ?_
  repeat (rw [putL]; simp only [List.set])
  refine wpAnyH_ready (rs := [20]) (by kernel_rfl) (by simp) ?_
  refine AllReadyH.cons rfl (fun K hK => ?_) (AllReadyH.nil)
  go_simp
  refine hK.out _ _ te (fun hHeld => ?_)
  clear hK K
  repeat (rw [putL]; simp only [List.set])
  refine wpAnyH_done (by kernel_rfl) ?_ _
  rotate_left 1
  go_simp
  go_at_call 54
  with_reducible refine CL.out.mono ?_
  rintro e w5 hcl5
  obtain ⟨A5, c5, rfl, ho5, hb5⟩ := hcl5
  have H5 := Lib.hid (HD.out.below hb5)
  have B5 := Lib.hid (BD.out.trans (hb5.mono (Nat.le_of_lt HD.out.lt)))
  rw [HLA.out] at ho5 ⊢
  have t5 := H5.out.cell0
  obtain ⟨w0, rows, HF⟩ := H5.out.cap.secs
  obtain ⟨A7, c7, w7, hrun, ho7, hg7, ha7, hb7⟩ := row_more (cs := (secKd.row ⟨s, a⟩ (.slice A5 la c5))) Try.underlying24 info65 (by rfl) (by decide) (by decide) HF.own rfl (secR.one _ _ _ _) (by omega) (Nat.le_of_lt H5.out.lt)
  have END := Lib.hid (And.intro (Rd.sec (x := ⟨s, a⟩) H5.out HF ho7 hg7 ha7 HLA.out (own_mono ho5 (Nat.le_of_lt HD.out.lt)) HLT.out (by omega) hok (by omega)) ((B5.out.trans hb7).setCell (p := ⟨R, 4, none⟩) H5.out.le (.slice A7 (c.secs.length + 1) c7)))
  have tc : (w5.alloc (.cells (secKd.row ⟨s, a⟩ (.slice A5 la c5)).toArray 65)).cell? ⟨R, 0, none⟩ = some (.iface 97 (.agg #[])) := by rw [(H5.out.blk.alloc _).cell]; rfl
  have hk7 : Blk w7 R 70 (rdV (.iface 97 (.agg #[])) q c A np cp torn) := ha7.2 R 70 _ (by decide) H5.out.blk
  have td : w7.cell? ⟨R, 0, none⟩ = some (.iface 97 (.agg #[])) := by rw [hk7.cell]; rfl
  have e7 : w7.cell? ⟨R, 4, none⟩ = some (.slice q.ps c.secs.length q.cs) := by rw [hk7.cell]; rfl
  have f7 : w7.frozen? ⟨R, 4, none⟩ = false := hk7.frozen 4
  have te : (w7.setCell ⟨R, 4, none⟩ (.slice A7 (c.secs.length + 1) c7)).cell? ⟨R, 0, none⟩ = some (.iface 97 (.agg #[])) := by rw [(hk7.set_ 4 _).cell]; rfl
  have e5 : w5.cell? ⟨R, 4, none⟩ = some (.slice q.ps c.secs.length q.cs) := by rw [H5.out.blk.cell]; rfl
  have eC : (w5.alloc (.cells (secKd.row ⟨s, a⟩ (.slice A5 la c5)).toArray 65)).cell? ⟨R, 4, none⟩ = some (.slice q.ps c.secs.length q.cs) := by rw [(H5.out.blk.alloc _).cell]; rfl
  have C5 := CV.out w5 B5.out
  change _ = Result.ok _ _ at hrun
  simp only [secKd] at hrun tc eC
  clear hb5 HF ho7 hg7 ha7 hb7 hk7 ho5
  dsimp only
  refine hK.out _ _ t5 (fun hHeld => ?_)
  clear hK K
  repeat (rw [putL]; simp only [List.set])
  refine wpAnyH_ready (rs := [9]) (by kernel_rfl) (by simp) ?_
  refine AllReadyH.cons rfl (fun K hK => ?_) (AllReadyH.nil)
  go_simp
  refine hK.out _ _ t5 (fun hHeld => ?_)
  clear hK K
  repeat (rw [putL]; simp only [List.set])
  refine tk 14 ?_
  repeat (rw [putL]; simp only [List.set])
  refine wpAnyH_ready (rs := [15]) (by kernel_rfl) (by simp) ?_
  refine AllReadyH.cons rfl (fun K hK => ?_) (AllReadyH.nil)
  go_simp
  refine hK.out _ _ tc (fun hHeld => ?_)
  clear hK K
  repeat (rw [putL]; simp only [List.set])
  refine wpAnyH_ready (rs := [16]) (by kernel_rfl) (by simp) ?_
  refine AllReadyH.cons rfl (fun K hK => ?_) (AllReadyH.nil)
  refine step_append_run _ rfl _ _ _ _ rfl _ _ (by rfl) (by rfl) _ w7 hrun ?_
  refine hK.out _ _ td (fun hHeld => ?_)
  clear hK K
  repeat (rw [putL]; simp only [List.set])
  refine tk 17 ?_
  repeat (rw [putL]; simp only [List.set])
  refine tk 18 ?_
  repeat (rw [putL]; simp only [List.set])
  refine tk 19 ?_
  repeat (rw [putL]; simp only [List.set])
  refine wpAnyH_ready (rs := [20]) (by kernel_rfl) (by simp) ?_
  refine AllReadyH.cons rfl (fun K hK => ?_) (AllReadyH.nil)
  go_simp
  refine hK.out _ _ te (fun hHeld => ?_)
  clear hK K
  repeat (rw [putL]; simp only [List.set])
  refine wpAnyH_done (by kernel_rfl) ?_ _
  rotate_left 1
  go_simp
  refine hK.out _ _ td0 (fun hHeld => ?_)
  clear hK K
  repeat (rw [putL]; simp only [List.set])
  refine wpAnyH_ready (rs := [5, 13]) (by kernel_rfl) (by simp) ?_
  refine AllReadyH.cons rfl (fun K hK => ?_) (AllReadyH.cons rfl (fun K hK => ?_) (AllReadyH.nil))
  go_simp
  refine hK.out _ _ td0 (fun hHeld => ?_)
  clear hK K
  repeat (rw [putL]; simp only [List.set])
  refine wpAnyH_ready (rs := [13]) (by kernel_rfl) (by simp) ?_
  refine AllReadyH.cons rfl (fun K hK => ?_) (AllReadyH.nil)
  go_simp
  go_at_call 54
  with_reducible refine CL.out.mono ?_
  rintro e w5 hcl5
  obtain ⟨A5, c5, rfl, ho5, hb5⟩ := hcl5
  have H5 := Lib.hid (HD.out.below hb5)
  have B5 := Lib.hid (BD.out.trans (hb5.mono (Nat.le_of_lt HD.out.lt)))
  rw [HLA.out] at ho5 ⊢
  have t5 := H5.out.cell0
  obtain ⟨w0, rows, HF⟩ := H5.out.cap.secs
  obtain ⟨A7, c7, w7, hrun, ho7, hg7, ha7, hb7⟩ := row_more (cs := (secKd.row ⟨s, a⟩ (.slice A5 la c5))) Try.underlying24 info65 (by rfl) (by decide) (by decide) HF.own rfl (secR.one _ _ _ _) (by omega) (Nat.le_of_lt H5.out.lt)
  have END := Lib.hid (And.intro (Rd.sec (x := ⟨s, a⟩) H5.out HF ho7 hg7 ha7 HLA.out (own_mono ho5 (Nat.le_of_lt HD.out.lt)) HLT.out (by omega) hok (by omega)) ((B5.out.trans hb7).setCell (p := ⟨R, 4, none⟩) H5.out.le (.slice A7 (c.secs.length + 1) c7)))
  have tc : (w5.alloc (.cells (secKd.row ⟨s, a⟩ (.slice A5 la c5)).toArray 65)).cell? ⟨R, 0, none⟩ = some (.iface 97 (.agg #[])) := by rw [(H5.out.blk.alloc _).cell]; rfl
  have hk7 : Blk w7 R 70 (rdV (.iface 97 (.agg #[])) q c A np cp torn) := ha7.2 R 70 _ (by decide) H5.out.blk
  have td : w7.cell? ⟨R, 0, none⟩ = some (.iface 97 (.agg #[])) := by rw [hk7.cell]; rfl
  have e7 : w7.cell? ⟨R, 4, none⟩ = some (.slice q.ps c.secs.length q.cs) := by rw [hk7.cell]; rfl
  have f7 : w7.frozen? ⟨R, 4, none⟩ = false := hk7.frozen 4
  have te : (w7.setCell ⟨R, 4, none⟩ (.slice A7 (c.secs.length + 1) c7)).cell? ⟨R, 0, none⟩ = some (.iface 97 (.agg #[])) := by rw [(hk7.set_ 4 _).cell]; rfl
  have e5 : w5.cell? ⟨R, 4, none⟩ = some (.slice q.ps c.secs.length q.cs) := by rw [H5.out.blk.cell]; rfl
  have eC : (w5.alloc (.cells (secKd.row ⟨s, a⟩ (.slice A5 la c5)).toArray 65)).cell? ⟨R, 4, none⟩ = some (.slice q.ps c.secs.length q.cs) := by rw [(H5.out.blk.alloc _).cell]; rfl
  have C5 := CV.out w5 B5.out
  change _ = Result.ok _ _ at hrun
  simp only [secKd] at hrun tc eC
  clear hb5 HF ho7 hg7 ha7 hb7 hk7 ho5
  dsimp only
  refine hK.out _ _ t5 (fun hHeld => ?_)
  clear hK K
  repeat (rw [putL]; simp only [List.set])
  refine tk 14 ?_
  repeat (rw [putL]; simp only [List.set])
  refine wpAnyH_ready (rs := [15]) (by kernel_rfl) (by simp) ?_
  refine AllReadyH.cons rfl (fun K hK => ?_) (AllReadyH.nil)
  go_simp
  refine hK.out _ _ tc (fun hHeld => ?_)
  clear hK K
  repeat (rw [putL]; simp only [List.set])
  refine wpAnyH_ready (rs := [16]) (by kernel_rfl) (by simp) ?_
  refine AllReadyH.cons rfl (fun K hK => ?_) (AllReadyH.nil)
  refine step_append_run _ rfl _ _ _ _ rfl _ _ (by rfl) (by rfl) _ w7 hrun ?_
  refine hK.out _ _ td (fun hHeld => ?_)
  clear hK K
  repeat (rw [putL]; simp only [List.set])
  refine tk 17 ?_
  repeat (rw [putL]; simp only [List.set])
  refine tk 18 ?_
  repeat (rw [putL]; simp only [List.set])
  refine tk 19 ?_
  repeat (rw [putL]; simp only [List.set])
  refine wpAnyH_ready (rs := [20]) (by kernel_rfl) (by simp) ?_
  refine AllReadyH.cons rfl (fun K hK => ?_) (AllReadyH.nil)
  go_simp
  refine hK.out _ _ te (fun hHeld => ?_)
  clear hK K
  repeat (rw [putL]; simp only [List.set])
  refine wpAnyH_done (by kernel_rfl) ?_ _
  rotate_left 1
  go_simp
  go_at_call 54
  with_reducible refine CL.out.mono ?_
  rintro e w5 hcl5
  obtain ⟨A5, c5, rfl, ho5, hb5⟩ := hcl5
  have H5 := Lib.hid (HD.out.below hb5)
  have B5 := Lib.hid (BD.out.trans (hb5.mono (Nat.le_of_lt HD.out.lt)))
  rw [HLA.out] at ho5 ⊢
  have t5 := H5.out.cell0
  obtain ⟨w0, rows, HF⟩ := H5.out.cap.secs
  obtain ⟨A7, c7, w7, hrun, ho7, hg7, ha7, hb7⟩ := row_more (cs := (secKd.row ⟨s, a⟩ (.slice A5 la c5))) Try.underlying24 info65 (by rfl) (by decide) (by decide) HF.own rfl (secR.one _ _ _ _) (by omega) (Nat.le_of_lt H5.out.lt)
  have END := Lib.hid (And.intro (Rd.sec (x := ⟨s, a⟩) H5.out HF ho7 hg7 ha7 HLA.out (own_mono ho5 (Nat.le_of_lt HD.out.lt)) HLT.out (by omega) hok (by omega)) ((B5.out.trans hb7).setCell (p := ⟨R, 4, none⟩) H5.out.le (.slice A7 (c.secs.length + 1) c7)))
  have tc : (w5.alloc (.cells (secKd.row ⟨s, a⟩ (.slice A5 la c5)).toArray 65)).cell? ⟨R, 0, none⟩ = some (.iface 97 (.agg #[])) := by rw [(H5.out.blk.alloc _).cell]; rfl
  have hk7 : Blk w7 R 70 (rdV (.iface 97 (.agg #[])) q c A np cp torn) := ha7.2 R 70 _ (by decide) H5.out.blk
  have td : w7.cell? ⟨R, 0, none⟩ = some (.iface 97 (.agg #[])) := by rw [hk7.cell]; rfl
  have e7 : w7.cell? ⟨R, 4, none⟩ = some (.slice q.ps c.secs.length q.cs) := by rw [hk7.cell]; rfl
  have f7 : w7.frozen? ⟨R, 4, none⟩ = false := hk7.frozen 4
  have te : (w7.setCell ⟨R, 4, none⟩ (.slice A7 (c.secs.length + 1) c7)).cell? ⟨R, 0, none⟩ = some (.iface 97 (.agg #[])) := by rw [(hk7.set_ 4 _).cell]; rfl
  have e5 : w5.cell? ⟨R, 4, none⟩ = some (.slice q.ps c.secs.length q.cs) := by rw [H5.out.blk.cell]; rfl
  have eC : (w5.alloc (.cells (secKd.row ⟨s, a⟩ (.slice A5 la c5)).toArray 65)).cell? ⟨R, 4, none⟩ = some (.slice q.ps c.secs.length q.cs) := by rw [(H5.out.blk.alloc _).cell]; rfl
  have C5 := CV.out w5 B5.out
  change _ = Result.ok _ _ at hrun
  simp only [secKd] at hrun tc eC
  clear hb5 HF ho7 hg7 ha7 hb7 hk7 ho5
  dsimp only
  refine hK.out _ _ t5 (fun hHeld => ?_)
  clear hK K
  repeat (rw [putL]; simp only [List.set])
  refine tk 14 ?_
  repeat (rw [putL]; simp only [List.set])
  refine wpAnyH_ready (rs := [5, 15]) (by kernel_rfl) (by simp) ?_
  refine AllReadyH.cons rfl (fun K hK => ?_) (AllReadyH.cons rfl (fun K hK => ?_) (AllReadyH.nil))
  go_simp
  refine hK.out _ _ t5 (fun hHeld => ?_)
  clear hK K
  repeat (rw [putL]; simp only [List.set])
  refine wpAnyH_ready (rs := [15]) (by kernel_rfl) (by simp) ?_
  refine AllReadyH.cons rfl (fun K hK => ?_) (AllReadyH.nil)
  go_simp
  refine hK.out _ _ tc (fun hHeld => ?_)
  clear hK K
  repeat (rw [putL]; simp only [List.set])
  refine wpAnyH_ready (rs := [16]) (by kernel_rfl) (by simp) ?_
  refine AllReadyH.cons rfl (fun K hK => ?_) (AllReadyH.nil)
  refine step_append_run _ rfl _ _ _ _ rfl _ _ (by rfl) (by rfl) _ w7 hrun ?_
  refine hK.out _ _ td (fun hHeld => ?_)
  clear hK K
  repeat (rw [putL]; simp only [List.set])
  refine tk 17 ?_
  repeat (rw [putL]; simp only [List.set])
  refine tk 18 ?_
  repeat (rw [putL]; simp only [List.set])
  refine tk 19 ?_
  repeat (rw [putL]; simp only [List.set])
  refine wpAnyH_ready (rs := [20]) (by kernel_rfl) (by simp) ?_
  refine AllReadyH.cons rfl (fun K hK => ?_) (AllReadyH.nil)
  go_simp
  refine hK.out _ _ te (fun hHeld => ?_)
  clear hK K
  repeat (rw [putL]; simp only [List.set])
  refine wpAnyH_done (by kernel_rfl) ?_ _
  rotate_left 1
  go_simp
  refine hK.out _ _ tc (fun hHeld => ?_)
  clear hK K
  repeat (rw [putL]; simp only [List.set])
  refine wpAnyH_ready (rs := [5]) (by kernel_rfl) (by simp) ?_
  refine AllReadyH.cons rfl (fun K hK => ?_) (AllReadyH.nil)
  go_simp
  refine hK.out _ _ tc (fun hHeld => ?_)
  clear hK K
  repeat (rw [putL]; simp only [List.set])
  refine wpAnyH_ready (rs := [16]) (by kernel_rfl) (by simp) ?_
  refine AllReadyH.cons rfl (fun K hK => ?_) (AllReadyH.nil)
  refine step_append_run _ rfl _ _ _ _ rfl _ _ (by rfl) (by rfl) _ w7 hrun ?_
  refine hK.out _ _ td (fun hHeld => ?_)
  clear hK K
  repeat (rw [putL]; simp only [List.set])
  refine tk 17 ?_
  repeat (rw [putL]; simp only [List.set])
  refine tk 18 ?_
  repeat (rw [putL]; simp only [List.set])
  refine tk 19 ?_
  repeat (rw [putL]; simp only [List.set])
  refine wpAnyH_ready (rs := [20]) (by kernel_rfl) (by simp) ?_
  refine AllReadyH.cons rfl (fun K hK => ?_) (AllReadyH.nil)
  go_simp
  refine hK.out _ _ te (fun hHeld => ?_)
  clear hK K
  repeat (rw [putL]; simp only [List.set])
  refine wpAnyH_done (by kernel_rfl) ?_ _
  rotate_left 1
  go_simp
  go_at_call 54
  with_reducible refine CL.out.mono ?_
  rintro e w5 hcl5
  obtain ⟨A5, c5, rfl, ho5, hb5⟩ := hcl5
  have H5 := Lib.hid (HD.out.below hb5)
  have B5 := Lib.hid (BD.out.trans (hb5.mono (Nat.le_of_lt HD.out.lt)))
  rw [HLA.out] at ho5 ⊢
  have t5 := H5.out.cell0
  obtain ⟨w0, rows, HF⟩ := H5.out.cap.secs
  obtain ⟨A7, c7, w7, hrun, ho7, hg7, ha7, hb7⟩ := row_more (cs := (secKd.row ⟨s, a⟩ (.slice A5 la c5))) Try.underlying24 info65 (by rfl) (by decide) (by decide) HF.own rfl (secR.one _ _ _ _) (by omega) (Nat.le_of_lt H5.out.lt)
  have END := Lib.hid (And.intro (Rd.sec (x := ⟨s, a⟩) H5.out HF ho7 hg7 ha7 HLA.out (own_mono ho5 (Nat.le_of_lt HD.out.lt)) HLT.out (by omega) hok (by omega)) ((B5.out.trans hb7).setCell (p := ⟨R, 4, none⟩) H5.out.le (.slice A7 (c.secs.length + 1) c7)))
  have tc : (w5.alloc (.cells (secKd.row ⟨s, a⟩ (.slice A5 la c5)).toArray 65)).cell? ⟨R, 0, none⟩ = some (.iface 97 (.agg #[])) := by rw [(H5.out.blk.alloc _).cell]; rfl
  have hk7 : Blk w7 R 70 (rdV (.iface 97 (.agg #[])) q c A np cp torn) := ha7.2 R 70 _ (by decide) H5.out.blk
  have td : w7.cell? ⟨R, 0, none⟩ = some (.iface 97 (.agg #[])) := by rw [hk7.cell]; rfl
  have e7 : w7.cell? ⟨R, 4, none⟩ = some (.slice q.ps c.secs.length q.cs) := by rw [hk7.cell]; rfl
  have f7 : w7.frozen? ⟨R, 4, none⟩ = false := hk7.frozen 4
  have te : (w7.setCell ⟨R, 4, none⟩ (.slice A7 (c.secs.length + 1) c7)).cell? ⟨R, 0, none⟩ = some (.iface 97 (.agg #[])) := by rw [(hk7.set_ 4 _).cell]; rfl
  have e5 : w5.cell? ⟨R, 4, none⟩ = some (.slice q.ps c.secs.length q.cs) := by rw [H5.out.blk.cell]; rfl
  have eC : (w5.alloc (.cells (secKd.row ⟨s, a⟩ (.slice A5 la c5)).toArray 65)).cell? ⟨R, 4, none⟩ = some (.slice q.ps c.secs.length q.cs) := by rw [(H5.out.blk.alloc _).cell]; rfl
  have C5 := CV.out w5 B5.out
  change _ = Result.ok _ _ at hrun
  simp only [secKd] at hrun tc eC
  clear hb5 HF ho7 hg7 ha7 hb7 hk7 ho5
  dsimp only
  refine hK.out _ _ t5 (fun hHeld => ?_)
  clear hK K
  repeat (rw [putL]; simp only [List.set])
  refine wpAnyH_ready (rs := [5, 9]) (by kernel_rfl) (by simp) ?_
  refine AllReadyH.cons rfl (fun K hK => ?_) (AllReadyH.cons rfl (fun K hK => ?_) (AllReadyH.nil))
  go_simp
  refine hK.out _ _ t5 (fun hHeld => ?_)
  clear hK K
  repeat (rw [putL]; simp only [List.set])
  refine wpAnyH_ready (rs := [9]) (by kernel_rfl) (by simp) ?_
  refine AllReadyH.cons rfl (fun K hK => ?_) (AllReadyH.nil)
  go_simp
  refine hK.out _ _ t5 (fun hHeld => ?_)
  clear hK K
  repeat (rw [putL]; simp only [List.set])
  refine tk 14 ?_
  repeat (rw [putL]; simp only [List.set])
  refine wpAnyH_ready (rs := [15]) (by kernel_rfl) (by simp) ?_
  refine AllReadyH.cons rfl (fun K hK => ?_) (AllReadyH.nil)
  go_simp
  refine hK.out _ _ tc (fun hHeld => ?_)
  clear hK K
  repeat (rw [putL]; simp only [List.set])
  refine wpAnyH_ready (rs := [16]) (by kernel_rfl) (by simp) ?_
  refine AllReadyH.cons rfl (fun K hK => ?_) (AllReadyH.nil)
  refine step_append_run _ rfl _ _ _ _ rfl _ _ (by rfl) (by rfl) _ w7 hrun ?_
  refine hK.out _ _ td (fun hHeld => ?_)
  clear hK K
  repeat (rw [putL]; simp only [List.set])
  refine tk 17 ?_
  repeat (rw [putL]; simp only [List.set])
  refine tk 18 ?_
  repeat (rw [putL]; simp only [List.set])
  refine tk 19 ?_
  repeat (rw [putL]; simp only [List.set])
  refine wpAnyH_ready (rs := [20]) (by kernel_rfl) (by simp) ?_
  refine AllReadyH.cons rfl (fun K hK => ?_) (AllReadyH.nil)
  go_simp
  refine hK.out _ _ te (fun hHeld => ?_)
  clear hK K
  repeat (rw [putL]; simp only [List.set])
  refine wpAnyH_done (by kernel_rfl) ?_ _
  rotate_left 1
  go_simp
  refine hK.out _ _ t5 (fun hHeld => ?_)
  clear hK K
  repeat (rw [putL]; simp only [List.set])
  refine tk 14 ?_
  repeat (rw [putL]; simp only [List.set])
  refine wpAnyH_ready (rs := [5, 15]) (by kernel_rfl) (by simp) ?_
  refine AllReadyH.cons rfl (fun K hK => ?_) (AllReadyH.cons rfl (fun K hK => ?_) (AllReadyH.nil))
  go_simp
  refine hK.out _ _ t5 (fun hHeld => ?_)
  clear hK K
  repeat (rw [putL]; simp only [List.set])
  refine wpAnyH_ready (rs := [15]) (by kernel_rfl) (by simp) ?_
  refine AllReadyH.cons rfl (fun K hK => ?_) (AllReadyH.nil)
  go_simp
  refine hK.out _ _ tc (fun hHeld => ?_)
  clear hK K
  repeat (rw [putL]; simp only [List.set])
  refine wpAnyH_ready (rs := [16]) (by kernel_rfl) (by simp) ?_
  refine AllReadyH.cons rfl (fun K hK => ?_) (AllReadyH.nil)
  refine step_append_run _ rfl _ _ _ _ rfl _ _ (by rfl) (by rfl) _ w7 hrun ?_
  refine hK.out _ _ td (fun hHeld => ?_)
  clear hK K
  repeat (rw [putL]; simp only [List.set])
  refine tk 17 ?_
  repeat (rw [putL]; simp only [List.set])
  refine tk 18 ?_
  repeat (rw [putL]; simp only [List.set])
  refine tk 19 ?_
  repeat (rw [putL]; simp only [List.set])
  refine wpAnyH_ready (rs := [20]) (by kernel_rfl) (by simp) ?_
  refine AllReadyH.cons rfl (fun K hK => ?_) (AllReadyH.nil)
  go_simp
  refine hK.out _ _ te (fun hHeld => ?_)
  clear hK K
  repeat (rw [putL]; simp only [List.set])
  refine wpAnyH_done (by kernel_rfl) ?_ _
  rotate_left 1
  go_simp
  refine hK.out _ _ tc (fun hHeld => ?_)
  clear hK K
  repeat (rw [putL]; simp only [List.set])
  refine wpAnyH_ready (rs := [5]) (by kernel_rfl) (by simp) ?_
  refine AllReadyH.cons rfl (fun K hK => ?_) (AllReadyH.nil)
  go_simp
  refine hK.out _ _ tc (fun hHeld => ?_)
  clear hK K
  repeat (rw [putL]; simp only [List.set])
  refine wpAnyH_ready (rs := [16]) (by kernel_rfl) (by simp) ?_
  refine AllReadyH.cons rfl (fun K hK => ?_) (AllReadyH.nil)
  refine step_append_run _ rfl _ _ _ _ rfl _ _ (by rfl) (by rfl) _ w7 hrun ?_
  refine hK.out _ _ td (fun hHeld => ?_)
  clear hK K
  repeat (rw [putL]; simp only [List.set])
  refine tk 17 ?_
  repeat (rw [putL]; simp only [List.set])
  refine tk 18 ?_
  repeat (rw [putL]; simp only [List.set])
  refine tk 19 ?_
  repeat (rw [putL]; simp only [List.set])
  refine wpAnyH_ready (rs := [20]) (by kernel_rfl) (by simp) ?_
  refine AllReadyH.cons rfl (fun K hK => ?_) (AllReadyH.nil)
  go_simp
  refine hK.out _ _ te (fun hHeld => ?_)
  clear hK K
  repeat (rw [putL]; simp only [List.set])
  refine wpAnyH_done (by kernel_rfl) ?_ _
  all_goals
    go_wp2_with fail
    go_ret
    exact ⟨rfl, ⟨_, END.out.1⟩, END.out.2⟩

theorem sec_any (low : Bool) {w : World} {R b np torn cp b0 o L cc : Nat} {q : Pl} {c : Cap} {A : Option Addr} {xs : List Value} {s : ByteArray} {a : List Nat} (h : Rd w R b (ordV low) q A cp xs c np torn)
    (hp : Pc w b0 o (pairB low (strL s) a ++ padB (pairB low (strL s) a).length)) (hL : (pairB low (strL s) a ++ padB (pairB low (strL s) a).length).length = L) (hc : L < cc) (hb : b0 < b) (hs : s.size ≤ 200) (ha : a.length ≤ 200) (hn : c.secs.length < 1000) :
    Calls Try.prog 83 #[.pointer (some ⟨R, 0, none⟩), .slice (some ⟨b0, o, none⟩) L cc, .bool false] w fun e w' => e = .returned (.bool true) ∧ (∃ q', Rd w' R b (ordV low) q' A cp xs ⟨c.note, c.faces, c.names, c.secs ++ [⟨s, a⟩], c.pkts⟩ np torn) ∧ Below b w w' := by
  cases low with
  | true => exact sec_true h hp hL hc hb hs ha hn
  | false => exact sec_false h hp hL hc hb hs ha hn
end Go.Proofs.Ytlimkckomdipkaa
