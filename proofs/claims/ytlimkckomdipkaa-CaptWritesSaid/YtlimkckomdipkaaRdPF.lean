/- The body of a packet, read. -/
import Derived.Test.YtlimkckomdipkaaRdPT
import Derived.Deep.RegionHeld3
import Derived.Test.YtlimkckomdipkaaMem
namespace Go.Proofs.Ytlimkckomdipkaa
open Go.RowKit

set_option maxRecDepth 100000 in
set_option maxHeartbeats 16000000 in
theorem pkt_false {w : World} {R b np torn cp b0 o L cc fc t rl : Nat} {q : Pl} {c : Cap} {A : Option Addr} {xs : List Value} {s : ByteArray} {a : List Nat} (h : Rd w R b (.iface 97 (.agg #[])) q A cp xs c np torn)
    (hp : Pc w b0 o (pktBy false fc t rl a s)) (hL : (pktBy false fc t rl a s).length = L) (hc : L < cc) (hb : b0 < b) (hs : s.size ≤ 200) (ha : a.length ≤ 400) (hfc : fc < 65536) (ht : t ≤ 1000000000000000) (hrl : rl ≤ 1000000) (hn : c.pkts.length < 1000) :
    Calls Try.prog 82 #[.pointer (some ⟨R, 0, none⟩), .slice (some ⟨b0, o, none⟩) L cc] w fun e w' => e = .returned (.bool true) ∧ (∃ q', Rd w' R b (.iface 97 (.agg #[])) q' A cp xs ⟨c.note, c.faces, c.names, c.secs, c.pkts ++ [⟨(t : Int), (fc : Int), (rl : Int), a, s⟩]⟩ np torn) ∧ Below b w w' := by
  obtain ⟨n, hla⟩ : ∃ n, a.length = n := ⟨_, rfl⟩
  obtain ⟨hi, hhi⟩ : ∃ hi, t / 4294967296 = hi := ⟨_, rfl⟩
  obtain ⟨lo, hlo⟩ : ∃ lo, t % 4294967296 = lo := ⟨_, rfl⟩
  obtain ⟨P, hP⟩ : ∃ P, padN n = P := ⟨_, rfl⟩
  have hpd : P ≤ 3 := by rw [← hP]; exact padN_le n
  have hpn : padN (20 + n) = P := by rw [← hP]; unfold padN; omega
  have hl2 : (numsB false 4 [fc, hi, t, n, rl]).length = 20 := by rw [numsB_len]; rfl
  unfold pktBy padB at hp hL
  rw [hla, hhi, hpn] at hp hL
  obtain ⟨M, hM⟩ : ∃ M, (optB false 1 (20 + n + P) s).length = M := ⟨_, rfl⟩
  have hLL : L = 20 + (n + (P + M)) := by rw [← hL]; simp only [List.length_append, List.length_replicate, hl2, hla, hM]
  have hM2 : M ≤ 1000 := by
    rw [← hM]; unfold optB
    split
    · simp
    · simp only [List.length_append, numsB_len, strL_len, padB_len]
      have := padN_le (20 + n + P + 4 + s.size)
      simp; omega
  have hbw : b0 < w.heap.size := by have := h.lt; omega
  have hq := hp.left
  rw [numsB_cons, numsB_cons, numsB_cons, numsB_cons, numsB_one] at hq
  have P1 : Hid (Pc w b0 o (numB false 4 fc)) := Lib.hid hq.left
  have hq1 := hq.right
  rw [numB_len2] at hq1
  have P2 : Hid (Pc w b0 (o + 4) (numB false 4 hi)) := Lib.hid hq1.left
  have hq2 := hq1.right
  rw [numB_len2] at hq2
  have P3 : Hid (Pc w b0 (o + 8) (numB false 4 t)) := Lib.hid (hq2.left.at_ (by omega))
  have hq3 := hq2.right
  rw [numB_len2] at hq3
  have P4 : Hid (Pc w b0 (o + 12) (numB false 4 n)) := Lib.hid (hq3.left.at_ (by omega))
  have hq4 := hq3.right
  rw [numB_len2] at hq4
  have P5 : Hid (Pc w b0 (o + 16) (numB false 4 rl)) := Lib.hid (hq4.at_ (by omega))
  have hr := hp.right
  rw [hl2] at hr
  have PA : Hid (Pc w b0 (o + 20) a) := Lib.hid hr.left
  have hr1 := hr.right
  rw [hla] at hr1
  have PZ : Hid (Pc w b0 (o + 20 + n) (List.replicate P 0)) := Lib.hid hr1.left
  have hr2 := hr1.right
  rw [List.length_replicate] at hr2
  have PO : Hid (Pc w b0 (o + 20 + (n + P)) (optB false 1 (20 + n + P) s)) := Lib.hid (hr2.at_ (by omega))
  have hP4 : (20 + n + P) % 4 = 0 := by rw [← hP]; unfold padN; omega
  have HLA := Lib.hid hla
  have HLT := Lib.hid PA.out.lt
  have hok : pktKd.ok ⟨(t : Int), (fc : Int), (rl : Int), a, s⟩ := by
    refine ⟨by show s.size ≤ 140737488355328; omega, ⟨?_, ?_⟩, ⟨?_, ?_⟩, ⟨?_, ?_⟩⟩ <;> simp only [] <;> omega
  have H := Lib.hid h
  have q0 := h.cell0
  have q1 : w.drew.cell? ⟨R, 0, none⟩ = some (.iface 97 (.agg #[])) := q0
  have q2 : w.drew.drew.cell? ⟨R, 0, none⟩ = some (.iface 97 (.agg #[])) := q0
  have hhi2 : hi ≤ 232831 := by omega
  have hn4 : n ≤ 400 := by omega
  have hloB : lo < 4294967296 := by omega
  have HLO1 : Hid (t % 256 ^ 4 = lo) := Lib.hid hlo
  have hj := or64_join ((hi : Int) * 4294967296) lo 32 (by omega) (by omega) (by omega) (by omega) (by omega)
  have hwr : IntKind.i64.wrap ((hi : Int) * 4294967296) = (hi : Int) * 4294967296 := by rw [IntKind.wrap_i64]; omega
  have htt : (hi : Int) * 4294967296 + (lo : Int) = (t : Int) := by omega
  have G1 := Lib.hid (get_false (w := w.drew.drew) (c := cc - 12) (P4.out.below (Below.refl _ w).drew.drew hbw) (by decide) hbw (by omega))
  have FI := Lib.hid (fun (w' : World) (hw : Below b w w') => filled_any (w := w') (b := b0) (o := o + 20) (L := L - 20) (c := cc - 20) (n := n) (by rw [hP]; omega) (by omega) (by omega) (fun i hi => by
    rw [hP] at hi
    have h := (PZ.out.below hw hb).cells i (by simpa using hi)
    rw [h]
    simp [at8, hi]))
  rw [hP] at FI
  have hz1 : L - 20 - (n + P) = M := by omega
  have hz2 : cc - 20 - (n + P) = cc - (20 + (n + P)) := by omega
  rw [hz1, hz2] at FI
  have LOF := Lib.hid (fun (w' : World) (hw : Below b w w') (k : Rd w' R b (.iface 97 (.agg #[])) q A cp xs c np torn) => lastopt_any false (w := w') (c := cc - (20 + (n + P))) (code := 1) (P := 20 + n + P) (s := s) k.blk rfl (PO.out.below hw hb) hP4 (Nat.lt_trans hb k.lt) (n := M) hM (by omega) hs (by decide))
  have CL0 := Lib.hid (fun (w' : World) (hw' : Below b w w') (k : b < w'.heap.size) => bclone_any ((PA.out.below hw' hb).byc (Nat.lt_trans hb k) (c := cc - 20) (by omega) (by omega)))
  rw [hla] at CL0
  have hk0 : decide ((L : Int) < 20) = false := by simp; omega
  have hk1 : (20 : Int) ≤ (L : Int) := by omega
  have hk2 : (20 : Int) ≤ (cc : Int) := by omega
  have hk3 : (16 : Int) ≤ (cc : Int) := by omega
  have hk4 : (12 : Int) ≤ (cc : Int) := by omega
  have hk5 : (8 : Int) ≤ (cc : Int) := by omega
  have hk6 : (4 : Int) ≤ (cc : Int) := by omega
  have hi0 : ¬ cc = 20 := by omega
  have hi1 : ¬ cc = 16 := by omega
  have hi2 : ¬ cc = 12 := by omega
  have hi3 : ¬ cc = 8 := by omega
  have hi4 : ¬ cc = 4 := by omega
  have nah : ∀ (w : World), (nilAhead 246 97 (.agg #[]) "wireglass/capt.get").run Try.prog w = .ok (some false) w := fun w => by kernel_rfl
  have mth : ∀ (w : World), (method 246 97 (.agg #[]) "wireglass/capt.get").run Try.prog w = .ok (116, .agg #[]) w := fun w => by kernel_rfl
  clear h hp hq hq1 hq2 hq3 hq4 hr hr1 hr2 hL hl2 hpn hz1 hz2 hLL hM hP hla hhi hlo
  go_enter Try.func82, Try.ntmps82
  go_wp2_with fail
  refine wp_region_held_drew (S := fun w' => w'.cell? ⟨R, 0, none⟩ = some (.iface 97 (.agg #[]))) (by kernel_rfl) q1 (fun hHeld => ?_)
  refine tk 0 ?_
  repeat (rw [putL]; simp only [List.set])
  refine tk 1 ?_
  repeat (rw [putL]; simp only [List.set])
  refine tk 2 ?_
  repeat (rw [putL]; simp only [List.set])
  refine tk 3 ?_
  repeat (rw [putL]; simp only [List.set])
  refine tk 4 ?_
  repeat (rw [putL]; simp only [List.set])
  refine tk 5 ?_
  repeat (rw [putL]; simp only [List.set])
  refine wpAnyH_done (by kernel_rfl) ?_ _
  go_wp2_with fail
  refine wp_region_held_drew (S := fun w' => w'.cell? ⟨R, 0, none⟩ = some (.iface 97 (.agg #[]))) (by kernel_rfl) q2 (fun hHeld => ?_)
  refine tk 0 ?_
  repeat (rw [putL]; simp only [List.set])
  refine tk 1 ?_
  repeat (rw [putL]; simp only [List.set])
  refine tk 2 ?_
  repeat (rw [putL]; simp only [List.set])
  refine tk 3 ?_
  repeat (rw [putL]; simp only [List.set])
  refine tk 4 ?_
  repeat (rw [putL]; simp only [List.set])
  refine tk 5 ?_
  repeat (rw [putL]; simp only [List.set])
  refine tk 6 ?_
  repeat (rw [putL]; simp only [List.set])
  refine tk 7 ?_
  repeat (rw [putL]; simp only [List.set])
  refine tk 8 ?_
  repeat (rw [putL]; simp only [List.set])
  refine wpAnyH_ready (rs := [9]) (by kernel_rfl) (by simp) ?_
  refine AllReadyH.cons rfl (fun K hK => ?_) (AllReadyH.nil)
  go_simp
  go_at_call 116
  with_reducible refine G1.out.mono ?_
  rintro e w1 ⟨rfl, hb1⟩
  have H1 := Lib.hid (H.out.drew.drew.below hb1)
  have B1 : Hid (Below b w w1) := Lib.hid ((Below.refl _ w).drew.drew.trans (hb1.mono (Nat.le_of_lt H.out.lt)))
  have t1 := H1.out.cell0
  clear hb1
  have FJ := Lib.hid (FI.out w1 B1.out)
  clear FI
  dsimp only
  refine hK.out _ _ t1 (fun hHeld => ?_)
  clear hK K
  repeat (rw [putL]; simp only [List.set])
  refine wpAnyH_ready (rs := [10]) (by kernel_rfl) (by simp) ?_
  refine AllReadyH.cons rfl (fun K hK => ?_) (AllReadyH.nil)
  go_simp
  go_at_call 87
  with_reducible refine FJ.out.mono ?_
  rintro e w2 ⟨rfl, hb2⟩
  have H2 := Lib.hid (H1.out.below hb2)
  have B2 : Hid (Below b w w2) := Lib.hid (B1.out.trans (hb2.mono (Nat.le_of_lt H1.out.lt)))
  have t2 := H2.out.cell0
  clear hb2
  dsimp only
  refine hK.out _ _ t2 (fun hHeld => ?_)
  clear hK K
  repeat (rw [putL]; simp only [List.set])
  refine tk 11 ?_
  repeat (rw [putL]; simp only [List.set])
  refine tk 12 ?_
  repeat (rw [putL]; simp only [List.set])
  refine tk 13 ?_
  repeat (rw [putL]; simp only [List.set])
  refine tk 14 ?_
  repeat (rw [putL]; simp only [List.set])
  refine tk 15 ?_
  repeat (rw [putL]; simp only [List.set])
  refine tk 16 ?_
  repeat (rw [putL]; simp only [List.set])
  refine tk 17 ?_
  repeat (rw [putL]; simp only [List.set])
  refine wpAnyH_done (by kernel_rfl) ?_ _
  have LO := Lib.hid (LOF.out w2 B2.out H2.out)
  clear LOF FJ q0 q1
  go_wp2_with fail
  refine LO.out.mono ?_
  rintro e w3 ⟨rfl, hb3⟩
  have HD := Lib.hid (H2.out.below hb3).drew
  have BD : Hid (Below b w w3.drew) := Lib.hid ((B2.out.trans (hb3.mono (Nat.le_of_lt H2.out.lt))).drew)
  have td0 : w3.drew.cell? ⟨R, 0, none⟩ = some (.iface 97 (.agg #[])) := HD.out.cell0
  have e0 : w3.drew.cell? ⟨R, 5, none⟩ = some (.slice q.pp c.pkts.length q.cp) := by rw [HD.out.blk.cell]; rfl
  have G2 := Lib.hid (get_false (c := cc - 4) (P2.out.below BD.out hb) (by decide) (Nat.lt_trans hb HD.out.lt) (by omega))
  clear LO hb3
  go_wp2_with fail
  refine wp_region_held_drew (S := fun w' => w'.cell? ⟨R, 0, none⟩ = some (.iface 97 (.agg #[]))) (by kernel_rfl) td0 (fun hHeld => ?_)
  refine tk 0 ?_
  repeat (rw [putL]; simp only [List.set])
  refine tk 1 ?_
  repeat (rw [putL]; simp only [List.set])
  refine tk 2 ?_
  repeat (rw [putL]; simp only [List.set])
  refine tk 3 ?_
  repeat (rw [putL]; simp only [List.set])
  refine tk 4 ?_
  repeat (rw [putL]; simp only [List.set])
  refine tk 6 ?_
  repeat (rw [putL]; simp only [List.set])
  refine tk 7 ?_
  repeat (rw [putL]; simp only [List.set])
  refine tk 8 ?_
  repeat (rw [putL]; simp only [List.set])
  refine tk 9 ?_
  repeat (rw [putL]; simp only [List.set])
  refine tk 10 ?_
  repeat (rw [putL]; simp only [List.set])
  refine tk 11 ?_
  repeat (rw [putL]; simp only [List.set])
  refine tk 12 ?_
  repeat (rw [putL]; simp only [List.set])
  refine tk 13 ?_
  repeat (rw [putL]; simp only [List.set])
  refine tk 16 ?_
  repeat (rw [putL]; simp only [List.set])
  refine tk 17 ?_
  repeat (rw [putL]; simp only [List.set])
  refine tk 18 ?_
  repeat (rw [putL]; simp only [List.set])
  refine tk 19 ?_
  repeat (rw [putL]; simp only [List.set])
  refine tk 20 ?_
  repeat (rw [putL]; simp only [List.set])
  refine tk 21 ?_
  repeat (rw [putL]; simp only [List.set])
  refine tk 22 ?_
  repeat (rw [putL]; simp only [List.set])
  refine tk 23 ?_
  repeat (rw [putL]; simp only [List.set])
  refine tk 26 ?_
  repeat (rw [putL]; simp only [List.set])
  refine tk 27 ?_
  repeat (rw [putL]; simp only [List.set])
  refine tk 28 ?_
  repeat (rw [putL]; simp only [List.set])
  refine tk 29 ?_
  repeat (rw [putL]; simp only [List.set])
  refine tk 30 ?_
  repeat (rw [putL]; simp only [List.set])
  refine tk 31 ?_
  repeat (rw [putL]; simp only [List.set])
  refine tk 32 ?_
  repeat (rw [putL]; simp only [List.set])
  refine tk 33 ?_
  repeat (rw [putL]; simp only [List.set])
  refine tk 35 ?_
  repeat (rw [putL]; simp only [List.set])
  refine tk 36 ?_
  repeat (rw [putL]; simp only [List.set])
  refine tk 37 ?_
  repeat (rw [putL]; simp only [List.set])
  refine tk 38 ?_
  repeat (rw [putL]; simp only [List.set])
  refine tk 39 ?_
  repeat (rw [putL]; simp only [List.set])
  refine tk 40 ?_
  repeat (rw [putL]; simp only [List.set])
  refine tk 41 ?_
  repeat (rw [putL]; simp only [List.set])
  refine tk 42 ?_
  repeat (rw [putL]; simp only [List.set])
  refine tk 44 ?_
  repeat (rw [putL]; simp only [List.set])
  refine tk 46 ?_
  repeat (rw [putL]; simp only [List.set])
  refine wpAnyH_ready (rs := [5, 14]) (by kernel_rfl) (by simp) ?_
  refine AllReadyH.cons rfl (fun K hK => ?_) (AllReadyH.cons rfl (fun K hK => ?_) (AllReadyH.nil))
  go_simp
  refine hK.out _ _ td0 (fun hHeld => ?_)
  clear hK K
  repeat (rw [putL]; simp only [List.set])
  refine wpAnyH_ready (rs := [14]) (by kernel_rfl) (by simp) ?_
  refine AllReadyH.cons rfl (fun K hK => ?_) (AllReadyH.nil)
  go_simp
  go_at_call 116
  with_reducible refine G2.out.mono ?_
  rintro e wd ⟨rfl, hb⟩
  have HE := Lib.hid (HD.out.below hb)
  have BE := Lib.hid (BD.out.trans (hb.mono (Nat.le_of_lt HD.out.lt)))
  have twd := HE.out.cell0
  have ewd : wd.cell? ⟨R, 5, none⟩ = some (.slice q.pp c.pkts.length q.cp) := by rw [HE.out.blk.cell]; rfl
  clear hb
  have G3 := Lib.hid (get_at false (c := cc - 8) (P3.out.below BE.out hb) (by decide) (Nat.lt_trans hb HE.out.lt))
  rw [HLO1.out] at G3
  change Hid (Calls Try.prog 116 _ _ _) at G3
  dsimp only
  refine hK.out _ _ twd (fun hHeld => ?_)
  clear hK K
  repeat (rw [putL]; simp only [List.set])
  refine tk 15 ?_
  repeat (rw [putL]; simp only [List.set])
  try simp only [hwr]
  refine wpAnyH_ready (rs := [24]) (by kernel_rfl) (by simp) ?_
  refine AllReadyH.cons rfl (fun K hK => ?_) (AllReadyH.nil)
  go_simp
  go_at_call 116
  with_reducible refine G3.out.mono ?_
  rintro e we ⟨rfl, hb⟩
  have HEE := Lib.hid (HE.out.below hb)
  have BEE := Lib.hid (BE.out.trans (hb.mono (Nat.le_of_lt HE.out.lt)))
  have twe := HEE.out.cell0
  have ewe : we.cell? ⟨R, 5, none⟩ = some (.slice q.pp c.pkts.length q.cp) := by rw [HEE.out.blk.cell]; rfl
  clear hb
  have G4 := Lib.hid (get_false (c := cc) (P1.out.below BEE.out hb) (by decide) (Nat.lt_trans hb HEE.out.lt) (by omega))
  dsimp only
  refine hK.out _ _ twe (fun hHeld => ?_)
  clear hK K
  repeat (rw [putL]; simp only [List.set])
  refine tk 25 ?_
  repeat (rw [putL]; simp only [List.set])
  try simp only [hj, htt]
  refine wpAnyH_ready (rs := [34]) (by kernel_rfl) (by simp) ?_
  refine AllReadyH.cons rfl (fun K hK => ?_) (AllReadyH.nil)
  go_simp
  go_at_call 116
  with_reducible refine G4.out.mono ?_
  rintro e wf ⟨rfl, hb⟩
  have HFF := Lib.hid (HEE.out.below hb)
  have BFF := Lib.hid (BEE.out.trans (hb.mono (Nat.le_of_lt HEE.out.lt)))
  have twf := HFF.out.cell0
  have ewf : wf.cell? ⟨R, 5, none⟩ = some (.slice q.pp c.pkts.length q.cp) := by rw [HFF.out.blk.cell]; rfl
  clear hb
  have G5 := Lib.hid (get_false (c := cc - 16) (P5.out.below BFF.out hb) (by decide) (Nat.lt_trans hb HFF.out.lt) (by omega))
  dsimp only
  refine hK.out _ _ twf (fun hHeld => ?_)
  clear hK K
  repeat (rw [putL]; simp only [List.set])
  refine wpAnyH_ready (rs := [43]) (by kernel_rfl) (by simp) ?_
  refine AllReadyH.cons rfl (fun K hK => ?_) (AllReadyH.nil)
  go_simp
  go_at_call 116
  with_reducible refine G5.out.mono ?_
  rintro e wg ⟨rfl, hb⟩
  have HG := Lib.hid (HFF.out.below hb)
  have BG := Lib.hid (BFF.out.trans (hb.mono (Nat.le_of_lt HFF.out.lt)))
  have twg := HG.out.cell0
  have ewg : wg.cell? ⟨R, 5, none⟩ = some (.slice q.pp c.pkts.length q.cp) := by rw [HG.out.blk.cell]; rfl
  clear hb
  have CL := Lib.hid (CL0.out wg BG.out HG.out.lt)
  dsimp only
  refine hK.out _ _ twg (fun hHeld => ?_)
  clear hK K
  repeat (rw [putL]; simp only [List.set])
  refine wpAnyH_ready (rs := [45]) (by kernel_rfl) (by simp) ?_
  refine AllReadyH.cons rfl (fun K hK => ?_) (AllReadyH.nil)
  go_simp
  go_at_call 54
  with_reducible refine CL.out.mono ?_
  rintro e w5 hcl5
  obtain ⟨A5, c5, rfl, ho5, hb5⟩ := hcl5
  have H5 := Lib.hid (HG.out.below hb5)
  have B5 := Lib.hid (BG.out.trans (hb5.mono (Nat.le_of_lt HG.out.lt)))
  rw [HLA.out] at ho5 ⊢
  have t5 := H5.out.cell0
  obtain ⟨w0, rows, HF⟩ := H5.out.cap.pkts
  obtain ⟨A7, c7, w7, hrun, ho7, hg7, ha7, hb7⟩ := row_more (cs := (pktKd.row ⟨(t : Int), (fc : Int), (rl : Int), a, s⟩ (.slice A5 n c5))) Try.underlying25 info47 (by rfl) (by decide) (by decide) HF.own rfl (pktR.one _ _ _ _) (by omega) (Nat.le_of_lt H5.out.lt)
  have END := Lib.hid (And.intro (Rd.pkt (x := ⟨(t : Int), (fc : Int), (rl : Int), a, s⟩) H5.out HF ho7 hg7 ha7 HLA.out (own_mono ho5 (Nat.le_of_lt HG.out.lt)) HLT.out (by omega) hok (by omega)) ((B5.out.trans hb7).setCell (p := ⟨R, 5, none⟩) H5.out.le (.slice A7 (c.pkts.length + 1) c7)))
  have tc : (w5.alloc (.cells (pktKd.row ⟨(t : Int), (fc : Int), (rl : Int), a, s⟩ (.slice A5 n c5)).toArray 47)).cell? ⟨R, 0, none⟩ = some (.iface 97 (.agg #[])) := by rw [(H5.out.blk.alloc _).cell]; rfl
  have hk7 : Blk w7 R 70 (rdV (.iface 97 (.agg #[])) q c A np cp torn) := ha7.2 R 70 _ (by decide) H5.out.blk
  have td : w7.cell? ⟨R, 0, none⟩ = some (.iface 97 (.agg #[])) := by rw [hk7.cell]; rfl
  have e7 : w7.cell? ⟨R, 5, none⟩ = some (.slice q.pp c.pkts.length q.cp) := by rw [hk7.cell]; rfl
  have f7 : w7.frozen? ⟨R, 5, none⟩ = false := hk7.frozen 5
  have te : (w7.setCell ⟨R, 5, none⟩ (.slice A7 (c.pkts.length + 1) c7)).cell? ⟨R, 0, none⟩ = some (.iface 97 (.agg #[])) := by rw [(hk7.set_ 5 _).cell]; rfl
  have e5 : w5.cell? ⟨R, 5, none⟩ = some (.slice q.pp c.pkts.length q.cp) := by rw [H5.out.blk.cell]; rfl
  have eC : (w5.alloc (.cells (pktKd.row ⟨(t : Int), (fc : Int), (rl : Int), a, s⟩ (.slice A5 n c5)).toArray 47)).cell? ⟨R, 5, none⟩ = some (.slice q.pp c.pkts.length q.cp) := by rw [(H5.out.blk.alloc _).cell]; rfl
  simp only [pktKd] at hrun tc eC
  clear hb5 HF ho7 hg7 ha7 hb7 hk7 ho5
  dsimp only
  refine hK.out _ _ t5 (fun hHeld => ?_)
  clear hK K
  repeat (rw [putL]; simp only [List.set])
  refine tk 47 ?_
  repeat (rw [putL]; simp only [List.set])
  refine wpAnyH_ready (rs := [48]) (by kernel_rfl) (by simp) ?_
  refine AllReadyH.cons rfl (fun K hK => ?_) (AllReadyH.nil)
  go_simp
  refine hK.out _ _ tc (fun hHeld => ?_)
  clear hK K
  repeat (rw [putL]; simp only [List.set])
  refine wpAnyH_ready (rs := [49]) (by kernel_rfl) (by simp) ?_
  refine AllReadyH.cons rfl (fun K hK => ?_) (AllReadyH.nil)
  refine step_append_run _ rfl _ _ _ _ rfl _ _ (by rfl) (by rfl) _ w7 hrun ?_
  refine hK.out _ _ td (fun hHeld => ?_)
  clear hK K
  repeat (rw [putL]; simp only [List.set])
  refine tk 50 ?_
  repeat (rw [putL]; simp only [List.set])
  refine tk 51 ?_
  repeat (rw [putL]; simp only [List.set])
  refine tk 52 ?_
  repeat (rw [putL]; simp only [List.set])
  refine wpAnyH_ready (rs := [53]) (by kernel_rfl) (by simp) ?_
  refine AllReadyH.cons rfl (fun K hK => ?_) (AllReadyH.nil)
  go_simp
  refine hK.out _ _ te (fun hHeld => ?_)
  clear hK K
  repeat (rw [putL]; simp only [List.set])
  refine wpAnyH_done (by kernel_rfl) ?_ _
  rotate_left 1
  go_simp
  go_at_call 116
  with_reducible refine G2.out.mono ?_
  rintro e wd ⟨rfl, hb⟩
  have HE := Lib.hid (HD.out.below hb)
  have BE := Lib.hid (BD.out.trans (hb.mono (Nat.le_of_lt HD.out.lt)))
  have twd := HE.out.cell0
  have ewd : wd.cell? ⟨R, 5, none⟩ = some (.slice q.pp c.pkts.length q.cp) := by rw [HE.out.blk.cell]; rfl
  clear hb
  have G3 := Lib.hid (get_at false (c := cc - 8) (P3.out.below BE.out hb) (by decide) (Nat.lt_trans hb HE.out.lt))
  rw [HLO1.out] at G3
  change Hid (Calls Try.prog 116 _ _ _) at G3
  dsimp only
  refine hK.out _ _ twd (fun hHeld => ?_)
  clear hK K
  repeat (rw [putL]; simp only [List.set])
  refine tk 15 ?_
  repeat (rw [putL]; simp only [List.set])
  try simp only [hwr]
  refine wpAnyH_ready (rs := [5, 24]) (by kernel_rfl) (by simp) ?_
  refine AllReadyH.cons rfl (fun K hK => ?_) (AllReadyH.cons rfl (fun K hK => ?_) (AllReadyH.nil))
  go_simp
  refine hK.out _ _ twd (fun hHeld => ?_)
  clear hK K
  repeat (rw [putL]; simp only [List.set])
  refine wpAnyH_ready (rs := [24]) (by kernel_rfl) (by simp) ?_
  refine AllReadyH.cons rfl (fun K hK => ?_) (AllReadyH.nil)
  go_simp
  go_at_call 116
  with_reducible refine G3.out.mono ?_
  rintro e we ⟨rfl, hb⟩
  have HEE := Lib.hid (HE.out.below hb)
  have BEE := Lib.hid (BE.out.trans (hb.mono (Nat.le_of_lt HE.out.lt)))
  have twe := HEE.out.cell0
  have ewe : we.cell? ⟨R, 5, none⟩ = some (.slice q.pp c.pkts.length q.cp) := by rw [HEE.out.blk.cell]; rfl
  clear hb
  have G4 := Lib.hid (get_false (c := cc) (P1.out.below BEE.out hb) (by decide) (Nat.lt_trans hb HEE.out.lt) (by omega))
  dsimp only
  refine hK.out _ _ twe (fun hHeld => ?_)
  clear hK K
  repeat (rw [putL]; simp only [List.set])
  refine tk 25 ?_
  repeat (rw [putL]; simp only [List.set])
  try simp only [hj, htt]
  refine wpAnyH_ready (rs := [34]) (by kernel_rfl) (by simp) ?_
  refine AllReadyH.cons rfl (fun K hK => ?_) (AllReadyH.nil)
  go_simp
  go_at_call 116
  with_reducible refine G4.out.mono ?_
  rintro e wf ⟨rfl, hb⟩
  have HFF := Lib.hid (HEE.out.below hb)
  have BFF := Lib.hid (BEE.out.trans (hb.mono (Nat.le_of_lt HEE.out.lt)))
  have twf := HFF.out.cell0
  have ewf : wf.cell? ⟨R, 5, none⟩ = some (.slice q.pp c.pkts.length q.cp) := by rw [HFF.out.blk.cell]; rfl
  clear hb
  have G5 := Lib.hid (get_false (c := cc - 16) (P5.out.below BFF.out hb) (by decide) (Nat.lt_trans hb HFF.out.lt) (by omega))
  dsimp only
  refine hK.out _ _ twf (fun hHeld => ?_)
  clear hK K
  repeat (rw [putL]; simp only [List.set])
  refine wpAnyH_ready (rs := [43]) (by kernel_rfl) (by simp) ?_
  refine AllReadyH.cons rfl (fun K hK => ?_) (AllReadyH.nil)
  go_simp
  go_at_call 116
  with_reducible refine G5.out.mono ?_
  rintro e wg ⟨rfl, hb⟩
  have HG := Lib.hid (HFF.out.below hb)
  have BG := Lib.hid (BFF.out.trans (hb.mono (Nat.le_of_lt HFF.out.lt)))
  have twg := HG.out.cell0
  have ewg : wg.cell? ⟨R, 5, none⟩ = some (.slice q.pp c.pkts.length q.cp) := by rw [HG.out.blk.cell]; rfl
  clear hb
  have CL := Lib.hid (CL0.out wg BG.out HG.out.lt)
  dsimp only
  refine hK.out _ _ twg (fun hHeld => ?_)
  clear hK K
  repeat (rw [putL]; simp only [List.set])
  refine wpAnyH_ready (rs := [45]) (by kernel_rfl) (by simp) ?_
  refine AllReadyH.cons rfl (fun K hK => ?_) (AllReadyH.nil)
  go_simp
  go_at_call 54
  with_reducible refine CL.out.mono ?_
  rintro e w5 hcl5
  obtain ⟨A5, c5, rfl, ho5, hb5⟩ := hcl5
  have H5 := Lib.hid (HG.out.below hb5)
  have B5 := Lib.hid (BG.out.trans (hb5.mono (Nat.le_of_lt HG.out.lt)))
  rw [HLA.out] at ho5 ⊢
  have t5 := H5.out.cell0
  obtain ⟨w0, rows, HF⟩ := H5.out.cap.pkts
  obtain ⟨A7, c7, w7, hrun, ho7, hg7, ha7, hb7⟩ := row_more (cs := (pktKd.row ⟨(t : Int), (fc : Int), (rl : Int), a, s⟩ (.slice A5 n c5))) Try.underlying25 info47 (by rfl) (by decide) (by decide) HF.own rfl (pktR.one _ _ _ _) (by omega) (Nat.le_of_lt H5.out.lt)
  have END := Lib.hid (And.intro (Rd.pkt (x := ⟨(t : Int), (fc : Int), (rl : Int), a, s⟩) H5.out HF ho7 hg7 ha7 HLA.out (own_mono ho5 (Nat.le_of_lt HG.out.lt)) HLT.out (by omega) hok (by omega)) ((B5.out.trans hb7).setCell (p := ⟨R, 5, none⟩) H5.out.le (.slice A7 (c.pkts.length + 1) c7)))
  have tc : (w5.alloc (.cells (pktKd.row ⟨(t : Int), (fc : Int), (rl : Int), a, s⟩ (.slice A5 n c5)).toArray 47)).cell? ⟨R, 0, none⟩ = some (.iface 97 (.agg #[])) := by rw [(H5.out.blk.alloc _).cell]; rfl
  have hk7 : Blk w7 R 70 (rdV (.iface 97 (.agg #[])) q c A np cp torn) := ha7.2 R 70 _ (by decide) H5.out.blk
  have td : w7.cell? ⟨R, 0, none⟩ = some (.iface 97 (.agg #[])) := by rw [hk7.cell]; rfl
  have e7 : w7.cell? ⟨R, 5, none⟩ = some (.slice q.pp c.pkts.length q.cp) := by rw [hk7.cell]; rfl
  have f7 : w7.frozen? ⟨R, 5, none⟩ = false := hk7.frozen 5
  have te : (w7.setCell ⟨R, 5, none⟩ (.slice A7 (c.pkts.length + 1) c7)).cell? ⟨R, 0, none⟩ = some (.iface 97 (.agg #[])) := by rw [(hk7.set_ 5 _).cell]; rfl
  have e5 : w5.cell? ⟨R, 5, none⟩ = some (.slice q.pp c.pkts.length q.cp) := by rw [H5.out.blk.cell]; rfl
  have eC : (w5.alloc (.cells (pktKd.row ⟨(t : Int), (fc : Int), (rl : Int), a, s⟩ (.slice A5 n c5)).toArray 47)).cell? ⟨R, 5, none⟩ = some (.slice q.pp c.pkts.length q.cp) := by rw [(H5.out.blk.alloc _).cell]; rfl
  simp only [pktKd] at hrun tc eC
  clear hb5 HF ho7 hg7 ha7 hb7 hk7 ho5
  dsimp only
  refine hK.out _ _ t5 (fun hHeld => ?_)
  clear hK K
  repeat (rw [putL]; simp only [List.set])
  refine tk 47 ?_
  repeat (rw [putL]; simp only [List.set])
  refine wpAnyH_ready (rs := [48]) (by kernel_rfl) (by simp) ?_
  refine AllReadyH.cons rfl (fun K hK => ?_) (AllReadyH.nil)
  go_simp
  refine hK.out _ _ tc (fun hHeld => ?_)
  clear hK K
  repeat (rw [putL]; simp only [List.set])
  refine wpAnyH_ready (rs := [49]) (by kernel_rfl) (by simp) ?_
  refine AllReadyH.cons rfl (fun K hK => ?_) (AllReadyH.nil)
  refine step_append_run _ rfl _ _ _ _ rfl _ _ (by rfl) (by rfl) _ w7 hrun ?_
  refine hK.out _ _ td (fun hHeld => ?_)
  clear hK K
  repeat (rw [putL]; simp only [List.set])
  refine tk 50 ?_
  repeat (rw [putL]; simp only [List.set])
  refine tk 51 ?_
  repeat (rw [putL]; simp only [List.set])
  refine tk 52 ?_
  repeat (rw [putL]; simp only [List.set])
  refine wpAnyH_ready (rs := [53]) (by kernel_rfl) (by simp) ?_
  refine AllReadyH.cons rfl (fun K hK => ?_) (AllReadyH.nil)
  go_simp
  refine hK.out _ _ te (fun hHeld => ?_)
  clear hK K
  repeat (rw [putL]; simp only [List.set])
  refine wpAnyH_done (by kernel_rfl) ?_ _
  rotate_left 1
  go_simp
  go_at_call 116
  with_reducible refine G3.out.mono ?_
  rintro e we ⟨rfl, hb⟩
  have HEE := Lib.hid (HE.out.below hb)
  have BEE := Lib.hid (BE.out.trans (hb.mono (Nat.le_of_lt HE.out.lt)))
  have twe := HEE.out.cell0
  have ewe : we.cell? ⟨R, 5, none⟩ = some (.slice q.pp c.pkts.length q.cp) := by rw [HEE.out.blk.cell]; rfl
  clear hb
  have G4 := Lib.hid (get_false (c := cc) (P1.out.below BEE.out hb) (by decide) (Nat.lt_trans hb HEE.out.lt) (by omega))
  dsimp only
  refine hK.out _ _ twe (fun hHeld => ?_)
  clear hK K
  repeat (rw [putL]; simp only [List.set])
  refine tk 25 ?_
  repeat (rw [putL]; simp only [List.set])
  try simp only [hj, htt]
  refine wpAnyH_ready (rs := [5, 34]) (by kernel_rfl) (by simp) ?_
  refine AllReadyH.cons rfl (fun K hK => ?_) (AllReadyH.cons rfl (fun K hK => ?_) (AllReadyH.nil))
  go_simp
  refine hK.out _ _ twe (fun hHeld => ?_)
  clear hK K
  repeat (rw [putL]; simp only [List.set])
  refine wpAnyH_ready (rs := [34]) (by kernel_rfl) (by simp) ?_
  refine AllReadyH.cons rfl (fun K hK => ?_) (AllReadyH.nil)
  go_simp
  go_at_call 116
  with_reducible refine G4.out.mono ?_
  rintro e wf ⟨rfl, hb⟩
  have HFF := Lib.hid (HEE.out.below hb)
  have BFF := Lib.hid (BEE.out.trans (hb.mono (Nat.le_of_lt HEE.out.lt)))
  have twf := HFF.out.cell0
  have ewf : wf.cell? ⟨R, 5, none⟩ = some (.slice q.pp c.pkts.length q.cp) := by rw [HFF.out.blk.cell]; rfl
  clear hb
  have G5 := Lib.hid (get_false (c := cc - 16) (P5.out.below BFF.out hb) (by decide) (Nat.lt_trans hb HFF.out.lt) (by omega))
  dsimp only
  refine hK.out _ _ twf (fun hHeld => ?_)
  clear hK K
  repeat (rw [putL]; simp only [List.set])
  refine wpAnyH_ready (rs := [43]) (by kernel_rfl) (by simp) ?_
  refine AllReadyH.cons rfl (fun K hK => ?_) (AllReadyH.nil)
  go_simp
  go_at_call 116
  with_reducible refine G5.out.mono ?_
  rintro e wg ⟨rfl, hb⟩
  have HG := Lib.hid (HFF.out.below hb)
  have BG := Lib.hid (BFF.out.trans (hb.mono (Nat.le_of_lt HFF.out.lt)))
  have twg := HG.out.cell0
  have ewg : wg.cell? ⟨R, 5, none⟩ = some (.slice q.pp c.pkts.length q.cp) := by rw [HG.out.blk.cell]; rfl
  clear hb
  have CL := Lib.hid (CL0.out wg BG.out HG.out.lt)
  dsimp only
  refine hK.out _ _ twg (fun hHeld => ?_)
  clear hK K
  repeat (rw [putL]; simp only [List.set])
  refine wpAnyH_ready (rs := [45]) (by kernel_rfl) (by simp) ?_
  refine AllReadyH.cons rfl (fun K hK => ?_) (AllReadyH.nil)
  go_simp
  go_at_call 54
  with_reducible refine CL.out.mono ?_
  rintro e w5 hcl5
  obtain ⟨A5, c5, rfl, ho5, hb5⟩ := hcl5
  have H5 := Lib.hid (HG.out.below hb5)
  have B5 := Lib.hid (BG.out.trans (hb5.mono (Nat.le_of_lt HG.out.lt)))
  rw [HLA.out] at ho5 ⊢
  have t5 := H5.out.cell0
  obtain ⟨w0, rows, HF⟩ := H5.out.cap.pkts
  obtain ⟨A7, c7, w7, hrun, ho7, hg7, ha7, hb7⟩ := row_more (cs := (pktKd.row ⟨(t : Int), (fc : Int), (rl : Int), a, s⟩ (.slice A5 n c5))) Try.underlying25 info47 (by rfl) (by decide) (by decide) HF.own rfl (pktR.one _ _ _ _) (by omega) (Nat.le_of_lt H5.out.lt)
  have END := Lib.hid (And.intro (Rd.pkt (x := ⟨(t : Int), (fc : Int), (rl : Int), a, s⟩) H5.out HF ho7 hg7 ha7 HLA.out (own_mono ho5 (Nat.le_of_lt HG.out.lt)) HLT.out (by omega) hok (by omega)) ((B5.out.trans hb7).setCell (p := ⟨R, 5, none⟩) H5.out.le (.slice A7 (c.pkts.length + 1) c7)))
  have tc : (w5.alloc (.cells (pktKd.row ⟨(t : Int), (fc : Int), (rl : Int), a, s⟩ (.slice A5 n c5)).toArray 47)).cell? ⟨R, 0, none⟩ = some (.iface 97 (.agg #[])) := by rw [(H5.out.blk.alloc _).cell]; rfl
  have hk7 : Blk w7 R 70 (rdV (.iface 97 (.agg #[])) q c A np cp torn) := ha7.2 R 70 _ (by decide) H5.out.blk
  have td : w7.cell? ⟨R, 0, none⟩ = some (.iface 97 (.agg #[])) := by rw [hk7.cell]; rfl
  have e7 : w7.cell? ⟨R, 5, none⟩ = some (.slice q.pp c.pkts.length q.cp) := by rw [hk7.cell]; rfl
  have f7 : w7.frozen? ⟨R, 5, none⟩ = false := hk7.frozen 5
  have te : (w7.setCell ⟨R, 5, none⟩ (.slice A7 (c.pkts.length + 1) c7)).cell? ⟨R, 0, none⟩ = some (.iface 97 (.agg #[])) := by rw [(hk7.set_ 5 _).cell]; rfl
  have e5 : w5.cell? ⟨R, 5, none⟩ = some (.slice q.pp c.pkts.length q.cp) := by rw [H5.out.blk.cell]; rfl
  have eC : (w5.alloc (.cells (pktKd.row ⟨(t : Int), (fc : Int), (rl : Int), a, s⟩ (.slice A5 n c5)).toArray 47)).cell? ⟨R, 5, none⟩ = some (.slice q.pp c.pkts.length q.cp) := by rw [(H5.out.blk.alloc _).cell]; rfl
  simp only [pktKd] at hrun tc eC
  clear hb5 HF ho7 hg7 ha7 hb7 hk7 ho5
  dsimp only
  refine hK.out _ _ t5 (fun hHeld => ?_)
  clear hK K
  repeat (rw [putL]; simp only [List.set])
  refine tk 47 ?_
  repeat (rw [putL]; simp only [List.set])
  refine wpAnyH_ready (rs := [48]) (by kernel_rfl) (by simp) ?_
  refine AllReadyH.cons rfl (fun K hK => ?_) (AllReadyH.nil)
  go_simp
  refine hK.out _ _ tc (fun hHeld => ?_)
  clear hK K
  repeat (rw [putL]; simp only [List.set])
  refine wpAnyH_ready (rs := [49]) (by kernel_rfl) (by simp) ?_
  refine AllReadyH.cons rfl (fun K hK => ?_) (AllReadyH.nil)
  refine step_append_run _ rfl _ _ _ _ rfl _ _ (by rfl) (by rfl) _ w7 hrun ?_
  refine hK.out _ _ td (fun hHeld => ?_)
  clear hK K
  repeat (rw [putL]; simp only [List.set])
  refine tk 50 ?_
  repeat (rw [putL]; simp only [List.set])
  refine tk 51 ?_
  repeat (rw [putL]; simp only [List.set])
  refine tk 52 ?_
  repeat (rw [putL]; simp only [List.set])
  refine wpAnyH_ready (rs := [53]) (by kernel_rfl) (by simp) ?_
  refine AllReadyH.cons rfl (fun K hK => ?_) (AllReadyH.nil)
  go_simp
  refine hK.out _ _ te (fun hHeld => ?_)
  clear hK K
  repeat (rw [putL]; simp only [List.set])
  refine wpAnyH_done (by kernel_rfl) ?_ _
  rotate_left 1
  go_simp
  go_at_call 116
  with_reducible refine G4.out.mono ?_
  rintro e wf ⟨rfl, hb⟩
  have HFF := Lib.hid (HEE.out.below hb)
  have BFF := Lib.hid (BEE.out.trans (hb.mono (Nat.le_of_lt HEE.out.lt)))
  have twf := HFF.out.cell0
  have ewf : wf.cell? ⟨R, 5, none⟩ = some (.slice q.pp c.pkts.length q.cp) := by rw [HFF.out.blk.cell]; rfl
  clear hb
  have G5 := Lib.hid (get_false (c := cc - 16) (P5.out.below BFF.out hb) (by decide) (Nat.lt_trans hb HFF.out.lt) (by omega))
  dsimp only
  refine hK.out _ _ twf (fun hHeld => ?_)
  clear hK K
  repeat (rw [putL]; simp only [List.set])
  refine wpAnyH_ready (rs := [5, 43]) (by kernel_rfl) (by simp) ?_
  refine AllReadyH.cons rfl (fun K hK => ?_) (AllReadyH.cons rfl (fun K hK => ?_) (AllReadyH.nil))
  go_simp
  refine hK.out _ _ twf (fun hHeld => ?_)
  clear hK K
  repeat (rw [putL]; simp only [List.set])
  refine wpAnyH_ready (rs := [43]) (by kernel_rfl) (by simp) ?_
  refine AllReadyH.cons rfl (fun K hK => ?_) (AllReadyH.nil)
  go_simp
  go_at_call 116
  with_reducible refine G5.out.mono ?_
  rintro e wg ⟨rfl, hb⟩
  have HG := Lib.hid (HFF.out.below hb)
  have BG := Lib.hid (BFF.out.trans (hb.mono (Nat.le_of_lt HFF.out.lt)))
  have twg := HG.out.cell0
  have ewg : wg.cell? ⟨R, 5, none⟩ = some (.slice q.pp c.pkts.length q.cp) := by rw [HG.out.blk.cell]; rfl
  clear hb
  have CL := Lib.hid (CL0.out wg BG.out HG.out.lt)
  dsimp only
  refine hK.out _ _ twg (fun hHeld => ?_)
  clear hK K
  repeat (rw [putL]; simp only [List.set])
  refine wpAnyH_ready (rs := [45]) (by kernel_rfl) (by simp) ?_
  refine AllReadyH.cons rfl (fun K hK => ?_) (AllReadyH.nil)
  go_simp
  go_at_call 54
  with_reducible refine CL.out.mono ?_
  rintro e w5 hcl5
  obtain ⟨A5, c5, rfl, ho5, hb5⟩ := hcl5
  have H5 := Lib.hid (HG.out.below hb5)
  have B5 := Lib.hid (BG.out.trans (hb5.mono (Nat.le_of_lt HG.out.lt)))
  rw [HLA.out] at ho5 ⊢
  have t5 := H5.out.cell0
  obtain ⟨w0, rows, HF⟩ := H5.out.cap.pkts
  obtain ⟨A7, c7, w7, hrun, ho7, hg7, ha7, hb7⟩ := row_more (cs := (pktKd.row ⟨(t : Int), (fc : Int), (rl : Int), a, s⟩ (.slice A5 n c5))) Try.underlying25 info47 (by rfl) (by decide) (by decide) HF.own rfl (pktR.one _ _ _ _) (by omega) (Nat.le_of_lt H5.out.lt)
  have END := Lib.hid (And.intro (Rd.pkt (x := ⟨(t : Int), (fc : Int), (rl : Int), a, s⟩) H5.out HF ho7 hg7 ha7 HLA.out (own_mono ho5 (Nat.le_of_lt HG.out.lt)) HLT.out (by omega) hok (by omega)) ((B5.out.trans hb7).setCell (p := ⟨R, 5, none⟩) H5.out.le (.slice A7 (c.pkts.length + 1) c7)))
  have tc : (w5.alloc (.cells (pktKd.row ⟨(t : Int), (fc : Int), (rl : Int), a, s⟩ (.slice A5 n c5)).toArray 47)).cell? ⟨R, 0, none⟩ = some (.iface 97 (.agg #[])) := by rw [(H5.out.blk.alloc _).cell]; rfl
  have hk7 : Blk w7 R 70 (rdV (.iface 97 (.agg #[])) q c A np cp torn) := ha7.2 R 70 _ (by decide) H5.out.blk
  have td : w7.cell? ⟨R, 0, none⟩ = some (.iface 97 (.agg #[])) := by rw [hk7.cell]; rfl
  have e7 : w7.cell? ⟨R, 5, none⟩ = some (.slice q.pp c.pkts.length q.cp) := by rw [hk7.cell]; rfl
  have f7 : w7.frozen? ⟨R, 5, none⟩ = false := hk7.frozen 5
  have te : (w7.setCell ⟨R, 5, none⟩ (.slice A7 (c.pkts.length + 1) c7)).cell? ⟨R, 0, none⟩ = some (.iface 97 (.agg #[])) := by rw [(hk7.set_ 5 _).cell]; rfl
  have e5 : w5.cell? ⟨R, 5, none⟩ = some (.slice q.pp c.pkts.length q.cp) := by rw [H5.out.blk.cell]; rfl
  have eC : (w5.alloc (.cells (pktKd.row ⟨(t : Int), (fc : Int), (rl : Int), a, s⟩ (.slice A5 n c5)).toArray 47)).cell? ⟨R, 5, none⟩ = some (.slice q.pp c.pkts.length q.cp) := by rw [(H5.out.blk.alloc _).cell]; rfl
  simp only [pktKd] at hrun tc eC
  clear hb5 HF ho7 hg7 ha7 hb7 hk7 ho5
  dsimp only
  refine hK.out _ _ t5 (fun hHeld => ?_)
  clear hK K
  repeat (rw [putL]; simp only [List.set])
  refine tk 47 ?_
  repeat (rw [putL]; simp only [List.set])
  refine wpAnyH_ready (rs := [48]) (by kernel_rfl) (by simp) ?_
  refine AllReadyH.cons rfl (fun K hK => ?_) (AllReadyH.nil)
  go_simp
  refine hK.out _ _ tc (fun hHeld => ?_)
  clear hK K
  repeat (rw [putL]; simp only [List.set])
  refine wpAnyH_ready (rs := [49]) (by kernel_rfl) (by simp) ?_
  refine AllReadyH.cons rfl (fun K hK => ?_) (AllReadyH.nil)
  refine step_append_run _ rfl _ _ _ _ rfl _ _ (by rfl) (by rfl) _ w7 hrun ?_
  refine hK.out _ _ td (fun hHeld => ?_)
  clear hK K
  repeat (rw [putL]; simp only [List.set])
  refine tk 50 ?_
  repeat (rw [putL]; simp only [List.set])
  refine tk 51 ?_
  repeat (rw [putL]; simp only [List.set])
  refine tk 52 ?_
  repeat (rw [putL]; simp only [List.set])
  refine wpAnyH_ready (rs := [53]) (by kernel_rfl) (by simp) ?_
  refine AllReadyH.cons rfl (fun K hK => ?_) (AllReadyH.nil)
  go_simp
  refine hK.out _ _ te (fun hHeld => ?_)
  clear hK K
  repeat (rw [putL]; simp only [List.set])
  refine wpAnyH_done (by kernel_rfl) ?_ _
  rotate_left 1
  go_simp
  go_at_call 116
  with_reducible refine G5.out.mono ?_
  rintro e wg ⟨rfl, hb⟩
  have HG := Lib.hid (HFF.out.below hb)
  have BG := Lib.hid (BFF.out.trans (hb.mono (Nat.le_of_lt HFF.out.lt)))
  have twg := HG.out.cell0
  have ewg : wg.cell? ⟨R, 5, none⟩ = some (.slice q.pp c.pkts.length q.cp) := by rw [HG.out.blk.cell]; rfl
  clear hb
  have CL := Lib.hid (CL0.out wg BG.out HG.out.lt)
  dsimp only
  refine hK.out _ _ twg (fun hHeld => ?_)
  clear hK K
  repeat (rw [putL]; simp only [List.set])
  refine wpAnyH_ready (rs := [5, 45]) (by kernel_rfl) (by simp) ?_
  refine AllReadyH.cons rfl (fun K hK => ?_) (AllReadyH.cons rfl (fun K hK => ?_) (AllReadyH.nil))
  go_simp
  refine hK.out _ _ twg (fun hHeld => ?_)
  clear hK K
  repeat (rw [putL]; simp only [List.set])
  refine wpAnyH_ready (rs := [45]) (by kernel_rfl) (by simp) ?_
  refine AllReadyH.cons rfl (fun K hK => ?_) (AllReadyH.nil)
  go_simp
  go_at_call 54
  with_reducible refine CL.out.mono ?_
  rintro e w5 hcl5
  obtain ⟨A5, c5, rfl, ho5, hb5⟩ := hcl5
  have H5 := Lib.hid (HG.out.below hb5)
  have B5 := Lib.hid (BG.out.trans (hb5.mono (Nat.le_of_lt HG.out.lt)))
  rw [HLA.out] at ho5 ⊢
  have t5 := H5.out.cell0
  obtain ⟨w0, rows, HF⟩ := H5.out.cap.pkts
  obtain ⟨A7, c7, w7, hrun, ho7, hg7, ha7, hb7⟩ := row_more (cs := (pktKd.row ⟨(t : Int), (fc : Int), (rl : Int), a, s⟩ (.slice A5 n c5))) Try.underlying25 info47 (by rfl) (by decide) (by decide) HF.own rfl (pktR.one _ _ _ _) (by omega) (Nat.le_of_lt H5.out.lt)
  have END := Lib.hid (And.intro (Rd.pkt (x := ⟨(t : Int), (fc : Int), (rl : Int), a, s⟩) H5.out HF ho7 hg7 ha7 HLA.out (own_mono ho5 (Nat.le_of_lt HG.out.lt)) HLT.out (by omega) hok (by omega)) ((B5.out.trans hb7).setCell (p := ⟨R, 5, none⟩) H5.out.le (.slice A7 (c.pkts.length + 1) c7)))
  have tc : (w5.alloc (.cells (pktKd.row ⟨(t : Int), (fc : Int), (rl : Int), a, s⟩ (.slice A5 n c5)).toArray 47)).cell? ⟨R, 0, none⟩ = some (.iface 97 (.agg #[])) := by rw [(H5.out.blk.alloc _).cell]; rfl
  have hk7 : Blk w7 R 70 (rdV (.iface 97 (.agg #[])) q c A np cp torn) := ha7.2 R 70 _ (by decide) H5.out.blk
  have td : w7.cell? ⟨R, 0, none⟩ = some (.iface 97 (.agg #[])) := by rw [hk7.cell]; rfl
  have e7 : w7.cell? ⟨R, 5, none⟩ = some (.slice q.pp c.pkts.length q.cp) := by rw [hk7.cell]; rfl
  have f7 : w7.frozen? ⟨R, 5, none⟩ = false := hk7.frozen 5
  have te : (w7.setCell ⟨R, 5, none⟩ (.slice A7 (c.pkts.length + 1) c7)).cell? ⟨R, 0, none⟩ = some (.iface 97 (.agg #[])) := by rw [(hk7.set_ 5 _).cell]; rfl
  have e5 : w5.cell? ⟨R, 5, none⟩ = some (.slice q.pp c.pkts.length q.cp) := by rw [H5.out.blk.cell]; rfl
  have eC : (w5.alloc (.cells (pktKd.row ⟨(t : Int), (fc : Int), (rl : Int), a, s⟩ (.slice A5 n c5)).toArray 47)).cell? ⟨R, 5, none⟩ = some (.slice q.pp c.pkts.length q.cp) := by rw [(H5.out.blk.alloc _).cell]; rfl
  simp only [pktKd] at hrun tc eC
  clear hb5 HF ho7 hg7 ha7 hb7 hk7 ho5
  dsimp only
  refine hK.out _ _ t5 (fun hHeld => ?_)
  clear hK K
  repeat (rw [putL]; simp only [List.set])
  refine tk 47 ?_
  repeat (rw [putL]; simp only [List.set])
  refine wpAnyH_ready (rs := [48]) (by kernel_rfl) (by simp) ?_
  refine AllReadyH.cons rfl (fun K hK => ?_) (AllReadyH.nil)
  go_simp
  refine hK.out _ _ tc (fun hHeld => ?_)
  clear hK K
  repeat (rw [putL]; simp only [List.set])
  refine wpAnyH_ready (rs := [49]) (by kernel_rfl) (by simp) ?_
  refine AllReadyH.cons rfl (fun K hK => ?_) (AllReadyH.nil)
  refine step_append_run _ rfl _ _ _ _ rfl _ _ (by rfl) (by rfl) _ w7 hrun ?_
  refine hK.out _ _ td (fun hHeld => ?_)
  clear hK K
  repeat (rw [putL]; simp only [List.set])
  refine tk 50 ?_
  repeat (rw [putL]; simp only [List.set])
  refine tk 51 ?_
  repeat (rw [putL]; simp only [List.set])
  refine tk 52 ?_
  repeat (rw [putL]; simp only [List.set])
  refine wpAnyH_ready (rs := [53]) (by kernel_rfl) (by simp) ?_
  refine AllReadyH.cons rfl (fun K hK => ?_) (AllReadyH.nil)
  go_simp
  refine hK.out _ _ te (fun hHeld => ?_)
  clear hK K
  repeat (rw [putL]; simp only [List.set])
  refine wpAnyH_done (by kernel_rfl) ?_ _
  rotate_left 1
  go_simp
  go_at_call 54
  with_reducible refine CL.out.mono ?_
  rintro e w5 hcl5
  obtain ⟨A5, c5, rfl, ho5, hb5⟩ := hcl5
  have H5 := Lib.hid (HG.out.below hb5)
  have B5 := Lib.hid (BG.out.trans (hb5.mono (Nat.le_of_lt HG.out.lt)))
  rw [HLA.out] at ho5 ⊢
  have t5 := H5.out.cell0
  obtain ⟨w0, rows, HF⟩ := H5.out.cap.pkts
  obtain ⟨A7, c7, w7, hrun, ho7, hg7, ha7, hb7⟩ := row_more (cs := (pktKd.row ⟨(t : Int), (fc : Int), (rl : Int), a, s⟩ (.slice A5 n c5))) Try.underlying25 info47 (by rfl) (by decide) (by decide) HF.own rfl (pktR.one _ _ _ _) (by omega) (Nat.le_of_lt H5.out.lt)
  have END := Lib.hid (And.intro (Rd.pkt (x := ⟨(t : Int), (fc : Int), (rl : Int), a, s⟩) H5.out HF ho7 hg7 ha7 HLA.out (own_mono ho5 (Nat.le_of_lt HG.out.lt)) HLT.out (by omega) hok (by omega)) ((B5.out.trans hb7).setCell (p := ⟨R, 5, none⟩) H5.out.le (.slice A7 (c.pkts.length + 1) c7)))
  have tc : (w5.alloc (.cells (pktKd.row ⟨(t : Int), (fc : Int), (rl : Int), a, s⟩ (.slice A5 n c5)).toArray 47)).cell? ⟨R, 0, none⟩ = some (.iface 97 (.agg #[])) := by rw [(H5.out.blk.alloc _).cell]; rfl
  have hk7 : Blk w7 R 70 (rdV (.iface 97 (.agg #[])) q c A np cp torn) := ha7.2 R 70 _ (by decide) H5.out.blk
  have td : w7.cell? ⟨R, 0, none⟩ = some (.iface 97 (.agg #[])) := by rw [hk7.cell]; rfl
  have e7 : w7.cell? ⟨R, 5, none⟩ = some (.slice q.pp c.pkts.length q.cp) := by rw [hk7.cell]; rfl
  have f7 : w7.frozen? ⟨R, 5, none⟩ = false := hk7.frozen 5
  have te : (w7.setCell ⟨R, 5, none⟩ (.slice A7 (c.pkts.length + 1) c7)).cell? ⟨R, 0, none⟩ = some (.iface 97 (.agg #[])) := by rw [(hk7.set_ 5 _).cell]; rfl
  have e5 : w5.cell? ⟨R, 5, none⟩ = some (.slice q.pp c.pkts.length q.cp) := by rw [H5.out.blk.cell]; rfl
  have eC : (w5.alloc (.cells (pktKd.row ⟨(t : Int), (fc : Int), (rl : Int), a, s⟩ (.slice A5 n c5)).toArray 47)).cell? ⟨R, 5, none⟩ = some (.slice q.pp c.pkts.length q.cp) := by rw [(H5.out.blk.alloc _).cell]; rfl
  simp only [pktKd] at hrun tc eC
  clear hb5 HF ho7 hg7 ha7 hb7 hk7 ho5
  dsimp only
  refine hK.out _ _ t5 (fun hHeld => ?_)
  clear hK K
  repeat (rw [putL]; simp only [List.set])
  refine tk 47 ?_
  repeat (rw [putL]; simp only [List.set])
  refine wpAnyH_ready (rs := [5, 48]) (by kernel_rfl) (by simp) ?_
  refine AllReadyH.cons rfl (fun K hK => ?_) (AllReadyH.cons rfl (fun K hK => ?_) (AllReadyH.nil))
  go_simp
  refine hK.out _ _ t5 (fun hHeld => ?_)
  clear hK K
  repeat (rw [putL]; simp only [List.set])
  refine wpAnyH_ready (rs := [48]) (by kernel_rfl) (by simp) ?_
  refine AllReadyH.cons rfl (fun K hK => ?_) (AllReadyH.nil)
  go_simp
  refine hK.out _ _ tc (fun hHeld => ?_)
  clear hK K
  repeat (rw [putL]; simp only [List.set])
  refine wpAnyH_ready (rs := [49]) (by kernel_rfl) (by simp) ?_
  refine AllReadyH.cons rfl (fun K hK => ?_) (AllReadyH.nil)
  refine step_append_run _ rfl _ _ _ _ rfl _ _ (by rfl) (by rfl) _ w7 hrun ?_
  refine hK.out _ _ td (fun hHeld => ?_)
  clear hK K
  repeat (rw [putL]; simp only [List.set])
  refine tk 50 ?_
  repeat (rw [putL]; simp only [List.set])
  refine tk 51 ?_
  repeat (rw [putL]; simp only [List.set])
  refine tk 52 ?_
  repeat (rw [putL]; simp only [List.set])
  refine wpAnyH_ready (rs := [53]) (by kernel_rfl) (by simp) ?_
  refine AllReadyH.cons rfl (fun K hK => ?_) (AllReadyH.nil)
  go_simp
  refine hK.out _ _ te (fun hHeld => ?_)
  clear hK K
  repeat (rw [putL]; simp only [List.set])
  refine wpAnyH_done (by kernel_rfl) ?_ _
  rotate_left 1
  go_simp
  refine hK.out _ _ tc (fun hHeld => ?_)
  clear hK K
  repeat (rw [putL]; simp only [List.set])
  refine wpAnyH_ready (rs := [5]) (by kernel_rfl) (by simp) ?_
  refine AllReadyH.cons rfl (fun K hK => ?_) (AllReadyH.nil)
  go_simp
  refine hK.out _ _ tc (fun hHeld => ?_)
  clear hK K
  repeat (rw [putL]; simp only [List.set])
  refine wpAnyH_ready (rs := [49]) (by kernel_rfl) (by simp) ?_
  refine AllReadyH.cons rfl (fun K hK => ?_) (AllReadyH.nil)
  refine step_append_run _ rfl _ _ _ _ rfl _ _ (by rfl) (by rfl) _ w7 hrun ?_
  refine hK.out _ _ td (fun hHeld => ?_)
  clear hK K
  repeat (rw [putL]; simp only [List.set])
  refine tk 50 ?_
  repeat (rw [putL]; simp only [List.set])
  refine tk 51 ?_
  repeat (rw [putL]; simp only [List.set])
  refine tk 52 ?_
  repeat (rw [putL]; simp only [List.set])
  refine wpAnyH_ready (rs := [53]) (by kernel_rfl) (by simp) ?_
  refine AllReadyH.cons rfl (fun K hK => ?_) (AllReadyH.nil)
  go_simp
  refine hK.out _ _ te (fun hHeld => ?_)
  clear hK K
  repeat (rw [putL]; simp only [List.set])
  refine wpAnyH_done (by kernel_rfl) ?_ _
  all_goals
    go_wp2_with fail
    go_ret
    exact ⟨rfl, ⟨_, END.out.1⟩, END.out.2⟩

theorem pkt_any (low : Bool) {w : World} {R b np torn cp b0 o L cc fc t rl : Nat} {q : Pl} {c : Cap} {A : Option Addr} {xs : List Value} {s : ByteArray} {a : List Nat} (h : Rd w R b (ordV low) q A cp xs c np torn)
    (hp : Pc w b0 o (pktBy low fc t rl a s)) (hL : (pktBy low fc t rl a s).length = L) (hc : L < cc) (hb : b0 < b) (hs : s.size ≤ 200) (ha : a.length ≤ 400) (hfc : fc < 65536) (ht : t ≤ 1000000000000000) (hrl : rl ≤ 1000000) (hn : c.pkts.length < 1000) :
    Calls Try.prog 82 #[.pointer (some ⟨R, 0, none⟩), .slice (some ⟨b0, o, none⟩) L cc] w fun e w' => e = .returned (.bool true) ∧ (∃ q', Rd w' R b (ordV low) q' A cp xs ⟨c.note, c.faces, c.names, c.secs, c.pkts ++ [⟨(t : Int), (fc : Int), (rl : Int), a, s⟩]⟩ np torn) ∧ Below b w w' := by
  cases low with
  | true => exact pkt_true h hp hL hc hb hs ha hfc ht hrl hn
  | false => exact pkt_false h hp hL hc hb hs ha hfc ht hrl hn
end Go.Proofs.Ytlimkckomdipkaa
