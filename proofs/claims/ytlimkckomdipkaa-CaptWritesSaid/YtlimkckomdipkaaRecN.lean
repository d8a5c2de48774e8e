/- A record of the old kind, read. -/
import Derived.Test.YtlimkckomdipkaaRd2
import Derived.Deep.RegionHeld3
import Derived.Test.YtlimkckomdipkaaMem
import Derived.Test.YtlimkckomdipkaaTky
namespace Go.Proofs.Ytlimkckomdipkaa
open Go.RowKit

set_option maxRecDepth 100000 in
set_option maxHeartbeats 16000000 in
theorem rec0_true {w : World} {R b np torn cp b0 o cc t rl L : Nat} {q : Pl} {c : Cap} {A : Option Addr} {xs : List Value} {a : List Nat} (h : Rd w R b (.iface 96 (.agg #[])) q A cp xs c np torn)
    (hp : Pc w b0 o (numsB true 4 [t / 1000000, t % 1000000, a.length, rl] ++ a)) (hL : L = 16 + a.length) (hc : cc = 16) (hc0 : a = []) (hb : b0 < b) (_ : a.length ≤ 400) (ht : t ≤ 1000000000000000) (hrl : rl ≤ 1000000) (hn : c.pkts.length < 1000) :
    Calls Try.prog 76 #[.pointer (some ⟨R, 0, none⟩), .slice (some ⟨b0, o, none⟩) L cc] w fun e w' => e = .returned (.tuple #[]) ∧ (∃ q', Rd w' R b (.iface 96 (.agg #[])) q' A cp xs ⟨c.note, c.faces, c.names, c.secs, c.pkts ++ [⟨(t : Int), 0, (rl : Int), a, ⟨#[]⟩⟩]⟩ np torn) ∧ Below b w w' := by
  obtain ⟨n, hla⟩ : ∃ n, a.length = n := ⟨_, rfl⟩
  subst hc
  have hn0 : n = 0 := by rw [← hla, hc0]; rfl
  obtain ⟨hi, hhi⟩ : ∃ hi, t / 1000000 = hi := ⟨_, rfl⟩
  obtain ⟨lo, hlo⟩ : ∃ lo, t % 1000000 = lo := ⟨_, rfl⟩
  have hl2 : (numsB true 4 [hi, lo, n, rl]).length = 16 := by rw [numsB_len]; rfl
  rw [hla, hhi, hlo] at hp
  have hbw : b0 < w.heap.size := by have := h.lt; omega
  have hq := hp.left
  rw [numsB_cons, numsB_cons, numsB_cons, numsB_one] at hq
  have P1 : Hid (Pc w b0 o (numB true 4 hi)) := Lib.hid hq.left
  have hq1 := hq.right
  rw [numB_len2] at hq1
  have P2 : Hid (Pc w b0 (o + 4) (numB true 4 lo)) := Lib.hid hq1.left
  have hq2 := hq1.right
  rw [numB_len2] at hq2
  have hq3 := hq2.right
  rw [numB_len2] at hq3
  have P4 : Hid (Pc w b0 (o + 12) (numB true 4 rl)) := Lib.hid (hq3.at_ (by omega))
  have hr := hp.right
  rw [hl2] at hr
  have PA : Hid (Pc w b0 (o + 16) a) := Lib.hid hr
  have HLA := Lib.hid hla
  have HLT := Lib.hid PA.out.lt
  have hok : pktKd.ok ⟨(t : Int), 0, (rl : Int), a, ⟨#[]⟩⟩ := by
    refine ⟨by show ByteArray.size ⟨#[]⟩ ≤ _; simp [ByteArray.size], ⟨?_, ?_⟩, ⟨?_, ?_⟩, ⟨?_, ?_⟩⟩ <;> simp only [] <;> omega
  have hhi2 : hi ≤ 1000000000 := by omega
  have hloB : lo < 1000000 := by omega
  have hn4 : n ≤ 400 := by omega
  have hwr : IntKind.i64.wrap ((hi : Int) * 1000000) = (hi : Int) * 1000000 := by rw [IntKind.wrap_i64]; omega
  have hwt : IntKind.i64.wrap (t : Int) = (t : Int) := by rw [IntKind.wrap_i64]; omega
  have htt : (hi : Int) * 1000000 + (lo : Int) = (t : Int) := by omega
  have HD := Lib.hid h.drew
  have BD : Hid (Below b w w.drew) := Lib.hid (Below.refl _ w).drew
  have td0 : w.drew.cell? ⟨R, 0, none⟩ = some (.iface 96 (.agg #[])) := HD.out.cell0
  have e0 : w.drew.cell? ⟨R, 5, none⟩ = some (.slice q.pp c.pkts.length q.cp) := by rw [HD.out.blk.cell]; rfl
  have G1 := Lib.hid (get_true (c := 16) (P1.out.below BD.out hb) (by decide) (Nat.lt_trans hb HD.out.lt) (by omega))
  have CL0 : Hid (∀ (w' : World), Below b w w' → b < w'.heap.size → Calls Try.prog 54 #[.slice (some ⟨b0, o, none⟩) n 0] w' (ClonePost w' a)) := Lib.hid (fun w' hw' k => by rw [hn0, hc0]; exact bclone_any (bs := []) ⟨⟨by simp, fun h => absurd h (by simp)⟩, Nat.le_refl _, by simp, fun e => by cases e⟩)
  try rw [hla] at CL0
  have hk1 : (16 : Int) ≤ (L : Int) := by omega
  have hk2 : (16 : Int) ≤ (16 : Int) := by omega
  have hk4 : (12 : Int) ≤ (16 : Int) := by omega
  have hk5 : (8 : Int) ≤ (16 : Int) := by omega
  have hk6 : (4 : Int) ≤ (16 : Int) := by omega
  have hi2 : ¬ 16 = 12 := by omega
  have hi3 : ¬ 16 = 8 := by omega
  have hi4 : ¬ 16 = 4 := by omega
  have hLn : L - 16 = n := by omega
  have nah : ∀ (w : World), (nilAhead 246 96 (.agg #[]) "wireglass/capt.get").run Try.prog w = .ok (some false) w := fun w => by kernel_rfl
  have mth : ∀ (w : World), (method 246 96 (.agg #[]) "wireglass/capt.get").run Try.prog w = .ok (114, .agg #[]) w := fun w => by kernel_rfl
  have hncc : 16 + n ≤ 16 := by omega
  clear hL hn0 h hp hq hq1 hq2 hq3 hr hl2 hla hhi hlo
  go_enter Try.func76, Try.ntmps76
  go_wp2_with fail
  refine wp_region_held_drew (S := fun w' => w'.cell? ⟨R, 0, none⟩ = some (.iface 96 (.agg #[]))) (by kernel_rfl) td0 (fun hHeld => ?_)
  refine tky 0 ?_
  repeat (rw [putL]; simp only [List.set])
  refine tky 1 ?_
  repeat (rw [putL]; simp only [List.set])
  refine tky 2 ?_
  repeat (rw [putL]; simp only [List.set])
  refine tky 3 ?_
  repeat (rw [putL]; simp only [List.set])
  refine tky 4 ?_
  repeat (rw [putL]; simp only [List.set])
  refine tky 6 ?_
  repeat (rw [putL]; simp only [List.set])
  refine tky 7 ?_
  repeat (rw [putL]; simp only [List.set])
  refine tky 8 ?_
  repeat (rw [putL]; simp only [List.set])
  refine tky 9 ?_
  repeat (rw [putL]; simp only [List.set])
  refine tky 10 ?_
  repeat (rw [putL]; simp only [List.set])
  refine tky 11 ?_
  repeat (rw [putL]; simp only [List.set])
  refine tky 12 ?_
  repeat (rw [putL]; simp only [List.set])
  refine tky 13 ?_
  repeat (rw [putL]; simp only [List.set])
  refine tky 16 ?_
  repeat (rw [putL]; simp only [List.set])
  refine tky 17 ?_
  repeat (rw [putL]; simp only [List.set])
  refine tky 18 ?_
  repeat (rw [putL]; simp only [List.set])
  refine tky 19 ?_
  repeat (rw [putL]; simp only [List.set])
  refine tky 20 ?_
  repeat (rw [putL]; simp only [List.set])
  refine tky 21 ?_
  repeat (rw [putL]; simp only [List.set])
  refine tky 22 ?_
  repeat (rw [putL]; simp only [List.set])
  refine tky 23 ?_
  repeat (rw [putL]; simp only [List.set])
  refine tky 26 ?_
  repeat (rw [putL]; simp only [List.set])
  refine tky 27 ?_
  repeat (rw [putL]; simp only [List.set])
  refine tky 28 ?_
  repeat (rw [putL]; simp only [List.set])
  refine tky 29 ?_
  repeat (rw [putL]; simp only [List.set])
  refine tky 30 ?_
  repeat (rw [putL]; simp only [List.set])
  refine tky 31 ?_
  repeat (rw [putL]; simp only [List.set])
  refine tky 32 ?_
  repeat (rw [putL]; simp only [List.set])
  refine tky 33 ?_
  repeat (rw [putL]; simp only [List.set])
  refine tky 35 ?_
  repeat (rw [putL]; simp only [List.set])
  refine tky 36 ?_
  repeat (rw [putL]; simp only [List.set])
  refine wpAnyH_ready (rs := [5, 14]) (by kernel_rfl) (by simp) ?_
  refine rdy rfl (fun K hK => ?_) (rdy rfl (fun K hK => ?_) (AllReadyH.nil))
  go_simp
  refine hK.out _ _ td0 (fun hHeld => ?_)
  clear hK K
  repeat (rw [putL]; simp only [List.set])
  refine wpAnyH_ready (rs := [14]) (by kernel_rfl) (by simp) ?_
  refine rdy rfl (fun K hK => ?_) (AllReadyH.nil)
  go_simp
  go_at_call 114
  with_reducible refine G1.out.mono ?_
  rintro e wd ⟨rfl, hb⟩
  have HE := Lib.hid (HD.out.below hb)
  have BE := Lib.hid (BD.out.trans (hb.mono (Nat.le_of_lt HD.out.lt)))
  have twd := HE.out.cell0
  have ewd : wd.cell? ⟨R, 5, none⟩ = some (.slice q.pp c.pkts.length q.cp) := by rw [HE.out.blk.cell]; rfl
  clear hb
  have G2 := Lib.hid (get_true (c := 12) (P2.out.below BE.out hb) (by decide) (Nat.lt_trans hb HE.out.lt) (by omega))
  dsimp only
  refine hK.out _ _ twd (fun hHeld => ?_)
  clear hK K
  repeat (rw [putL]; simp only [List.set])
  refine tky 15 ?_
  repeat (rw [putL]; simp only [List.set])
  try simp only [hwr]
  refine wpAnyH_ready (rs := [24]) (by kernel_rfl) (by simp) ?_
  refine rdy rfl (fun K hK => ?_) (AllReadyH.nil)
  go_simp
  go_at_call 114
  with_reducible refine G2.out.mono ?_
  rintro e we ⟨rfl, hb⟩
  have HEE := Lib.hid (HE.out.below hb)
  have BEE := Lib.hid (BE.out.trans (hb.mono (Nat.le_of_lt HE.out.lt)))
  have twe := HEE.out.cell0
  have ewe : we.cell? ⟨R, 5, none⟩ = some (.slice q.pp c.pkts.length q.cp) := by rw [HEE.out.blk.cell]; rfl
  clear hb
  have G3 := Lib.hid (get_true (c := 4) (P4.out.below BEE.out hb) (by decide) (Nat.lt_trans hb HEE.out.lt) (by omega))
  dsimp only
  refine hK.out _ _ twe (fun hHeld => ?_)
  clear hK K
  repeat (rw [putL]; simp only [List.set])
  refine tky 25 ?_
  repeat (rw [putL]; simp only [List.set])
  try simp only [htt, hwt]
  refine wpAnyH_ready (rs := [34]) (by kernel_rfl) (by simp) ?_
  refine rdy rfl (fun K hK => ?_) (AllReadyH.nil)
  go_simp
  go_at_call 114
  with_reducible refine G3.out.mono ?_
  rintro e wg ⟨rfl, hb⟩
  have HG := Lib.hid (HEE.out.below hb)
  have BG := Lib.hid (BEE.out.trans (hb.mono (Nat.le_of_lt HEE.out.lt)))
  have twg := HG.out.cell0
  have ewg : wg.cell? ⟨R, 5, none⟩ = some (.slice q.pp c.pkts.length q.cp) := by rw [HG.out.blk.cell]; rfl
  clear hb
  have CL := Lib.hid (CL0.out wg BG.out HG.out.lt)
  dsimp only
  refine hK.out _ _ twg (fun hHeld => ?_)
  clear hK K
  repeat (rw [putL]; simp only [List.set])
  refine wpAnyH_ready (rs := [37]) (by kernel_rfl) (by simp) ?_
  refine rdy rfl (fun K hK => ?_) (AllReadyH.nil)
  go_simp
  go_at_call 54
  with_reducible refine CL.out.mono ?_
  rintro e w5 hcl5
  obtain ⟨A5, c5, rfl, ho5, hb5⟩ := hcl5
  have H5 := Lib.hid (HG.out.below hb5)
  have B5 := Lib.hid (BG.out.trans (hb5.mono (Nat.le_of_lt HG.out.lt)))
  rw [HLA.out] at ho5 ⊢
  have t5 := H5.out.cell0
  obtain ⟨w0, rows, HF⟩ := H5.out.cap.pkts
  obtain ⟨A7, c7, w7, hrun, ho7, hg7, ha7, hb7⟩ := row_more (cs := (pktKd.row ⟨(t : Int), 0, (rl : Int), a, ⟨#[]⟩⟩ (.slice A5 n c5))) Try.underlying25 info47 (by rfl) (by decide) (by decide) HF.own rfl (pktR.one _ _ _ _) (by omega) (Nat.le_of_lt H5.out.lt)
  have END := Lib.hid (And.intro (Rd.pkt (x := ⟨(t : Int), 0, (rl : Int), a, ⟨#[]⟩⟩) H5.out HF ho7 hg7 ha7 HLA.out (own_mono ho5 (Nat.le_of_lt HG.out.lt)) HLT.out (by omega) hok (by omega)) ((B5.out.trans hb7).setCell (p := ⟨R, 5, none⟩) H5.out.le (.slice A7 (c.pkts.length + 1) c7)))
  have tc : (w5.alloc (.cells (pktKd.row ⟨(t : Int), 0, (rl : Int), a, ⟨#[]⟩⟩ (.slice A5 n c5)).toArray 47)).cell? ⟨R, 0, none⟩ = some (.iface 96 (.agg #[])) := by rw [(H5.out.blk.alloc _).cell]; rfl
  have hk7 : Blk w7 R 70 (rdV (.iface 96 (.agg #[])) q c A np cp torn) := ha7.2 R 70 _ (by decide) H5.out.blk
  have td : w7.cell? ⟨R, 0, none⟩ = some (.iface 96 (.agg #[])) := by rw [hk7.cell]; rfl
  have e7 : w7.cell? ⟨R, 5, none⟩ = some (.slice q.pp c.pkts.length q.cp) := by rw [hk7.cell]; rfl
  have f7 : w7.frozen? ⟨R, 5, none⟩ = false := hk7.frozen 5
  have te : (w7.setCell ⟨R, 5, none⟩ (.slice A7 (c.pkts.length + 1) c7)).cell? ⟨R, 0, none⟩ = some (.iface 96 (.agg #[])) := by rw [(hk7.set_ 5 _).cell]; rfl
  have e5 : w5.cell? ⟨R, 5, none⟩ = some (.slice q.pp c.pkts.length q.cp) := by rw [H5.out.blk.cell]; rfl
  have eC : (w5.alloc (.cells (pktKd.row ⟨(t : Int), 0, (rl : Int), a, ⟨#[]⟩⟩ (.slice A5 n c5)).toArray 47)).cell? ⟨R, 5, none⟩ = some (.slice q.pp c.pkts.length q.cp) := by rw [(H5.out.blk.alloc _).cell]; rfl
  simp only [pktKd] at hrun tc eC
  clear hb5 HF ho7 hg7 ha7 hb7 hk7 ho5
  dsimp only
  refine hK.out _ _ t5 (fun hHeld => ?_)
  clear hK K
  repeat (rw [putL]; simp only [List.set])
  refine tky 38 ?_
  repeat (rw [putL]; simp only [List.set])
  refine wpAnyH_ready (rs := [39]) (by kernel_rfl) (by simp) ?_
  refine rdy rfl (fun K hK => ?_) (AllReadyH.nil)
  go_simp
  refine hK.out _ _ tc (fun hHeld => ?_)
  clear hK K
  repeat (rw [putL]; simp only [List.set])
  refine wpAnyH_ready (rs := [40]) (by kernel_rfl) (by simp) ?_
  refine rdy rfl (fun K hK => ?_) (AllReadyH.nil)
  refine step_append_run _ rfl _ _ _ _ rfl _ _ (by rfl) (by rfl) _ w7 hrun ?_
  refine hK.out _ _ td (fun hHeld => ?_)
  clear hK K
  repeat (rw [putL]; simp only [List.set])
  refine tky 41 ?_
  repeat (rw [putL]; simp only [List.set])
  refine tky 42 ?_
  repeat (rw [putL]; simp only [List.set])
  refine tky 43 ?_
  repeat (rw [putL]; simp only [List.set])
  refine wpAnyH_ready (rs := [44]) (by kernel_rfl) (by simp) ?_
  refine rdy rfl (fun K hK => ?_) (AllReadyH.nil)
  go_simp
  refine hK.out _ _ te (fun hHeld => ?_)
  clear hK K
  repeat (rw [putL]; simp only [List.set])
  refine wpAnyH_done (by kernel_rfl) ?_ _
  rotate_left 1
  go_simp
  go_at_call 114
  with_reducible refine G1.out.mono ?_
  rintro e wd ⟨rfl, hb⟩
  have HE := Lib.hid (HD.out.below hb)
  have BE := Lib.hid (BD.out.trans (hb.mono (Nat.le_of_lt HD.out.lt)))
  have twd := HE.out.cell0
  have ewd : wd.cell? ⟨R, 5, none⟩ = some (.slice q.pp c.pkts.length q.cp) := by rw [HE.out.blk.cell]; rfl
  clear hb
  have G2 := Lib.hid (get_true (c := 12) (P2.out.below BE.out hb) (by decide) (Nat.lt_trans hb HE.out.lt) (by omega))
  dsimp only
  refine hK.out _ _ twd (fun hHeld => ?_)
  clear hK K
  repeat (rw [putL]; simp only [List.set])
  refine tky 15 ?_
  repeat (rw [putL]; simp only [List.set])
  try simp only [hwr]
  refine wpAnyH_ready (rs := [5, 24]) (by kernel_rfl) (by simp) ?_
  refine rdy rfl (fun K hK => ?_) (rdy rfl (fun K hK => ?_) (AllReadyH.nil))
  go_simp
  refine hK.out _ _ twd (fun hHeld => ?_)
  clear hK K
  repeat (rw [putL]; simp only [List.set])
  refine wpAnyH_ready (rs := [24]) (by kernel_rfl) (by simp) ?_
  refine rdy rfl (fun K hK => ?_) (AllReadyH.nil)
  go_simp
  go_at_call 114
  with_reducible refine G2.out.mono ?_
  rintro e we ⟨rfl, hb⟩
  have HEE := Lib.hid (HE.out.below hb)
  have BEE := Lib.hid (BE.out.trans (hb.mono (Nat.le_of_lt HE.out.lt)))
  have twe := HEE.out.cell0
  have ewe : we.cell? ⟨R, 5, none⟩ = some (.slice q.pp c.pkts.length q.cp) := by rw [HEE.out.blk.cell]; rfl
  clear hb
  have G3 := Lib.hid (get_true (c := 4) (P4.out.below BEE.out hb) (by decide) (Nat.lt_trans hb HEE.out.lt) (by omega))
  dsimp only
  refine hK.out _ _ twe (fun hHeld => ?_)
  clear hK K
  repeat (rw [putL]; simp only [List.set])
  refine tky 25 ?_
  repeat (rw [putL]; simp only [List.set])
  try simp only [htt, hwt]
  refine wpAnyH_ready (rs := [34]) (by kernel_rfl) (by simp) ?_
  refine rdy rfl (fun K hK => ?_) (AllReadyH.nil)
  go_simp
  go_at_call 114
  with_reducible refine G3.out.mono ?_
  rintro e wg ⟨rfl, hb⟩
  have HG := Lib.hid (HEE.out.below hb)
  have BG := Lib.hid (BEE.out.trans (hb.mono (Nat.le_of_lt HEE.out.lt)))
  have twg := HG.out.cell0
  have ewg : wg.cell? ⟨R, 5, none⟩ = some (.slice q.pp c.pkts.length q.cp) := by rw [HG.out.blk.cell]; rfl
  clear hb
  have CL := Lib.hid (CL0.out wg BG.out HG.out.lt)
  dsimp only
  refine hK.out _ _ twg (fun hHeld => ?_)
  clear hK K
  repeat (rw [putL]; simp only [List.set])
  refine wpAnyH_ready (rs := [37]) (by kernel_rfl) (by simp) ?_
  refine rdy rfl (fun K hK => ?_) (AllReadyH.nil)
  go_simp
  go_at_call 54
  with_reducible refine CL.out.mono ?_
  rintro e w5 hcl5
  obtain ⟨A5, c5, rfl, ho5, hb5⟩ := hcl5
  have H5 := Lib.hid (HG.out.below hb5)
  have B5 := Lib.hid (BG.out.trans (hb5.mono (Nat.le_of_lt HG.out.lt)))
  rw [HLA.out] at ho5 ⊢
  have t5 := H5.out.cell0
  obtain ⟨w0, rows, HF⟩ := H5.out.cap.pkts
  obtain ⟨A7, c7, w7, hrun, ho7, hg7, ha7, hb7⟩ := row_more (cs := (pktKd.row ⟨(t : Int), 0, (rl : Int), a, ⟨#[]⟩⟩ (.slice A5 n c5))) Try.underlying25 info47 (by rfl) (by decide) (by decide) HF.own rfl (pktR.one _ _ _ _) (by omega) (Nat.le_of_lt H5.out.lt)
  have END := Lib.hid (And.intro (Rd.pkt (x := ⟨(t : Int), 0, (rl : Int), a, ⟨#[]⟩⟩) H5.out HF ho7 hg7 ha7 HLA.out (own_mono ho5 (Nat.le_of_lt HG.out.lt)) HLT.out (by omega) hok (by omega)) ((B5.out.trans hb7).setCell (p := ⟨R, 5, none⟩) H5.out.le (.slice A7 (c.pkts.length + 1) c7)))
  have tc : (w5.alloc (.cells (pktKd.row ⟨(t : Int), 0, (rl : Int), a, ⟨#[]⟩⟩ (.slice A5 n c5)).toArray 47)).cell? ⟨R, 0, none⟩ = some (.iface 96 (.agg #[])) := by rw [(H5.out.blk.alloc _).cell]; rfl
  have hk7 : Blk w7 R 70 (rdV (.iface 96 (.agg #[])) q c A np cp torn) := ha7.2 R 70 _ (by decide) H5.out.blk
  have td : w7.cell? ⟨R, 0, none⟩ = some (.iface 96 (.agg #[])) := by rw [hk7.cell]; rfl
  have e7 : w7.cell? ⟨R, 5, none⟩ = some (.slice q.pp c.pkts.length q.cp) := by rw [hk7.cell]; rfl
  have f7 : w7.frozen? ⟨R, 5, none⟩ = false := hk7.frozen 5
  have te : (w7.setCell ⟨R, 5, none⟩ (.slice A7 (c.pkts.length + 1) c7)).cell? ⟨R, 0, none⟩ = some (.iface 96 (.agg #[])) := by rw [(hk7.set_ 5 _).cell]; rfl
  have e5 : w5.cell? ⟨R, 5, none⟩ = some (.slice q.pp c.pkts.length q.cp) := by rw [H5.out.blk.cell]; rfl
  have eC : (w5.alloc (.cells (pktKd.row ⟨(t : Int), 0, (rl : Int), a, ⟨#[]⟩⟩ (.slice A5 n c5)).toArray 47)).cell? ⟨R, 5, none⟩ = some (.slice q.pp c.pkts.length q.cp) := by rw [(H5.out.blk.alloc _).cell]; rfl
  simp only [pktKd] at hrun tc eC
  clear hb5 HF ho7 hg7 ha7 hb7 hk7 ho5
  dsimp only
  refine hK.out _ _ t5 (fun hHeld => ?_)
  clear hK K
  repeat (rw [putL]; simp only [List.set])
  refine tky 38 ?_
  repeat (rw [putL]; simp only [List.set])
  refine wpAnyH_ready (rs := [39]) (by kernel_rfl) (by simp) ?_
  refine rdy rfl (fun K hK => ?_) (AllReadyH.nil)
  go_simp
  refine hK.out _ _ tc (fun hHeld => ?_)
  clear hK K
  repeat (rw [putL]; simp only [List.set])
  refine wpAnyH_ready (rs := [40]) (by kernel_rfl) (by simp) ?_
  refine rdy rfl (fun K hK => ?_) (AllReadyH.nil)
  refine step_append_run _ rfl _ _ _ _ rfl _ _ (by rfl) (by rfl) _ w7 hrun ?_
  refine hK.out _ _ td (fun hHeld => ?_)
  clear hK K
  repeat (rw [putL]; simp only [List.set])
  refine tky 41 ?_
  repeat (rw [putL]; simp only [List.set])
  refine tky 42 ?_
  repeat (rw [putL]; simp only [List.set])
  refine tky 43 ?_
  repeat (rw [putL]; simp only [List.set])
  refine wpAnyH_ready (rs := [44]) (by kernel_rfl) (by simp) ?_
  refine rdy rfl (fun K hK => ?_) (AllReadyH.nil)
  go_simp
  refine hK.out _ _ te (fun hHeld => ?_)
  clear hK K
  repeat (rw [putL]; simp only [List.set])
  refine wpAnyH_done (by kernel_rfl) ?_ _
  rotate_left 1
  go_simp
  go_at_call 114
  with_reducible refine G2.out.mono ?_
  rintro e we ⟨rfl, hb⟩
  have HEE := Lib.hid (HE.out.below hb)
  have BEE := Lib.hid (BE.out.trans (hb.mono (Nat.le_of_lt HE.out.lt)))
  have twe := HEE.out.cell0
  have ewe : we.cell? ⟨R, 5, none⟩ = some (.slice q.pp c.pkts.length q.cp) := by rw [HEE.out.blk.cell]; rfl
  clear hb
  have G3 := Lib.hid (get_true (c := 4) (P4.out.below BEE.out hb) (by decide) (Nat.lt_trans hb HEE.out.lt) (by omega))
  dsimp only
  refine hK.out _ _ twe (fun hHeld => ?_)
  clear hK K
  repeat (rw [putL]; simp only [List.set])
  refine tky 25 ?_
  repeat (rw [putL]; simp only [List.set])
  try simp only [htt, hwt]
  refine wpAnyH_ready (rs := [5, 34]) (by kernel_rfl) (by simp) ?_
  refine rdy rfl (fun K hK => ?_) (rdy rfl (fun K hK => ?_) (AllReadyH.nil))
  go_simp
  refine hK.out _ _ twe (fun hHeld => ?_)
  clear hK K
  repeat (rw [putL]; simp only [List.set])
  refine wpAnyH_ready (rs := [34]) (by kernel_rfl) (by simp) ?_
  refine rdy rfl (fun K hK => ?_) (AllReadyH.nil)
  go_simp
  go_at_call 114
  with_reducible refine G3.out.mono ?_
  rintro e wg ⟨rfl, hb⟩
  have HG := Lib.hid (HEE.out.below hb)
  have BG := Lib.hid (BEE.out.trans (hb.mono (Nat.le_of_lt HEE.out.lt)))
  have twg := HG.out.cell0
  have ewg : wg.cell? ⟨R, 5, none⟩ = some (.slice q.pp c.pkts.length q.cp) := by rw [HG.out.blk.cell]; rfl
  clear hb
  have CL := Lib.hid (CL0.out wg BG.out HG.out.lt)
  dsimp only
  refine hK.out _ _ twg (fun hHeld => ?_)
  clear hK K
  repeat (rw [putL]; simp only [List.set])
  refine wpAnyH_ready (rs := [37]) (by kernel_rfl) (by simp) ?_
  refine rdy rfl (fun K hK => ?_) (AllReadyH.nil)
  go_simp
  go_at_call 54
  with_reducible refine CL.out.mono ?_
  rintro e w5 hcl5
  obtain ⟨A5, c5, rfl, ho5, hb5⟩ := hcl5
  have H5 := Lib.hid (HG.out.below hb5)
  have B5 := Lib.hid (BG.out.trans (hb5.mono (Nat.le_of_lt HG.out.lt)))
  rw [HLA.out] at ho5 ⊢
  have t5 := H5.out.cell0
  obtain ⟨w0, rows, HF⟩ := H5.out.cap.pkts
  obtain ⟨A7, c7, w7, hrun, ho7, hg7, ha7, hb7⟩ := row_more (cs := (pktKd.row ⟨(t : Int), 0, (rl : Int), a, ⟨#[]⟩⟩ (.slice A5 n c5))) Try.underlying25 info47 (by rfl) (by decide) (by decide) HF.own rfl (pktR.one _ _ _ _) (by omega) (Nat.le_of_lt H5.out.lt)
  have END := Lib.hid (And.intro (Rd.pkt (x := ⟨(t : Int), 0, (rl : Int), a, ⟨#[]⟩⟩) H5.out HF ho7 hg7 ha7 HLA.out (own_mono ho5 (Nat.le_of_lt HG.out.lt)) HLT.out (by omega) hok (by omega)) ((B5.out.trans hb7).setCell (p := ⟨R, 5, none⟩) H5.out.le (.slice A7 (c.pkts.length + 1) c7)))
  have tc : (w5.alloc (.cells (pktKd.row ⟨(t : Int), 0, (rl : Int), a, ⟨#[]⟩⟩ (.slice A5 n c5)).toArray 47)).cell? ⟨R, 0, none⟩ = some (.iface 96 (.agg #[])) := by rw [(H5.out.blk.alloc _).cell]; rfl
  have hk7 : Blk w7 R 70 (rdV (.iface 96 (.agg #[])) q c A np cp torn) := ha7.2 R 70 _ (by decide) H5.out.blk
  have td : w7.cell? ⟨R, 0, none⟩ = some (.iface 96 (.agg #[])) := by rw [hk7.cell]; rfl
  have e7 : w7.cell? ⟨R, 5, none⟩ = some (.slice q.pp c.pkts.length q.cp) := by rw [hk7.cell]; rfl
  have f7 : w7.frozen? ⟨R, 5, none⟩ = false := hk7.frozen 5
  have te : (w7.setCell ⟨R, 5, none⟩ (.slice A7 (c.pkts.length + 1) c7)).cell? ⟨R, 0, none⟩ = some (.iface 96 (.agg #[])) := by rw [(hk7.set_ 5 _).cell]; rfl
  have e5 : w5.cell? ⟨R, 5, none⟩ = some (.slice q.pp c.pkts.length q.cp) := by rw [H5.out.blk.cell]; rfl
  have eC : (w5.alloc (.cells (pktKd.row ⟨(t : Int), 0, (rl : Int), a, ⟨#[]⟩⟩ (.slice A5 n c5)).toArray 47)).cell? ⟨R, 5, none⟩ = some (.slice q.pp c.pkts.length q.cp) := by rw [(H5.out.blk.alloc _).cell]; rfl
  simp only [pktKd] at hrun tc eC
  clear hb5 HF ho7 hg7 ha7 hb7 hk7 ho5
  dsimp only
  refine hK.out _ _ t5 (fun hHeld => ?_)
  clear hK K
  repeat (rw [putL]; simp only [List.set])
  refine tky 38 ?_
  repeat (rw [putL]; simp only [List.set])
  refine wpAnyH_ready (rs := [39]) (by kernel_rfl) (by simp) ?_
  refine rdy rfl (fun K hK => ?_) (AllReadyH.nil)
  go_simp
  refine hK.out _ _ tc (fun hHeld => ?_)
  clear hK K
  repeat (rw [putL]; simp only [List.set])
  refine wpAnyH_ready (rs := [40]) (by kernel_rfl) (by simp) ?_
  refine rdy rfl (fun K hK => ?_) (AllReadyH.nil)
  refine step_append_run _ rfl _ _ _ _ rfl _ _ (by rfl) (by rfl) _ w7 hrun ?_
  refine hK.out _ _ td (fun hHeld => ?_)
  clear hK K
  repeat (rw [putL]; simp only [List.set])
  refine tky 41 ?_
  repeat (rw [putL]; simp only [List.set])
  refine tky 42 ?_
  repeat (rw [putL]; simp only [List.set])
  refine tky 43 ?_
  repeat (rw [putL]; simp only [List.set])
  refine wpAnyH_ready (rs := [44]) (by kernel_rfl) (by simp) ?_
  refine rdy rfl (fun K hK => ?_) (AllReadyH.nil)
  go_simp
  refine hK.out _ _ te (fun hHeld => ?_)
  clear hK K
  repeat (rw [putL]; simp only [List.set])
  refine wpAnyH_done (by kernel_rfl) ?_ _
  rotate_left 1
  go_simp
  go_at_call 114
  with_reducible refine G3.out.mono ?_
  rintro e wg ⟨rfl, hb⟩
  have HG := Lib.hid (HEE.out.below hb)
  have BG := Lib.hid (BEE.out.trans (hb.mono (Nat.le_of_lt HEE.out.lt)))
  have twg := HG.out.cell0
  have ewg : wg.cell? ⟨R, 5, none⟩ = some (.slice q.pp c.pkts.length q.cp) := by rw [HG.out.blk.cell]; rfl
  clear hb
  have CL := Lib.hid (CL0.out wg BG.out HG.out.lt)
  dsimp only
  refine hK.out _ _ twg (fun hHeld => ?_)
  clear hK K
  repeat (rw [putL]; simp only [List.set])
  refine wpAnyH_ready (rs := [5, 37]) (by kernel_rfl) (by simp) ?_
  refine rdy rfl (fun K hK => ?_) (rdy rfl (fun K hK => ?_) (AllReadyH.nil))
  go_simp
  refine hK.out _ _ twg (fun hHeld => ?_)
  clear hK K
  repeat (rw [putL]; simp only [List.set])
  refine wpAnyH_ready (rs := [37]) (by kernel_rfl) (by simp) ?_
  refine rdy rfl (fun K hK => ?_) (AllReadyH.nil)
  go_simp
  go_at_call 54
  with_reducible refine CL.out.mono ?_
  rintro e w5 hcl5
  obtain ⟨A5, c5, rfl, ho5, hb5⟩ := hcl5
  have H5 := Lib.hid (HG.out.below hb5)
  have B5 := Lib.hid (BG.out.trans (hb5.mono (Nat.le_of_lt HG.out.lt)))
  rw [HLA.out] at ho5 ⊢
  have t5 := H5.out.cell0
  obtain ⟨w0, rows, HF⟩ := H5.out.cap.pkts
  obtain ⟨A7, c7, w7, hrun, ho7, hg7, ha7, hb7⟩ := row_more (cs := (pktKd.row ⟨(t : Int), 0, (rl : Int), a, ⟨#[]⟩⟩ (.slice A5 n c5))) Try.underlying25 info47 (by rfl) (by decide) (by decide) HF.own rfl (pktR.one _ _ _ _) (by omega) (Nat.le_of_lt H5.out.lt)
  have END := Lib.hid (And.intro (Rd.pkt (x := ⟨(t : Int), 0, (rl : Int), a, ⟨#[]⟩⟩) H5.out HF ho7 hg7 ha7 HLA.out (own_mono ho5 (Nat.le_of_lt HG.out.lt)) HLT.out (by omega) hok (by omega)) ((B5.out.trans hb7).setCell (p := ⟨R, 5, none⟩) H5.out.le (.slice A7 (c.pkts.length + 1) c7)))
  have tc : (w5.alloc (.cells (pktKd.row ⟨(t : Int), 0, (rl : Int), a, ⟨#[]⟩⟩ (.slice A5 n c5)).toArray 47)).cell? ⟨R, 0, none⟩ = some (.iface 96 (.agg #[])) := by rw [(H5.out.blk.alloc _).cell]; rfl
  have hk7 : Blk w7 R 70 (rdV (.iface 96 (.agg #[])) q c A np cp torn) := ha7.2 R 70 _ (by decide) H5.out.blk
  have td : w7.cell? ⟨R, 0, none⟩ = some (.iface 96 (.agg #[])) := by rw [hk7.cell]; rfl
  have e7 : w7.cell? ⟨R, 5, none⟩ = some (.slice q.pp c.pkts.length q.cp) := by rw [hk7.cell]; rfl
  have f7 : w7.frozen? ⟨R, 5, none⟩ = false := hk7.frozen 5
  have te : (w7.setCell ⟨R, 5, none⟩ (.slice A7 (c.pkts.length + 1) c7)).cell? ⟨R, 0, none⟩ = some (.iface 96 (.agg #[])) := by rw [(hk7.set_ 5 _).cell]; rfl
  have e5 : w5.cell? ⟨R, 5, none⟩ = some (.slice q.pp c.pkts.length q.cp) := by rw [H5.out.blk.cell]; rfl
  have eC : (w5.alloc (.cells (pktKd.row ⟨(t : Int), 0, (rl : Int), a, ⟨#[]⟩⟩ (.slice A5 n c5)).toArray 47)).cell? ⟨R, 5, none⟩ = some (.slice q.pp c.pkts.length q.cp) := by rw [(H5.out.blk.alloc _).cell]; rfl
  simp only [pktKd] at hrun tc eC
  clear hb5 HF ho7 hg7 ha7 hb7 hk7 ho5
  dsimp only
  refine hK.out _ _ t5 (fun hHeld => ?_)
  clear hK K
  repeat (rw [putL]; simp only [List.set])
  refine tky 38 ?_
  repeat (rw [putL]; simp only [List.set])
  refine wpAnyH_ready (rs := [39]) (by kernel_rfl) (by simp) ?_
  refine rdy rfl (fun K hK => ?_) (AllReadyH.nil)
  go_simp
  refine hK.out _ _ tc (fun hHeld => ?_)
  clear hK K
  repeat (rw [putL]; simp only [List.set])
  refine wpAnyH_ready (rs := [40]) (by kernel_rfl) (by simp) ?_
  refine rdy rfl (fun K hK => ?_) (AllReadyH.nil)
  refine step_append_run _ rfl _ _ _ _ rfl _ _ (by rfl) (by rfl) _ w7 hrun ?_
  refine hK.out _ _ td (fun hHeld => ?_)
  clear hK K
  repeat (rw [putL]; simp only [List.set])
  refine tky 41 ?_
  repeat (rw [putL]; simp only [List.set])
  refine tky 42 ?_
  repeat (rw [putL]; simp only [List.set])
  refine tky 43 ?_
  repeat (rw [putL]; simp only [List.set])
  refine wpAnyH_ready (rs := [44]) (by kernel_rfl) (by simp) ?_
  refine rdy rfl (fun K hK => ?_) (AllReadyH.nil)
  go_simp
  refine hK.out _ _ te (fun hHeld => ?_)
  clear hK K
  repeat (rw [putL]; simp only [List.set])
  refine wpAnyH_done (by kernel_rfl) ?_ _
  rotate_left 1
  go_simp
  go_at_call 54
  with_reducible refine CL.out.mono ?_
  rintro e w5 hcl5
  obtain ⟨A5, c5, rfl, ho5, hb5⟩ := hcl5
  have H5 := Lib.hid (HG.out.below hb5)
  have B5 := Lib.hid (BG.out.trans (hb5.mono (Nat.le_of_lt HG.out.lt)))
  rw [HLA.out] at ho5 ⊢
  have t5 := H5.out.cell0
  obtain ⟨w0, rows, HF⟩ := H5.out.cap.pkts
  obtain ⟨A7, c7, w7, hrun, ho7, hg7, ha7, hb7⟩ := row_more (cs := (pktKd.row ⟨(t : Int), 0, (rl : Int), a, ⟨#[]⟩⟩ (.slice A5 n c5))) Try.underlying25 info47 (by rfl) (by decide) (by decide) HF.own rfl (pktR.one _ _ _ _) (by omega) (Nat.le_of_lt H5.out.lt)
  have END := Lib.hid (And.intro (Rd.pkt (x := ⟨(t : Int), 0, (rl : Int), a, ⟨#[]⟩⟩) H5.out HF ho7 hg7 ha7 HLA.out (own_mono ho5 (Nat.le_of_lt HG.out.lt)) HLT.out (by omega) hok (by omega)) ((B5.out.trans hb7).setCell (p := ⟨R, 5, none⟩) H5.out.le (.slice A7 (c.pkts.length + 1) c7)))
  have tc : (w5.alloc (.cells (pktKd.row ⟨(t : Int), 0, (rl : Int), a, ⟨#[]⟩⟩ (.slice A5 n c5)).toArray 47)).cell? ⟨R, 0, none⟩ = some (.iface 96 (.agg #[])) := by rw [(H5.out.blk.alloc _).cell]; rfl
  have hk7 : Blk w7 R 70 (rdV (.iface 96 (.agg #[])) q c A np cp torn) := ha7.2 R 70 _ (by decide) H5.out.blk
  have td : w7.cell? ⟨R, 0, none⟩ = some (.iface 96 (.agg #[])) := by rw [hk7.cell]; rfl
  have e7 : w7.cell? ⟨R, 5, none⟩ = some (.slice q.pp c.pkts.length q.cp) := by rw [hk7.cell]; rfl
  have f7 : w7.frozen? ⟨R, 5, none⟩ = false := hk7.frozen 5
  have te : (w7.setCell ⟨R, 5, none⟩ (.slice A7 (c.pkts.length + 1) c7)).cell? ⟨R, 0, none⟩ = some (.iface 96 (.agg #[])) := by rw [(hk7.set_ 5 _).cell]; rfl
  have e5 : w5.cell? ⟨R, 5, none⟩ = some (.slice q.pp c.pkts.length q.cp) := by rw [H5.out.blk.cell]; rfl
  have eC : (w5.alloc (.cells (pktKd.row ⟨(t : Int), 0, (rl : Int), a, ⟨#[]⟩⟩ (.slice A5 n c5)).toArray 47)).cell? ⟨R, 5, none⟩ = some (.slice q.pp c.pkts.length q.cp) := by rw [(H5.out.blk.alloc _).cell]; rfl
  simp only [pktKd] at hrun tc eC
  clear hb5 HF ho7 hg7 ha7 hb7 hk7 ho5
  dsimp only
  refine hK.out _ _ t5 (fun hHeld => ?_)
  clear hK K
  repeat (rw [putL]; simp only [List.set])
  refine tky 38 ?_
  repeat (rw [putL]; simp only [List.set])
  refine wpAnyH_ready (rs := [5, 39]) (by kernel_rfl) (by simp) ?_
  refine rdy rfl (fun K hK => ?_) (rdy rfl (fun K hK => ?_) (AllReadyH.nil))
  go_simp
  refine hK.out _ _ t5 (fun hHeld => ?_)
  clear hK K
  repeat (rw [putL]; simp only [List.set])
  refine wpAnyH_ready (rs := [39]) (by kernel_rfl) (by simp) ?_
  refine rdy rfl (fun K hK => ?_) (AllReadyH.nil)
  go_simp
  refine hK.out _ _ tc (fun hHeld => ?_)
  clear hK K
  repeat (rw [putL]; simp only [List.set])
  refine wpAnyH_ready (rs := [40]) (by kernel_rfl) (by simp) ?_
  refine rdy rfl (fun K hK => ?_) (AllReadyH.nil)
  refine step_append_run _ rfl _ _ _ _ rfl _ _ (by rfl) (by rfl) _ w7 hrun ?_
  refine hK.out _ _ td (fun hHeld => ?_)
  clear hK K
  repeat (rw [putL]; simp only [List.set])
  refine tky 41 ?_
  repeat (rw [putL]; simp only [List.set])
  refine tky 42 ?_
  repeat (rw [putL]; simp only [List.set])
  refine tky 43 ?_
  repeat (rw [putL]; simp only [List.set])
  refine wpAnyH_ready (rs := [44]) (by kernel_rfl) (by simp) ?_
  refine rdy rfl (fun K hK => ?_) (AllReadyH.nil)
  go_simp
  refine hK.out _ _ te (fun hHeld => ?_)
  clear hK K
  repeat (rw [putL]; simp only [List.set])
  refine wpAnyH_done (by kernel_rfl) ?_ _
  rotate_left 1
  go_simp
  refine hK.out _ _ tc (fun hHeld => ?_)
  clear hK K
  repeat (rw [putL]; simp only [List.set])
  refine wpAnyH_ready (rs := [5]) (by kernel_rfl) (by simp) ?_
  refine rdy rfl (fun K hK => ?_) (AllReadyH.nil)
  go_simp
  refine hK.out _ _ tc (fun hHeld => ?_)
  clear hK K
  repeat (rw [putL]; simp only [List.set])
  refine wpAnyH_ready (rs := [40]) (by kernel_rfl) (by simp) ?_
  refine rdy rfl (fun K hK => ?_) (AllReadyH.nil)
  refine step_append_run _ rfl _ _ _ _ rfl _ _ (by rfl) (by rfl) _ w7 hrun ?_
  refine hK.out _ _ td (fun hHeld => ?_)
  clear hK K
  repeat (rw [putL]; simp only [List.set])
  refine tky 41 ?_
  repeat (rw [putL]; simp only [List.set])
  refine tky 42 ?_
  repeat (rw [putL]; simp only [List.set])
  refine tky 43 ?_
  repeat (rw [putL]; simp only [List.set])
  refine wpAnyH_ready (rs := [44]) (by kernel_rfl) (by simp) ?_
  refine rdy rfl (fun K hK => ?_) (AllReadyH.nil)
  go_simp
  refine hK.out _ _ te (fun hHeld => ?_)
  clear hK K
  repeat (rw [putL]; simp only [List.set])
  refine wpAnyH_done (by kernel_rfl) ?_ _
  all_goals
    go_wp2_with fail
    go_end0
    exact ⟨rfl, ⟨_, END.out.1⟩, END.out.2⟩

set_option maxRecDepth 100000 in
set_option maxHeartbeats 16000000 in
theorem rec0_false {w : World} {R b np torn cp b0 o cc t rl L : Nat} {q : Pl} {c : Cap} {A : Option Addr} {xs : List Value} {a : List Nat} (h : Rd w R b (.iface 97 (.agg #[])) q A cp xs c np torn)
    (hp : Pc w b0 o (numsB false 4 [t / 1000000, t % 1000000, a.length, rl] ++ a)) (hL : L = 16 + a.length) (hc : cc = 16) (hc0 : a = []) (hb : b0 < b) (_ : a.length ≤ 400) (ht : t ≤ 1000000000000000) (hrl : rl ≤ 1000000) (hn : c.pkts.length < 1000) :
    Calls Try.prog 76 #[.pointer (some ⟨R, 0, none⟩), .slice (some ⟨b0, o, none⟩) L cc] w fun e w' => e = .returned (.tuple #[]) ∧ (∃ q', Rd w' R b (.iface 97 (.agg #[])) q' A cp xs ⟨c.note, c.faces, c.names, c.secs, c.pkts ++ [⟨(t : Int), 0, (rl : Int), a, ⟨#[]⟩⟩]⟩ np torn) ∧ Below b w w' := by
  obtain ⟨n, hla⟩ : ∃ n, a.length = n := ⟨_, rfl⟩
  subst hc
  have hn0 : n = 0 := by rw [← hla, hc0]; rfl
  obtain ⟨hi, hhi⟩ : ∃ hi, t / 1000000 = hi := ⟨_, rfl⟩
  obtain ⟨lo, hlo⟩ : ∃ lo, t % 1000000 = lo := ⟨_, rfl⟩
  have hl2 : (numsB false 4 [hi, lo, n, rl]).length = 16 := by rw [numsB_len]; rfl
  rw [hla, hhi, hlo] at hp
  have hbw : b0 < w.heap.size := by have := h.lt; omega
  have hq := hp.left
  rw [numsB_cons, numsB_cons, numsB_cons, numsB_one] at hq
  have P1 : Hid (Pc w b0 o (numB false 4 hi)) := Lib.hid hq.left
  have hq1 := hq.right
  rw [numB_len2] at hq1
  have P2 : Hid (Pc w b0 (o + 4) (numB false 4 lo)) := Lib.hid hq1.left
  have hq2 := hq1.right
  rw [numB_len2] at hq2
  have hq3 := hq2.right
  rw [numB_len2] at hq3
  have P4 : Hid (Pc w b0 (o + 12) (numB false 4 rl)) := Lib.hid (hq3.at_ (by omega))
  have hr := hp.right
  rw [hl2] at hr
  have PA : Hid (Pc w b0 (o + 16) a) := Lib.hid hr
  have HLA := Lib.hid hla
  have HLT := Lib.hid PA.out.lt
  have hok : pktKd.ok ⟨(t : Int), 0, (rl : Int), a, ⟨#[]⟩⟩ := by
    refine ⟨by show ByteArray.size ⟨#[]⟩ ≤ _; simp [ByteArray.size], ⟨?_, ?_⟩, ⟨?_, ?_⟩, ⟨?_, ?_⟩⟩ <;> simp only [] <;> omega
  have hhi2 : hi ≤ 1000000000 := by omega
  have hloB : lo < 1000000 := by omega
  have hn4 : n ≤ 400 := by omega
  have hwr : IntKind.i64.wrap ((hi : Int) * 1000000) = (hi : Int) * 1000000 := by rw [IntKind.wrap_i64]; omega
  have hwt : IntKind.i64.wrap (t : Int) = (t : Int) := by rw [IntKind.wrap_i64]; omega
  have htt : (hi : Int) * 1000000 + (lo : Int) = (t : Int) := by omega
  have HD := Lib.hid h.drew
  have BD : Hid (Below b w w.drew) := Lib.hid (Below.refl _ w).drew
  have td0 : w.drew.cell? ⟨R, 0, none⟩ = some (.iface 97 (.agg #[])) := HD.out.cell0
  have e0 : w.drew.cell? ⟨R, 5, none⟩ = some (.slice q.pp c.pkts.length q.cp) := by rw [HD.out.blk.cell]; rfl
  have G1 := Lib.hid (get_false (c := 16) (P1.out.below BD.out hb) (by decide) (Nat.lt_trans hb HD.out.lt) (by omega))
  have CL0 : Hid (∀ (w' : World), Below b w w' → b < w'.heap.size → Calls Try.prog 54 #[.slice (some ⟨b0, o, none⟩) n 0] w' (ClonePost w' a)) := Lib.hid (fun w' hw' k => by rw [hn0, hc0]; exact bclone_any (bs := []) ⟨⟨by simp, fun h => absurd h (by simp)⟩, Nat.le_refl _, by simp, fun e => by cases e⟩)
  try rw [hla] at CL0
  have hk1 : (16 : Int) ≤ (L : Int) := by omega
  have hk2 : (16 : Int) ≤ (16 : Int) := by omega
  have hk4 : (12 : Int) ≤ (16 : Int) := by omega
  have hk5 : (8 : Int) ≤ (16 : Int) := by omega
  have hk6 : (4 : Int) ≤ (16 : Int) := by omega
  have hi2 : ¬ 16 = 12 := by omega
  have hi3 : ¬ 16 = 8 := by omega
  have hi4 : ¬ 16 = 4 := by omega
  have hLn : L - 16 = n := by omega
  have nah : ∀ (w : World), (nilAhead 246 97 (.agg #[]) "wireglass/capt.get").run Try.prog w = .ok (some false) w := fun w => by kernel_rfl
  have mth : ∀ (w : World), (method 246 97 (.agg #[]) "wireglass/capt.get").run Try.prog w = .ok (116, .agg #[]) w := fun w => by kernel_rfl
  have hncc : 16 + n ≤ 16 := by omega
  clear hL hn0 h hp hq hq1 hq2 hq3 hr hl2 hla hhi hlo
  go_enter Try.func76, Try.ntmps76
  go_wp2_with fail
  refine wp_region_held_drew (S := fun w' => w'.cell? ⟨R, 0, none⟩ = some (.iface 97 (.agg #[]))) (by kernel_rfl) td0 (fun hHeld => ?_)
  refine tky 0 ?_
  repeat (rw [putL]; simp only [List.set])
  refine tky 1 ?_
  repeat (rw [putL]; simp only [List.set])
  refine tky 2 ?_
  repeat (rw [putL]; simp only [List.set])
  refine tky 3 ?_
  repeat (rw [putL]; simp only [List.set])
  refine tky 4 ?_
  repeat (rw [putL]; simp only [List.set])
  refine tky 6 ?_
  repeat (rw [putL]; simp only [List.set])
  refine tky 7 ?_
  repeat (rw [putL]; simp only [List.set])
  refine tky 8 ?_
  repeat (rw [putL]; simp only [List.set])
  refine tky 9 ?_
  repeat (rw [putL]; simp only [List.set])
  refine tky 10 ?_
  repeat (rw [putL]; simp only [List.set])
  refine tky 11 ?_
  repeat (rw [putL]; simp only [List.set])
  refine tky 12 ?_
  repeat (rw [putL]; simp only [List.set])
  refine tky 13 ?_
  repeat (rw [putL]; simp only [List.set])
  refine tky 16 ?_
  repeat (rw [putL]; simp only [List.set])
  refine tky 17 ?_
  repeat (rw [putL]; simp only [List.set])
  refine tky 18 ?_
  repeat (rw [putL]; simp only [List.set])
  refine tky 19 ?_
  repeat (rw [putL]; simp only [List.set])
  refine tky 20 ?_
  repeat (rw [putL]; simp only [List.set])
  refine tky 21 ?_
  repeat (rw [putL]; simp only [List.set])
  refine tky 22 ?_
  repeat (rw [putL]; simp only [List.set])
  refine tky 23 ?_
  repeat (rw [putL]; simp only [List.set])
  refine tky 26 ?_
  repeat (rw [putL]; simp only [List.set])
  refine tky 27 ?_
  repeat (rw [putL]; simp only [List.set])
  refine tky 28 ?_
  repeat (rw [putL]; simp only [List.set])
  refine tky 29 ?_
  repeat (rw [putL]; simp only [List.set])
  refine tky 30 ?_
  repeat (rw [putL]; simp only [List.set])
  refine tky 31 ?_
  repeat (rw [putL]; simp only [List.set])
  refine tky 32 ?_
  repeat (rw [putL]; simp only [List.set])
  refine tky 33 ?_
  repeat (rw [putL]; simp only [List.set])
  refine tky 35 ?_
  repeat (rw [putL]; simp only [List.set])
  refine tky 36 ?_
  repeat (rw [putL]; simp only [List.set])
  refine wpAnyH_ready (rs := [5, 14]) (by kernel_rfl) (by simp) ?_
  refine rdy rfl (fun K hK => ?_) (rdy rfl (fun K hK => ?_) (AllReadyH.nil))
  go_simp
  refine hK.out _ _ td0 (fun hHeld => ?_)
  clear hK K
  repeat (rw [putL]; simp only [List.set])
  refine wpAnyH_ready (rs := [14]) (by kernel_rfl) (by simp) ?_
  refine rdy rfl (fun K hK => ?_) (AllReadyH.nil)
  go_simp
  go_at_call 116
  with_reducible refine G1.out.mono ?_
  rintro e wd ⟨rfl, hb⟩
  have HE := Lib.hid (HD.out.below hb)
  have BE := Lib.hid (BD.out.trans (hb.mono (Nat.le_of_lt HD.out.lt)))
  have twd := HE.out.cell0
  have ewd : wd.cell? ⟨R, 5, none⟩ = some (.slice q.pp c.pkts.length q.cp) := by rw [HE.out.blk.cell]; rfl
  clear hb
  have G2 := Lib.hid (get_false (c := 12) (P2.out.below BE.out hb) (by decide) (Nat.lt_trans hb HE.out.lt) (by omega))
  dsimp only
  refine hK.out _ _ twd (fun hHeld => ?_)
  clear hK K
  repeat (rw [putL]; simp only [List.set])
  refine tky 15 ?_
  repeat (rw [putL]; simp only [List.set])
  try simp only [hwr]
  refine wpAnyH_ready (rs := [24]) (by kernel_rfl) (by simp) ?_
  refine rdy rfl (fun K hK => ?_) (AllReadyH.nil)
  go_simp
  go_at_call 116
  with_reducible refine G2.out.mono ?_
  rintro e we ⟨rfl, hb⟩
  have HEE := Lib.hid (HE.out.below hb)
  have BEE := Lib.hid (BE.out.trans (hb.mono (Nat.le_of_lt HE.out.lt)))
  have twe := HEE.out.cell0
  have ewe : we.cell? ⟨R, 5, none⟩ = some (.slice q.pp c.pkts.length q.cp) := by rw [HEE.out.blk.cell]; rfl
  clear hb
  have G3 := Lib.hid (get_false (c := 4) (P4.out.below BEE.out hb) (by decide) (Nat.lt_trans hb HEE.out.lt) (by omega))
  dsimp only
  refine hK.out _ _ twe (fun hHeld => ?_)
  clear hK K
  repeat (rw [putL]; simp only [List.set])
  refine tky 25 ?_
  repeat (rw [putL]; simp only [List.set])
  try simp only [htt, hwt]
  refine wpAnyH_ready (rs := [34]) (by kernel_rfl) (by simp) ?_
  refine rdy rfl (fun K hK => ?_) (AllReadyH.nil)
  go_simp
  go_at_call 116
  with_reducible refine G3.out.mono ?_
  rintro e wg ⟨rfl, hb⟩
  have HG := Lib.hid (HEE.out.below hb)
  have BG := Lib.hid (BEE.out.trans (hb.mono (Nat.le_of_lt HEE.out.lt)))
  have twg := HG.out.cell0
  have ewg : wg.cell? ⟨R, 5, none⟩ = some (.slice q.pp c.pkts.length q.cp) := by rw [HG.out.blk.cell]; rfl
  clear hb
  have CL := Lib.hid (CL0.out wg BG.out HG.out.lt)
  dsimp only
  refine hK.out _ _ twg (fun hHeld => ?_)
  clear hK K
  repeat (rw [putL]; simp only [List.set])
  refine wpAnyH_ready (rs := [37]) (by kernel_rfl) (by simp) ?_
  refine rdy rfl (fun K hK => ?_) (AllReadyH.nil)
  go_simp
  go_at_call 54
  with_reducible refine CL.out.mono ?_
  rintro e w5 hcl5
  obtain ⟨A5, c5, rfl, ho5, hb5⟩ := hcl5
  have H5 := Lib.hid (HG.out.below hb5)
  have B5 := Lib.hid (BG.out.trans (hb5.mono (Nat.le_of_lt HG.out.lt)))
  rw [HLA.out] at ho5 ⊢
  have t5 := H5.out.cell0
  obtain ⟨w0, rows, HF⟩ := H5.out.cap.pkts
  obtain ⟨A7, c7, w7, hrun, ho7, hg7, ha7, hb7⟩ := row_more (cs := (pktKd.row ⟨(t : Int), 0, (rl : Int), a, ⟨#[]⟩⟩ (.slice A5 n c5))) Try.underlying25 info47 (by rfl) (by decide) (by decide) HF.own rfl (pktR.one _ _ _ _) (by omega) (Nat.le_of_lt H5.out.lt)
  have END := Lib.hid (And.intro (Rd.pkt (x := ⟨(t : Int), 0, (rl : Int), a, ⟨#[]⟩⟩) H5.out HF ho7 hg7 ha7 HLA.out (own_mono ho5 (Nat.le_of_lt HG.out.lt)) HLT.out (by omega) hok (by omega)) ((B5.out.trans hb7).setCell (p := ⟨R, 5, none⟩) H5.out.le (.slice A7 (c.pkts.length + 1) c7)))
  have tc : (w5.alloc (.cells (pktKd.row ⟨(t : Int), 0, (rl : Int), a, ⟨#[]⟩⟩ (.slice A5 n c5)).toArray 47)).cell? ⟨R, 0, none⟩ = some (.iface 97 (.agg #[])) := by rw [(H5.out.blk.alloc _).cell]; rfl
  have hk7 : Blk w7 R 70 (rdV (.iface 97 (.agg #[])) q c A np cp torn) := ha7.2 R 70 _ (by decide) H5.out.blk
  have td : w7.cell? ⟨R, 0, none⟩ = some (.iface 97 (.agg #[])) := by rw [hk7.cell]; rfl
  have e7 : w7.cell? ⟨R, 5, none⟩ = some (.slice q.pp c.pkts.length q.cp) := by rw [hk7.cell]; rfl
  have f7 : w7.frozen? ⟨R, 5, none⟩ = false := hk7.frozen 5
  have te : (w7.setCell ⟨R, 5, none⟩ (.slice A7 (c.pkts.length + 1) c7)).cell? ⟨R, 0, none⟩ = some (.iface 97 (.agg #[])) := by rw [(hk7.set_ 5 _).cell]; rfl
  have e5 : w5.cell? ⟨R, 5, none⟩ = some (.slice q.pp c.pkts.length q.cp) := by rw [H5.out.blk.cell]; rfl
  have eC : (w5.alloc (.cells (pktKd.row ⟨(t : Int), 0, (rl : Int), a, ⟨#[]⟩⟩ (.slice A5 n c5)).toArray 47)).cell? ⟨R, 5, none⟩ = some (.slice q.pp c.pkts.length q.cp) := by rw [(H5.out.blk.alloc _).cell]; rfl
  simp only [pktKd] at hrun tc eC
  clear hb5 HF ho7 hg7 ha7 hb7 hk7 ho5
  dsimp only
  refine hK.out _ _ t5 (fun hHeld => ?_)
  clear hK K
  repeat (rw [putL]; simp only [List.set])
  refine tky 38 ?_
  repeat (rw [putL]; simp only [List.set])
  refine wpAnyH_ready (rs := [39]) (by kernel_rfl) (by simp) ?_
  refine rdy rfl (fun K hK => ?_) (AllReadyH.nil)
  go_simp
  refine hK.out _ _ tc (fun hHeld => ?_)
  clear hK K
  repeat (rw [putL]; simp only [List.set])
  refine wpAnyH_ready (rs := [40]) (by kernel_rfl) (by simp) ?_
  refine rdy rfl (fun K hK => ?_) (AllReadyH.nil)
  refine step_append_run _ rfl _ _ _ _ rfl _ _ (by rfl) (by rfl) _ w7 hrun ?_
  refine hK.out _ _ td (fun hHeld => ?_)
  clear hK K
  repeat (rw [putL]; simp only [List.set])
  refine tky 41 ?_
  repeat (rw [putL]; simp only [List.set])
  refine tky 42 ?_
  repeat (rw [putL]; simp only [List.set])
  refine tky 43 ?_
  repeat (rw [putL]; simp only [List.set])
  refine wpAnyH_ready (rs := [44]) (by kernel_rfl) (by simp) ?_
  refine rdy rfl (fun K hK => ?_) (AllReadyH.nil)
  go_simp
  refine hK.out _ _ te (fun hHeld => ?_)
  clear hK K
  repeat (rw [putL]; simp only [List.set])
  refine wpAnyH_done (by kernel_rfl) ?_ _
  rotate_left 1
  go_simp
  go_at_call 116
  with_reducible refine G1.out.mono ?_
  rintro e wd ⟨rfl, hb⟩
  have HE := Lib.hid (HD.out.below hb)
  have BE := Lib.hid (BD.out.trans (hb.mono (Nat.le_of_lt HD.out.lt)))
  have twd := HE.out.cell0
  have ewd : wd.cell? ⟨R, 5, none⟩ = some (.slice q.pp c.pkts.length q.cp) := by rw [HE.out.blk.cell]; rfl
  clear hb
  have G2 := Lib.hid (get_false (c := 12) (P2.out.below BE.out hb) (by decide) (Nat.lt_trans hb HE.out.lt) (by omega))
  dsimp only
  refine hK.out _ _ twd (fun hHeld => ?_)
  clear hK K
  repeat (rw [putL]; simp only [List.set])
  refine tky 15 ?_
  repeat (rw [putL]; simp only [List.set])
  try simp only [hwr]
  refine wpAnyH_ready (rs := [5, 24]) (by kernel_rfl) (by simp) ?_
  refine rdy rfl (fun K hK => ?_) (rdy rfl (fun K hK => ?_) (AllReadyH.nil))
  go_simp
  refine hK.out _ _ twd (fun hHeld => ?_)
  clear hK K
  repeat (rw [putL]; simp only [List.set])
  refine wpAnyH_ready (rs := [24]) (by kernel_rfl) (by simp) ?_
  refine rdy rfl (fun K hK => ?_) (AllReadyH.nil)
  go_simp
  go_at_call 116
  with_reducible refine G2.out.mono ?_
  rintro e we ⟨rfl, hb⟩
  have HEE := Lib.hid (HE.out.below hb)
  have BEE := Lib.hid (BE.out.trans (hb.mono (Nat.le_of_lt HE.out.lt)))
  have twe := HEE.out.cell0
  have ewe : we.cell? ⟨R, 5, none⟩ = some (.slice q.pp c.pkts.length q.cp) := by rw [HEE.out.blk.cell]; rfl
  clear hb
  have G3 := Lib.hid (get_false (c := 4) (P4.out.below BEE.out hb) (by decide) (Nat.lt_trans hb HEE.out.lt) (by omega))
  dsimp only
  refine hK.out _ _ twe (fun hHeld => ?_)
  clear hK K
  repeat (rw [putL]; simp only [List.set])
  refine tky 25 ?_
  repeat (rw [putL]; simp only [List.set])
  try simp only [htt, hwt]
  refine wpAnyH_ready (rs := [34]) (by kernel_rfl) (by simp) ?_
  refine rdy rfl (fun K hK => ?_) (AllReadyH.nil)
  go_simp
  go_at_call 116
  with_reducible refine G3.out.mono ?_
  rintro e wg ⟨rfl, hb⟩
  have HG := Lib.hid (HEE.out.below hb)
  have BG := Lib.hid (BEE.out.trans (hb.mono (Nat.le_of_lt HEE.out.lt)))
  have twg := HG.out.cell0
  have ewg : wg.cell? ⟨R, 5, none⟩ = some (.slice q.pp c.pkts.length q.cp) := by rw [HG.out.blk.cell]; rfl
  clear hb
  have CL := Lib.hid (CL0.out wg BG.out HG.out.lt)
  dsimp only
  refine hK.out _ _ twg (fun hHeld => ?_)
  clear hK K
  repeat (rw [putL]; simp only [List.set])
  refine wpAnyH_ready (rs := [37]) (by kernel_rfl) (by simp) ?_
  refine rdy rfl (fun K hK => ?_) (AllReadyH.nil)
  go_simp
  go_at_call 54
  with_reducible refine CL.out.mono ?_
  rintro e w5 hcl5
  obtain ⟨A5, c5, rfl, ho5, hb5⟩ := hcl5
  have H5 := Lib.hid (HG.out.below hb5)
  have B5 := Lib.hid (BG.out.trans (hb5.mono (Nat.le_of_lt HG.out.lt)))
  rw [HLA.out] at ho5 ⊢
  have t5 := H5.out.cell0
  obtain ⟨w0, rows, HF⟩ := H5.out.cap.pkts
  obtain ⟨A7, c7, w7, hrun, ho7, hg7, ha7, hb7⟩ := row_more (cs := (pktKd.row ⟨(t : Int), 0, (rl : Int), a, ⟨#[]⟩⟩ (.slice A5 n c5))) Try.underlying25 info47 (by rfl) (by decide) (by decide) HF.own rfl (pktR.one _ _ _ _) (by omega) (Nat.le_of_lt H5.out.lt)
  have END := Lib.hid (And.intro (Rd.pkt (x := ⟨(t : Int), 0, (rl : Int), a, ⟨#[]⟩⟩) H5.out HF ho7 hg7 ha7 HLA.out (own_mono ho5 (Nat.le_of_lt HG.out.lt)) HLT.out (by omega) hok (by omega)) ((B5.out.trans hb7).setCell (p := ⟨R, 5, none⟩) H5.out.le (.slice A7 (c.pkts.length + 1) c7)))
  have tc : (w5.alloc (.cells (pktKd.row ⟨(t : Int), 0, (rl : Int), a, ⟨#[]⟩⟩ (.slice A5 n c5)).toArray 47)).cell? ⟨R, 0, none⟩ = some (.iface 97 (.agg #[])) := by rw [(H5.out.blk.alloc _).cell]; rfl
  have hk7 : Blk w7 R 70 (rdV (.iface 97 (.agg #[])) q c A np cp torn) := ha7.2 R 70 _ (by decide) H5.out.blk
  have td : w7.cell? ⟨R, 0, none⟩ = some (.iface 97 (.agg #[])) := by rw [hk7.cell]; rfl
  have e7 : w7.cell? ⟨R, 5, none⟩ = some (.slice q.pp c.pkts.length q.cp) := by rw [hk7.cell]; rfl
  have f7 : w7.frozen? ⟨R, 5, none⟩ = false := hk7.frozen 5
  have te : (w7.setCell ⟨R, 5, none⟩ (.slice A7 (c.pkts.length + 1) c7)).cell? ⟨R, 0, none⟩ = some (.iface 97 (.agg #[])) := by rw [(hk7.set_ 5 _).cell]; rfl
  have e5 : w5.cell? ⟨R, 5, none⟩ = some (.slice q.pp c.pkts.length q.cp) := by rw [H5.out.blk.cell]; rfl
  have eC : (w5.alloc (.cells (pktKd.row ⟨(t : Int), 0, (rl : Int), a, ⟨#[]⟩⟩ (.slice A5 n c5)).toArray 47)).cell? ⟨R, 5, none⟩ = some (.slice q.pp c.pkts.length q.cp) := by rw [(H5.out.blk.alloc _).cell]; rfl
  simp only [pktKd] at hrun tc eC
  clear hb5 HF ho7 hg7 ha7 hb7 hk7 ho5
  dsimp only
  refine hK.out _ _ t5 (fun hHeld => ?_)
  clear hK K
  repeat (rw [putL]; simp only [List.set])
  refine tky 38 ?_
  repeat (rw [putL]; simp only [List.set])
  refine wpAnyH_ready (rs := [39]) (by kernel_rfl) (by simp) ?_
  refine rdy rfl (fun K hK => ?_) (AllReadyH.nil)
  go_simp
  refine hK.out _ _ tc (fun hHeld => ?_)
  clear hK K
  repeat (rw [putL]; simp only [List.set])
  refine wpAnyH_ready (rs := [40]) (by kernel_rfl) (by simp) ?_
  refine rdy rfl (fun K hK => ?_) (AllReadyH.nil)
  refine step_append_run _ rfl _ _ _ _ rfl _ _ (by rfl) (by rfl) _ w7 hrun ?_
  refine hK.out _ _ td (fun hHeld => ?_)
  clear hK K
  repeat (rw [putL]; simp only [List.set])
  refine tky 41 ?_
  repeat (rw [putL]; simp only [List.set])
  refine tky 42 ?_
  repeat (rw [putL]; simp only [List.set])
  refine tky 43 ?_
  repeat (rw [putL]; simp only [List.set])
  refine wpAnyH_ready (rs := [44]) (by kernel_rfl) (by simp) ?_
  refine rdy rfl (fun K hK => ?_) (AllReadyH.nil)
  go_simp
  refine hK.out _ _ te (fun hHeld => ?_)
  clear hK K
  repeat (rw [putL]; simp only [List.set])
  refine wpAnyH_done (by kernel_rfl) ?_ _
  rotate_left 1
  go_simp
  go_at_call 116
  with_reducible refine G2.out.mono ?_
  rintro e we ⟨rfl, hb⟩
  have HEE := Lib.hid (HE.out.below hb)
  have BEE := Lib.hid (BE.out.trans (hb.mono (Nat.le_of_lt HE.out.lt)))
  have twe := HEE.out.cell0
  have ewe : we.cell? ⟨R, 5, none⟩ = some (.slice q.pp c.pkts.length q.cp) := by rw [HEE.out.blk.cell]; rfl
  clear hb
  have G3 := Lib.hid (get_false (c := 4) (P4.out.below BEE.out hb) (by decide) (Nat.lt_trans hb HEE.out.lt) (by omega))
  dsimp only
  refine hK.out _ _ twe (fun hHeld => ?_)
  clear hK K
  repeat (rw [putL]; simp only [List.set])
  refine tky 25 ?_
  repeat (rw [putL]; simp only [List.set])
  try simp only [htt, hwt]
  refine wpAnyH_ready (rs := [5, 34]) (by kernel_rfl) (by simp) ?_
  refine rdy rfl (fun K hK => ?_) (rdy rfl (fun K hK => ?_) (AllReadyH.nil))
  go_simp
  refine hK.out _ _ twe (fun hHeld => ?_)
  clear hK K
  repeat (rw [putL]; simp only [List.set])
  refine wpAnyH_ready (rs := [34]) (by kernel_rfl) (by simp) ?_
  refine rdy rfl (fun K hK => ?_) (AllReadyH.nil)
  go_simp
  go_at_call 116
  with_reducible refine G3.out.mono ?_
  rintro e wg ⟨rfl, hb⟩
  have HG := Lib.hid (HEE.out.below hb)
  have BG := Lib.hid (BEE.out.trans (hb.mono (Nat.le_of_lt HEE.out.lt)))
  have twg := HG.out.cell0
  have ewg : wg.cell? ⟨R, 5, none⟩ = some (.slice q.pp c.pkts.length q.cp) := by rw [HG.out.blk.cell]; rfl
  clear hb
  have CL := Lib.hid (CL0.out wg BG.out HG.out.lt)
  dsimp only
  refine hK.out _ _ twg (fun hHeld => ?_)
  clear hK K
  repeat (rw [putL]; simp only [List.set])
  refine wpAnyH_ready (rs := [37]) (by kernel_rfl) (by simp) ?_
  refine rdy rfl (fun K hK => ?_) (AllReadyH.nil)
  go_simp
  go_at_call 54
  with_reducible refine CL.out.mono ?_
  rintro e w5 hcl5
  obtain ⟨A5, c5, rfl, ho5, hb5⟩ := hcl5
  have H5 := Lib.hid (HG.out.below hb5)
  have B5 := Lib.hid (BG.out.trans (hb5.mono (Nat.le_of_lt HG.out.lt)))
  rw [HLA.out] at ho5 ⊢
  have t5 := H5.out.cell0
  obtain ⟨w0, rows, HF⟩ := H5.out.cap.pkts
  obtain ⟨A7, c7, w7, hrun, ho7, hg7, ha7, hb7⟩ := row_more (cs := (pktKd.row ⟨(t : Int), 0, (rl : Int), a, ⟨#[]⟩⟩ (.slice A5 n c5))) Try.underlying25 info47 (by rfl) (by decide) (by decide) HF.own rfl (pktR.one _ _ _ _) (by omega) (Nat.le_of_lt H5.out.lt)
  have END := Lib.hid (And.intro (Rd.pkt (x := ⟨(t : Int), 0, (rl : Int), a, ⟨#[]⟩⟩) H5.out HF ho7 hg7 ha7 HLA.out (own_mono ho5 (Nat.le_of_lt HG.out.lt)) HLT.out (by omega) hok (by omega)) ((B5.out.trans hb7).setCell (p := ⟨R, 5, none⟩) H5.out.le (.slice A7 (c.pkts.length + 1) c7)))
  have tc : (w5.alloc (.cells (pktKd.row ⟨(t : Int), 0, (rl : Int), a, ⟨#[]⟩⟩ (.slice A5 n c5)).toArray 47)).cell? ⟨R, 0, none⟩ = some (.iface 97 (.agg #[])) := by rw [(H5.out.blk.alloc _).cell]; rfl
  have hk7 : Blk w7 R 70 (rdV (.iface 97 (.agg #[])) q c A np cp torn) := ha7.2 R 70 _ (by decide) H5.out.blk
  have td : w7.cell? ⟨R, 0, none⟩ = some (.iface 97 (.agg #[])) := by rw [hk7.cell]; rfl
  have e7 : w7.cell? ⟨R, 5, none⟩ = some (.slice q.pp c.pkts.length q.cp) := by rw [hk7.cell]; rfl
  have f7 : w7.frozen? ⟨R, 5, none⟩ = false := hk7.frozen 5
  have te : (w7.setCell ⟨R, 5, none⟩ (.slice A7 (c.pkts.length + 1) c7)).cell? ⟨R, 0, none⟩ = some (.iface 97 (.agg #[])) := by rw [(hk7.set_ 5 _).cell]; rfl
  have e5 : w5.cell? ⟨R, 5, none⟩ = some (.slice q.pp c.pkts.length q.cp) := by rw [H5.out.blk.cell]; rfl
  have eC : (w5.alloc (.cells (pktKd.row ⟨(t : Int), 0, (rl : Int), a, ⟨#[]⟩⟩ (.slice A5 n c5)).toArray 47)).cell? ⟨R, 5, none⟩ = some (.slice q.pp c.pkts.length q.cp) := by rw [(H5.out.blk.alloc _).cell]; rfl
  simp only [pktKd] at hrun tc eC
  clear hb5 HF ho7 hg7 ha7 hb7 hk7 ho5
  dsimp only
  refine hK.out _ _ t5 (fun hHeld => ?_)
  clear hK K
  repeat (rw [putL]; simp only [List.set])
  refine tky 38 ?_
  repeat (rw [putL]; simp only [List.set])
  refine wpAnyH_ready (rs := [39]) (by kernel_rfl) (by simp) ?_
  refine rdy rfl (fun K hK => ?_) (AllReadyH.nil)
  go_simp
  refine hK.out _ _ tc (fun hHeld => ?_)
  clear hK K
  repeat (rw [putL]; simp only [List.set])
  refine wpAnyH_ready (rs := [40]) (by kernel_rfl) (by simp) ?_
  refine rdy rfl (fun K hK => ?_) (AllReadyH.nil)
  refine step_append_run _ rfl _ _ _ _ rfl _ _ (by rfl) (by rfl) _ w7 hrun ?_
  refine hK.out _ _ td (fun hHeld => ?_)
  clear hK K
  repeat (rw [putL]; simp only [List.set])
  refine tky 41 ?_
  repeat (rw [putL]; simp only [List.set])
  refine tky 42 ?_
  repeat (rw [putL]; simp only [List.set])
  refine tky 43 ?_
  repeat (rw [putL]; simp only [List.set])
  refine wpAnyH_ready (rs := [44]) (by kernel_rfl) (by simp) ?_
  refine rdy rfl (fun K hK => ?_) (AllReadyH.nil)
  go_simp
  refine hK.out _ _ te (fun hHeld => ?_)
  clear hK K
  repeat (rw [putL]; simp only [List.set])
  refine wpAnyH_done (by kernel_rfl) ?_ _
  rotate_left 1
  go_simp
  go_at_call 116
  with_reducible refine G3.out.mono ?_
  rintro e wg ⟨rfl, hb⟩
  have HG := Lib.hid (HEE.out.below hb)
  have BG := Lib.hid (BEE.out.trans (hb.mono (Nat.le_of_lt HEE.out.lt)))
  have twg := HG.out.cell0
  have ewg : wg.cell? ⟨R, 5, none⟩ = some (.slice q.pp c.pkts.length q.cp) := by rw [HG.out.blk.cell]; rfl
  clear hb
  have CL := Lib.hid (CL0.out wg BG.out HG.out.lt)
  dsimp only
  refine hK.out _ _ twg (fun hHeld => ?_)
  clear hK K
  repeat (rw [putL]; simp only [List.set])
  refine wpAnyH_ready (rs := [5, 37]) (by kernel_rfl) (by simp) ?_
  refine rdy rfl (fun K hK => ?_) (rdy rfl (fun K hK => ?_) (AllReadyH.nil))
  go_simp
  refine hK.out _ _ twg (fun hHeld => ?_)
  clear hK K
  repeat (rw [putL]; simp only [List.set])
  refine wpAnyH_ready (rs := [37]) (by kernel_rfl) (by simp) ?_
  refine rdy rfl (fun K hK => ?_) (AllReadyH.nil)
  go_simp
  go_at_call 54
  with_reducible refine CL.out.mono ?_
  rintro e w5 hcl5
  obtain ⟨A5, c5, rfl, ho5, hb5⟩ := hcl5
  have H5 := Lib.hid (HG.out.below hb5)
  have B5 := Lib.hid (BG.out.trans (hb5.mono (Nat.le_of_lt HG.out.lt)))
  rw [HLA.out] at ho5 ⊢
  have t5 := H5.out.cell0
  obtain ⟨w0, rows, HF⟩ := H5.out.cap.pkts
  obtain ⟨A7, c7, w7, hrun, ho7, hg7, ha7, hb7⟩ := row_more (cs := (pktKd.row ⟨(t : Int), 0, (rl : Int), a, ⟨#[]⟩⟩ (.slice A5 n c5))) Try.underlying25 info47 (by rfl) (by decide) (by decide) HF.own rfl (pktR.one _ _ _ _) (by omega) (Nat.le_of_lt H5.out.lt)
  have END := Lib.hid (And.intro (Rd.pkt (x := ⟨(t : Int), 0, (rl : Int), a, ⟨#[]⟩⟩) H5.out HF ho7 hg7 ha7 HLA.out (own_mono ho5 (Nat.le_of_lt HG.out.lt)) HLT.out (by omega) hok (by omega)) ((B5.out.trans hb7).setCell (p := ⟨R, 5, none⟩) H5.out.le (.slice A7 (c.pkts.length + 1) c7)))
  have tc : (w5.alloc (.cells (pktKd.row ⟨(t : Int), 0, (rl : Int), a, ⟨#[]⟩⟩ (.slice A5 n c5)).toArray 47)).cell? ⟨R, 0, none⟩ = some (.iface 97 (.agg #[])) := by rw [(H5.out.blk.alloc _).cell]; rfl
  have hk7 : Blk w7 R 70 (rdV (.iface 97 (.agg #[])) q c A np cp torn) := ha7.2 R 70 _ (by decide) H5.out.blk
  have td : w7.cell? ⟨R, 0, none⟩ = some (.iface 97 (.agg #[])) := by rw [hk7.cell]; rfl
  have e7 : w7.cell? ⟨R, 5, none⟩ = some (.slice q.pp c.pkts.length q.cp) := by rw [hk7.cell]; rfl
  have f7 : w7.frozen? ⟨R, 5, none⟩ = false := hk7.frozen 5
  have te : (w7.setCell ⟨R, 5, none⟩ (.slice A7 (c.pkts.length + 1) c7)).cell? ⟨R, 0, none⟩ = some (.iface 97 (.agg #[])) := by rw [(hk7.set_ 5 _).cell]; rfl
  have e5 : w5.cell? ⟨R, 5, none⟩ = some (.slice q.pp c.pkts.length q.cp) := by rw [H5.out.blk.cell]; rfl
  have eC : (w5.alloc (.cells (pktKd.row ⟨(t : Int), 0, (rl : Int), a, ⟨#[]⟩⟩ (.slice A5 n c5)).toArray 47)).cell? ⟨R, 5, none⟩ = some (.slice q.pp c.pkts.length q.cp) := by rw [(H5.out.blk.alloc _).cell]; rfl
  simp only [pktKd] at hrun tc eC
  clear hb5 HF ho7 hg7 ha7 hb7 hk7 ho5
  dsimp only
  refine hK.out _ _ t5 (fun hHeld => ?_)
  clear hK K
  repeat (rw [putL]; simp only [List.set])
  refine tky 38 ?_
  repeat (rw [putL]; simp only [List.set])
  refine wpAnyH_ready (rs := [39]) (by kernel_rfl) (by simp) ?_
  refine rdy rfl (fun K hK => ?_) (AllReadyH.nil)
  go_simp
  refine hK.out _ _ tc (fun hHeld => ?_)
  clear hK K
  repeat (rw [putL]; simp only [List.set])
  refine wpAnyH_ready (rs := [40]) (by kernel_rfl) (by simp) ?_
  refine rdy rfl (fun K hK => ?_) (AllReadyH.nil)
  refine step_append_run _ rfl _ _ _ _ rfl _ _ (by rfl) (by rfl) _ w7 hrun ?_
  refine hK.out _ _ td (fun hHeld => ?_)
  clear hK K
  repeat (rw [putL]; simp only [List.set])
  refine tky 41 ?_
  repeat (rw [putL]; simp only [List.set])
  refine tky 42 ?_
  repeat (rw [putL]; simp only [List.set])
  refine tky 43 ?_
  repeat (rw [putL]; simp only [List.set])
  refine wpAnyH_ready (rs := [44]) (by kernel_rfl) (by simp) ?_
  refine rdy rfl (fun K hK => ?_) (AllReadyH.nil)
  go_simp
  refine hK.out _ _ te (fun hHeld => ?_)
  clear hK K
  repeat (rw [putL]; simp only [List.set])
  refine wpAnyH_done (by kernel_rfl) ?_ _
  rotate_left 1
  go_simp
  go_at_call 54
  with_reducible refine CL.out.mono ?_
  rintro e w5 hcl5
  obtain ⟨A5, c5, rfl, ho5, hb5⟩ := hcl5
  have H5 := Lib.hid (HG.out.below hb5)
  have B5 := Lib.hid (BG.out.trans (hb5.mono (Nat.le_of_lt HG.out.lt)))
  rw [HLA.out] at ho5 ⊢
  have t5 := H5.out.cell0
  obtain ⟨w0, rows, HF⟩ := H5.out.cap.pkts
  obtain ⟨A7, c7, w7, hrun, ho7, hg7, ha7, hb7⟩ := row_more (cs := (pktKd.row ⟨(t : Int), 0, (rl : Int), a, ⟨#[]⟩⟩ (.slice A5 n c5))) Try.underlying25 info47 (by rfl) (by decide) (by decide) HF.own rfl (pktR.one _ _ _ _) (by omega) (Nat.le_of_lt H5.out.lt)
  have END := Lib.hid (And.intro (Rd.pkt (x := ⟨(t : Int), 0, (rl : Int), a, ⟨#[]⟩⟩) H5.out HF ho7 hg7 ha7 HLA.out (own_mono ho5 (Nat.le_of_lt HG.out.lt)) HLT.out (by omega) hok (by omega)) ((B5.out.trans hb7).setCell (p := ⟨R, 5, none⟩) H5.out.le (.slice A7 (c.pkts.length + 1) c7)))
  have tc : (w5.alloc (.cells (pktKd.row ⟨(t : Int), 0, (rl : Int), a, ⟨#[]⟩⟩ (.slice A5 n c5)).toArray 47)).cell? ⟨R, 0, none⟩ = some (.iface 97 (.agg #[])) := by rw [(H5.out.blk.alloc _).cell]; rfl
  have hk7 : Blk w7 R 70 (rdV (.iface 97 (.agg #[])) q c A np cp torn) := ha7.2 R 70 _ (by decide) H5.out.blk
  have td : w7.cell? ⟨R, 0, none⟩ = some (.iface 97 (.agg #[])) := by rw [hk7.cell]; rfl
  have e7 : w7.cell? ⟨R, 5, none⟩ = some (.slice q.pp c.pkts.length q.cp) := by rw [hk7.cell]; rfl
  have f7 : w7.frozen? ⟨R, 5, none⟩ = false := hk7.frozen 5
  have te : (w7.setCell ⟨R, 5, none⟩ (.slice A7 (c.pkts.length + 1) c7)).cell? ⟨R, 0, none⟩ = some (.iface 97 (.agg #[])) := by rw [(hk7.set_ 5 _).cell]; rfl
  have e5 : w5.cell? ⟨R, 5, none⟩ = some (.slice q.pp c.pkts.length q.cp) := by rw [H5.out.blk.cell]; rfl
  have eC : (w5.alloc (.cells (pktKd.row ⟨(t : Int), 0, (rl : Int), a, ⟨#[]⟩⟩ (.slice A5 n c5)).toArray 47)).cell? ⟨R, 5, none⟩ = some (.slice q.pp c.pkts.length q.cp) := by rw [(H5.out.blk.alloc _).cell]; rfl
  simp only [pktKd] at hrun tc eC
  clear hb5 HF ho7 hg7 ha7 hb7 hk7 ho5
  dsimp only
  refine hK.out _ _ t5 (fun hHeld => ?_)
  clear hK K
  repeat (rw [putL]; simp only [List.set])
  refine tky 38 ?_
  repeat (rw [putL]; simp only [List.set])
  refine wpAnyH_ready (rs := [5, 39]) (by kernel_rfl) (by simp) ?_
  refine rdy rfl (fun K hK => ?_) (rdy rfl (fun K hK => ?_) (AllReadyH.nil))
  go_simp
  refine hK.out _ _ t5 (fun hHeld => ?_)
  clear hK K
  repeat (rw [putL]; simp only [List.set])
  refine wpAnyH_ready (rs := [39]) (by kernel_rfl) (by simp) ?_
  refine rdy rfl (fun K hK => ?_) (AllReadyH.nil)
  go_simp
  refine hK.out _ _ tc (fun hHeld => ?_)
  clear hK K
  repeat (rw [putL]; simp only [List.set])
  refine wpAnyH_ready (rs := [40]) (by kernel_rfl) (by simp) ?_
  refine rdy rfl (fun K hK => ?_) (AllReadyH.nil)
  refine step_append_run _ rfl _ _ _ _ rfl _ _ (by rfl) (by rfl) _ w7 hrun ?_
  refine hK.out _ _ td (fun hHeld => ?_)
  clear hK K
  repeat (rw [putL]; simp only [List.set])
  refine tky 41 ?_
  repeat (rw [putL]; simp only [List.set])
  refine tky 42 ?_
  repeat (rw [putL]; simp only [List.set])
  refine tky 43 ?_
  repeat (rw [putL]; simp only [List.set])
  refine wpAnyH_ready (rs := [44]) (by kernel_rfl) (by simp) ?_
  refine rdy rfl (fun K hK => ?_) (AllReadyH.nil)
  go_simp
  refine hK.out _ _ te (fun hHeld => ?_)
  clear hK K
  repeat (rw [putL]; simp only [List.set])
  refine wpAnyH_done (by kernel_rfl) ?_ _
  rotate_left 1
  go_simp
  refine hK.out _ _ tc (fun hHeld => ?_)
  clear hK K
  repeat (rw [putL]; simp only [List.set])
  refine wpAnyH_ready (rs := [5]) (by kernel_rfl) (by simp) ?_
  refine rdy rfl (fun K hK => ?_) (AllReadyH.nil)
  go_simp
  refine hK.out _ _ tc (fun hHeld => ?_)
  clear hK K
  repeat (rw [putL]; simp only [List.set])
  refine wpAnyH_ready (rs := [40]) (by kernel_rfl) (by simp) ?_
  refine rdy rfl (fun K hK => ?_) (AllReadyH.nil)
  refine step_append_run _ rfl _ _ _ _ rfl _ _ (by rfl) (by rfl) _ w7 hrun ?_
  refine hK.out _ _ td (fun hHeld => ?_)
  clear hK K
  repeat (rw [putL]; simp only [List.set])
  refine tky 41 ?_
  repeat (rw [putL]; simp only [List.set])
  refine tky 42 ?_
  repeat (rw [putL]; simp only [List.set])
  refine tky 43 ?_
  repeat (rw [putL]; simp only [List.set])
  refine wpAnyH_ready (rs := [44]) (by kernel_rfl) (by simp) ?_
  refine rdy rfl (fun K hK => ?_) (AllReadyH.nil)
  go_simp
  refine hK.out _ _ te (fun hHeld => ?_)
  clear hK K
  repeat (rw [putL]; simp only [List.set])
  refine wpAnyH_done (by kernel_rfl) ?_ _
  all_goals
    go_wp2_with fail
    go_end0
    exact ⟨rfl, ⟨_, END.out.1⟩, END.out.2⟩
end Go.Proofs.Ytlimkckomdipkaa
