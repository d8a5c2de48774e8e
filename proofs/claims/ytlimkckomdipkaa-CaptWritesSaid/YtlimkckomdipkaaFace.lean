/- An interface's body, read. -/
import Derived.Test.YtlimkckomdipkaaSect
import Derived.Deep.RegionHeld3
import Derived.Test.YtlimkckomdipkaaMem
import Derived.Test.YtlimkckomdipkaaTky
namespace Go.Proofs.Ytlimkckomdipkaa
open Go.RowKit

set_option maxRecDepth 100000 in
set_option maxHeartbeats 8000000 in
theorem face_true {w : World} {R b np torn cp b0 o L cc lk sn : Nat} {q : Pl} {c : Cap} {A : Option Addr} {xs : List Value} {s : ByteArray} (h : Rd w R b (.iface 96 (.agg #[])) q A cp xs c np torn)
    (hp : Pc w b0 o (facBy true lk sn s)) (hL : (facBy true lk sn s).length = L) (hc : L < cc) (hb : b0 < b) (hs : s.size ≤ 200) (hlk : lk < 65536) (hsn : sn < 4294967296) (hn : c.faces.length < 1000) :
    Calls Try.prog 81 #[.pointer (some ⟨R, 0, none⟩), .slice (some ⟨b0, o, none⟩) L cc] w fun e w' => e = .returned (.bool true) ∧ (∃ q', Rd w' R b (.iface 96 (.agg #[])) q' A cp xs ⟨c.note, c.faces ++ [⟨s, lk, sn⟩], c.names, c.secs, c.pkts⟩ np torn) ∧ Below b w w' := by
  have hl2 : (numsB true 2 [lk, 0]).length = 4 := by rw [numsB_len]; rfl
  have hl4 : (numsB true 4 [sn]).length = 4 := by rw [numsB_len]; rfl
  have hlo : L = 8 + (optB true 2 8 s).length := by rw [← hL]; unfold facBy; rw [List.length_append, List.length_append, hl2, hl4]; omega
  have hbw : b0 < w.heap.size := by have := h.lt; omega
  unfold facBy at hp
  have hp1 := hp.left
  rw [numsB_cons, numsB_one] at hp1
  have P1 : Hid (Pc w b0 o (numB true 2 lk)) := Lib.hid hp1.left
  have P2 : Hid (Pc w b0 (o + 2) (numB true 2 0)) := Lib.hid (hp1.right.at_ (by rw [numB_len2]))
  have hp2 := hp.right
  have P3 : Hid (Pc w b0 (o + 4) (numB true 4 sn)) := Lib.hid ((hp2.left.of_eq (numsB_one _ _ _)).at_ (by rw [hl2]))
  have HLO := Lib.hid (fun (w' : World) (hw : Below b w w') (k : Rd w' R b (.iface 96 (.agg #[])) q A cp xs c np torn) => lastopt_any true (w := w') (c := cc - 8) (code := 2) (P := 8) (s := s) k.blk rfl ((hp2.right.at_ (o' := o + 8) (by rw [hl2, hl4])).below hw hb) (by decide) (Nat.lt_trans hb k.lt) (n := L - 8) (by omega) (by omega) hs (by decide))
  have H := Lib.hid h
  have q0 := h.cell0
  have hk1 : (8 : Int) ≤ (L : Int) := by omega
  have hk2 : (8 : Int) ≤ (cc : Int) := by omega
  have hk3 : ¬ cc = 8 := by omega
  have hk4 : decide ((L : Int) < 8) = false := by simp; omega
  have hk5 : (4 : Int) ≤ (cc : Int) := by omega
  have hk6 : ¬ cc = 4 := by omega
  have hk7 : ¬ cc = 2 := by omega
  have hk8 : (2 : Int) ≤ (cc : Int) := by omega
  have nah : ∀ (w : World), (nilAhead 246 96 (.agg #[]) "wireglass/capt.get").run Try.prog w = .ok (some false) w := fun w => by kernel_rfl
  have mth : ∀ (w : World), (method 246 96 (.agg #[]) "wireglass/capt.get").run Try.prog w = .ok (114, .agg #[]) w := fun w => by kernel_rfl
  have hfe : ∀ (w : World) (B : Nat), FacE ⟨s, lk, sn⟩ w B [.string s, .int .i64 (lk : Int), .int .i64 (sn : Int)] := fun w B => ⟨rfl, by show s.size ≤ _; omega, ⟨by show (-9223372036854775808 : Int) ≤ lk; omega, by show (lk : Int) ≤ _; omega⟩, ⟨by show (-9223372036854775808 : Int) ≤ sn; omega, by show (sn : Int) ≤ _; omega⟩⟩
  have G0 := Lib.hid (get_true (w := w.drew) (c := cc - 2) (P2.out.below (Below.refl _ w).drew hbw) (by decide) hbw (by decide))
  have q1 : w.drew.cell? ⟨R, 0, none⟩ = some (.iface 96 (.agg #[])) := q0
  clear h hp hp1 hp2 hL hlo hl2 hl4
  go_enter Try.func81, Try.ntmps81
  go_wp2_with fail
  refine wp_region_held_drew (S := fun w' => w'.cell? ⟨R, 0, none⟩ = some (.iface 96 (.agg #[]))) (by kernel_rfl) q1 (fun hHeld => ?_)
  refine tky 0 ?_
  repeat (rw [putL]; simp only [List.set])
  refine tky 1 ?_
  repeat (rw [putL]; simp only [List.set])
  refine tky 2 ?_
  repeat (rw [putL]; simp only [List.set])
  refine tky 3 ?_
  repeat (rw [putL]; simp only [List.set])
  refine tky 4 ?_
  repeat (rw [putL]; simp only [List.set])
  refine tky 5 ?_
  repeat (rw [putL]; simp only [List.set])
  refine tky 6 ?_
  repeat (rw [putL]; simp only [List.set])
  refine tky 7 ?_
  repeat (rw [putL]; simp only [List.set])
  refine tky 8 ?_
  repeat (rw [putL]; simp only [List.set])
  refine tky 9 ?_
  repeat (rw [putL]; simp only [List.set])
  refine tky 10 ?_
  repeat (rw [putL]; simp only [List.set])
  refine tky 11 ?_
  repeat (rw [putL]; simp only [List.set])
  refine wpAnyH_ready (rs := [12]) (by kernel_rfl) (by simp) ?_
  refine rdy rfl (fun K hK => ?_) (AllReadyH.nil)
  go_simp
  go_at_call 114
  with_reducible refine G0.out.mono ?_
  rintro e w1 ⟨rfl, hb0⟩
  have H1 := Lib.hid (H.out.drew.below hb0)
  have B1 : Hid (Below b w w1) := Lib.hid ((Below.refl _ w).drew.trans (hb0.mono (Nat.le_of_lt H.out.lt)))
  have t1 := H1.out.cell0
  clear hb0
  dsimp only
  refine hK.out _ _ t1 (fun hHeld => ?_)
  clear hK K
  repeat (rw [putL]; simp only [List.set])
  refine tky 13 ?_
  repeat (rw [putL]; simp only [List.set])
  refine tky 14 ?_
  repeat (rw [putL]; simp only [List.set])
  refine wpAnyH_done (by kernel_rfl) ?_ _
  have Y := Lib.hid (HLO.out w1 B1.out H1.out)
  clear HLO
  go_wp2_with fail
  refine Y.out.mono ?_
  rintro e w2 ⟨rfl, hb2⟩
  have HD := Lib.hid (H1.out.below hb2).drew
  have BD : Hid (Below b w w2.drew) := Lib.hid ((B1.out.trans (hb2.mono (Nat.le_of_lt H1.out.lt))).drew)
  have td0 : w2.drew.cell? ⟨R, 0, none⟩ = some (.iface 96 (.agg #[])) := HD.out.cell0
  have e0 : w2.drew.cell? ⟨R, 2, none⟩ = some (.slice q.pf c.faces.length q.cf) := by rw [HD.out.blk.cell]; rfl
  have G1 := Lib.hid (get_true (w := w2.drew) (c := cc) (P1.out.below BD.out hb) (by decide) (Nat.lt_trans hb HD.out.lt) (by omega))
  clear Y hb2 q0
  go_wp2_with fail
  refine wp_region_held_drew (S := fun w' => w'.cell? ⟨R, 0, none⟩ = some (.iface 96 (.agg #[]))) (by kernel_rfl) td0 (fun hHeld => ?_)
  refine tky 0 ?_
  repeat (rw [putL]; simp only [List.set])
  refine tky 1 ?_
  repeat (rw [putL]; simp only [List.set])
  refine tky 2 ?_
  repeat (rw [putL]; simp only [List.set])
  refine tky 3 ?_
  repeat (rw [putL]; simp only [List.set])
  refine tky 4 ?_
  repeat (rw [putL]; simp only [List.set])
  refine tky 6 ?_
  repeat (rw [putL]; simp only [List.set])
  refine tky 7 ?_
  repeat (rw [putL]; simp only [List.set])
  refine tky 8 ?_
  repeat (rw [putL]; simp only [List.set])
  refine tky 9 ?_
  repeat (rw [putL]; simp only [List.set])
  refine tky 10 ?_
  repeat (rw [putL]; simp only [List.set])
  refine tky 11 ?_
  repeat (rw [putL]; simp only [List.set])
  refine tky 12 ?_
  repeat (rw [putL]; simp only [List.set])
  refine tky 13 ?_
  repeat (rw [putL]; simp only [List.set])
  refine tky 14 ?_
  repeat (rw [putL]; simp only [List.set])
  refine tky 16 ?_
  repeat (rw [putL]; simp only [List.set])
  refine tky 17 ?_
  repeat (rw [putL]; simp only [List.set])
  refine tky 18 ?_
  repeat (rw [putL]; simp only [List.set])
  refine tky 19 ?_
  repeat (rw [putL]; simp only [List.set])
  refine tky 20 ?_
  repeat (rw [putL]; simp only [List.set])
  refine tky 21 ?_
  repeat (rw [putL]; simp only [List.set])
  refine tky 22 ?_
  repeat (rw [putL]; simp only [List.set])
  refine tky 23 ?_
  repeat (rw [putL]; simp only [List.set])
  refine wpAnyH_ready (rs := [5, 15]) (by kernel_rfl) (by simp) ?_
  refine rdy rfl (fun K hK => ?_) (rdy rfl (fun K hK => ?_) (AllReadyH.nil))
  go_simp
  refine hK.out _ _ td0 (fun hHeld => ?_)
  clear hK K
  repeat (rw [putL]; simp only [List.set])
  refine wpAnyH_ready (rs := [15]) (by kernel_rfl) (by simp) ?_
  refine rdy rfl (fun K hK => ?_) (AllReadyH.nil)
  go_simp
  go_at_call 114
  with_reducible refine (G1.out).mono ?_
  rintro e wa ⟨rfl, hb1⟩
  have HA := Lib.hid (HD.out.below hb1)
  have BA := Lib.hid (BD.out.trans (hb1.mono (Nat.le_of_lt HD.out.lt)))
  have G2 := Lib.hid (get_true (c := cc - 4) (P3.out.below BA.out hb) (by decide) (Nat.lt_trans hb HA.out.lt) (by omega))
  have ta := HA.out.cell0
  have eA : wa.cell? ⟨R, 2, none⟩ = some (.slice q.pf c.faces.length q.cf) := by rw [HA.out.blk.cell]; rfl
  clear hb1
  dsimp only
  refine hK.out _ _ ta (fun hHeld => ?_)
  clear hK K
  repeat (rw [putL]; simp only [List.set])
  refine wpAnyH_ready (rs := [24]) (by kernel_rfl) (by simp) ?_
  refine rdy rfl (fun K hK => ?_) (AllReadyH.nil)
  go_simp
  go_at_call 114
  with_reducible refine (G2.out).mono ?_
  rintro e wb ⟨rfl, hb2⟩
  have HB := Lib.hid (HA.out.below hb2)
  have BB := Lib.hid (BA.out.trans (hb2.mono (Nat.le_of_lt HA.out.lt)))
  have tb := HB.out.cell0
  obtain ⟨rows, HF⟩ := HB.out.cap.faces
  obtain ⟨A7, c7, w7, hrun, ho7, _, ha7, hb7⟩ := row_more (cs := [.string s, .int .i64 (lk : Int), .int .i64 (sn : Int)]) Try.underlying22 info54 (by rfl) (by decide) (by decide) HF.own rfl (facOne ⟨s, lk, sn⟩ wb wb.heap.size _ (hfe _ _)) (by omega) (Nat.le_of_lt HB.out.lt)
  have tc : (wb.alloc (.cells [.string s, .int .i64 (lk : Int), .int .i64 (sn : Int)].toArray 54)).cell? ⟨R, 0, none⟩ = some (.iface 96 (.agg #[])) := by rw [(HB.out.blk.alloc _).cell]; rfl
  have hk7 : Blk w7 R 70 (rdV (.iface 96 (.agg #[])) q c A np cp torn) := ha7.2 R 70 _ (by decide) HB.out.blk
  have td : w7.cell? ⟨R, 0, none⟩ = some (.iface 96 (.agg #[])) := by rw [hk7.cell]; rfl
  have e7 : w7.cell? ⟨R, 2, none⟩ = some (.slice q.pf c.faces.length q.cf) := by rw [hk7.cell]; rfl
  have f7 : w7.frozen? ⟨R, 2, none⟩ = false := hk7.frozen 2
  have te : (w7.setCell ⟨R, 2, none⟩ (.slice A7 (c.faces.length + 1) c7)).cell? ⟨R, 0, none⟩ = some (.iface 96 (.agg #[])) := by rw [(hk7.set_ 2 _).cell]; rfl
  have eB : wb.cell? ⟨R, 2, none⟩ = some (.slice q.pf c.faces.length q.cf) := by rw [HB.out.blk.cell]; rfl
  have eC : (wb.alloc (.cells [.string s, .int .i64 (lk : Int), .int .i64 (sn : Int)].toArray 54)).cell? ⟨R, 2, none⟩ = some (.slice q.pf c.faces.length q.cf) := by rw [(HB.out.blk.alloc _).cell]; rfl
  have END := Lib.hid (And.intro (Rd.face HB.out HF ho7 ha7 (by omega) (hfe _ _)) ((BB.out.trans hb7).setCell (p := ⟨R, 2, none⟩) HB.out.le (.slice A7 (c.faces.length + 1) c7)))
  clear hb2 HF ho7 ha7 hb7 hk7
  dsimp only
  refine hK.out _ _ tb (fun hHeld => ?_)
  clear hK K
  repeat (rw [putL]; simp only [List.set])
  refine tky 25 ?_
  repeat (rw [putL]; simp only [List.set])
  refine wpAnyH_ready (rs := [26]) (by kernel_rfl) (by simp) ?_
  refine rdy rfl (fun K hK => ?_) (AllReadyH.nil)
  go_simp
  refine hK.out _ _ tc (fun hHeld => ?_)
  clear hK K
  repeat (rw [putL]; simp only [List.set])
  refine wpAnyH_ready (rs := [27]) (by kernel_rfl) (by simp) ?_
  refine rdy rfl (fun K hK => ?_) (AllReadyH.nil)
  refine step_append_run _ rfl _ _ _ _ rfl _ _ (by rfl) (by rfl) _ w7 hrun ?_
  refine hK.out _ _ td (fun hHeld => ?_)
  clear hK K
  repeat (rw [putL]; simp only [List.set])
  refine tky 28 ?_
  repeat (rw [putL]; simp only [List.set])
  refine tky 29 ?_
  repeat (rw [putL]; simp only [List.set])
  refine tky 30 ?_
  repeat (rw [putL]; simp only [List.set])
  refine wpAnyH_ready (rs := [31]) (by kernel_rfl) (by simp) ?_
  refine rdy rfl (fun K hK => ?_) (AllReadyH.nil)
  go_simp
  refine hK.out _ _ te (fun hHeld => ?_)
  clear hK K
  repeat (rw [putL]; simp only [List.set])
  refine wpAnyH_done (by kernel_rfl) ?_ _
  rotate_left 1
  go_simp
  go_at_call 114
  with_reducible refine (G1.out).mono ?_
  rintro e wa ⟨rfl, hb1⟩
  have HA := Lib.hid (HD.out.below hb1)
  have BA := Lib.hid (BD.out.trans (hb1.mono (Nat.le_of_lt HD.out.lt)))
  have G2 := Lib.hid (get_true (c := cc - 4) (P3.out.below BA.out hb) (by decide) (Nat.lt_trans hb HA.out.lt) (by omega))
  have ta := HA.out.cell0
  have eA : wa.cell? ⟨R, 2, none⟩ = some (.slice q.pf c.faces.length q.cf) := by rw [HA.out.blk.cell]; rfl
  clear hb1
  dsimp only
  refine hK.out _ _ ta (fun hHeld => ?_)
  clear hK K
  repeat (rw [putL]; simp only [List.set])
  refine wpAnyH_ready (rs := [5, 24]) (by kernel_rfl) (by simp) ?_
  refine rdy rfl (fun K hK => ?_) (rdy rfl (fun K hK => ?_) (AllReadyH.nil))
  go_simp
  refine hK.out _ _ ta (fun hHeld => ?_)
  clear hK K
  repeat (rw [putL]; simp only [List.set])
  refine wpAnyH_ready (rs := [24]) (by kernel_rfl) (by simp) ?_
  refine rdy rfl (fun K hK => ?_) (AllReadyH.nil)
  go_simp
  go_at_call 114
  with_reducible refine (G2.out).mono ?_
  rintro e wb ⟨rfl, hb2⟩
  have HB := Lib.hid (HA.out.below hb2)
  have BB := Lib.hid (BA.out.trans (hb2.mono (Nat.le_of_lt HA.out.lt)))
  have tb := HB.out.cell0
  obtain ⟨rows, HF⟩ := HB.out.cap.faces
  obtain ⟨A7, c7, w7, hrun, ho7, _, ha7, hb7⟩ := row_more (cs := [.string s, .int .i64 (lk : Int), .int .i64 (sn : Int)]) Try.underlying22 info54 (by rfl) (by decide) (by decide) HF.own rfl (facOne ⟨s, lk, sn⟩ wb wb.heap.size _ (hfe _ _)) (by omega) (Nat.le_of_lt HB.out.lt)
  have tc : (wb.alloc (.cells [.string s, .int .i64 (lk : Int), .int .i64 (sn : Int)].toArray 54)).cell? ⟨R, 0, none⟩ = some (.iface 96 (.agg #[])) := by rw [(HB.out.blk.alloc _).cell]; rfl
  have hk7 : Blk w7 R 70 (rdV (.iface 96 (.agg #[])) q c A np cp torn) := ha7.2 R 70 _ (by decide) HB.out.blk
  have td : w7.cell? ⟨R, 0, none⟩ = some (.iface 96 (.agg #[])) := by rw [hk7.cell]; rfl
  have e7 : w7.cell? ⟨R, 2, none⟩ = some (.slice q.pf c.faces.length q.cf) := by rw [hk7.cell]; rfl
  have f7 : w7.frozen? ⟨R, 2, none⟩ = false := hk7.frozen 2
  have te : (w7.setCell ⟨R, 2, none⟩ (.slice A7 (c.faces.length + 1) c7)).cell? ⟨R, 0, none⟩ = some (.iface 96 (.agg #[])) := by rw [(hk7.set_ 2 _).cell]; rfl
  have eB : wb.cell? ⟨R, 2, none⟩ = some (.slice q.pf c.faces.length q.cf) := by rw [HB.out.blk.cell]; rfl
  have eC : (wb.alloc (.cells [.string s, .int .i64 (lk : Int), .int .i64 (sn : Int)].toArray 54)).cell? ⟨R, 2, none⟩ = some (.slice q.pf c.faces.length q.cf) := by rw [(HB.out.blk.alloc _).cell]; rfl
  have END := Lib.hid (And.intro (Rd.face HB.out HF ho7 ha7 (by omega) (hfe _ _)) ((BB.out.trans hb7).setCell (p := ⟨R, 2, none⟩) HB.out.le (.slice A7 (c.faces.length + 1) c7)))
  clear hb2 HF ho7 ha7 hb7 hk7
  dsimp only
  refine hK.out _ _ tb (fun hHeld => ?_)
  clear hK K
  repeat (rw [putL]; simp only [List.set])
  refine tky 25 ?_
  repeat (rw [putL]; simp only [List.set])
  refine wpAnyH_ready (rs := [26]) (by kernel_rfl) (by simp) ?_
  refine rdy rfl (fun K hK => ?_) (AllReadyH.nil)
  go_simp
  refine hK.out _ _ tc (fun hHeld => ?_)
  clear hK K
  repeat (rw [putL]; simp only [List.set])
  refine wpAnyH_ready (rs := [27]) (by kernel_rfl) (by simp) ?_
  refine rdy rfl (fun K hK => ?_) (AllReadyH.nil)
  refine step_append_run _ rfl _ _ _ _ rfl _ _ (by rfl) (by rfl) _ w7 hrun ?_
  refine hK.out _ _ td (fun hHeld => ?_)
  clear hK K
  repeat (rw [putL]; simp only [List.set])
  refine tky 28 ?_
  repeat (rw [putL]; simp only [List.set])
  refine tky 29 ?_
  repeat (rw [putL]; simp only [List.set])
  refine tky 30 ?_
  repeat (rw [putL]; simp only [List.set])
  refine wpAnyH_ready (rs := [31]) (by kernel_rfl) (by simp) ?_
  refine rdy rfl (fun K hK => ?_) (AllReadyH.nil)
  go_simp
  refine hK.out _ _ te (fun hHeld => ?_)
  clear hK K
  repeat (rw [putL]; simp only [List.set])
  refine wpAnyH_done (by kernel_rfl) ?_ _
  rotate_left 1
  go_simp
  go_at_call 114
  with_reducible refine (G2.out).mono ?_
  rintro e wb ⟨rfl, hb2⟩
  have HB := Lib.hid (HA.out.below hb2)
  have BB := Lib.hid (BA.out.trans (hb2.mono (Nat.le_of_lt HA.out.lt)))
  have tb := HB.out.cell0
  obtain ⟨rows, HF⟩ := HB.out.cap.faces
  obtain ⟨A7, c7, w7, hrun, ho7, _, ha7, hb7⟩ := row_more (cs := [.string s, .int .i64 (lk : Int), .int .i64 (sn : Int)]) Try.underlying22 info54 (by rfl) (by decide) (by decide) HF.own rfl (facOne ⟨s, lk, sn⟩ wb wb.heap.size _ (hfe _ _)) (by omega) (Nat.le_of_lt HB.out.lt)
  have tc : (wb.alloc (.cells [.string s, .int .i64 (lk : Int), .int .i64 (sn : Int)].toArray 54)).cell? ⟨R, 0, none⟩ = some (.iface 96 (.agg #[])) := by rw [(HB.out.blk.alloc _).cell]; rfl
  have hk7 : Blk w7 R 70 (rdV (.iface 96 (.agg #[])) q c A np cp torn) := ha7.2 R 70 _ (by decide) HB.out.blk
  have td : w7.cell? ⟨R, 0, none⟩ = some (.iface 96 (.agg #[])) := by rw [hk7.cell]; rfl
  have e7 : w7.cell? ⟨R, 2, none⟩ = some (.slice q.pf c.faces.length q.cf) := by rw [hk7.cell]; rfl
  have f7 : w7.frozen? ⟨R, 2, none⟩ = false := hk7.frozen 2
  have te : (w7.setCell ⟨R, 2, none⟩ (.slice A7 (c.faces.length + 1) c7)).cell? ⟨R, 0, none⟩ = some (.iface 96 (.agg #[])) := by rw [(hk7.set_ 2 _).cell]; rfl
  have eB : wb.cell? ⟨R, 2, none⟩ = some (.slice q.pf c.faces.length q.cf) := by rw [HB.out.blk.cell]; rfl
  have eC : (wb.alloc (.cells [.string s, .int .i64 (lk : Int), .int .i64 (sn : Int)].toArray 54)).cell? ⟨R, 2, none⟩ = some (.slice q.pf c.faces.length q.cf) := by rw [(HB.out.blk.alloc _).cell]; rfl
  have END := Lib.hid (And.intro (Rd.face HB.out HF ho7 ha7 (by omega) (hfe _ _)) ((BB.out.trans hb7).setCell (p := ⟨R, 2, none⟩) HB.out.le (.slice A7 (c.faces.length + 1) c7)))
  clear hb2 HF ho7 ha7 hb7 hk7
  dsimp only
  refine hK.out _ _ tb (fun hHeld => ?_)
  clear hK K
  repeat (rw [putL]; simp only [List.set])
  refine tky 25 ?_
  repeat (rw [putL]; simp only [List.set])
  refine wpAnyH_ready (rs := [5, 26]) (by kernel_rfl) (by simp) ?_
  refine rdy rfl (fun K hK => ?_) (rdy rfl (fun K hK => ?_) (AllReadyH.nil))
  go_simp
  refine hK.out _ _ tb (fun hHeld => ?_)
  clear hK K
  repeat (rw [putL]; simp only [List.set])
  refine wpAnyH_ready (rs := [26]) (by kernel_rfl) (by simp) ?_
  refine rdy rfl (fun K hK => ?_) (AllReadyH.nil)
  go_simp
  refine hK.out _ _ tc (fun hHeld => ?_)
  clear hK K
  repeat (rw [putL]; simp only [List.set])
  refine wpAnyH_ready (rs := [27]) (by kernel_rfl) (by simp) ?_
  refine rdy rfl (fun K hK => ?_) (AllReadyH.nil)
  refine step_append_run _ rfl _ _ _ _ rfl _ _ (by rfl) (by rfl) _ w7 hrun ?_
  refine hK.out _ _ td (fun hHeld => ?_)
  clear hK K
  repeat (rw [putL]; simp only [List.set])
  refine tky 28 ?_
  repeat (rw [putL]; simp only [List.set])
  refine tky 29 ?_
  repeat (rw [putL]; simp only [List.set])
  refine tky 30 ?_
  repeat (rw [putL]; simp only [List.set])
  refine wpAnyH_ready (rs := [31]) (by kernel_rfl) (by simp) ?_
  refine rdy rfl (fun K hK => ?_) (AllReadyH.nil)
  go_simp
  refine hK.out _ _ te (fun hHeld => ?_)
  clear hK K
  repeat (rw [putL]; simp only [List.set])
  refine wpAnyH_done (by kernel_rfl) ?_ _
  rotate_left 1
  go_simp
  refine hK.out _ _ tc (fun hHeld => ?_)
  clear hK K
  repeat (rw [putL]; simp only [List.set])
  refine wpAnyH_ready (rs := [5]) (by kernel_rfl) (by simp) ?_
  refine rdy rfl (fun K hK => ?_) (AllReadyH.nil)
  go_simp
  refine hK.out _ _ tc (fun hHeld => ?_)
  clear hK K
  repeat (rw [putL]; simp only [List.set])
  refine wpAnyH_ready (rs := [27]) (by kernel_rfl) (by simp) ?_
  refine rdy rfl (fun K hK => ?_) (AllReadyH.nil)
  refine step_append_run _ rfl _ _ _ _ rfl _ _ (by rfl) (by rfl) _ w7 hrun ?_
  refine hK.out _ _ td (fun hHeld => ?_)
  clear hK K
  repeat (rw [putL]; simp only [List.set])
  refine tky 28 ?_
  repeat (rw [putL]; simp only [List.set])
  refine tky 29 ?_
  repeat (rw [putL]; simp only [List.set])
  refine tky 30 ?_
  repeat (rw [putL]; simp only [List.set])
  refine wpAnyH_ready (rs := [31]) (by kernel_rfl) (by simp) ?_
  refine rdy rfl (fun K hK => ?_) (AllReadyH.nil)
  go_simp
  refine hK.out _ _ te (fun hHeld => ?_)
  clear hK K
  repeat (rw [putL]; simp only [List.set])
  refine wpAnyH_done (by kernel_rfl) ?_ _
  all_goals
    go_wp2_with fail
    go_ret
    exact ⟨rfl, ⟨_, END.out.1⟩, END.out.2⟩

set_option maxRecDepth 100000 in
set_option maxHeartbeats 8000000 in
theorem face_false {w : World} {R b np torn cp b0 o L cc lk sn : Nat} {q : Pl} {c : Cap} {A : Option Addr} {xs : List Value} {s : ByteArray} (h : Rd w R b (.iface 97 (.agg #[])) q A cp xs c np torn)
    (hp : Pc w b0 o (facBy false lk sn s)) (hL : (facBy false lk sn s).length = L) (hc : L < cc) (hb : b0 < b) (hs : s.size ≤ 200) (hlk : lk < 65536) (hsn : sn < 4294967296) (hn : c.faces.length < 1000) :
    Calls Try.prog 81 #[.pointer (some ⟨R, 0, none⟩), .slice (some ⟨b0, o, none⟩) L cc] w fun e w' => e = .returned (.bool true) ∧ (∃ q', Rd w' R b (.iface 97 (.agg #[])) q' A cp xs ⟨c.note, c.faces ++ [⟨s, lk, sn⟩], c.names, c.secs, c.pkts⟩ np torn) ∧ Below b w w' := by
  have hl2 : (numsB false 2 [lk, 0]).length = 4 := by rw [numsB_len]; rfl
  have hl4 : (numsB false 4 [sn]).length = 4 := by rw [numsB_len]; rfl
  have hlo : L = 8 + (optB false 2 8 s).length := by rw [← hL]; unfold facBy; rw [List.length_append, List.length_append, hl2, hl4]; omega
  have hbw : b0 < w.heap.size := by have := h.lt; omega
  unfold facBy at hp
  have hp1 := hp.left
  rw [numsB_cons, numsB_one] at hp1
  have P1 : Hid (Pc w b0 o (numB false 2 lk)) := Lib.hid hp1.left
  have P2 : Hid (Pc w b0 (o + 2) (numB false 2 0)) := Lib.hid (hp1.right.at_ (by rw [numB_len2]))
  have hp2 := hp.right
  have P3 : Hid (Pc w b0 (o + 4) (numB false 4 sn)) := Lib.hid ((hp2.left.of_eq (numsB_one _ _ _)).at_ (by rw [hl2]))
  have HLO := Lib.hid (fun (w' : World) (hw : Below b w w') (k : Rd w' R b (.iface 97 (.agg #[])) q A cp xs c np torn) => lastopt_any false (w := w') (c := cc - 8) (code := 2) (P := 8) (s := s) k.blk rfl ((hp2.right.at_ (o' := o + 8) (by rw [hl2, hl4])).below hw hb) (by decide) (Nat.lt_trans hb k.lt) (n := L - 8) (by omega) (by omega) hs (by decide))
  have H := Lib.hid h
  have q0 := h.cell0
  have hk1 : (8 : Int) ≤ (L : Int) := by omega
  have hk2 : (8 : Int) ≤ (cc : Int) := by omega
  have hk3 : ¬ cc = 8 := by omega
  have hk4 : decide ((L : Int) < 8) = false := by simp; omega
  have hk5 : (4 : Int) ≤ (cc : Int) := by omega
  have hk6 : ¬ cc = 4 := by omega
  have hk7 : ¬ cc = 2 := by omega
  have hk8 : (2 : Int) ≤ (cc : Int) := by omega
  have nah : ∀ (w : World), (nilAhead 246 97 (.agg #[]) "wireglass/capt.get").run Try.prog w = .ok (some false) w := fun w => by kernel_rfl
  have mth : ∀ (w : World), (method 246 97 (.agg #[]) "wireglass/capt.get").run Try.prog w = .ok (116, .agg #[]) w := fun w => by kernel_rfl
  have hfe : ∀ (w : World) (B : Nat), FacE ⟨s, lk, sn⟩ w B [.string s, .int .i64 (lk : Int), .int .i64 (sn : Int)] := fun w B => ⟨rfl, by show s.size ≤ _; omega, ⟨by show (-9223372036854775808 : Int) ≤ lk; omega, by show (lk : Int) ≤ _; omega⟩, ⟨by show (-9223372036854775808 : Int) ≤ sn; omega, by show (sn : Int) ≤ _; omega⟩⟩
  have G0 := Lib.hid (get_false (w := w.drew) (c := cc - 2) (P2.out.below (Below.refl _ w).drew hbw) (by decide) hbw (by decide))
  have q1 : w.drew.cell? ⟨R, 0, none⟩ = some (.iface 97 (.agg #[])) := q0
  clear h hp hp1 hp2 hL hlo hl2 hl4
  go_enter Try.func81, Try.ntmps81
  go_wp2_with fail
  refine wp_region_held_drew (S := fun w' => w'.cell? ⟨R, 0, none⟩ = some (.iface 97 (.agg #[]))) (by kernel_rfl) q1 (fun hHeld => ?_)
  refine tky 0 ?_
  repeat (rw [putL]; simp only [List.set])
  refine tky 1 ?_
  repeat (rw [putL]; simp only [List.set])
  refine tky 2 ?_
  repeat (rw [putL]; simp only [List.set])
  refine tky 3 ?_
  repeat (rw [putL]; simp only [List.set])
  refine tky 4 ?_
  repeat (rw [putL]; simp only [List.set])
  refine tky 5 ?_
  repeat (rw [putL]; simp only [List.set])
  refine tky 6 ?_
  repeat (rw [putL]; simp only [List.set])
  refine tky 7 ?_
  repeat (rw [putL]; simp only [List.set])
  refine tky 8 ?_
  repeat (rw [putL]; simp only [List.set])
  refine tky 9 ?_
  repeat (rw [putL]; simp only [List.set])
  refine tky 10 ?_
  repeat (rw [putL]; simp only [List.set])
  refine tky 11 ?_
  repeat (rw [putL]; simp only [List.set])
  refine wpAnyH_ready (rs := [12]) (by kernel_rfl) (by simp) ?_
  refine rdy rfl (fun K hK => ?_) (AllReadyH.nil)
  go_simp
  go_at_call 116
  with_reducible refine G0.out.mono ?_
  rintro e w1 ⟨rfl, hb0⟩
  have H1 := Lib.hid (H.out.drew.below hb0)
  have B1 : Hid (Below b w w1) := Lib.hid ((Below.refl _ w).drew.trans (hb0.mono (Nat.le_of_lt H.out.lt)))
  have t1 := H1.out.cell0
  clear hb0
  dsimp only
  refine hK.out _ _ t1 (fun hHeld => ?_)
  clear hK K
  repeat (rw [putL]; simp only [List.set])
  refine tky 13 ?_
  repeat (rw [putL]; simp only [List.set])
  refine tky 14 ?_
  repeat (rw [putL]; simp only [List.set])
  refine wpAnyH_done (by kernel_rfl) ?_ _
  have Y := Lib.hid (HLO.out w1 B1.out H1.out)
  clear HLO
  go_wp2_with fail
  refine Y.out.mono ?_
  rintro e w2 ⟨rfl, hb2⟩
  have HD := Lib.hid (H1.out.below hb2).drew
  have BD : Hid (Below b w w2.drew) := Lib.hid ((B1.out.trans (hb2.mono (Nat.le_of_lt H1.out.lt))).drew)
  have td0 : w2.drew.cell? ⟨R, 0, none⟩ = some (.iface 97 (.agg #[])) := HD.out.cell0
  have e0 : w2.drew.cell? ⟨R, 2, none⟩ = some (.slice q.pf c.faces.length q.cf) := by rw [HD.out.blk.cell]; rfl
  have G1 := Lib.hid (get_false (w := w2.drew) (c := cc) (P1.out.below BD.out hb) (by decide) (Nat.lt_trans hb HD.out.lt) (by omega))
  clear Y hb2 q0
  go_wp2_with fail
  refine wp_region_held_drew (S := fun w' => w'.cell? ⟨R, 0, none⟩ = some (.iface 97 (.agg #[]))) (by kernel_rfl) td0 (fun hHeld => ?_)
  refine tky 0 ?_
  repeat (rw [putL]; simp only [List.set])
  refine tky 1 ?_
  repeat (rw [putL]; simp only [List.set])
  refine tky 2 ?_
  repeat (rw [putL]; simp only [List.set])
  refine tky 3 ?_
  repeat (rw [putL]; simp only [List.set])
  refine tky 4 ?_
  repeat (rw [putL]; simp only [List.set])
  refine tky 6 ?_
  repeat (rw [putL]; simp only [List.set])
  refine tky 7 ?_
  repeat (rw [putL]; simp only [List.set])
  refine tky 8 ?_
  repeat (rw [putL]; simp only [List.set])
  refine tky 9 ?_
  repeat (rw [putL]; simp only [List.set])
  refine tky 10 ?_
  repeat (rw [putL]; simp only [List.set])
  refine tky 11 ?_
  repeat (rw [putL]; simp only [List.set])
  refine tky 12 ?_
  repeat (rw [putL]; simp only [List.set])
  refine tky 13 ?_
  repeat (rw [putL]; simp only [List.set])
  refine tky 14 ?_
  repeat (rw [putL]; simp only [List.set])
  refine tky 16 ?_
  repeat (rw [putL]; simp only [List.set])
  refine tky 17 ?_
  repeat (rw [putL]; simp only [List.set])
  refine tky 18 ?_
  repeat (rw [putL]; simp only [List.set])
  refine tky 19 ?_
  repeat (rw [putL]; simp only [List.set])
  refine tky 20 ?_
  repeat (rw [putL]; simp only [List.set])
  refine tky 21 ?_
  repeat (rw [putL]; simp only [List.set])
  refine tky 22 ?_
  repeat (rw [putL]; simp only [List.set])
  refine tky 23 ?_
  repeat (rw [putL]; simp only [List.set])
  refine wpAnyH_ready (rs := [5, 15]) (by kernel_rfl) (by simp) ?_
  refine rdy rfl (fun K hK => ?_) (rdy rfl (fun K hK => ?_) (AllReadyH.nil))
  go_simp
  refine hK.out _ _ td0 (fun hHeld => ?_)
  clear hK K
  repeat (rw [putL]; simp only [List.set])
  refine wpAnyH_ready (rs := [15]) (by kernel_rfl) (by simp) ?_
  refine rdy rfl (fun K hK => ?_) (AllReadyH.nil)
  go_simp
  go_at_call 116
  with_reducible refine (G1.out).mono ?_
  rintro e wa ⟨rfl, hb1⟩
  have HA := Lib.hid (HD.out.below hb1)
  have BA := Lib.hid (BD.out.trans (hb1.mono (Nat.le_of_lt HD.out.lt)))
  have G2 := Lib.hid (get_false (c := cc - 4) (P3.out.below BA.out hb) (by decide) (Nat.lt_trans hb HA.out.lt) (by omega))
  have ta := HA.out.cell0
  have eA : wa.cell? ⟨R, 2, none⟩ = some (.slice q.pf c.faces.length q.cf) := by rw [HA.out.blk.cell]; rfl
  clear hb1
  dsimp only
  refine hK.out _ _ ta (fun hHeld => ?_)
  clear hK K
  repeat (rw [putL]; simp only [List.set])
  refine wpAnyH_ready (rs := [24]) (by kernel_rfl) (by simp) ?_
  refine rdy rfl (fun K hK => ?_) (AllReadyH.nil)
  go_simp
  go_at_call 116
  with_reducible refine (G2.out).mono ?_
  rintro e wb ⟨rfl, hb2⟩
  have HB := Lib.hid (HA.out.below hb2)
  have BB := Lib.hid (BA.out.trans (hb2.mono (Nat.le_of_lt HA.out.lt)))
  have tb := HB.out.cell0
  obtain ⟨rows, HF⟩ := HB.out.cap.faces
  obtain ⟨A7, c7, w7, hrun, ho7, _, ha7, hb7⟩ := row_more (cs := [.string s, .int .i64 (lk : Int), .int .i64 (sn : Int)]) Try.underlying22 info54 (by rfl) (by decide) (by decide) HF.own rfl (facOne ⟨s, lk, sn⟩ wb wb.heap.size _ (hfe _ _)) (by omega) (Nat.le_of_lt HB.out.lt)
  have tc : (wb.alloc (.cells [.string s, .int .i64 (lk : Int), .int .i64 (sn : Int)].toArray 54)).cell? ⟨R, 0, none⟩ = some (.iface 97 (.agg #[])) := by rw [(HB.out.blk.alloc _).cell]; rfl
  have hk7 : Blk w7 R 70 (rdV (.iface 97 (.agg #[])) q c A np cp torn) := ha7.2 R 70 _ (by decide) HB.out.blk
  have td : w7.cell? ⟨R, 0, none⟩ = some (.iface 97 (.agg #[])) := by rw [hk7.cell]; rfl
  have e7 : w7.cell? ⟨R, 2, none⟩ = some (.slice q.pf c.faces.length q.cf) := by rw [hk7.cell]; rfl
  have f7 : w7.frozen? ⟨R, 2, none⟩ = false := hk7.frozen 2
  have te : (w7.setCell ⟨R, 2, none⟩ (.slice A7 (c.faces.length + 1) c7)).cell? ⟨R, 0, none⟩ = some (.iface 97 (.agg #[])) := by rw [(hk7.set_ 2 _).cell]; rfl
  have eB : wb.cell? ⟨R, 2, none⟩ = some (.slice q.pf c.faces.length q.cf) := by rw [HB.out.blk.cell]; rfl
  have eC : (wb.alloc (.cells [.string s, .int .i64 (lk : Int), .int .i64 (sn : Int)].toArray 54)).cell? ⟨R, 2, none⟩ = some (.slice q.pf c.faces.length q.cf) := by rw [(HB.out.blk.alloc _).cell]; rfl
  have END := Lib.hid (And.intro (Rd.face HB.out HF ho7 ha7 (by omega) (hfe _ _)) ((BB.out.trans hb7).setCell (p := ⟨R, 2, none⟩) HB.out.le (.slice A7 (c.faces.length + 1) c7)))
  clear hb2 HF ho7 ha7 hb7 hk7
  dsimp only
  refine hK.out _ _ tb (fun hHeld => ?_)
  clear hK K
  repeat (rw [putL]; simp only [List.set])
  refine tky 25 ?_
  repeat (rw [putL]; simp only [List.set])
  refine wpAnyH_ready (rs := [26]) (by kernel_rfl) (by simp) ?_
  refine rdy rfl (fun K hK => ?_) (AllReadyH.nil)
  go_simp
  refine hK.out _ _ tc (fun hHeld => ?_)
  clear hK K
  repeat (rw [putL]; simp only [List.set])
  refine wpAnyH_ready (rs := [27]) (by kernel_rfl) (by simp) ?_
  refine rdy rfl (fun K hK => ?_) (AllReadyH.nil)
  refine step_append_run _ rfl _ _ _ _ rfl _ _ (by rfl) (by rfl) _ w7 hrun ?_
  refine hK.out _ _ td (fun hHeld => ?_)
  clear hK K
  repeat (rw [putL]; simp only [List.set])
  refine tky 28 ?_
  repeat (rw [putL]; simp only [List.set])
  refine tky 29 ?_
  repeat (rw [putL]; simp only [List.set])
  refine tky 30 ?_
  repeat (rw [putL]; simp only [List.set])
  refine wpAnyH_ready (rs := [31]) (by kernel_rfl) (by simp) ?_
  refine rdy rfl (fun K hK => ?_) (AllReadyH.nil)
  go_simp
  refine hK.out _ _ te (fun hHeld => ?_)
  clear hK K
  repeat (rw [putL]; simp only [List.set])
  refine wpAnyH_done (by kernel_rfl) ?_ _
  rotate_left 1
  go_simp
  go_at_call 116
  with_reducible refine (G1.out).mono ?_
  rintro e wa ⟨rfl, hb1⟩
  have HA := Lib.hid (HD.out.below hb1)
  have BA := Lib.hid (BD.out.trans (hb1.mono (Nat.le_of_lt HD.out.lt)))
  have G2 := Lib.hid (get_false (c := cc - 4) (P3.out.below BA.out hb) (by decide) (Nat.lt_trans hb HA.out.lt) (by omega))
  have ta := HA.out.cell0
  have eA : wa.cell? ⟨R, 2, none⟩ = some (.slice q.pf c.faces.length q.cf) := by rw [HA.out.blk.cell]; rfl
  clear hb1
  dsimp only
  refine hK.out _ _ ta (fun hHeld => ?_)
  clear hK K
  repeat (rw [putL]; simp only [List.set])
  refine wpAnyH_ready (rs := [5, 24]) (by kernel_rfl) (by simp) ?_
  refine rdy rfl (fun K hK => ?_) (rdy rfl (fun K hK => ?_) (AllReadyH.nil))
  go_simp
  refine hK.out _ _ ta (fun hHeld => ?_)
  clear hK K
  repeat (rw [putL]; simp only [List.set])
  refine wpAnyH_ready (rs := [24]) (by kernel_rfl) (by simp) ?_
  refine rdy rfl (fun K hK => ?_) (AllReadyH.nil)
  go_simp
  go_at_call 116
  with_reducible refine (G2.out).mono ?_
  rintro e wb ⟨rfl, hb2⟩
  have HB := Lib.hid (HA.out.below hb2)
  have BB := Lib.hid (BA.out.trans (hb2.mono (Nat.le_of_lt HA.out.lt)))
  have tb := HB.out.cell0
  obtain ⟨rows, HF⟩ := HB.out.cap.faces
  obtain ⟨A7, c7, w7, hrun, ho7, _, ha7, hb7⟩ := row_more (cs := [.string s, .int .i64 (lk : Int), .int .i64 (sn : Int)]) Try.underlying22 info54 (by rfl) (by decide) (by decide) HF.own rfl (facOne ⟨s, lk, sn⟩ wb wb.heap.size _ (hfe _ _)) (by omega) (Nat.le_of_lt HB.out.lt)
  have tc : (wb.alloc (.cells [.string s, .int .i64 (lk : Int), .int .i64 (sn : Int)].toArray 54)).cell? ⟨R, 0, none⟩ = some (.iface 97 (.agg #[])) := by rw [(HB.out.blk.alloc _).cell]; rfl
  have hk7 : Blk w7 R 70 (rdV (.iface 97 (.agg #[])) q c A np cp torn) := ha7.2 R 70 _ (by decide) HB.out.blk
  have td : w7.cell? ⟨R, 0, none⟩ = some (.iface 97 (.agg #[])) := by rw [hk7.cell]; rfl
  have e7 : w7.cell? ⟨R, 2, none⟩ = some (.slice q.pf c.faces.length q.cf) := by rw [hk7.cell]; rfl
  have f7 : w7.frozen? ⟨R, 2, none⟩ = false := hk7.frozen 2
  have te : (w7.setCell ⟨R, 2, none⟩ (.slice A7 (c.faces.length + 1) c7)).cell? ⟨R, 0, none⟩ = some (.iface 97 (.agg #[])) := by rw [(hk7.set_ 2 _).cell]; rfl
  have eB : wb.cell? ⟨R, 2, none⟩ = some (.slice q.pf c.faces.length q.cf) := by rw [HB.out.blk.cell]; rfl
  have eC : (wb.alloc (.cells [.string s, .int .i64 (lk : Int), .int .i64 (sn : Int)].toArray 54)).cell? ⟨R, 2, none⟩ = some (.slice q.pf c.faces.length q.cf) := by rw [(HB.out.blk.alloc _).cell]; rfl
  have END := Lib.hid (And.intro (Rd.face HB.out HF ho7 ha7 (by omega) (hfe _ _)) ((BB.out.trans hb7).setCell (p := ⟨R, 2, none⟩) HB.out.le (.slice A7 (c.faces.length + 1) c7)))
  clear hb2 HF ho7 ha7 hb7 hk7
  dsimp only
  refine hK.out _ _ tb (fun hHeld => ?_)
  clear hK K
  repeat (rw [putL]; simp only [List.set])
  refine tky 25 ?_
  repeat (rw [putL]; simp only [List.set])
  refine wpAnyH_ready (rs := [26]) (by kernel_rfl) (by simp) ?_
  refine rdy rfl (fun K hK => ?_) (AllReadyH.nil)
  go_simp
  refine hK.out _ _ tc (fun hHeld => ?_)
  clear hK K
  repeat (rw [putL]; simp only [List.set])
  refine wpAnyH_ready (rs := [27]) (by kernel_rfl) (by simp) ?_
  refine rdy rfl (fun K hK => ?_) (AllReadyH.nil)
  refine step_append_run _ rfl _ _ _ _ rfl _ _ (by rfl) (by rfl) _ w7 hrun ?_
  refine hK.out _ _ td (fun hHeld => ?_)
  clear hK K
  repeat (rw [putL]; simp only [List.set])
  refine tky 28 ?_
  repeat (rw [putL]; simp only [List.set])
  refine tky 29 ?_
  repeat (rw [putL]; simp only [List.set])
  refine tky 30 ?_
  repeat (rw [putL]; simp only [List.set])
  refine wpAnyH_ready (rs := [31]) (by kernel_rfl) (by simp) ?_
  refine rdy rfl (fun K hK => ?_) (AllReadyH.nil)
  go_simp
  refine hK.out _ _ te (fun hHeld => ?_)
  clear hK K
  repeat (rw [putL]; simp only [List.set])
  refine wpAnyH_done (by kernel_rfl) ?_ _
  rotate_left 1
  go_simp
  go_at_call 116
  with_reducible refine (G2.out).mono ?_
  rintro e wb ⟨rfl, hb2⟩
  have HB := Lib.hid (HA.out.below hb2)
  have BB := Lib.hid (BA.out.trans (hb2.mono (Nat.le_of_lt HA.out.lt)))
  have tb := HB.out.cell0
  obtain ⟨rows, HF⟩ := HB.out.cap.faces
  obtain ⟨A7, c7, w7, hrun, ho7, _, ha7, hb7⟩ := row_more (cs := [.string s, .int .i64 (lk : Int), .int .i64 (sn : Int)]) Try.underlying22 info54 (by rfl) (by decide) (by decide) HF.own rfl (facOne ⟨s, lk, sn⟩ wb wb.heap.size _ (hfe _ _)) (by omega) (Nat.le_of_lt HB.out.lt)
  have tc : (wb.alloc (.cells [.string s, .int .i64 (lk : Int), .int .i64 (sn : Int)].toArray 54)).cell? ⟨R, 0, none⟩ = some (.iface 97 (.agg #[])) := by rw [(HB.out.blk.alloc _).cell]; rfl
  have hk7 : Blk w7 R 70 (rdV (.iface 97 (.agg #[])) q c A np cp torn) := ha7.2 R 70 _ (by decide) HB.out.blk
  have td : w7.cell? ⟨R, 0, none⟩ = some (.iface 97 (.agg #[])) := by rw [hk7.cell]; rfl
  have e7 : w7.cell? ⟨R, 2, none⟩ = some (.slice q.pf c.faces.length q.cf) := by rw [hk7.cell]; rfl
  have f7 : w7.frozen? ⟨R, 2, none⟩ = false := hk7.frozen 2
  have te : (w7.setCell ⟨R, 2, none⟩ (.slice A7 (c.faces.length + 1) c7)).cell? ⟨R, 0, none⟩ = some (.iface 97 (.agg #[])) := by rw [(hk7.set_ 2 _).cell]; rfl
  have eB : wb.cell? ⟨R, 2, none⟩ = some (.slice q.pf c.faces.length q.cf) := by rw [HB.out.blk.cell]; rfl
  have eC : (wb.alloc (.cells [.string s, .int .i64 (lk : Int), .int .i64 (sn : Int)].toArray 54)).cell? ⟨R, 2, none⟩ = some (.slice q.pf c.faces.length q.cf) := by rw [(HB.out.blk.alloc _).cell]; rfl
  have END := Lib.hid (And.intro (Rd.face HB.out HF ho7 ha7 (by omega) (hfe _ _)) ((BB.out.trans hb7).setCell (p := ⟨R, 2, none⟩) HB.out.le (.slice A7 (c.faces.length + 1) c7)))
  clear hb2 HF ho7 ha7 hb7 hk7
  dsimp only
  refine hK.out _ _ tb (fun hHeld => ?_)
  clear hK K
  repeat (rw [putL]; simp only [List.set])
  refine tky 25 ?_
  repeat (rw [putL]; simp only [List.set])
  refine wpAnyH_ready (rs := [5, 26]) (by kernel_rfl) (by simp) ?_
  refine rdy rfl (fun K hK => ?_) (rdy rfl (fun K hK => ?_) (AllReadyH.nil))
  go_simp
  refine hK.out _ _ tb (fun hHeld => ?_)
  clear hK K
  repeat (rw [putL]; simp only [List.set])
  refine wpAnyH_ready (rs := [26]) (by kernel_rfl) (by simp) ?_
  refine rdy rfl (fun K hK => ?_) (AllReadyH.nil)
  go_simp
  refine hK.out _ _ tc (fun hHeld => ?_)
  clear hK K
  repeat (rw [putL]; simp only [List.set])
  refine wpAnyH_ready (rs := [27]) (by kernel_rfl) (by simp) ?_
  refine rdy rfl (fun K hK => ?_) (AllReadyH.nil)
  refine step_append_run _ rfl _ _ _ _ rfl _ _ (by rfl) (by rfl) _ w7 hrun ?_
  refine hK.out _ _ td (fun hHeld => ?_)
  clear hK K
  repeat (rw [putL]; simp only [List.set])
  refine tky 28 ?_
  repeat (rw [putL]; simp only [List.set])
  refine tky 29 ?_
  repeat (rw [putL]; simp only [List.set])
  refine tky 30 ?_
  repeat (rw [putL]; simp only [List.set])
  refine wpAnyH_ready (rs := [31]) (by kernel_rfl) (by simp) ?_
  refine rdy rfl (fun K hK => ?_) (AllReadyH.nil)
  go_simp
  refine hK.out _ _ te (fun hHeld => ?_)
  clear hK K
  repeat (rw [putL]; simp only [List.set])
  refine wpAnyH_done (by kernel_rfl) ?_ _
  rotate_left 1
  go_simp
  refine hK.out _ _ tc (fun hHeld => ?_)
  clear hK K
  repeat (rw [putL]; simp only [List.set])
  refine wpAnyH_ready (rs := [5]) (by kernel_rfl) (by simp) ?_
  refine rdy rfl (fun K hK => ?_) (AllReadyH.nil)
  go_simp
  refine hK.out _ _ tc (fun hHeld => ?_)
  clear hK K
  repeat (rw [putL]; simp only [List.set])
  refine wpAnyH_ready (rs := [27]) (by kernel_rfl) (by simp) ?_
  refine rdy rfl (fun K hK => ?_) (AllReadyH.nil)
  refine step_append_run _ rfl _ _ _ _ rfl _ _ (by rfl) (by rfl) _ w7 hrun ?_
  refine hK.out _ _ td (fun hHeld => ?_)
  clear hK K
  repeat (rw [putL]; simp only [List.set])
  refine tky 28 ?_
  repeat (rw [putL]; simp only [List.set])
  refine tky 29 ?_
  repeat (rw [putL]; simp only [List.set])
  refine tky 30 ?_
  repeat (rw [putL]; simp only [List.set])
  refine wpAnyH_ready (rs := [31]) (by kernel_rfl) (by simp) ?_
  refine rdy rfl (fun K hK => ?_) (AllReadyH.nil)
  go_simp
  refine hK.out _ _ te (fun hHeld => ?_)
  clear hK K
  repeat (rw [putL]; simp only [List.set])
  refine wpAnyH_done (by kernel_rfl) ?_ _
  all_goals
    go_wp2_with fail
    go_ret
    exact ⟨rfl, ⟨_, END.out.1⟩, END.out.2⟩

theorem face_any (low : Bool) {w : World} {R b np torn cp b0 o L cc lk sn : Nat} {q : Pl} {c : Cap} {A : Option Addr} {xs : List Value} {s : ByteArray} (h : Rd w R b (ordV low) q A cp xs c np torn)
    (hp : Pc w b0 o (facBy low lk sn s)) (hL : (facBy low lk sn s).length = L) (hc : L < cc) (hb : b0 < b) (hs : s.size ≤ 200) (hlk : lk < 65536) (hsn : sn < 4294967296) (hn : c.faces.length < 1000) :
    Calls Try.prog 81 #[.pointer (some ⟨R, 0, none⟩), .slice (some ⟨b0, o, none⟩) L cc] w fun e w' => e = .returned (.bool true) ∧ (∃ q', Rd w' R b (ordV low) q' A cp xs ⟨c.note, c.faces ++ [⟨s, lk, sn⟩], c.names, c.secs, c.pkts⟩ np torn) ∧ Below b w w' := by
  cases low with
  | true => exact face_true h hp hL hc hb hs hlk hsn hn
  | false => exact face_false h hp hL hc hb hs hlk hsn hn
end Go.Proofs.Ytlimkckomdipkaa
