/- A file's blocks, read. -/
import Derived.Test.YtlimkckomdipkaaRd3
import Derived.Deep.RegionHeld3
import Derived.Test.YtlimkckomdipkaaMem
import Derived.Test.YtlimkckomdipkaaTky
namespace Go.Proofs.Ytlimkckomdipkaa
open Go.RowKit

set_option maxRecDepth 100000 in
set_option maxHeartbeats 16000000 in
theorem blocks_true {w : World} {R b n N C b0 o : Nat} {K : Nat → Cap} {at_ kind len : Nat → Nat} (h : Rd w R b (.iface 96 (.agg #[])) ⟨none, 0, none, 0, none, 0, none, 0⟩ none 0 [] (K 0) 0 0) (hb : b0 < b) (hNC : N ≤ C) (hN : N ≤ 200000) (hn : n < 1000)
    (h0 : at_ 0 = 0) (hs : ∀ i, i < n → at_ (i + 1) = at_ i + (12 + len i) ∧ at_ (i + 1) ≤ N ∧ kind i < 4294967296 ∧ len i % 4 = 0)
    (hp : ∀ i, i < n → Pc w b0 (o + at_ i) (numB true 4 (kind i)) ∧ Pc w b0 (o + (at_ i + 4)) (numB true 4 (12 + len i)) ∧ Pc w b0 (o + (at_ i + (8 + len i))) (numB true 4 (12 + len i)))
    (hk : ∀ i, i < n → ∀ w', Below b w w' → ∀ q A cp xs, Rd w' R b (.iface 96 (.agg #[])) q A cp xs (K i) i 0 → Calls Try.prog 77 #[.pointer (some ⟨R, 0, none⟩), .int .i64 (kind i : Nat), .slice (some ⟨b0, o + (at_ i + 8), none⟩) (len i) (C - (at_ i + 8))] w' (Red w' R b (.iface 96 (.agg #[])) A cp xs (K (i + 1)) i 0))
    (ht : N - at_ n < 8 ∨ ∃ kd sz, Pc w b0 (o + at_ n) (numB true 4 kd) ∧ Pc w b0 (o + (at_ n + 4)) (numB true 4 sz) ∧ kd < 4294967296 ∧ sz < 4294967296 ∧ N - at_ n < sz ∧ 12 ≤ sz ∧ sz % 4 = 0) (hle : at_ n ≤ N) :
    Calls Try.prog 71 #[.pointer (some ⟨R, 0, none⟩), .slice (some ⟨b0, o, none⟩) N C] w fun e w' => e = .returned (.bool (decide (0 < at_ n))) ∧ (∃ q A cp xs, Rd w' R b (.iface 96 (.agg #[])) q A cp xs (K n) n (N - at_ n)) ∧ Below b w w' := by
  have H := Lib.hid h
  have HS := Lib.hid hs
  have HP := Lib.hid hp
  have HBK := Lib.hid hk
  have HT := Lib.hid ht
  have H0 := Lib.hid h0
  have HLE := Lib.hid hle
  have nah : ∀ (w : World), (nilAhead 246 96 (.agg #[]) "wireglass/capt.get").run Try.prog w = .ok (some false) w := fun w => by kernel_rfl
  have mth : ∀ (w : World), (method 246 96 (.agg #[]) "wireglass/capt.get").run Try.prog w = .ok (114, .agg #[]) w := fun w => by kernel_rfl
  clear h hs hp hk ht h0 hle
  go_enter Try.func71, Try.ntmps71
  go_wp2_with fail
  go_loopw [5, 6, 7, 8] (fun at5 _ _ _ wr => ∃ i : Nat, i ≤ n ∧ at5 = .int .i64 (at_ i : Nat) ∧ Hid (Below b w wr) ∧ ∃ q A cp xs, Hid (Rd wr R b (.iface 96 (.agg #[])) q A cp xs (K i) i 0)) (fun at5 _ _ _ _ => N - (intOf at5).toNat)
  case atStart => exact ⟨0, Nat.zero_le _, by rw [H0.out]; rfl, Lib.hid (Below.refl _ _), _, _, _, _, H⟩
  case round =>
    obtain ⟨i, hi, rfl, HBW, q, A, cp, xs, HR⟩ := hrel
    by_cases hin : i < n
    · have hS := HS.out i hin
      have hP := HP.out i hin
      obtain ⟨p, hpp⟩ : ∃ p, at_ i = p := ⟨_, rfl⟩
      obtain ⟨kd, hkd⟩ : ∃ kd, kind i = kd := ⟨_, rfl⟩
      obtain ⟨ln, hln⟩ : ∃ ln, len i = ln := ⟨_, rfl⟩
      obtain ⟨sz, hsz⟩ : ∃ sz, 12 + ln = sz := ⟨_, rfl⟩
      obtain ⟨E, hE⟩ : ∃ E, p + (8 + ln) = E := ⟨_, rfl⟩
      obtain ⟨p4, hp4⟩ : ∃ p4, p + 4 = p4 := ⟨_, rfl⟩
      obtain ⟨p8, hp8⟩ : ∃ p8, p + 8 = p8 := ⟨_, rfl⟩
      obtain ⟨E4, hE4⟩ : ∃ E4, E + 4 = E4 := ⟨_, rfl⟩
      have KB0 := Lib.hid (HBK.out i hin)
      rw [hpp, hkd, hln, hp8] at KB0
      rw [hpp, hkd, hln, hsz] at hS
      rw [hpp, hkd, hln, hsz, hE, hp4] at hP
      rw [hpp]
      have HK1 := Lib.hid hpp
      have HK2 := Lib.hid hkd
      have HK3 := Lib.hid hln
      have HAT1 := Lib.hid hS.1
      have hfit : p + sz ≤ N := by have := hS.2.1; rw [hS.1] at this; exact this
      have hszB : Hid (sz < 256 ^ 4) := Lib.hid (by omega)
      have hkdB : Hid (kd < 256 ^ 4) := Lib.hid hS.2.2.1
      have P1 := Lib.hid hP.1
      have P2 := Lib.hid hP.2.1
      have P3 := Lib.hid hP.2.2
      have hm4 : (sz : Int) % 4 = 0 := by have := hS.2.2.2; omega
      have hE1 : (p : Int) + (sz : Int) - 4 = (E : Int) := by omega
      have hs12 : 12 ≤ sz := by omega
      have HD := Lib.hid HR.out.drew
      have BD : Hid (Below b w wr.drew) := Lib.hid HBW.out.drew
      have q1 : wr.drew.cell? ⟨R, 0, none⟩ = some (.iface 96 (.agg #[])) := HD.out.cell0
      have G1 := Lib.hid (get_true (w := wr.drew) (c := C - p) (P1.out.below BD.out hb) (by decide) (Nat.lt_trans hb HD.out.lt) hkdB.out)
      have hg8 : decide ((8 : Int) ≤ (N : Int) - (p : Int)) = true := by simp; omega
      have hl12 : decide ((sz : Int) < 12) = false := by simp; omega
      have hl13 : decide ((N : Int) - (p : Int) < (sz : Int)) = false := by simp; omega
      have hw4 : IntKind.i64.wrap ((p : Int) + 4) = (p4 : Int) := by rw [IntKind.wrap_i64]; omega
      have hw8 : IntKind.i64.wrap ((p : Int) + 8) = (p8 : Int) := by rw [IntKind.wrap_i64]; omega
      have hwE : IntKind.i64.wrap ((E : Int) + 4) = (E4 : Int) := by rw [IntKind.wrap_i64]; omega
      have hb1 : p ≤ p4 := by omega
      have hb2 : p4 ≤ p8 := by omega
      have hb3 : p8 ≤ E := by omega
      have hb4 : E ≤ E4 := by omega
      have hc1 : (p4 : Int) ≤ (C : Int) := by omega
      have hc2 : (p8 : Int) ≤ (C : Int) := by omega
      have hc3 : (E : Int) ≤ (C : Int) := by omega
      have hc4 : (E4 : Int) ≤ (C : Int) := by omega
      have hd1 : p4 - p = 4 := by omega
      have hd2 : p8 - p4 = 4 := by omega
      have hd3 : E4 - E = 4 := by omega
      have hd4 : E - p8 = ln := by omega
      have hc5 : ¬ C = p := by omega
      have hc6 : ¬ C = p4 := by omega
      have hc7 : ¬ C = p8 := by omega
      have hc8 : ¬ C = E := by omega
      clear hS hP hpp hkd hln hE hp4 hp8 hE4
      go_wp2_with fail
      refine wp_region_held_drew (S := fun w' => w'.cell? ⟨R, 0, none⟩ = some (.iface 96 (.agg #[]))) (by kernel_rfl) q1 (fun hHeld => ?_)
      refine tky 0 ?_
      repeat (rw [putL]; simp only [List.set])
      refine tky 1 ?_
      repeat (rw [putL]; simp only [List.set])
      refine tky 2 ?_
      repeat (rw [putL]; simp only [List.set])
      refine tky 3 ?_
      repeat (rw [putL]; simp only [List.set])
      refine tky 4 ?_
      repeat (rw [putL]; simp only [List.set])
      refine tky 5 ?_
      repeat (rw [putL]; simp only [List.set])
      refine tky 6 ?_
      repeat (rw [putL]; simp only [List.set])
      refine tky 7 ?_
      repeat (rw [putL]; simp only [List.set])
      try simp only [hw4]
      refine tky 8 ?_
      repeat (rw [putL]; simp only [List.set])
      refine tky 9 ?_
      repeat (rw [putL]; simp only [List.set])
      refine tky 10 ?_
      repeat (rw [putL]; simp only [List.set])
      refine tky 12 ?_
      repeat (rw [putL]; simp only [List.set])
      refine tky 13 ?_
      repeat (rw [putL]; simp only [List.set])
      refine tky 14 ?_
      repeat (rw [putL]; simp only [List.set])
      refine tky 15 ?_
      repeat (rw [putL]; simp only [List.set])
      refine tky 16 ?_
      repeat (rw [putL]; simp only [List.set])
      refine tky 17 ?_
      repeat (rw [putL]; simp only [List.set])
      refine tky 18 ?_
      repeat (rw [putL]; simp only [List.set])
      try simp only [hw4]
      refine tky 19 ?_
      repeat (rw [putL]; simp only [List.set])
      refine tky 20 ?_
      repeat (rw [putL]; simp only [List.set])
      try simp only [hw8]
      refine tky 21 ?_
      repeat (rw [putL]; simp only [List.set])
      refine tky 22 ?_
      repeat (rw [putL]; simp only [List.set])
      refine tky 23 ?_
      repeat (rw [putL]; simp only [List.set])
      refine wpAnyH_ready (rs := [11]) (by kernel_rfl) (by simp) ?_
      refine rdy rfl (fun K hK => ?_) (AllReadyH.nil)
      go_simp
      go_at_call 114
      with_reducible refine G1.out.mono ?_
      rintro e wa ⟨rfl, hb1⟩
      have HA := Lib.hid (HD.out.below hb1)
      have BA : Hid (Below b w wa) := Lib.hid (BD.out.trans (hb1.mono (Nat.le_of_lt HD.out.lt)))
      have twa := HA.out.cell0
      clear hb1
      have G2 := Lib.hid (get_true (c := C - p4) (P2.out.below BA.out hb) (by decide) (Nat.lt_trans hb HA.out.lt) hszB.out)
      dsimp only
      refine hK.out _ _ twa (fun hHeld => ?_)
      clear hK K
      repeat (rw [putL]; simp only [List.set])
      refine wpAnyH_ready (rs := [24]) (by kernel_rfl) (by simp) ?_
      refine rdy rfl (fun K hK => ?_) (AllReadyH.nil)
      go_simp
      go_at_call 114
      with_reducible refine G2.out.mono ?_
      rintro e wb ⟨rfl, hb1⟩
      have HB := Lib.hid (HA.out.below hb1)
      have BB : Hid (Below b w wb) := Lib.hid (BA.out.trans (hb1.mono (Nat.le_of_lt HA.out.lt)))
      have twb := HB.out.cell0
      clear hb1
      dsimp only
      refine hK.out _ _ twb (fun hHeld => ?_)
      clear hK K
      repeat (rw [putL]; simp only [List.set])
      refine tky 25 ?_
      repeat (rw [putL]; simp only [List.set])
      refine tky 26 ?_
      repeat (rw [putL]; simp only [List.set])
      refine wpAnyH_done (by kernel_rfl) ?_ _
      go_wp2_with fail
      have HBD := Lib.hid HB.out.drew
      have BBD : Hid (Below b w wb.drew) := Lib.hid BB.out.drew
      have q2 : wb.drew.cell? ⟨R, 0, none⟩ = some (.iface 96 (.agg #[])) := HBD.out.cell0
      have G3 := Lib.hid (get_true (w := wb.drew) (c := C - E) (P3.out.below BBD.out hb) (by decide) (Nat.lt_trans hb HBD.out.lt) hszB.out)
      go_wp2_with fail
      refine wp_region_held_drew (S := fun w' => w'.cell? ⟨R, 0, none⟩ = some (.iface 96 (.agg #[]))) (by kernel_rfl) q2 (fun hHeld => ?_)
      refine tky 0 ?_
      repeat (rw [putL]; simp only [List.set])
      refine tky 1 ?_
      repeat (rw [putL]; simp only [List.set])
      refine tky 2 ?_
      repeat (rw [putL]; simp only [List.set])
      refine tky 3 ?_
      repeat (rw [putL]; simp only [List.set])
      refine tky 4 ?_
      repeat (rw [putL]; simp only [List.set])
      refine tky 5 ?_
      repeat (rw [putL]; simp only [List.set])
      refine tky 6 ?_
      repeat (rw [putL]; simp only [List.set])
      refine tky 7 ?_
      repeat (rw [putL]; simp only [List.set])
      try simp only [hwE]
      refine tky 8 ?_
      repeat (rw [putL]; simp only [List.set])
      refine tky 9 ?_
      repeat (rw [putL]; simp only [List.set])
      refine tky 10 ?_
      repeat (rw [putL]; simp only [List.set])
      refine tky 12 ?_
      repeat (rw [putL]; simp only [List.set])
      refine wpAnyH_ready (rs := [11]) (by kernel_rfl) (by simp) ?_
      refine rdy rfl (fun K hK => ?_) (AllReadyH.nil)
      go_simp
      go_at_call 114
      with_reducible refine G3.out.mono ?_
      rintro e wc ⟨rfl, hb1⟩
      have HC := Lib.hid (HBD.out.below hb1)
      have BC : Hid (Below b w wc) := Lib.hid (BBD.out.trans (hb1.mono (Nat.le_of_lt HBD.out.lt)))
      have twc := HC.out.cell0
      clear hb1
      have KB := Lib.hid (KB0.out wc BC.out _ _ _ _ HC.out)
      dsimp only
      refine hK.out _ _ twc (fun hHeld => ?_)
      clear hK K
      repeat (rw [putL]; simp only [List.set])
      refine tky 13 ?_
      repeat (rw [putL]; simp only [List.set])
      refine tky 14 ?_
      repeat (rw [putL]; simp only [List.set])
      refine tky 15 ?_
      repeat (rw [putL]; simp only [List.set])
      refine tky 16 ?_
      repeat (rw [putL]; simp only [List.set])
      refine tky 17 ?_
      repeat (rw [putL]; simp only [List.set])
      refine tky 18 ?_
      repeat (rw [putL]; simp only [List.set])
      refine tky 19 ?_
      repeat (rw [putL]; simp only [List.set])
      try simp only [hw8]
      refine tky 20 ?_
      repeat (rw [putL]; simp only [List.set])
      refine tky 21 ?_
      repeat (rw [putL]; simp only [List.set])
      refine wpAnyH_ready (rs := [22]) (by kernel_rfl) (by simp) ?_
      refine rdy rfl (fun K hK => ?_) (AllReadyH.nil)
      go_simp
      go_at_call 77
      with_reducible refine KB.out.mono ?_
      rintro e wd ⟨rfl, ⟨q2, hd⟩, hbd⟩
      have HDD := Lib.hid hd
      have BDD : Hid (Below b w wd) := Lib.hid (BC.out.trans hbd)
      have twd := HDD.out.cell0
      clear hd hbd
      dsimp only
      refine hK.out _ _ twd (fun hHeld => ?_)
      clear hK K
      repeat (rw [putL]; simp only [List.set])
      refine tky 23 ?_
      repeat (rw [putL]; simp only [List.set])
      refine tky 24 ?_
      repeat (rw [putL]; simp only [List.set])
      refine wpAnyH_done (by kernel_rfl) ?_ _
      have HE := HDD
      have BE : Hid (Below b w wd) := BDD
      have q3 : wd.cell? ⟨R, 0, none⟩ = some (.iface 96 (.agg #[])) := HE.out.cell0
      obtain ⟨A7, c7, w7, hrun, ho7, hg7, ha7, hb7⟩ := row_more (cs := [.int .i64 (kd : Int), .int .i64 (p : Int), .int .i64 (sz : Int)]) Try.underlying68 info109 (by rfl) (by decide) (by decide) HE.out.parts rfl (by
        intro u hu
        simp only [List.mem_cons, List.not_mem_nil, or_false] at hu
        rcases hu with rfl | rfl | rfl <;> rfl) (by omega) (Nat.le_of_lt HE.out.lt)
      have END := Lib.hid (And.intro (Rd.part HE.out ho7 ha7) ((BE.out.trans hb7).setCell (p := ⟨R, 6, none⟩) HE.out.le (.slice A7 (i + 1) c7)))
      have twe : (wd.alloc (.cells [.int .i64 (kd : Int), .int .i64 (p : Int), .int .i64 (sz : Int)].toArray 109)).cell? ⟨R, 0, none⟩ = some (.iface 96 (.agg #[])) := by rw [(HE.out.blk.alloc _).cell]; rfl
      have hk7 := ha7.2 R 70 _ (by decide) HE.out.blk
      have twf : w7.cell? ⟨R, 0, none⟩ = some (.iface 96 (.agg #[])) := by rw [hk7.cell]; rfl
      have e7 : w7.cell? ⟨R, 6, none⟩ = some (.slice A i cp) := by rw [hk7.cell]; rfl
      have f7 : w7.frozen? ⟨R, 6, none⟩ = false := hk7.frozen 6
      have twg : (w7.setCell ⟨R, 6, none⟩ (.slice A7 (i + 1) c7)).cell? ⟨R, 0, none⟩ = some (.iface 96 (.agg #[])) := by rw [(hk7.set_ 6 _).cell]; rfl
      have e5 : wd.cell? ⟨R, 6, none⟩ = some (.slice A i cp) := by rw [HE.out.blk.cell]; rfl
      have eC : (wd.alloc (.cells [.int .i64 (kd : Int), .int .i64 (p : Int), .int .i64 (sz : Int)].toArray 109)).cell? ⟨R, 6, none⟩ = some (.slice A i cp) := by rw [(HE.out.blk.alloc _).cell]; rfl
      clear hk7 ho7 ha7 hb7 hg7
      go_wp2_with (at_builtin; refine Lib.wpList_append_run _ rfl _ _ _ _ rfl _ _ rfl rfl _ _ hrun ?_)
      refine ⟨⟨i + 1, by omega, by rw [HAT1.out]; simp, Lib.hid END.out.2, _, _, _, _, Lib.hid END.out.1⟩, ?_⟩
      simp [intOf]; omega
    · have hie : i = n := by omega
      subst hie
      have HL := HLE.out
      have HTT := HT.out
      obtain ⟨p, hpp⟩ : ∃ p, at_ i = p := ⟨_, rfl⟩
      rw [hpp] at HL HTT ⊢
      obtain ⟨T, hT⟩ : ∃ T, N - p = T := ⟨_, rfl⟩
      rw [hT] at HTT
      have HTN : Hid (N - at_ i = T) := Lib.hid (by rw [hpp, hT])
      have HPP := Lib.hid hpp
      have hT1 : (N : Int) - (p : Int) = (T : Int) := by omega
      have HNT : Hid (N = p + T) := Lib.hid (by omega)
      clear hT hpp
      rcases HTT with hlt | ⟨kd, sz, hP1, hP2, hkd, hsz, hs1, hs2, hs3⟩
      · have hg8 : decide ((8 : Int) ≤ (T : Int)) = false := by simp; omega
        have e7 : wr.cell? ⟨R, 7, none⟩ = some (.int .i64 ((0 : Nat) : Int)) := by rw [HR.out.blk.cell]; rfl
        have f7 : wr.frozen? ⟨R, 7, none⟩ = false := HR.out.blk.frozen 7
        go_wp2_with fail
        go_ret
        exact ⟨by rw [HPP.out]; rfl, ⟨q, A, cp, xs, by rw [HTN.out]; exact HR.out.torn⟩, HBW.out.setCell (p := ⟨R, 7, none⟩) HR.out.le _⟩
      · obtain ⟨p4, hp4⟩ : ∃ p4, p + 4 = p4 := ⟨_, rfl⟩
        obtain ⟨p8, hp8⟩ : ∃ p8, p + 8 = p8 := ⟨_, rfl⟩
        rw [hp4] at hP2
        by_cases h8 : 8 ≤ T
        · have hg8 : decide ((8 : Int) ≤ (T : Int)) = true := by simp; omega
          have hw4 : IntKind.i64.wrap ((p : Int) + 4) = (p4 : Int) := by rw [IntKind.wrap_i64]; omega
          have hw8 : IntKind.i64.wrap ((p : Int) + 8) = (p8 : Int) := by rw [IntKind.wrap_i64]; omega
          have hb1 : p ≤ p4 := by omega
          have hb2 : p4 ≤ p8 := by omega
          have hc1 : (p4 : Int) ≤ (C : Int) := by omega
          have hc2 : (p8 : Int) ≤ (C : Int) := by omega
          have hd1 : p4 - p = 4 := by omega
          have hd2 : p8 - p4 = 4 := by omega
          have hc5 : ¬ C = p := by omega
          have hc6 : ¬ C = p4 := by omega
          have hm4 : (sz : Int) % 4 = 0 := by omega
          have hl12 : decide ((sz : Int) < 12) = false := by simp; omega
          have hl13 : decide ((T : Int) < (sz : Int)) = true := by simp; omega
          have P2 := Lib.hid hP2
          have hszB : Hid (sz < 256 ^ 4) := Lib.hid hsz
          have HD := Lib.hid HR.out.drew
          have BD : Hid (Below b w wr.drew) := Lib.hid HBW.out.drew
          have q1 : wr.drew.cell? ⟨R, 0, none⟩ = some (.iface 96 (.agg #[])) := HD.out.cell0
          have G1 := Lib.hid (get_true (w := wr.drew) (c := C - p) (hP1.below BD.out hb) (by decide) (Nat.lt_trans hb HD.out.lt) hkd)
          clear hP1 hP2 hkd hsz hs3 hp4 hp8 h8
          go_wp2_with fail
          refine wp_region_held_drew (S := fun w' => w'.cell? ⟨R, 0, none⟩ = some (.iface 96 (.agg #[]))) (by kernel_rfl) q1 (fun hHeld => ?_)
          refine tky 0 ?_
          repeat (rw [putL]; simp only [List.set])
          refine tky 1 ?_
          repeat (rw [putL]; simp only [List.set])
          refine tky 2 ?_
          repeat (rw [putL]; simp only [List.set])
          refine tky 3 ?_
          repeat (rw [putL]; simp only [List.set])
          refine tky 4 ?_
          repeat (rw [putL]; simp only [List.set])
          refine tky 5 ?_
          repeat (rw [putL]; simp only [List.set])
          refine tky 6 ?_
          repeat (rw [putL]; simp only [List.set])
          refine tky 7 ?_
          repeat (rw [putL]; simp only [List.set])
          try simp only [hw4]
          refine tky 8 ?_
          repeat (rw [putL]; simp only [List.set])
          refine tky 9 ?_
          repeat (rw [putL]; simp only [List.set])
          refine tky 10 ?_
          repeat (rw [putL]; simp only [List.set])
          refine tky 12 ?_
          repeat (rw [putL]; simp only [List.set])
          refine tky 13 ?_
          repeat (rw [putL]; simp only [List.set])
          refine tky 14 ?_
          repeat (rw [putL]; simp only [List.set])
          refine tky 15 ?_
          repeat (rw [putL]; simp only [List.set])
          refine tky 16 ?_
          repeat (rw [putL]; simp only [List.set])
          refine tky 17 ?_
          repeat (rw [putL]; simp only [List.set])
          refine tky 18 ?_
          repeat (rw [putL]; simp only [List.set])
          try simp only [hw4]
          refine tky 19 ?_
          repeat (rw [putL]; simp only [List.set])
          refine tky 20 ?_
          repeat (rw [putL]; simp only [List.set])
          try simp only [hw8]
          refine tky 21 ?_
          repeat (rw [putL]; simp only [List.set])
          refine tky 22 ?_
          repeat (rw [putL]; simp only [List.set])
          refine tky 23 ?_
          repeat (rw [putL]; simp only [List.set])
          refine wpAnyH_ready (rs := [11]) (by kernel_rfl) (by simp) ?_
          refine rdy rfl (fun K hK => ?_) (AllReadyH.nil)
          go_simp
          go_at_call 114
          with_reducible refine G1.out.mono ?_
          rintro e wa ⟨rfl, hb1⟩
          have HA := Lib.hid (HD.out.below hb1)
          have BA : Hid (Below b w wa) := Lib.hid (BD.out.trans (hb1.mono (Nat.le_of_lt HD.out.lt)))
          have twa := HA.out.cell0
          clear hb1
          have G2 := Lib.hid (get_true (c := C - p4) (P2.out.below BA.out hb) (by decide) (Nat.lt_trans hb HA.out.lt) hszB.out)
          dsimp only
          refine hK.out _ _ twa (fun hHeld => ?_)
          clear hK K
          repeat (rw [putL]; simp only [List.set])
          refine wpAnyH_ready (rs := [24]) (by kernel_rfl) (by simp) ?_
          refine rdy rfl (fun K hK => ?_) (AllReadyH.nil)
          go_simp
          go_at_call 114
          with_reducible refine G2.out.mono ?_
          rintro e wb ⟨rfl, hb1⟩
          have HB := Lib.hid (HA.out.below hb1)
          have BB : Hid (Below b w wb) := Lib.hid (BA.out.trans (hb1.mono (Nat.le_of_lt HA.out.lt)))
          have twb := HB.out.cell0
          clear hb1
          dsimp only
          refine hK.out _ _ twb (fun hHeld => ?_)
          clear hK K
          repeat (rw [putL]; simp only [List.set])
          refine tky 25 ?_
          repeat (rw [putL]; simp only [List.set])
          refine tky 26 ?_
          repeat (rw [putL]; simp only [List.set])
          refine wpAnyH_done (by kernel_rfl) ?_ _
          have e7 : wb.cell? ⟨R, 7, none⟩ = some (.int .i64 ((0 : Nat) : Int)) := by rw [HB.out.blk.cell]; rfl
          have f7 : wb.frozen? ⟨R, 7, none⟩ = false := HB.out.blk.frozen 7
          go_wp2_with fail
          go_ret
          exact ⟨by rw [HPP.out]; rfl, ⟨q, A, cp, xs, by rw [HTN.out]; exact HB.out.torn⟩, BB.out.setCell (p := ⟨R, 7, none⟩) HB.out.le _⟩
        · have hg8 : decide ((8 : Int) ≤ (T : Int)) = false := by simp; omega
          have e7 : wr.cell? ⟨R, 7, none⟩ = some (.int .i64 ((0 : Nat) : Int)) := by rw [HR.out.blk.cell]; rfl
          have f7 : wr.frozen? ⟨R, 7, none⟩ = false := HR.out.blk.frozen 7
          clear hP1 hP2 hkd hsz hs3 hp4 hp8 h8
          go_wp2_with fail
          go_ret
          exact ⟨by rw [HPP.out]; rfl, ⟨q, A, cp, xs, by rw [HTN.out]; exact HR.out.torn⟩, HBW.out.setCell (p := ⟨R, 7, none⟩) HR.out.le _⟩

set_option maxRecDepth 100000 in
set_option maxHeartbeats 16000000 in
theorem blocks_false {w : World} {R b n N C b0 o : Nat} {K : Nat → Cap} {at_ kind len : Nat → Nat} (h : Rd w R b (.iface 97 (.agg #[])) ⟨none, 0, none, 0, none, 0, none, 0⟩ none 0 [] (K 0) 0 0) (hb : b0 < b) (hNC : N ≤ C) (hN : N ≤ 200000) (hn : n < 1000)
    (h0 : at_ 0 = 0) (hs : ∀ i, i < n → at_ (i + 1) = at_ i + (12 + len i) ∧ at_ (i + 1) ≤ N ∧ kind i < 4294967296 ∧ len i % 4 = 0)
    (hp : ∀ i, i < n → Pc w b0 (o + at_ i) (numB false 4 (kind i)) ∧ Pc w b0 (o + (at_ i + 4)) (numB false 4 (12 + len i)) ∧ Pc w b0 (o + (at_ i + (8 + len i))) (numB false 4 (12 + len i)))
    (hk : ∀ i, i < n → ∀ w', Below b w w' → ∀ q A cp xs, Rd w' R b (.iface 97 (.agg #[])) q A cp xs (K i) i 0 → Calls Try.prog 77 #[.pointer (some ⟨R, 0, none⟩), .int .i64 (kind i : Nat), .slice (some ⟨b0, o + (at_ i + 8), none⟩) (len i) (C - (at_ i + 8))] w' (Red w' R b (.iface 97 (.agg #[])) A cp xs (K (i + 1)) i 0))
    (ht : N - at_ n < 8 ∨ ∃ kd sz, Pc w b0 (o + at_ n) (numB false 4 kd) ∧ Pc w b0 (o + (at_ n + 4)) (numB false 4 sz) ∧ kd < 4294967296 ∧ sz < 4294967296 ∧ N - at_ n < sz ∧ 12 ≤ sz ∧ sz % 4 = 0) (hle : at_ n ≤ N) :
    Calls Try.prog 71 #[.pointer (some ⟨R, 0, none⟩), .slice (some ⟨b0, o, none⟩) N C] w fun e w' => e = .returned (.bool (decide (0 < at_ n))) ∧ (∃ q A cp xs, Rd w' R b (.iface 97 (.agg #[])) q A cp xs (K n) n (N - at_ n)) ∧ Below b w w' := by
  have H := Lib.hid h
  have HS := Lib.hid hs
  have HP := Lib.hid hp
  have HBK := Lib.hid hk
  have HT := Lib.hid ht
  have H0 := Lib.hid h0
  have HLE := Lib.hid hle
  have nah : ∀ (w : World), (nilAhead 246 97 (.agg #[]) "wireglass/capt.get").run Try.prog w = .ok (some false) w := fun w => by kernel_rfl
  have mth : ∀ (w : World), (method 246 97 (.agg #[]) "wireglass/capt.get").run Try.prog w = .ok (116, .agg #[]) w := fun w => by kernel_rfl
  clear h hs hp hk ht h0 hle
  go_enter Try.func71, Try.ntmps71
  go_wp2_with fail
  go_loopw [5, 6, 7, 8] (fun at5 _ _ _ wr => ∃ i : Nat, i ≤ n ∧ at5 = .int .i64 (at_ i : Nat) ∧ Hid (Below b w wr) ∧ ∃ q A cp xs, Hid (Rd wr R b (.iface 97 (.agg #[])) q A cp xs (K i) i 0)) (fun at5 _ _ _ _ => N - (intOf at5).toNat)
  case atStart => exact ⟨0, Nat.zero_le _, by rw [H0.out]; rfl, Lib.hid (Below.refl _ _), _, _, _, _, H⟩
  case round =>
    obtain ⟨i, hi, rfl, HBW, q, A, cp, xs, HR⟩ := hrel
    by_cases hin : i < n
    · have hS := HS.out i hin
      have hP := HP.out i hin
      obtain ⟨p, hpp⟩ : ∃ p, at_ i = p := ⟨_, rfl⟩
      obtain ⟨kd, hkd⟩ : ∃ kd, kind i = kd := ⟨_, rfl⟩
      obtain ⟨ln, hln⟩ : ∃ ln, len i = ln := ⟨_, rfl⟩
      obtain ⟨sz, hsz⟩ : ∃ sz, 12 + ln = sz := ⟨_, rfl⟩
      obtain ⟨E, hE⟩ : ∃ E, p + (8 + ln) = E := ⟨_, rfl⟩
      obtain ⟨p4, hp4⟩ : ∃ p4, p + 4 = p4 := ⟨_, rfl⟩
      obtain ⟨p8, hp8⟩ : ∃ p8, p + 8 = p8 := ⟨_, rfl⟩
      obtain ⟨E4, hE4⟩ : ∃ E4, E + 4 = E4 := ⟨_, rfl⟩
      have KB0 := Lib.hid (HBK.out i hin)
      rw [hpp, hkd, hln, hp8] at KB0
      rw [hpp, hkd, hln, hsz] at hS
      rw [hpp, hkd, hln, hsz, hE, hp4] at hP
      rw [hpp]
      have HK1 := Lib.hid hpp
      have HK2 := Lib.hid hkd
      have HK3 := Lib.hid hln
      have HAT1 := Lib.hid hS.1
      have hfit : p + sz ≤ N := by have := hS.2.1; rw [hS.1] at this; exact this
      have hszB : Hid (sz < 256 ^ 4) := Lib.hid (by omega)
      have hkdB : Hid (kd < 256 ^ 4) := Lib.hid hS.2.2.1
      have P1 := Lib.hid hP.1
      have P2 := Lib.hid hP.2.1
      have P3 := Lib.hid hP.2.2
      have hm4 : (sz : Int) % 4 = 0 := by have := hS.2.2.2; omega
      have hE1 : (p : Int) + (sz : Int) - 4 = (E : Int) := by omega
      have hs12 : 12 ≤ sz := by omega
      have HD := Lib.hid HR.out.drew
      have BD : Hid (Below b w wr.drew) := Lib.hid HBW.out.drew
      have q1 : wr.drew.cell? ⟨R, 0, none⟩ = some (.iface 97 (.agg #[])) := HD.out.cell0
      have G1 := Lib.hid (get_false (w := wr.drew) (c := C - p) (P1.out.below BD.out hb) (by decide) (Nat.lt_trans hb HD.out.lt) hkdB.out)
      have hg8 : decide ((8 : Int) ≤ (N : Int) - (p : Int)) = true := by simp; omega
      have hl12 : decide ((sz : Int) < 12) = false := by simp; omega
      have hl13 : decide ((N : Int) - (p : Int) < (sz : Int)) = false := by simp; omega
      have hw4 : IntKind.i64.wrap ((p : Int) + 4) = (p4 : Int) := by rw [IntKind.wrap_i64]; omega
      have hw8 : IntKind.i64.wrap ((p : Int) + 8) = (p8 : Int) := by rw [IntKind.wrap_i64]; omega
      have hwE : IntKind.i64.wrap ((E : Int) + 4) = (E4 : Int) := by rw [IntKind.wrap_i64]; omega
      have hb1 : p ≤ p4 := by omega
      have hb2 : p4 ≤ p8 := by omega
      have hb3 : p8 ≤ E := by omega
      have hb4 : E ≤ E4 := by omega
      have hc1 : (p4 : Int) ≤ (C : Int) := by omega
      have hc2 : (p8 : Int) ≤ (C : Int) := by omega
      have hc3 : (E : Int) ≤ (C : Int) := by omega
      have hc4 : (E4 : Int) ≤ (C : Int) := by omega
      have hd1 : p4 - p = 4 := by omega
      have hd2 : p8 - p4 = 4 := by omega
      have hd3 : E4 - E = 4 := by omega
      have hd4 : E - p8 = ln := by omega
      have hc5 : ¬ C = p := by omega
      have hc6 : ¬ C = p4 := by omega
      have hc7 : ¬ C = p8 := by omega
      have hc8 : ¬ C = E := by omega
      clear hS hP hpp hkd hln hE hp4 hp8 hE4
      go_wp2_with fail
      refine wp_region_held_drew (S := fun w' => w'.cell? ⟨R, 0, none⟩ = some (.iface 97 (.agg #[]))) (by kernel_rfl) q1 (fun hHeld => ?_)
      refine tky 0 ?_
      repeat (rw [putL]; simp only [List.set])
      refine tky 1 ?_
      repeat (rw [putL]; simp only [List.set])
      refine tky 2 ?_
      repeat (rw [putL]; simp only [List.set])
      refine tky 3 ?_
      repeat (rw [putL]; simp only [List.set])
      refine tky 4 ?_
      repeat (rw [putL]; simp only [List.set])
      refine tky 5 ?_
      repeat (rw [putL]; simp only [List.set])
      refine tky 6 ?_
      repeat (rw [putL]; simp only [List.set])
      refine tky 7 ?_
      repeat (rw [putL]; simp only [List.set])
      try simp only [hw4]
      refine tky 8 ?_
      repeat (rw [putL]; simp only [List.set])
      refine tky 9 ?_
      repeat (rw [putL]; simp only [List.set])
      refine tky 10 ?_
      repeat (rw [putL]; simp only [List.set])
      refine tky 12 ?_
      repeat (rw [putL]; simp only [List.set])
      refine tky 13 ?_
      repeat (rw [putL]; simp only [List.set])
      refine tky 14 ?_
      repeat (rw [putL]; simp only [List.set])
      refine tky 15 ?_
      repeat (rw [putL]; simp only [List.set])
      refine tky 16 ?_
      repeat (rw [putL]; simp only [List.set])
      refine tky 17 ?_
      repeat (rw [putL]; simp only [List.set])
      refine tky 18 ?_
      repeat (rw [putL]; simp only [List.set])
      try simp only [hw4]
      refine tky 19 ?_
      repeat (rw [putL]; simp only [List.set])
      refine tky 20 ?_
      repeat (rw [putL]; simp only [List.set])
      try simp only [hw8]
      refine tky 21 ?_
      repeat (rw [putL]; simp only [List.set])
      refine tky 22 ?_
      repeat (rw [putL]; simp only [List.set])
      refine tky 23 ?_
      repeat (rw [putL]; simp only [List.set])
      refine wpAnyH_ready (rs := [11]) (by kernel_rfl) (by simp) ?_
      refine rdy rfl (fun K hK => ?_) (AllReadyH.nil)
      go_simp
      go_at_call 116
      with_reducible refine G1.out.mono ?_
      rintro e wa ⟨rfl, hb1⟩
      have HA := Lib.hid (HD.out.below hb1)
      have BA : Hid (Below b w wa) := Lib.hid (BD.out.trans (hb1.mono (Nat.le_of_lt HD.out.lt)))
      have twa := HA.out.cell0
      clear hb1
      have G2 := Lib.hid (get_false (c := C - p4) (P2.out.below BA.out hb) (by decide) (Nat.lt_trans hb HA.out.lt) hszB.out)
      dsimp only
      refine hK.out _ _ twa (fun hHeld => ?_)
      clear hK K
      repeat (rw [putL]; simp only [List.set])
      refine wpAnyH_ready (rs := [24]) (by kernel_rfl) (by simp) ?_
      refine rdy rfl (fun K hK => ?_) (AllReadyH.nil)
      go_simp
      go_at_call 116
      with_reducible refine G2.out.mono ?_
      rintro e wb ⟨rfl, hb1⟩
      have HB := Lib.hid (HA.out.below hb1)
      have BB : Hid (Below b w wb) := Lib.hid (BA.out.trans (hb1.mono (Nat.le_of_lt HA.out.lt)))
      have twb := HB.out.cell0
      clear hb1
      dsimp only
      refine hK.out _ _ twb (fun hHeld => ?_)
      clear hK K
      repeat (rw [putL]; simp only [List.set])
      refine tky 25 ?_
      repeat (rw [putL]; simp only [List.set])
      refine tky 26 ?_
      repeat (rw [putL]; simp only [List.set])
      refine wpAnyH_done (by kernel_rfl) ?_ _
      go_wp2_with fail
      have HBD := Lib.hid HB.out.drew
      have BBD : Hid (Below b w wb.drew) := Lib.hid BB.out.drew
      have q2 : wb.drew.cell? ⟨R, 0, none⟩ = some (.iface 97 (.agg #[])) := HBD.out.cell0
      have G3 := Lib.hid (get_false (w := wb.drew) (c := C - E) (P3.out.below BBD.out hb) (by decide) (Nat.lt_trans hb HBD.out.lt) hszB.out)
      go_wp2_with fail
      refine wp_region_held_drew (S := fun w' => w'.cell? ⟨R, 0, none⟩ = some (.iface 97 (.agg #[]))) (by kernel_rfl) q2 (fun hHeld => ?_)
      refine tky 0 ?_
      repeat (rw [putL]; simp only [List.set])
      refine tky 1 ?_
      repeat (rw [putL]; simp only [List.set])
      refine tky 2 ?_
      repeat (rw [putL]; simp only [List.set])
      refine tky 3 ?_
      repeat (rw [putL]; simp only [List.set])
      refine tky 4 ?_
      repeat (rw [putL]; simp only [List.set])
      refine tky 5 ?_
      repeat (rw [putL]; simp only [List.set])
      refine tky 6 ?_
      repeat (rw [putL]; simp only [List.set])
      refine tky 7 ?_
      repeat (rw [putL]; simp only [List.set])
      try simp only [hwE]
      refine tky 8 ?_
      repeat (rw [putL]; simp only [List.set])
      refine tky 9 ?_
      repeat (rw [putL]; simp only [List.set])
      refine tky 10 ?_
      repeat (rw [putL]; simp only [List.set])
      refine tky 12 ?_
      repeat (rw [putL]; simp only [List.set])
      refine wpAnyH_ready (rs := [11]) (by kernel_rfl) (by simp) ?_
      refine rdy rfl (fun K hK => ?_) (AllReadyH.nil)
      go_simp
      go_at_call 116
      with_reducible refine G3.out.mono ?_
      rintro e wc ⟨rfl, hb1⟩
      have HC := Lib.hid (HBD.out.below hb1)
      have BC : Hid (Below b w wc) := Lib.hid (BBD.out.trans (hb1.mono (Nat.le_of_lt HBD.out.lt)))
      have twc := HC.out.cell0
      clear hb1
      have KB := Lib.hid (KB0.out wc BC.out _ _ _ _ HC.out)
      dsimp only
      refine hK.out _ _ twc (fun hHeld => ?_)
      clear hK K
      repeat (rw [putL]; simp only [List.set])
      refine tky 13 ?_
      repeat (rw [putL]; simp only [List.set])
      refine tky 14 ?_
      repeat (rw [putL]; simp only [List.set])
      refine tky 15 ?_
      repeat (rw [putL]; simp only [List.set])
      refine tky 16 ?_
      repeat (rw [putL]; simp only [List.set])
      refine tky 17 ?_
      repeat (rw [putL]; simp only [List.set])
      refine tky 18 ?_
      repeat (rw [putL]; simp only [List.set])
      refine tky 19 ?_
      repeat (rw [putL]; simp only [List.set])
      try simp only [hw8]
      refine tky 20 ?_
      repeat (rw [putL]; simp only [List.set])
      refine tky 21 ?_
      repeat (rw [putL]; simp only [List.set])
      refine wpAnyH_ready (rs := [22]) (by kernel_rfl) (by simp) ?_
      refine rdy rfl (fun K hK => ?_) (AllReadyH.nil)
      go_simp
      go_at_call 77
      with_reducible refine KB.out.mono ?_
      rintro e wd ⟨rfl, ⟨q2, hd⟩, hbd⟩
      have HDD := Lib.hid hd
      have BDD : Hid (Below b w wd) := Lib.hid (BC.out.trans hbd)
      have twd := HDD.out.cell0
      clear hd hbd
      dsimp only
      refine hK.out _ _ twd (fun hHeld => ?_)
      clear hK K
      repeat (rw [putL]; simp only [List.set])
      refine tky 23 ?_
      repeat (rw [putL]; simp only [List.set])
      refine tky 24 ?_
      repeat (rw [putL]; simp only [List.set])
      refine wpAnyH_done (by kernel_rfl) ?_ _
      have HE := HDD
      have BE : Hid (Below b w wd) := BDD
      have q3 : wd.cell? ⟨R, 0, none⟩ = some (.iface 97 (.agg #[])) := HE.out.cell0
      obtain ⟨A7, c7, w7, hrun, ho7, hg7, ha7, hb7⟩ := row_more (cs := [.int .i64 (kd : Int), .int .i64 (p : Int), .int .i64 (sz : Int)]) Try.underlying68 info109 (by rfl) (by decide) (by decide) HE.out.parts rfl (by
        intro u hu
        simp only [List.mem_cons, List.not_mem_nil, or_false] at hu
        rcases hu with rfl | rfl | rfl <;> rfl) (by omega) (Nat.le_of_lt HE.out.lt)
      have END := Lib.hid (And.intro (Rd.part HE.out ho7 ha7) ((BE.out.trans hb7).setCell (p := ⟨R, 6, none⟩) HE.out.le (.slice A7 (i + 1) c7)))
      have twe : (wd.alloc (.cells [.int .i64 (kd : Int), .int .i64 (p : Int), .int .i64 (sz : Int)].toArray 109)).cell? ⟨R, 0, none⟩ = some (.iface 97 (.agg #[])) := by rw [(HE.out.blk.alloc _).cell]; rfl
      have hk7 := ha7.2 R 70 _ (by decide) HE.out.blk
      have twf : w7.cell? ⟨R, 0, none⟩ = some (.iface 97 (.agg #[])) := by rw [hk7.cell]; rfl
      have e7 : w7.cell? ⟨R, 6, none⟩ = some (.slice A i cp) := by rw [hk7.cell]; rfl
      have f7 : w7.frozen? ⟨R, 6, none⟩ = false := hk7.frozen 6
      have twg : (w7.setCell ⟨R, 6, none⟩ (.slice A7 (i + 1) c7)).cell? ⟨R, 0, none⟩ = some (.iface 97 (.agg #[])) := by rw [(hk7.set_ 6 _).cell]; rfl
      have e5 : wd.cell? ⟨R, 6, none⟩ = some (.slice A i cp) := by rw [HE.out.blk.cell]; rfl
      have eC : (wd.alloc (.cells [.int .i64 (kd : Int), .int .i64 (p : Int), .int .i64 (sz : Int)].toArray 109)).cell? ⟨R, 6, none⟩ = some (.slice A i cp) := by rw [(HE.out.blk.alloc _).cell]; rfl
      clear hk7 ho7 ha7 hb7 hg7
      go_wp2_with (at_builtin; refine Lib.wpList_append_run _ rfl _ _ _ _ rfl _ _ rfl rfl _ _ hrun ?_)
      refine ⟨⟨i + 1, by omega, by rw [HAT1.out]; simp, Lib.hid END.out.2, _, _, _, _, Lib.hid END.out.1⟩, ?_⟩
      simp [intOf]; omega
    · have hie : i = n := by omega
      subst hie
      have HL := HLE.out
      have HTT := HT.out
      obtain ⟨p, hpp⟩ : ∃ p, at_ i = p := ⟨_, rfl⟩
      rw [hpp] at HL HTT ⊢
      obtain ⟨T, hT⟩ : ∃ T, N - p = T := ⟨_, rfl⟩
      rw [hT] at HTT
      have HTN : Hid (N - at_ i = T) := Lib.hid (by rw [hpp, hT])
      have HPP := Lib.hid hpp
      have hT1 : (N : Int) - (p : Int) = (T : Int) := by omega
      have HNT : Hid (N = p + T) := Lib.hid (by omega)
      clear hT hpp
      rcases HTT with hlt | ⟨kd, sz, hP1, hP2, hkd, hsz, hs1, hs2, hs3⟩
      · have hg8 : decide ((8 : Int) ≤ (T : Int)) = false := by simp; omega
        have e7 : wr.cell? ⟨R, 7, none⟩ = some (.int .i64 ((0 : Nat) : Int)) := by rw [HR.out.blk.cell]; rfl
        have f7 : wr.frozen? ⟨R, 7, none⟩ = false := HR.out.blk.frozen 7
        go_wp2_with fail
        go_ret
        exact ⟨by rw [HPP.out]; rfl, ⟨q, A, cp, xs, by rw [HTN.out]; exact HR.out.torn⟩, HBW.out.setCell (p := ⟨R, 7, none⟩) HR.out.le _⟩
      · obtain ⟨p4, hp4⟩ : ∃ p4, p + 4 = p4 := ⟨_, rfl⟩
        obtain ⟨p8, hp8⟩ : ∃ p8, p + 8 = p8 := ⟨_, rfl⟩
        rw [hp4] at hP2
        by_cases h8 : 8 ≤ T
        · have hg8 : decide ((8 : Int) ≤ (T : Int)) = true := by simp; omega
          have hw4 : IntKind.i64.wrap ((p : Int) + 4) = (p4 : Int) := by rw [IntKind.wrap_i64]; omega
          have hw8 : IntKind.i64.wrap ((p : Int) + 8) = (p8 : Int) := by rw [IntKind.wrap_i64]; omega
          have hb1 : p ≤ p4 := by omega
          have hb2 : p4 ≤ p8 := by omega
          have hc1 : (p4 : Int) ≤ (C : Int) := by omega
          have hc2 : (p8 : Int) ≤ (C : Int) := by omega
          have hd1 : p4 - p = 4 := by omega
          have hd2 : p8 - p4 = 4 := by omega
          have hc5 : ¬ C = p := by omega
          have hc6 : ¬ C = p4 := by omega
          have hm4 : (sz : Int) % 4 = 0 := by omega
          have hl12 : decide ((sz : Int) < 12) = false := by simp; omega
          have hl13 : decide ((T : Int) < (sz : Int)) = true := by simp; omega
          have P2 := Lib.hid hP2
          have hszB : Hid (sz < 256 ^ 4) := Lib.hid hsz
          have HD := Lib.hid HR.out.drew
          have BD : Hid (Below b w wr.drew) := Lib.hid HBW.out.drew
          have q1 : wr.drew.cell? ⟨R, 0, none⟩ = some (.iface 97 (.agg #[])) := HD.out.cell0
          have G1 := Lib.hid (get_false (w := wr.drew) (c := C - p) (hP1.below BD.out hb) (by decide) (Nat.lt_trans hb HD.out.lt) hkd)
          clear hP1 hP2 hkd hsz hs3 hp4 hp8 h8
          go_wp2_with fail
          refine wp_region_held_drew (S := fun w' => w'.cell? ⟨R, 0, none⟩ = some (.iface 97 (.agg #[]))) (by kernel_rfl) q1 (fun hHeld => ?_)
          refine tky 0 ?_
          repeat (rw [putL]; simp only [List.set])
          refine tky 1 ?_
          repeat (rw [putL]; simp only [List.set])
          refine tky 2 ?_
          repeat (rw [putL]; simp only [List.set])
          refine tky 3 ?_
          repeat (rw [putL]; simp only [List.set])
          refine tky 4 ?_
          repeat (rw [putL]; simp only [List.set])
          refine tky 5 ?_
          repeat (rw [putL]; simp only [List.set])
          refine tky 6 ?_
          repeat (rw [putL]; simp only [List.set])
          refine tky 7 ?_
          repeat (rw [putL]; simp only [List.set])
          try simp only [hw4]
          refine tky 8 ?_
          repeat (rw [putL]; simp only [List.set])
          refine tky 9 ?_
          repeat (rw [putL]; simp only [List.set])
          refine tky 10 ?_
          repeat (rw [putL]; simp only [List.set])
          refine tky 12 ?_
          repeat (rw [putL]; simp only [List.set])
          refine tky 13 ?_
          repeat (rw [putL]; simp only [List.set])
          refine tky 14 ?_
          repeat (rw [putL]; simp only [List.set])
          refine tky 15 ?_
          repeat (rw [putL]; simp only [List.set])
          refine tky 16 ?_
          repeat (rw [putL]; simp only [List.set])
          refine tky 17 ?_
          repeat (rw [putL]; simp only [List.set])
          refine tky 18 ?_
          repeat (rw [putL]; simp only [List.set])
          try simp only [hw4]
          refine tky 19 ?_
          repeat (rw [putL]; simp only [List.set])
          refine tky 20 ?_
          repeat (rw [putL]; simp only [List.set])
          try simp only [hw8]
          refine tky 21 ?_
          repeat (rw [putL]; simp only [List.set])
          refine tky 22 ?_
          repeat (rw [putL]; simp only [List.set])
          refine tky 23 ?_
          repeat (rw [putL]; simp only [List.set])
          refine wpAnyH_ready (rs := [11]) (by kernel_rfl) (by simp) ?_
          refine rdy rfl (fun K hK => ?_) (AllReadyH.nil)
          go_simp
          go_at_call 116
          with_reducible refine G1.out.mono ?_
          rintro e wa ⟨rfl, hb1⟩
          have HA := Lib.hid (HD.out.below hb1)
          have BA : Hid (Below b w wa) := Lib.hid (BD.out.trans (hb1.mono (Nat.le_of_lt HD.out.lt)))
          have twa := HA.out.cell0
          clear hb1
          have G2 := Lib.hid (get_false (c := C - p4) (P2.out.below BA.out hb) (by decide) (Nat.lt_trans hb HA.out.lt) hszB.out)
          dsimp only
          refine hK.out _ _ twa (fun hHeld => ?_)
          clear hK K
          repeat (rw [putL]; simp only [List.set])
          refine wpAnyH_ready (rs := [24]) (by kernel_rfl) (by simp) ?_
          refine rdy rfl (fun K hK => ?_) (AllReadyH.nil)
          go_simp
          go_at_call 116
          with_reducible refine G2.out.mono ?_
          rintro e wb ⟨rfl, hb1⟩
          have HB := Lib.hid (HA.out.below hb1)
          have BB : Hid (Below b w wb) := Lib.hid (BA.out.trans (hb1.mono (Nat.le_of_lt HA.out.lt)))
          have twb := HB.out.cell0
          clear hb1
          dsimp only
          refine hK.out _ _ twb (fun hHeld => ?_)
          clear hK K
          repeat (rw [putL]; simp only [List.set])
          refine tky 25 ?_
          repeat (rw [putL]; simp only [List.set])
          refine tky 26 ?_
          repeat (rw [putL]; simp only [List.set])
          refine wpAnyH_done (by kernel_rfl) ?_ _
          have e7 : wb.cell? ⟨R, 7, none⟩ = some (.int .i64 ((0 : Nat) : Int)) := by rw [HB.out.blk.cell]; rfl
          have f7 : wb.frozen? ⟨R, 7, none⟩ = false := HB.out.blk.frozen 7
          go_wp2_with fail
          go_ret
          exact ⟨by rw [HPP.out]; rfl, ⟨q, A, cp, xs, by rw [HTN.out]; exact HB.out.torn⟩, BB.out.setCell (p := ⟨R, 7, none⟩) HB.out.le _⟩
        · have hg8 : decide ((8 : Int) ≤ (T : Int)) = false := by simp; omega
          have e7 : wr.cell? ⟨R, 7, none⟩ = some (.int .i64 ((0 : Nat) : Int)) := by rw [HR.out.blk.cell]; rfl
          have f7 : wr.frozen? ⟨R, 7, none⟩ = false := HR.out.blk.frozen 7
          clear hP1 hP2 hkd hsz hs3 hp4 hp8 h8
          go_wp2_with fail
          go_ret
          exact ⟨by rw [HPP.out]; rfl, ⟨q, A, cp, xs, by rw [HTN.out]; exact HR.out.torn⟩, HBW.out.setCell (p := ⟨R, 7, none⟩) HR.out.le _⟩
end Go.Proofs.Ytlimkckomdipkaa
