/- A file of the old kind, read. -/
import Derived.Test.YtlimkckomdipkaaParse
import Derived.Test.YtlimkckomdipkaaRec
import Derived.Deep.RegionHeld3
import Derived.Laws.OwnMore
import Derived.Test.YtlimkckomdipkaaMem
import Derived.Test.YtlimkckomdipkaaTky
namespace Go.Proofs.Ytlimkckomdipkaa
open Go.RowKit

set_option maxHeartbeats 1000000 in
theorem hasprefix2_any {w : World} {b o L c c2 B2 : Nat} {A2 : Option Addr} {l : List Nat} (h1 : Pc w b o l) (hL : l.length ≤ L) (hc : L ≤ c) (hb : b < w.heap.size) (h2 : Byt w B2 A2 l) :
    Calls Try.prog 75 #[.slice (some ⟨b, o, none⟩) L c, .slice A2 l.length c2] w fun e w' => e = .returned (.bool true) ∧ w = w' := by
  have HE := Lib.hid (beq_any (c1 := c) (c2 := c2) (h1.byt hb) h2)
  rw [eqB_true rfl] at HE
  obtain ⟨n, hn⟩ : ∃ n, l.length = n := ⟨_, rfl⟩
  rw [hn] at HE hL ⊢
  have hk : (n : Int) ≤ (c : Int) := by omega
  have hk2 : decide ((n : Int) ≤ (L : Int)) = true := by simp; omega
  clear hn h1 h2
  go_enter Try.func75, Try.ntmps75
  go_wp2_with fail
  refine HE.out.mono ?_
  rintro e w1 ⟨rfl, rfl⟩
  go_wp2_with fail
  go_ret
  exact ⟨rfl, rfl⟩
/-- The one interface of a file of the old kind. -/
theorem face_one {w : World} {R b : Nat} {O : Value} (h : Rd w R b O pl0 none 0 [] cap0 0 0) (lk sn : Nat) (hlk : lk < 65536) (hsn : sn < 65536) :
    Rd ((w.alloc (.cells #[.string ⟨#[]⟩, .int .i64 (lk : Int), .int .i64 (sn : Int)] 54)).setCell ⟨R, 2, none⟩ (.slice (some ⟨w.heap.size, 0, none⟩) 1 1)) R b O ⟨some ⟨w.heap.size, 0, none⟩, 1, none, 0, none, 0, none, 0⟩ none 0 [] ⟨⟨#[]⟩, [⟨⟨#[]⟩, lk, sn⟩], [], [], []⟩ 0 0 :=
  Rd.face (f := ⟨⟨#[]⟩, lk, sn⟩) h (OwnL.nil w b 54 3 FacE) (World.ownsRow_lit (size := 3) w #[.string ⟨#[]⟩, .int .i64 (lk : Int), .int .i64 (sn : Int)] 1 (Nat.le_of_lt h.lt) (by decide) rfl) (AlikeT.below ((Below.refl _ w).alloc (Nat.le_refl _) _)) (by decide)
    ⟨rfl, by show ByteArray.size ⟨#[]⟩ ≤ _; simp [ByteArray.size], ⟨by show (-9223372036854775808 : Int) ≤ lk; omega, by show (lk : Int) ≤ _; omega⟩, ⟨by show (-9223372036854775808 : Int) ≤ sn; omega, by show (sn : Int) ≤ _; omega⟩⟩

set_option maxRecDepth 100000 in
set_option maxHeartbeats 16000000 in
theorem records_true {w : World} {R b n N C b0 o lk sn : Nat} {K : Nat → Cap} {at_ len : Nat → Nat} (h : Rd w R b (.iface 96 (.agg #[])) pl0 none 0 [] cap0 0 0) (hb : b0 < b) (hNC : N ≤ C) (hN : N ≤ 200000) (h24 : 24 ≤ N) (hn : n < 1000) (hlk : lk < 65536) (hsn : sn < 65536)
    (hK : K 0 = ⟨⟨#[]⟩, [⟨⟨#[]⟩, lk, sn⟩], [], [], []⟩) (h0 : at_ 0 = 24) (hs : ∀ i, i < n → at_ (i + 1) = at_ i + (16 + len i) ∧ at_ (i + 1) ≤ N)
    (hold : Pc w b0 o (oldB true)) (hsnp : Pc w b0 (o + 16) (numB true 4 sn)) (hlkp : Pc w b0 (o + 20) (numB true 4 lk))
    (hp : ∀ i, i < n → Pc w b0 (o + (at_ i + 8)) (numB true 4 (len i)))
    (hk : ∀ i, i < n → ∀ w', Below b w w' → ∀ q A cp xs, Rd w' R b (.iface 96 (.agg #[])) q A cp xs (K i) (i + 1) 0 → Calls Try.prog 76 #[.pointer (some ⟨R, 0, none⟩), .slice (some ⟨b0, o + at_ i, none⟩) (16 + len i) (C - at_ i)] w' fun e w2 => e = .returned (.tuple #[]) ∧ (∃ q', Rd w2 R b (.iface 96 (.agg #[])) q' A cp xs (K (i + 1)) (i + 1) 0) ∧ Below b w' w2)
    (ht : N - at_ n < 16 ∨ ∃ ln, Pc w b0 (o + (at_ n + 8)) (numB true 4 ln) ∧ ln < 4294967296 ∧ N - at_ n < 16 + ln) (hle : at_ n ≤ N) :
    Calls Try.prog 70 #[.pointer (some ⟨R, 0, none⟩), .slice (some ⟨b0, o, none⟩) N C] w fun e w' => e = .returned (.bool true) ∧ (∃ q A cp xs, Rd w' R b (.iface 96 (.agg #[])) q A cp xs (K n) (n + 1) (N - at_ n)) ∧ Below b w w' := by
  have H := Lib.hid h
  have HS := Lib.hid hs
  have HP := Lib.hid hp
  have HBK := Lib.hid hk
  have HT := Lib.hid ht
  have H0 := Lib.hid h0
  have HLE := Lib.hid hle
  have HK := Lib.hid hK
  have hbw : b0 < w.heap.size := by have := h.lt; omega
  have PL := Lib.hid hlkp
  have PS := Lib.hid hsnp
  have hlkB : Hid (lk < 256 ^ 4) := Lib.hid (by omega)
  have hsnB : Hid (sn < 256 ^ 4) := Lib.hid (by omega)
  have HSB := Lib.hid (fun w : World => oldbegin_any (w := w) true)
  have hol : (oldB true).length = 16 := by rfl
  have HHP := Lib.hid (fun (w' : World) (A2 : Option Addr) (B2 c2 : Nat) (hw : Below w.heap.size w w') h2 => hasprefix2_any (w := w') (c2 := c2) (B2 := B2) (A2 := A2) (L := N) (c := C) (hold.below hw hbw) (by rw [hol]; omega) (by omega) (Nat.lt_of_lt_of_le hbw hw.size) h2)
  rw [hol] at HHP
  have HLT := Lib.hid hold.lt
  have q0 := h.cell0
  have hd24 : decide ((N : Int) < 24) = false := by simp; omega
  have hk1 : (16 : Int) ≤ (C : Int) := by omega
  have hk2 : (20 : Int) ≤ (C : Int) := by omega
  have hk3 : (24 : Int) ≤ (C : Int) := by omega
  have hk4 : ¬ C = 16 := by omega
  have hk5 : ¬ C = 20 := by omega
  have nah : ∀ (w : World), (nilAhead 246 96 (.agg #[]) "wireglass/capt.get").run Try.prog w = .ok (some false) w := fun w => by kernel_rfl
  have mth : ∀ (w : World), (method 246 96 (.agg #[]) "wireglass/capt.get").run Try.prog w = .ok (114, .agg #[]) w := fun w => by kernel_rfl
  clear h hs hp hk ht h0 hle hK hold hsnp hlkp
  go_enter Try.func70, Try.ntmps70
  go_wp2_with fail
  refine (HSB.out _).mono ?_
  rintro e w1 ⟨v1, rfl, ho1, hb1⟩
  obtain ⟨A1, c1, rfl, hB1⟩ := own_any ho1 HLT.out
  rw [hol]
  have X := HHP.out w1 A1 _ c1 (by exact hb1) hB1
  go_wp2_with fail
  refine X.mono ?_
  rintro e w2 ⟨rfl, rfl⟩
  have HD := Lib.hid (H.out.below hb1).drew
  have BD : Hid (Below b w w1.drew) := Lib.hid (hb1.mono (Nat.le_of_lt H.out.lt)).drew
  have q3 : w1.drew.cell? ⟨R, 0, none⟩ = some (.iface 96 (.agg #[])) := HD.out.cell0
  have G1 := Lib.hid (get_true (w := w1.drew) (c := C - 16) (PS.out.below BD.out hb) (by decide) (Nat.lt_trans hb HD.out.lt) hsnB.out)
  clear X HSB HHP ho1 hB1 hb1 q0 hol
  go_wp2_with fail
  refine wp_region_held_drew (S := fun w' => w'.cell? ⟨R, 0, none⟩ = some (.iface 96 (.agg #[]))) (by kernel_rfl) q3 (fun hHeld => ?_)
  refine tky 0 ?_
  repeat (rw [putL]; simp only [List.set])
  refine tky 1 ?_
  repeat (rw [putL]; simp only [List.set])
  refine tky 2 ?_
  repeat (rw [putL]; simp only [List.set])
  refine tky 3 ?_
  repeat (rw [putL]; simp only [List.set])
  refine tky 4 ?_
  repeat (rw [putL]; simp only [List.set])
  refine tky 5 ?_
  repeat (rw [putL]; simp only [List.set])
  refine tky 6 ?_
  repeat (rw [putL]; simp only [List.set])
  refine tky 7 ?_
  repeat (rw [putL]; simp only [List.set])
  refine tky 8 ?_
  repeat (rw [putL]; simp only [List.set])
  refine tky 10 ?_
  repeat (rw [putL]; simp only [List.set])
  refine tky 11 ?_
  repeat (rw [putL]; simp only [List.set])
  refine tky 12 ?_
  repeat (rw [putL]; simp only [List.set])
  refine tky 13 ?_
  repeat (rw [putL]; simp only [List.set])
  refine tky 14 ?_
  repeat (rw [putL]; simp only [List.set])
  refine tky 15 ?_
  repeat (rw [putL]; simp only [List.set])
  refine tky 16 ?_
  repeat (rw [putL]; simp only [List.set])
  refine tky 17 ?_
  repeat (rw [putL]; simp only [List.set])
  refine wpAnyH_ready (rs := [9]) (by kernel_rfl) (by simp) ?_
  refine rdy rfl (fun K hK => ?_) (AllReadyH.nil)
  go_simp
  go_at_call 114
  with_reducible refine G1.out.mono ?_
  rintro e w3 ⟨rfl, hb1⟩
  have H3 := Lib.hid (HD.out.below hb1)
  have B3 : Hid (Below b w w3) := Lib.hid (BD.out.trans (hb1.mono (Nat.le_of_lt HD.out.lt)))
  have tw3 := H3.out.cell0
  clear hb1
  have G2 := Lib.hid (get_true (c := C - 20) (PL.out.below B3.out hb) (by decide) (Nat.lt_trans hb H3.out.lt) hlkB.out)
  dsimp only
  refine hK.out _ _ tw3 (fun hHeld => ?_)
  clear hK K
  repeat (rw [putL]; simp only [List.set])
  refine wpAnyH_ready (rs := [18]) (by kernel_rfl) (by simp) ?_
  refine rdy rfl (fun K hK => ?_) (AllReadyH.nil)
  go_simp
  go_at_call 114
  with_reducible refine G2.out.mono ?_
  rintro e w4 ⟨rfl, hb1⟩
  have H4 := Lib.hid (H3.out.below hb1)
  have B4 : Hid (Below b w w4) := Lib.hid (B3.out.trans (hb1.mono (Nat.le_of_lt H3.out.lt)))
  have tw4 := H4.out.cell0
  clear hb1
  have END := Lib.hid (face_one H4.out lk sn (by omega) (by omega))
  have BE : Hid (Below b w ((w4.alloc (.cells #[.string ⟨#[]⟩, .int .i64 (lk : Int), .int .i64 (sn : Int)] 54)).setCell ⟨R, 2, none⟩ (.slice (some ⟨w4.heap.size, 0, none⟩) 1 1))) := Lib.hid ((B4.out.alloc (Nat.le_of_lt H4.out.lt) _).setCell (p := ⟨R, 2, none⟩) H4.out.le _)
  have ta : (w4.alloc (.cells #[.string ⟨#[]⟩, .int .i64 (lk : Int), .int .i64 (sn : Int)] 54)).cell? ⟨R, 0, none⟩ = some (.iface 96 (.agg #[])) := by rw [(H4.out.blk.alloc _).cell]; rfl
  have e2 : (w4.alloc (.cells #[.string ⟨#[]⟩, .int .i64 (lk : Int), .int .i64 (sn : Int)] 54)).cell? ⟨R, 2, none⟩ = some (.slice none 0 0) := by rw [(H4.out.blk.alloc _).cell]; rfl
  have f2 : (w4.alloc (.cells #[.string ⟨#[]⟩, .int .i64 (lk : Int), .int .i64 (sn : Int)] 54)).frozen? ⟨R, 2, none⟩ = false := (H4.out.blk.alloc _).frozen 2
  have ts := END.out.cell0
  dsimp only
  refine hK.out _ _ tw4 (fun hHeld => ?_)
  clear hK K
  repeat (rw [putL]; simp only [List.set])
  refine tky 19 ?_
  repeat (rw [putL]; simp only [List.set])
  refine wpAnyH_ready (rs := [20]) (by kernel_rfl) (by simp) ?_
  refine rdy rfl (fun K hK => ?_) (AllReadyH.nil)
  go_simp
  refine hK.out _ _ ta (fun hHeld => ?_)
  clear hK K
  repeat (rw [putL]; simp only [List.set])
  refine tky 21 ?_
  repeat (rw [putL]; simp only [List.set])
  refine tky 22 ?_
  repeat (rw [putL]; simp only [List.set])
  refine tky 23 ?_
  repeat (rw [putL]; simp only [List.set])
  refine wpAnyH_ready (rs := [24]) (by kernel_rfl) (by simp) ?_
  refine rdy rfl (fun K hK => ?_) (AllReadyH.nil)
  go_simp
  refine hK.out _ _ ts (fun hHeld => ?_)
  clear hK K
  repeat (rw [putL]; simp only [List.set])
  refine wpAnyH_done (by kernel_rfl) ?_ _
  clear ta e2 f2 ts G1 G2
  generalize hV : (w4.alloc (.cells #[.string ⟨#[]⟩, .int .i64 (lk : Int), .int .i64 (sn : Int)] 54)).setCell ⟨R, 2, none⟩ (.slice (some ⟨w4.heap.size, 0, none⟩) 1 1) = V at END BE ⊢
  clear hV
  obtain ⟨A7, c7, w7, hrun, ho7, hg7, ha7, hb7⟩ := row_more (cs := [.int .i64 (-2), .int .i64 0, .int .i64 24]) Try.underlying68 info109 (by rfl) (by decide) (by decide) END.out.parts rfl (by
    intro u hu
    simp only [List.mem_cons, List.not_mem_nil, or_false] at hu
    rcases hu with rfl | rfl | rfl <;> rfl) (by omega) (Nat.le_of_lt END.out.lt)
  have END2 := Lib.hid (And.intro (Rd.part END.out ho7 ha7) ((BE.out.trans hb7).setCell (p := ⟨R, 6, none⟩) END.out.le (.slice A7 (0 + 1) c7)))
  have hk7 := ha7.2 R 70 _ (by decide) END.out.blk
  have e7 : w7.cell? ⟨R, 6, none⟩ = some (.slice none 0 0) := by rw [hk7.cell]; rfl
  have f7 : w7.frozen? ⟨R, 6, none⟩ = false := hk7.frozen 6
  have e5 : V.cell? ⟨R, 6, none⟩ = some (.slice none 0 0) := by rw [END.out.blk.cell]; rfl
  have eC : (V.alloc (.cells [.int .i64 (-2), .int .i64 0, .int .i64 24].toArray 109)).cell? ⟨R, 6, none⟩ = some (.slice none 0 0) := by rw [(END.out.blk.alloc _).cell]; rfl
  clear hk7 ho7 ha7 hb7 hg7
  go_wp2_with (at_builtin; refine Lib.wpList_append_run _ rfl _ _ _ _ rfl _ _ rfl rfl _ _ hrun ?_)
  go_loopw [5, 6] (fun at5 _ wr => ∃ i : Nat, i ≤ n ∧ at5 = .int .i64 (at_ i : Nat) ∧ Hid (Below b w wr) ∧ ∃ q A cp xs, Hid (Rd wr R b (.iface 96 (.agg #[])) q A cp xs (K i) (i + 1) 0)) (fun at5 _ _ => N - (intOf at5).toNat)
  case atStart => exact ⟨0, Nat.zero_le _, by rw [H0.out]; rfl, Lib.hid END2.out.2, _, _, _, _, Lib.hid (by rw [HK.out]; exact END2.out.1)⟩
  case round =>
    obtain ⟨i, hi, rfl, HBW, q, A, cp, xs, HR⟩ := hrel
    by_cases hin : i < n
    · have hS := HS.out i hin
      have hP := HP.out i hin
      have KB0 := Lib.hid (HBK.out i hin)
      obtain ⟨p, hpp⟩ : ∃ p, at_ i = p := ⟨_, rfl⟩
      obtain ⟨ln, hln⟩ : ∃ ln, len i = ln := ⟨_, rfl⟩
      obtain ⟨sz, hsz⟩ : ∃ sz, 16 + ln = sz := ⟨_, rfl⟩
      obtain ⟨E, hE⟩ : ∃ E, p + sz = E := ⟨_, rfl⟩
      obtain ⟨p8, hp8⟩ : ∃ p8, p + 8 = p8 := ⟨_, rfl⟩
      obtain ⟨p12, hp12⟩ : ∃ p12, p + 12 = p12 := ⟨_, rfl⟩
      rw [hpp, hln, hsz] at KB0 hS
      rw [hpp, hln, hp8] at hP
      rw [hpp]
      have HAT1 : Hid (at_ (i + 1) = E) := Lib.hid (by rw [hS.1, hE])
      have hfit : E ≤ N := by have := hS.2; rw [hS.1, hE] at this; exact this
      have hlnB : Hid (ln < 256 ^ 4) := Lib.hid (by omega)
      have P3 := Lib.hid hP
      have HD7 := Lib.hid HR.out.drew
      have BD7 : Hid (Below b w wr.drew) := Lib.hid HBW.out.drew
      have q7 : wr.drew.cell? ⟨R, 0, none⟩ = some (.iface 96 (.agg #[])) := HD7.out.cell0
      have G3 := Lib.hid (get_true (w := wr.drew) (c := C - p8) (P3.out.below BD7.out hb) (by decide) (Nat.lt_trans hb HD7.out.lt) hlnB.out)
      have hw8 : IntKind.i64.wrap ((p : Int) + 8) = (p8 : Int) := by rw [IntKind.wrap_i64]; omega
      have hw12 : IntKind.i64.wrap ((p : Int) + 12) = (p12 : Int) := by rw [IntKind.wrap_i64]; omega
      have hwz : IntKind.i64.wrap (16 + (ln : Int)) = (sz : Int) := by rw [IntKind.wrap_i64]; omega
      have hE1 : (p : Int) + (sz : Int) = (E : Int) := by omega
      have hb1 : p8 ≤ p12 := by omega
      have hb2 : p ≤ E := by omega
      have hc1 : (p12 : Int) ≤ (C : Int) := by omega
      have hc2 : (E : Int) ≤ (C : Int) := by omega
      have hd1 : p12 - p8 = 4 := by omega
      have hd2 : E - p = sz := by omega
      have hc5 : ¬ C = p8 := by omega
      have hc6 : ¬ C = p := by omega
      have hg8 : decide ((16 : Int) ≤ (N : Int) - (p : Int)) = true := by simp; omega
      have hl13 : decide ((N : Int) - (p : Int) < (sz : Int)) = false := by simp; omega
      have HEP : Hid (p < E ∧ E ≤ 200000) := Lib.hid (by omega)
      clear hS hP hpp hln hsz hE hp8 hp12
      go_wp2_with fail
      refine wp_region_held_drew (S := fun w' => w'.cell? ⟨R, 0, none⟩ = some (.iface 96 (.agg #[]))) (by kernel_rfl) q7 (fun hHeld => ?_)
      refine tky 0 ?_
      repeat (rw [putL]; simp only [List.set])
      refine tky 1 ?_
      repeat (rw [putL]; simp only [List.set])
      refine tky 2 ?_
      repeat (rw [putL]; simp only [List.set])
      refine tky 3 ?_
      repeat (rw [putL]; simp only [List.set])
      refine tky 4 ?_
      repeat (rw [putL]; simp only [List.set])
      refine tky 5 ?_
      repeat (rw [putL]; simp only [List.set])
      refine tky 6 ?_
      repeat (rw [putL]; simp only [List.set])
      try simp only [hw8]
      refine tky 7 ?_
      repeat (rw [putL]; simp only [List.set])
      refine tky 8 ?_
      repeat (rw [putL]; simp only [List.set])
      try simp only [hw12]
      refine tky 9 ?_
      repeat (rw [putL]; simp only [List.set])
      refine tky 10 ?_
      repeat (rw [putL]; simp only [List.set])
      refine tky 11 ?_
      repeat (rw [putL]; simp only [List.set])
      refine wpAnyH_ready (rs := [12]) (by kernel_rfl) (by simp) ?_
      refine rdy rfl (fun K hK => ?_) (AllReadyH.nil)
      go_simp
      go_at_call 114
      with_reducible refine G3.out.mono ?_
      rintro e wa ⟨rfl, hb1⟩
      have HA := Lib.hid (HD7.out.below hb1)
      have BA : Hid (Below b w wa) := Lib.hid (BD7.out.trans (hb1.mono (Nat.le_of_lt HD7.out.lt)))
      have twa := HA.out.cell0
      clear hb1
      dsimp only
      refine hK.out _ _ twa (fun hHeld => ?_)
      clear hK K
      repeat (rw [putL]; simp only [List.set])
      refine tky 13 ?_
      repeat (rw [putL]; simp only [List.set])
      try simp only [hwz]
      refine tky 14 ?_
      repeat (rw [putL]; simp only [List.set])
      refine wpAnyH_done (by kernel_rfl) ?_ _
      have KB := Lib.hid (KB0.out wa BA.out _ _ _ _ HA.out)
      go_wp2_with fail
      refine KB.out.mono ?_
      rintro e wd ⟨rfl, ⟨q2, hd⟩, hbd⟩
      have HDD := Lib.hid hd
      have BDD : Hid (Below b w wd) := Lib.hid (BA.out.trans hbd)
      clear hd hbd KB
      obtain ⟨A7, c7, w7, hrun, ho7, hg7, ha7, hb7⟩ := row_more (cs := [.int .i64 (-1), .int .i64 (p : Int), .int .i64 (sz : Int)]) Try.underlying68 info109 (by rfl) (by decide) (by decide) HDD.out.parts rfl (by
        intro u hu
        simp only [List.mem_cons, List.not_mem_nil, or_false] at hu
        rcases hu with rfl | rfl | rfl <;> rfl) (by omega) (Nat.le_of_lt HDD.out.lt)
      have END3 := Lib.hid (And.intro (Rd.part HDD.out ho7 ha7) ((BDD.out.trans hb7).setCell (p := ⟨R, 6, none⟩) HDD.out.le (.slice A7 ((i + 1) + 1) c7)))
      have hk7 := ha7.2 R 70 _ (by decide) HDD.out.blk
      have e7 : w7.cell? ⟨R, 6, none⟩ = some (.slice A (i + 1) cp) := by rw [hk7.cell]; rfl
      have f7 : w7.frozen? ⟨R, 6, none⟩ = false := hk7.frozen 6
      have e5 : wd.cell? ⟨R, 6, none⟩ = some (.slice A (i + 1) cp) := by rw [HDD.out.blk.cell]; rfl
      have eC : (wd.alloc (.cells [.int .i64 (-1), .int .i64 (p : Int), .int .i64 (sz : Int)].toArray 109)).cell? ⟨R, 6, none⟩ = some (.slice A (i + 1) cp) := by rw [(HDD.out.blk.alloc _).cell]; rfl
      clear hk7 ho7 ha7 hb7 hg7
      go_wp2_with (at_builtin; refine Lib.wpList_append_run _ rfl _ _ _ _ rfl _ _ rfl rfl _ _ hrun ?_)
      refine ⟨⟨i + 1, by omega, by rw [HAT1.out], Lib.hid END3.out.2, _, _, _, _, Lib.hid END3.out.1⟩, ?_⟩
      have := HEP.out
      simp [intOf]; omega
    · have hie : i = n := by omega
      subst hie
      have HL := HLE.out
      have HTT := HT.out
      obtain ⟨p, hpp⟩ : ∃ p, at_ i = p := ⟨_, rfl⟩
      rw [hpp] at HL HTT ⊢
      obtain ⟨T, hT⟩ : ∃ T, N - p = T := ⟨_, rfl⟩
      rw [hT] at HTT
      have HTN : Hid (N - at_ i = T) := Lib.hid (by rw [hpp, hT])
      have hT1 : (N : Int) - (p : Int) = (T : Int) := by omega
      have HNT : Hid (N = p + T) := Lib.hid (by omega)
      clear hT hpp
      by_cases h16 : 16 ≤ T
      · rcases HTT with hlt | ⟨ln, hP1, hln, hs1⟩
        · omega
        · obtain ⟨p8, hp8⟩ : ∃ p8, p + 8 = p8 := ⟨_, rfl⟩
          obtain ⟨p12, hp12⟩ : ∃ p12, p + 12 = p12 := ⟨_, rfl⟩
          obtain ⟨sz, hsz⟩ : ∃ sz, 16 + ln = sz := ⟨_, rfl⟩
          rw [hp8] at hP1
          have hg8 : decide ((16 : Int) ≤ (T : Int)) = true := by simp; omega
          have hw8 : IntKind.i64.wrap ((p : Int) + 8) = (p8 : Int) := by rw [IntKind.wrap_i64]; omega
          have hw12 : IntKind.i64.wrap ((p : Int) + 12) = (p12 : Int) := by rw [IntKind.wrap_i64]; omega
          have hwz : IntKind.i64.wrap (16 + (ln : Int)) = (sz : Int) := by rw [IntKind.wrap_i64]; omega
          have hb1 : p8 ≤ p12 := by omega
          have hc1 : (p12 : Int) ≤ (C : Int) := by omega
          have hd1 : p12 - p8 = 4 := by omega
          have hc5 : ¬ C = p8 := by omega
          have hl13 : decide ((T : Int) < (sz : Int)) = true := by simp; omega
          have hTs : T < sz := by omega
          have HD7 := Lib.hid HR.out.drew
          have BD7 : Hid (Below b w wr.drew) := Lib.hid HBW.out.drew
          have q7 : wr.drew.cell? ⟨R, 0, none⟩ = some (.iface 96 (.agg #[])) := HD7.out.cell0
          have G3 := Lib.hid (get_true (w := wr.drew) (c := C - p8) (hP1.below BD7.out hb) (by decide) (Nat.lt_trans hb HD7.out.lt) hln)
          clear hP1 hln hs1 hp8 hp12 hsz h16
          go_wp2_with fail
          refine wp_region_held_drew (S := fun w' => w'.cell? ⟨R, 0, none⟩ = some (.iface 96 (.agg #[]))) (by kernel_rfl) q7 (fun hHeld => ?_)
          refine tky 0 ?_
          repeat (rw [putL]; simp only [List.set])
          refine tky 1 ?_
          repeat (rw [putL]; simp only [List.set])
          refine tky 2 ?_
          repeat (rw [putL]; simp only [List.set])
          refine tky 3 ?_
          repeat (rw [putL]; simp only [List.set])
          refine tky 4 ?_
          repeat (rw [putL]; simp only [List.set])
          refine tky 5 ?_
          repeat (rw [putL]; simp only [List.set])
          refine tky 6 ?_
          repeat (rw [putL]; simp only [List.set])
          try simp only [hw8]
          refine tky 7 ?_
          repeat (rw [putL]; simp only [List.set])
          refine tky 8 ?_
          repeat (rw [putL]; simp only [List.set])
          try simp only [hw12]
          refine tky 9 ?_
          repeat (rw [putL]; simp only [List.set])
          refine tky 10 ?_
          repeat (rw [putL]; simp only [List.set])
          refine tky 11 ?_
          repeat (rw [putL]; simp only [List.set])
          refine wpAnyH_ready (rs := [12]) (by kernel_rfl) (by simp) ?_
          refine rdy rfl (fun K hK => ?_) (AllReadyH.nil)
          go_simp
          go_at_call 114
          with_reducible refine G3.out.mono ?_
          rintro e wa ⟨rfl, hb1⟩
          have HA := Lib.hid (HD7.out.below hb1)
          have BA : Hid (Below b w wa) := Lib.hid (BD7.out.trans (hb1.mono (Nat.le_of_lt HD7.out.lt)))
          have twa := HA.out.cell0
          clear hb1
          dsimp only
          refine hK.out _ _ twa (fun hHeld => ?_)
          clear hK K
          repeat (rw [putL]; simp only [List.set])
          refine tky 13 ?_
          repeat (rw [putL]; simp only [List.set])
          try simp only [hwz]
          refine tky 14 ?_
          repeat (rw [putL]; simp only [List.set])
          refine wpAnyH_done (by kernel_rfl) ?_ _
          have e7 : wa.cell? ⟨R, 7, none⟩ = some (.int .i64 ((0 : Nat) : Int)) := by rw [HA.out.blk.cell]; rfl
          have f7 : wa.frozen? ⟨R, 7, none⟩ = false := HA.out.blk.frozen 7
          go_wp2_with fail
          go_ret
          exact ⟨rfl, ⟨q, A, cp, xs, by rw [HTN.out]; exact HA.out.torn⟩, BA.out.setCell (p := ⟨R, 7, none⟩) HA.out.le _⟩
      · have hg8 : decide ((16 : Int) ≤ (T : Int)) = false := by simp; omega
        have e7 : wr.cell? ⟨R, 7, none⟩ = some (.int .i64 ((0 : Nat) : Int)) := by rw [HR.out.blk.cell]; rfl
        have f7 : wr.frozen? ⟨R, 7, none⟩ = false := HR.out.blk.frozen 7
        clear HTT h16
        go_wp2_with fail
        go_ret
        exact ⟨rfl, ⟨q, A, cp, xs, by rw [HTN.out]; exact HR.out.torn⟩, HBW.out.setCell (p := ⟨R, 7, none⟩) HR.out.le _⟩

set_option maxRecDepth 100000 in
set_option maxHeartbeats 16000000 in
theorem records_false {w : World} {R b n N C b0 o lk sn : Nat} {K : Nat → Cap} {at_ len : Nat → Nat} (h : Rd w R b (.iface 97 (.agg #[])) pl0 none 0 [] cap0 0 0) (hb : b0 < b) (hNC : N ≤ C) (hN : N ≤ 200000) (h24 : 24 ≤ N) (hn : n < 1000) (hlk : lk < 65536) (hsn : sn < 65536)
    (hK : K 0 = ⟨⟨#[]⟩, [⟨⟨#[]⟩, lk, sn⟩], [], [], []⟩) (h0 : at_ 0 = 24) (hs : ∀ i, i < n → at_ (i + 1) = at_ i + (16 + len i) ∧ at_ (i + 1) ≤ N)
    (hold : Pc w b0 o (oldB false)) (hsnp : Pc w b0 (o + 16) (numB false 4 sn)) (hlkp : Pc w b0 (o + 20) (numB false 4 lk))
    (hp : ∀ i, i < n → Pc w b0 (o + (at_ i + 8)) (numB false 4 (len i)))
    (hk : ∀ i, i < n → ∀ w', Below b w w' → ∀ q A cp xs, Rd w' R b (.iface 97 (.agg #[])) q A cp xs (K i) (i + 1) 0 → Calls Try.prog 76 #[.pointer (some ⟨R, 0, none⟩), .slice (some ⟨b0, o + at_ i, none⟩) (16 + len i) (C - at_ i)] w' fun e w2 => e = .returned (.tuple #[]) ∧ (∃ q', Rd w2 R b (.iface 97 (.agg #[])) q' A cp xs (K (i + 1)) (i + 1) 0) ∧ Below b w' w2)
    (ht : N - at_ n < 16 ∨ ∃ ln, Pc w b0 (o + (at_ n + 8)) (numB false 4 ln) ∧ ln < 4294967296 ∧ N - at_ n < 16 + ln) (hle : at_ n ≤ N) :
    Calls Try.prog 70 #[.pointer (some ⟨R, 0, none⟩), .slice (some ⟨b0, o, none⟩) N C] w fun e w' => e = .returned (.bool true) ∧ (∃ q A cp xs, Rd w' R b (.iface 97 (.agg #[])) q A cp xs (K n) (n + 1) (N - at_ n)) ∧ Below b w w' := by
  have H := Lib.hid h
  have HS := Lib.hid hs
  have HP := Lib.hid hp
  have HBK := Lib.hid hk
  have HT := Lib.hid ht
  have H0 := Lib.hid h0
  have HLE := Lib.hid hle
  have HK := Lib.hid hK
  have hbw : b0 < w.heap.size := by have := h.lt; omega
  have PL := Lib.hid hlkp
  have PS := Lib.hid hsnp
  have hlkB : Hid (lk < 256 ^ 4) := Lib.hid (by omega)
  have hsnB : Hid (sn < 256 ^ 4) := Lib.hid (by omega)
  have HSB := Lib.hid (fun w : World => oldbegin_any (w := w) false)
  have hol : (oldB false).length = 16 := by rfl
  have HHP := Lib.hid (fun (w' : World) (A2 : Option Addr) (B2 c2 : Nat) (hw : Below w.heap.size w w') h2 => hasprefix2_any (w := w') (c2 := c2) (B2 := B2) (A2 := A2) (L := N) (c := C) (hold.below hw hbw) (by rw [hol]; omega) (by omega) (Nat.lt_of_lt_of_le hbw hw.size) h2)
  rw [hol] at HHP
  have HLT := Lib.hid hold.lt
  have q0 := h.cell0
  have hd24 : decide ((N : Int) < 24) = false := by simp; omega
  have hk1 : (16 : Int) ≤ (C : Int) := by omega
  have hk2 : (20 : Int) ≤ (C : Int) := by omega
  have hk3 : (24 : Int) ≤ (C : Int) := by omega
  have hk4 : ¬ C = 16 := by omega
  have hk5 : ¬ C = 20 := by omega
  have nah : ∀ (w : World), (nilAhead 246 97 (.agg #[]) "wireglass/capt.get").run Try.prog w = .ok (some false) w := fun w => by kernel_rfl
  have mth : ∀ (w : World), (method 246 97 (.agg #[]) "wireglass/capt.get").run Try.prog w = .ok (116, .agg #[]) w := fun w => by kernel_rfl
  clear h hs hp hk ht h0 hle hK hold hsnp hlkp
  go_enter Try.func70, Try.ntmps70
  go_wp2_with fail
  refine (HSB.out _).mono ?_
  rintro e w1 ⟨v1, rfl, ho1, hb1⟩
  obtain ⟨A1, c1, rfl, hB1⟩ := own_any ho1 HLT.out
  rw [hol]
  have X := HHP.out w1 A1 _ c1 (by exact hb1) hB1
  go_wp2_with fail
  refine X.mono ?_
  rintro e w2 ⟨rfl, rfl⟩
  have HD := Lib.hid (H.out.below hb1).drew
  have BD : Hid (Below b w w1.drew) := Lib.hid (hb1.mono (Nat.le_of_lt H.out.lt)).drew
  have q3 : w1.drew.cell? ⟨R, 0, none⟩ = some (.iface 97 (.agg #[])) := HD.out.cell0
  have G1 := Lib.hid (get_false (w := w1.drew) (c := C - 16) (PS.out.below BD.out hb) (by decide) (Nat.lt_trans hb HD.out.lt) hsnB.out)
  clear X HSB HHP ho1 hB1 hb1 q0 hol
  go_wp2_with fail
  refine wp_region_held_drew (S := fun w' => w'.cell? ⟨R, 0, none⟩ = some (.iface 97 (.agg #[]))) (by kernel_rfl) q3 (fun hHeld => ?_)
  refine tky 0 ?_
  repeat (rw [putL]; simp only [List.set])
  refine tky 1 ?_
  repeat (rw [putL]; simp only [List.set])
  refine tky 2 ?_
  repeat (rw [putL]; simp only [List.set])
  refine tky 3 ?_
  repeat (rw [putL]; simp only [List.set])
  refine tky 4 ?_
  repeat (rw [putL]; simp only [List.set])
  refine tky 5 ?_
  repeat (rw [putL]; simp only [List.set])
  refine tky 6 ?_
  repeat (rw [putL]; simp only [List.set])
  refine tky 7 ?_
  repeat (rw [putL]; simp only [List.set])
  refine tky 8 ?_
  repeat (rw [putL]; simp only [List.set])
  refine tky 10 ?_
  repeat (rw [putL]; simp only [List.set])
  refine tky 11 ?_
  repeat (rw [putL]; simp only [List.set])
  refine tky 12 ?_
  repeat (rw [putL]; simp only [List.set])
  refine tky 13 ?_
  repeat (rw [putL]; simp only [List.set])
  refine tky 14 ?_
  repeat (rw [putL]; simp only [List.set])
  refine tky 15 ?_
  repeat (rw [putL]; simp only [List.set])
  refine tky 16 ?_
  repeat (rw [putL]; simp only [List.set])
  refine tky 17 ?_
  repeat (rw [putL]; simp only [List.set])
  refine wpAnyH_ready (rs := [9]) (by kernel_rfl) (by simp) ?_
  refine rdy rfl (fun K hK => ?_) (AllReadyH.nil)
  go_simp
  go_at_call 116
  with_reducible refine G1.out.mono ?_
  rintro e w3 ⟨rfl, hb1⟩
  have H3 := Lib.hid (HD.out.below hb1)
  have B3 : Hid (Below b w w3) := Lib.hid (BD.out.trans (hb1.mono (Nat.le_of_lt HD.out.lt)))
  have tw3 := H3.out.cell0
  clear hb1
  have G2 := Lib.hid (get_false (c := C - 20) (PL.out.below B3.out hb) (by decide) (Nat.lt_trans hb H3.out.lt) hlkB.out)
  dsimp only
  refine hK.out _ _ tw3 (fun hHeld => ?_)
  clear hK K
  repeat (rw [putL]; simp only [List.set])
  refine wpAnyH_ready (rs := [18]) (by kernel_rfl) (by simp) ?_
  refine rdy rfl (fun K hK => ?_) (AllReadyH.nil)
  go_simp
  go_at_call 116
  with_reducible refine G2.out.mono ?_
  rintro e w4 ⟨rfl, hb1⟩
  have H4 := Lib.hid (H3.out.below hb1)
  have B4 : Hid (Below b w w4) := Lib.hid (B3.out.trans (hb1.mono (Nat.le_of_lt H3.out.lt)))
  have tw4 := H4.out.cell0
  clear hb1
  have END := Lib.hid (face_one H4.out lk sn (by omega) (by omega))
  have BE : Hid (Below b w ((w4.alloc (.cells #[.string ⟨#[]⟩, .int .i64 (lk : Int), .int .i64 (sn : Int)] 54)).setCell ⟨R, 2, none⟩ (.slice (some ⟨w4.heap.size, 0, none⟩) 1 1))) := Lib.hid ((B4.out.alloc (Nat.le_of_lt H4.out.lt) _).setCell (p := ⟨R, 2, none⟩) H4.out.le _)
  have ta : (w4.alloc (.cells #[.string ⟨#[]⟩, .int .i64 (lk : Int), .int .i64 (sn : Int)] 54)).cell? ⟨R, 0, none⟩ = some (.iface 97 (.agg #[])) := by rw [(H4.out.blk.alloc _).cell]; rfl
  have e2 : (w4.alloc (.cells #[.string ⟨#[]⟩, .int .i64 (lk : Int), .int .i64 (sn : Int)] 54)).cell? ⟨R, 2, none⟩ = some (.slice none 0 0) := by rw [(H4.out.blk.alloc _).cell]; rfl
  have f2 : (w4.alloc (.cells #[.string ⟨#[]⟩, .int .i64 (lk : Int), .int .i64 (sn : Int)] 54)).frozen? ⟨R, 2, none⟩ = false := (H4.out.blk.alloc _).frozen 2
  have ts := END.out.cell0
  dsimp only
  refine hK.out _ _ tw4 (fun hHeld => ?_)
  clear hK K
  repeat (rw [putL]; simp only [List.set])
  refine tky 19 ?_
  repeat (rw [putL]; simp only [List.set])
  refine wpAnyH_ready (rs := [20]) (by kernel_rfl) (by simp) ?_
  refine rdy rfl (fun K hK => ?_) (AllReadyH.nil)
  go_simp
  refine hK.out _ _ ta (fun hHeld => ?_)
  clear hK K
  repeat (rw [putL]; simp only [List.set])
  refine tky 21 ?_
  repeat (rw [putL]; simp only [List.set])
  refine tky 22 ?_
  repeat (rw [putL]; simp only [List.set])
  refine tky 23 ?_
  repeat (rw [putL]; simp only [List.set])
  refine wpAnyH_ready (rs := [24]) (by kernel_rfl) (by simp) ?_
  refine rdy rfl (fun K hK => ?_) (AllReadyH.nil)
  go_simp
  refine hK.out _ _ ts (fun hHeld => ?_)
  clear hK K
  repeat (rw [putL]; simp only [List.set])
  refine wpAnyH_done (by kernel_rfl) ?_ _
  clear ta e2 f2 ts G1 G2
  generalize hV : (w4.alloc (.cells #[.string ⟨#[]⟩, .int .i64 (lk : Int), .int .i64 (sn : Int)] 54)).setCell ⟨R, 2, none⟩ (.slice (some ⟨w4.heap.size, 0, none⟩) 1 1) = V at END BE ⊢
  clear hV
  obtain ⟨A7, c7, w7, hrun, ho7, hg7, ha7, hb7⟩ := row_more (cs := [.int .i64 (-2), .int .i64 0, .int .i64 24]) Try.underlying68 info109 (by rfl) (by decide) (by decide) END.out.parts rfl (by
    intro u hu
    simp only [List.mem_cons, List.not_mem_nil, or_false] at hu
    rcases hu with rfl | rfl | rfl <;> rfl) (by omega) (Nat.le_of_lt END.out.lt)
  have END2 := Lib.hid (And.intro (Rd.part END.out ho7 ha7) ((BE.out.trans hb7).setCell (p := ⟨R, 6, none⟩) END.out.le (.slice A7 (0 + 1) c7)))
  have hk7 := ha7.2 R 70 _ (by decide) END.out.blk
  have e7 : w7.cell? ⟨R, 6, none⟩ = some (.slice none 0 0) := by rw [hk7.cell]; rfl
  have f7 : w7.frozen? ⟨R, 6, none⟩ = false := hk7.frozen 6
  have e5 : V.cell? ⟨R, 6, none⟩ = some (.slice none 0 0) := by rw [END.out.blk.cell]; rfl
  have eC : (V.alloc (.cells [.int .i64 (-2), .int .i64 0, .int .i64 24].toArray 109)).cell? ⟨R, 6, none⟩ = some (.slice none 0 0) := by rw [(END.out.blk.alloc _).cell]; rfl
  clear hk7 ho7 ha7 hb7 hg7
  go_wp2_with (at_builtin; refine Lib.wpList_append_run _ rfl _ _ _ _ rfl _ _ rfl rfl _ _ hrun ?_)
  go_loopw [5, 6] (fun at5 _ wr => ∃ i : Nat, i ≤ n ∧ at5 = .int .i64 (at_ i : Nat) ∧ Hid (Below b w wr) ∧ ∃ q A cp xs, Hid (Rd wr R b (.iface 97 (.agg #[])) q A cp xs (K i) (i + 1) 0)) (fun at5 _ _ => N - (intOf at5).toNat)
  case atStart => exact ⟨0, Nat.zero_le _, by rw [H0.out]; rfl, Lib.hid END2.out.2, _, _, _, _, Lib.hid (by rw [HK.out]; exact END2.out.1)⟩
  case round =>
    obtain ⟨i, hi, rfl, HBW, q, A, cp, xs, HR⟩ := hrel
    by_cases hin : i < n
    · have hS := HS.out i hin
      have hP := HP.out i hin
      have KB0 := Lib.hid (HBK.out i hin)
      obtain ⟨p, hpp⟩ : ∃ p, at_ i = p := ⟨_, rfl⟩
      obtain ⟨ln, hln⟩ : ∃ ln, len i = ln := ⟨_, rfl⟩
      obtain ⟨sz, hsz⟩ : ∃ sz, 16 + ln = sz := ⟨_, rfl⟩
      obtain ⟨E, hE⟩ : ∃ E, p + sz = E := ⟨_, rfl⟩
      obtain ⟨p8, hp8⟩ : ∃ p8, p + 8 = p8 := ⟨_, rfl⟩
      obtain ⟨p12, hp12⟩ : ∃ p12, p + 12 = p12 := ⟨_, rfl⟩
      rw [hpp, hln, hsz] at KB0 hS
      rw [hpp, hln, hp8] at hP
      rw [hpp]
      have HAT1 : Hid (at_ (i + 1) = E) := Lib.hid (by rw [hS.1, hE])
      have hfit : E ≤ N := by have := hS.2; rw [hS.1, hE] at this; exact this
      have hlnB : Hid (ln < 256 ^ 4) := Lib.hid (by omega)
      have P3 := Lib.hid hP
      have HD7 := Lib.hid HR.out.drew
      have BD7 : Hid (Below b w wr.drew) := Lib.hid HBW.out.drew
      have q7 : wr.drew.cell? ⟨R, 0, none⟩ = some (.iface 97 (.agg #[])) := HD7.out.cell0
      have G3 := Lib.hid (get_false (w := wr.drew) (c := C - p8) (P3.out.below BD7.out hb) (by decide) (Nat.lt_trans hb HD7.out.lt) hlnB.out)
      have hw8 : IntKind.i64.wrap ((p : Int) + 8) = (p8 : Int) := by rw [IntKind.wrap_i64]; omega
      have hw12 : IntKind.i64.wrap ((p : Int) + 12) = (p12 : Int) := by rw [IntKind.wrap_i64]; omega
      have hwz : IntKind.i64.wrap (16 + (ln : Int)) = (sz : Int) := by rw [IntKind.wrap_i64]; omega
      have hE1 : (p : Int) + (sz : Int) = (E : Int) := by omega
      have hb1 : p8 ≤ p12 := by omega
      have hb2 : p ≤ E := by omega
      have hc1 : (p12 : Int) ≤ (C : Int) := by omega
      have hc2 : (E : Int) ≤ (C : Int) := by omega
      have hd1 : p12 - p8 = 4 := by omega
      have hd2 : E - p = sz := by omega
      have hc5 : ¬ C = p8 := by omega
      have hc6 : ¬ C = p := by omega
      have hg8 : decide ((16 : Int) ≤ (N : Int) - (p : Int)) = true := by simp; omega
      have hl13 : decide ((N : Int) - (p : Int) < (sz : Int)) = false := by simp; omega
      have HEP : Hid (p < E ∧ E ≤ 200000) := Lib.hid (by omega)
      clear hS hP hpp hln hsz hE hp8 hp12
      go_wp2_with fail
      refine wp_region_held_drew (S := fun w' => w'.cell? ⟨R, 0, none⟩ = some (.iface 97 (.agg #[]))) (by kernel_rfl) q7 (fun hHeld => ?_)
      refine tky 0 ?_
      repeat (rw [putL]; simp only [List.set])
      refine tky 1 ?_
      repeat (rw [putL]; simp only [List.set])
      refine tky 2 ?_
      repeat (rw [putL]; simp only [List.set])
      refine tky 3 ?_
      repeat (rw [putL]; simp only [List.set])
      refine tky 4 ?_
      repeat (rw [putL]; simp only [List.set])
      refine tky 5 ?_
      repeat (rw [putL]; simp only [List.set])
      refine tky 6 ?_
      repeat (rw [putL]; simp only [List.set])
      try simp only [hw8]
      refine tky 7 ?_
      repeat (rw [putL]; simp only [List.set])
      refine tky 8 ?_
      repeat (rw [putL]; simp only [List.set])
      try simp only [hw12]
      refine tky 9 ?_
      repeat (rw [putL]; simp only [List.set])
      refine tky 10 ?_
      repeat (rw [putL]; simp only [List.set])
      refine tky 11 ?_
      repeat (rw [putL]; simp only [List.set])
      refine wpAnyH_ready (rs := [12]) (by kernel_rfl) (by simp) ?_
      refine rdy rfl (fun K hK => ?_) (AllReadyH.nil)
      go_simp
      go_at_call 116
      with_reducible refine G3.out.mono ?_
      rintro e wa ⟨rfl, hb1⟩
      have HA := Lib.hid (HD7.out.below hb1)
      have BA : Hid (Below b w wa) := Lib.hid (BD7.out.trans (hb1.mono (Nat.le_of_lt HD7.out.lt)))
      have twa := HA.out.cell0
      clear hb1
      dsimp only
      refine hK.out _ _ twa (fun hHeld => ?_)
      clear hK K
      repeat (rw [putL]; simp only [List.set])
      refine tky 13 ?_
      repeat (rw [putL]; simp only [List.set])
      try simp only [hwz]
      refine tky 14 ?_
      repeat (rw [putL]; simp only [List.set])
      refine wpAnyH_done (by kernel_rfl) ?_ _
      have KB := Lib.hid (KB0.out wa BA.out _ _ _ _ HA.out)
      go_wp2_with fail
      refine KB.out.mono ?_
      rintro e wd ⟨rfl, ⟨q2, hd⟩, hbd⟩
      have HDD := Lib.hid hd
      have BDD : Hid (Below b w wd) := Lib.hid (BA.out.trans hbd)
      clear hd hbd KB
      obtain ⟨A7, c7, w7, hrun, ho7, hg7, ha7, hb7⟩ := row_more (cs := [.int .i64 (-1), .int .i64 (p : Int), .int .i64 (sz : Int)]) Try.underlying68 info109 (by rfl) (by decide) (by decide) HDD.out.parts rfl (by
        intro u hu
        simp only [List.mem_cons, List.not_mem_nil, or_false] at hu
        rcases hu with rfl | rfl | rfl <;> rfl) (by omega) (Nat.le_of_lt HDD.out.lt)
      have END3 := Lib.hid (And.intro (Rd.part HDD.out ho7 ha7) ((BDD.out.trans hb7).setCell (p := ⟨R, 6, none⟩) HDD.out.le (.slice A7 ((i + 1) + 1) c7)))
      have hk7 := ha7.2 R 70 _ (by decide) HDD.out.blk
      have e7 : w7.cell? ⟨R, 6, none⟩ = some (.slice A (i + 1) cp) := by rw [hk7.cell]; rfl
      have f7 : w7.frozen? ⟨R, 6, none⟩ = false := hk7.frozen 6
      have e5 : wd.cell? ⟨R, 6, none⟩ = some (.slice A (i + 1) cp) := by rw [HDD.out.blk.cell]; rfl
      have eC : (wd.alloc (.cells [.int .i64 (-1), .int .i64 (p : Int), .int .i64 (sz : Int)].toArray 109)).cell? ⟨R, 6, none⟩ = some (.slice A (i + 1) cp) := by rw [(HDD.out.blk.alloc _).cell]; rfl
      clear hk7 ho7 ha7 hb7 hg7
      go_wp2_with (at_builtin; refine Lib.wpList_append_run _ rfl _ _ _ _ rfl _ _ rfl rfl _ _ hrun ?_)
      refine ⟨⟨i + 1, by omega, by rw [HAT1.out], Lib.hid END3.out.2, _, _, _, _, Lib.hid END3.out.1⟩, ?_⟩
      have := HEP.out
      simp [intOf]; omega
    · have hie : i = n := by omega
      subst hie
      have HL := HLE.out
      have HTT := HT.out
      obtain ⟨p, hpp⟩ : ∃ p, at_ i = p := ⟨_, rfl⟩
      rw [hpp] at HL HTT ⊢
      obtain ⟨T, hT⟩ : ∃ T, N - p = T := ⟨_, rfl⟩
      rw [hT] at HTT
      have HTN : Hid (N - at_ i = T) := Lib.hid (by rw [hpp, hT])
      have hT1 : (N : Int) - (p : Int) = (T : Int) := by omega
      have HNT : Hid (N = p + T) := Lib.hid (by omega)
      clear hT hpp
      by_cases h16 : 16 ≤ T
      · rcases HTT with hlt | ⟨ln, hP1, hln, hs1⟩
        · omega
        · obtain ⟨p8, hp8⟩ : ∃ p8, p + 8 = p8 := ⟨_, rfl⟩
          obtain ⟨p12, hp12⟩ : ∃ p12, p + 12 = p12 := ⟨_, rfl⟩
          obtain ⟨sz, hsz⟩ : ∃ sz, 16 + ln = sz := ⟨_, rfl⟩
          rw [hp8] at hP1
          have hg8 : decide ((16 : Int) ≤ (T : Int)) = true := by simp; omega
          have hw8 : IntKind.i64.wrap ((p : Int) + 8) = (p8 : Int) := by rw [IntKind.wrap_i64]; omega
          have hw12 : IntKind.i64.wrap ((p : Int) + 12) = (p12 : Int) := by rw [IntKind.wrap_i64]; omega
          have hwz : IntKind.i64.wrap (16 + (ln : Int)) = (sz : Int) := by rw [IntKind.wrap_i64]; omega
          have hb1 : p8 ≤ p12 := by omega
          have hc1 : (p12 : Int) ≤ (C : Int) := by omega
          have hd1 : p12 - p8 = 4 := by omega
          have hc5 : ¬ C = p8 := by omega
          have hl13 : decide ((T : Int) < (sz : Int)) = true := by simp; omega
          have hTs : T < sz := by omega
          have HD7 := Lib.hid HR.out.drew
          have BD7 : Hid (Below b w wr.drew) := Lib.hid HBW.out.drew
          have q7 : wr.drew.cell? ⟨R, 0, none⟩ = some (.iface 97 (.agg #[])) := HD7.out.cell0
          have G3 := Lib.hid (get_false (w := wr.drew) (c := C - p8) (hP1.below BD7.out hb) (by decide) (Nat.lt_trans hb HD7.out.lt) hln)
          clear hP1 hln hs1 hp8 hp12 hsz h16
          go_wp2_with fail
          refine wp_region_held_drew (S := fun w' => w'.cell? ⟨R, 0, none⟩ = some (.iface 97 (.agg #[]))) (by kernel_rfl) q7 (fun hHeld => ?_)
          refine tky 0 ?_
          repeat (rw [putL]; simp only [List.set])
          refine tky 1 ?_
          repeat (rw [putL]; simp only [List.set])
          refine tky 2 ?_
          repeat (rw [putL]; simp only [List.set])
          refine tky 3 ?_
          repeat (rw [putL]; simp only [List.set])
          refine tky 4 ?_
          repeat (rw [putL]; simp only [List.set])
          refine tky 5 ?_
          repeat (rw [putL]; simp only [List.set])
          refine tky 6 ?_
          repeat (rw [putL]; simp only [List.set])
          try simp only [hw8]
          refine tky 7 ?_
          repeat (rw [putL]; simp only [List.set])
          refine tky 8 ?_
          repeat (rw [putL]; simp only [List.set])
          try simp only [hw12]
          refine tky 9 ?_
          repeat (rw [putL]; simp only [List.set])
          refine tky 10 ?_
          repeat (rw [putL]; simp only [List.set])
          refine tky 11 ?_
          repeat (rw [putL]; simp only [List.set])
          refine wpAnyH_ready (rs := [12]) (by kernel_rfl) (by simp) ?_
          refine rdy rfl (fun K hK => ?_) (AllReadyH.nil)
          go_simp
          go_at_call 116
          with_reducible refine G3.out.mono ?_
          rintro e wa ⟨rfl, hb1⟩
          have HA := Lib.hid (HD7.out.below hb1)
          have BA : Hid (Below b w wa) := Lib.hid (BD7.out.trans (hb1.mono (Nat.le_of_lt HD7.out.lt)))
          have twa := HA.out.cell0
          clear hb1
          dsimp only
          refine hK.out _ _ twa (fun hHeld => ?_)
          clear hK K
          repeat (rw [putL]; simp only [List.set])
          refine tky 13 ?_
          repeat (rw [putL]; simp only [List.set])
          try simp only [hwz]
          refine tky 14 ?_
          repeat (rw [putL]; simp only [List.set])
          refine wpAnyH_done (by kernel_rfl) ?_ _
          have e7 : wa.cell? ⟨R, 7, none⟩ = some (.int .i64 ((0 : Nat) : Int)) := by rw [HA.out.blk.cell]; rfl
          have f7 : wa.frozen? ⟨R, 7, none⟩ = false := HA.out.blk.frozen 7
          go_wp2_with fail
          go_ret
          exact ⟨rfl, ⟨q, A, cp, xs, by rw [HTN.out]; exact HA.out.torn⟩, BA.out.setCell (p := ⟨R, 7, none⟩) HA.out.le _⟩
      · have hg8 : decide ((16 : Int) ≤ (T : Int)) = false := by simp; omega
        have e7 : wr.cell? ⟨R, 7, none⟩ = some (.int .i64 ((0 : Nat) : Int)) := by rw [HR.out.blk.cell]; rfl
        have f7 : wr.frozen? ⟨R, 7, none⟩ = false := HR.out.blk.frozen 7
        clear HTT h16
        go_wp2_with fail
        go_ret
        exact ⟨rfl, ⟨q, A, cp, xs, by rw [HTN.out]; exact HR.out.torn⟩, HBW.out.setCell (p := ⟨R, 7, none⟩) HR.out.le _⟩
end Go.Proofs.Ytlimkckomdipkaa
