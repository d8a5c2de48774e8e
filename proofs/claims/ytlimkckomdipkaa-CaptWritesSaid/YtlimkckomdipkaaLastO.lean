/- The last option of a body that has one or none. -/
import Derived.Test.YtlimkckomdipkaaPc
import Derived.Deep.RegionHeld3
import Derived.Test.YtlimkckomdipkaaMem
namespace Go.Proofs.Ytlimkckomdipkaa
open Go.RowKit

theorem below_undrew2 {w w' : World} (h : Below w.drew.heap.size w.drew w') : Below w.heap.size w w' := ⟨h.os, h.tape, h.output, h.size, h.block⟩
theorem strB_strL (s : ByteArray) : strB (strL s) = s := by
  obtain ⟨⟨l⟩⟩ := s
  unfold strB strL
  have h : ∀ t : ByteArray, t.data.toList = l → t = ⟨⟨l⟩⟩ := by rintro ⟨⟨x⟩⟩ rfl; rfl
  apply h
  rw [strOfNums_data, List.map_map, List.map_map]
  conv => rhs; rw [← List.map_id l]
  apply List.map_congr_left
  intro x _
  simp
def lenV : Value → Nat
  | .slice _ n _ => n
  | _ => 0

set_option maxRecDepth 100000 in
set_option maxHeartbeats 4000000 in
theorem lastopt_true {w : World} {R b o c code : Nat} {s : ByteArray} {RC : Array Value} (hR : Blk w R 70 RC) (h0 : RC[0]? = some (.iface 96 (.agg #[])))
    (hp : Pc w b o (numB true 2 code ++ (numB true 2 s.size ++ (strL s ++ (List.replicate (padN s.size) 0 ++ (numB true 2 0 ++ numB true 2 0)))))) (hb : b < w.heap.size) (hc : 8 + s.size + padN s.size < c) (hs : 0 < s.size ∧ s.size ≤ 200) (hcode : 0 < code ∧ code < 256) :
    Calls Try.prog 86 #[.pointer (some ⟨R, 0, none⟩), .slice (some ⟨b, o, none⟩) (8 + s.size + padN s.size) c, .int .i64 code] w fun e w' => e = .returned (.tuple #[.string s, .bool true]) ∧ Below w.heap.size w w' := by
  obtain ⟨n, hn⟩ : ∃ n, s.size = n := ⟨_, rfl⟩
  have HSN := Lib.hid hn
  have hstr : (strL s).length = n := by rw [strL_len, hn]
  have hp2 := hp.right
  have hp3 := hp2.right
  have hp4 := hp3.right
  have hp5 := hp4.right
  rw [numB_len2] at hp2 hp3 hp4 hp5
  rw [numB_len2] at hp3 hp4 hp5
  rw [hstr] at hp4 hp5
  rw [hn] at hp hp2 hp3 hp4 hp5 hs hc ⊢
  have HP := padN_le n
  obtain ⟨P, hP⟩ : ∃ P, padN n = P := ⟨_, rfl⟩
  have HPN := Lib.hid hP
  rw [hP] at hp hp2 hp3 hp4 hp5 hc HP ⊢
  rw [List.length_replicate] at hp5
  have H1 : Hid (Pc w b o (numB true 2 code)) := Lib.hid hp.left
  have H2 : Hid (Pc w b (o + 2) (numB true 2 n)) := Lib.hid hp2.left
  have H3 : Hid (Pc w b (o + 4) (strL s)) := Lib.hid (hp3.left.at_ (by omega))
  have H4 : Hid (Pc w b (o + 4 + n) (List.replicate P 0)) := Lib.hid (hp4.left.at_ (by omega))
  have H5 : Hid (Pc w b (o + (4 + (n + P))) (numB true 2 0)) := Lib.hid (hp5.left.at_ (by omega))
  have H6 : Hid (Pc w b (o + (4 + (n + P)) + 2) (numB true 2 0)) := Lib.hid (by have h := hp5.right; rw [numB_len2] at h; exact h.at_ (by omega))
  have HR := Lib.hid hR
  have H0 : Hid (w.cell? ⟨R, 0, none⟩ = some (.iface 96 (.agg #[]))) := Lib.hid (by rw [hR.cell]; exact h0)
  have nah : ∀ (w : World), (nilAhead 246 96 (.agg #[]) "wireglass/capt.get").run Try.prog w = .ok (some false) w := fun w => by kernel_rfl
  have mth : ∀ (w : World), (method 246 96 (.agg #[]) "wireglass/capt.get").run Try.prog w = .ok (114, .agg #[]) w := fun w => by kernel_rfl
  clear hp hp2 hp3 hp4 hp5 hR h0 hn hP hstr
  have hc1 : ((code : Int) == 0) = false := by simp; omega
  have hL4 : (4 : Int) ≤ (8 : Int) + n + P := by omega
  obtain ⟨L, hL⟩ : ∃ L, 8 + n + P = L := ⟨_, rfl⟩
  have HLL := Lib.hid hL
  rw [hL] at hc ⊢
  have hLn : (L : Int) = 8 + (n : Int) + P := by omega
  have HLN := Lib.hid hLn
  have hL8 : 8 ≤ L := by omega
  have hL0 : ((L : Int) == 0) = false := by simp; omega
  clear hL hLn hL4
  go_enter Try.func86, Try.ntmps86
  go_wp2_with fail
  go_loopw [1, 8, 9] (fun bv t k wr => Hid (Below w.heap.size w wr) ∧ ((bv = .slice (some ⟨b, o, none⟩) L c ∧ t = .string ⟨#[]⟩ ∧ k = .int .i64 0) ∨ (bv = .slice (some ⟨b, o + (4 + (n + P)), none⟩) 4 (c - (4 + (n + P))) ∧ t = .string s ∧ k = .int .i64 1))) (fun bv _ _ _ => lenV bv)
  case atStart => exact ⟨Lib.hid (Below.refl _ _), Or.inl ⟨rfl, rfl, rfl⟩⟩
  case round =>
    obtain ⟨HB, ⟨rfl, rfl, rfl⟩ | ⟨rfl, rfl, rfl⟩⟩ := hrel
    · have hRw : R < wr.heap.size := Nat.lt_of_lt_of_le HR.out.lt HB.out.size
      have hbw : b < wr.heap.size := Nat.lt_of_lt_of_le hb HB.out.size
      have r0 : wr.cell? ⟨R, 0, none⟩ = some (.iface 96 (.agg #[])) := (HB.out.cell (p := ⟨R, 0, none⟩) HR.out.lt).trans H0.out
      have s0 : wr.drew.cell? ⟨R, 0, none⟩ = some (.iface 96 (.agg #[])) := r0
      have G1 := Lib.hid (get_true (w := wr.drew) (c := c) (H1.out.below HB.out.drew hb) (by decide) hbw (by omega))
      have hl1 : (2 : Int) ≤ (L : Int) := by omega
      have hk1 : (2 : Int) ≤ (c : Int) := by omega
      have hk2 : (4 : Int) ≤ (c : Int) := by omega
      have hk3 : ¬ c = 2 := by omega
      have hk4 : ¬ c = 4 := by omega
      have hl2 : (4 : Int) ≤ (L : Int) := by omega
      go_wp2_with fail
      refine wp_region_held_drew (S := fun w' => w'.cell? ⟨R, 0, none⟩ = some (.iface 96 (.agg #[]))) (by kernel_rfl) s0 (fun hHeld => ?_)
      refine tk 0 ?_
      repeat (rw [putL]; simp only [List.set])
      refine tk 1 ?_
      repeat (rw [putL]; simp only [List.set])
      refine tk 2 ?_
      repeat (rw [putL]; simp only [List.set])
      refine tk 3 ?_
      repeat (rw [putL]; simp only [List.set])
      refine tk 4 ?_
      repeat (rw [putL]; simp only [List.set])
      refine tk 5 ?_
      repeat (rw [putL]; simp only [List.set])
      refine tk 6 ?_
      repeat (rw [putL]; simp only [List.set])
      refine tk 7 ?_
      repeat (rw [putL]; simp only [List.set])
      refine tk 9 ?_
      repeat (rw [putL]; simp only [List.set])
      refine tk 10 ?_
      repeat (rw [putL]; simp only [List.set])
      refine tk 11 ?_
      repeat (rw [putL]; simp only [List.set])
      refine tk 12 ?_
      repeat (rw [putL]; simp only [List.set])
      refine tk 13 ?_
      repeat (rw [putL]; simp only [List.set])
      refine tk 14 ?_
      repeat (rw [putL]; simp only [List.set])
      refine tk 15 ?_
      repeat (rw [putL]; simp only [List.set])
      refine tk 16 ?_
      repeat (rw [putL]; simp only [List.set])
      refine wpAnyH_ready (rs := [8]) (by kernel_rfl) (by simp) ?_
      refine AllReadyH.cons rfl (fun K hK => ?_) (AllReadyH.nil)
      go_simp
      go_at_call 114
      with_reducible refine (G1.out).mono ?_
      rintro e wa ⟨rfl, hb⟩
      have HBwa : Hid (Below wr.heap.size wr wa) := Lib.hid (below_undrew2 hb)
      have twa : wa.cell? ⟨R, 0, none⟩ = some (.iface 96 (.agg #[])) := (HBwa.out.cell (p := ⟨R, 0, none⟩) hRw).trans r0
      clear hb
      go_wp2_with fail
      refine hK.out _ _ twa (fun hHeld => ?_)
      clear hK K
      repeat (rw [putL]; simp only [List.set])
      refine wpAnyH_ready (rs := [17]) (by kernel_rfl) (by simp) ?_
      refine AllReadyH.cons rfl (fun K hK => ?_) (AllReadyH.nil)
      go_simp
      go_at_call 114
      with_reducible refine (get_true (c := c - 2) (H2.out.below (HB.out.trans (HBwa.out.mono HB.out.size)) hb) (by decide) (Nat.lt_of_lt_of_le hbw HBwa.out.size) (by omega)).mono ?_
      rintro e wb ⟨rfl, hb⟩
      have HBwb : Hid (Below wr.heap.size wr wb) := Lib.hid (HBwa.out.trans (hb.mono HBwa.out.size))
      have twb : wb.cell? ⟨R, 0, none⟩ = some (.iface 96 (.agg #[])) := (HBwb.out.cell (p := ⟨R, 0, none⟩) hRw).trans r0
      clear hb
      go_wp2_with fail
      refine hK.out _ _ twb (fun hHeld => ?_)
      clear hK K
      repeat (rw [putL]; simp only [List.set])
      refine tk 18 ?_
      repeat (rw [putL]; simp only [List.set])
      refine tk 19 ?_
      repeat (rw [putL]; simp only [List.set])
      refine wpAnyH_done (by kernel_rfl) ?_ _
      have HBb : Hid (Below w.heap.size w wb) := Lib.hid (HB.out.trans (HBwb.out.mono HB.out.size))
      clear HBwa HBwb twa twb r0 s0 G1
      have e1 : L - 4 = 4 + (n + P) := by have := HLN.out; omega
      have FI := Lib.hid (filled_any (w := wb) (b := b) (o := o + 4) (L := L - 4) (c := c - 4) (n := n) (by rw [HPN.out]; omega) (by omega) (by omega) (fun i hi => by
        rw [HPN.out] at hi
        have h := (H4.out.below HBb.out hb).cells i (by simpa using hi)
        rw [h]
        simp [at8, hi]))
      rw [HPN.out] at FI
      clear e1
      rw [show L - 4 - (n + P) = 4 by have := HLL.out; omega, show o + 4 + (n + P) = o + (4 + (n + P)) by omega, show c - 4 - (n + P) = c - (4 + (n + P)) by omega] at FI
      have CV := Lib.hid (fun (w' : World) (hw' : Below w.heap.size w w') => conv_any (B := w'.heap.size) ((H3.out.below hw' hb).byt (Nat.lt_of_lt_of_le hb hw'.size)) (c - 4))
      rw [strL_len, strB_strL, HSN.out] at CV
      have hcc : ((code : Int) == (code : Int)) = true := by simp
      have ho4 : o + 2 + 2 = o + 4 := by omega
      go_wp2_with fail
      refine FI.out.mono ?_
      rintro e wc ⟨rfl, hb3⟩
      have HBc : Hid (Below w.heap.size w wc) := Lib.hid (HBb.out.trans (hb3.mono HBb.out.size))
      have CC := CV.out wc HBc.out
      clear FI CV hb3
      go_wp2_with fail
      go_roundw
      · exact ⟨HBc, Or.inr ⟨rfl, rfl, rfl⟩⟩
      · simp [lenV]; omega
    · have hRw : R < wr.heap.size := Nat.lt_of_lt_of_le HR.out.lt HB.out.size
      have hbw : b < wr.heap.size := Nat.lt_of_lt_of_le hb HB.out.size
      have r0 : wr.cell? ⟨R, 0, none⟩ = some (.iface 96 (.agg #[])) := (HB.out.cell (p := ⟨R, 0, none⟩) HR.out.lt).trans H0.out
      have s0 : wr.drew.cell? ⟨R, 0, none⟩ = some (.iface 96 (.agg #[])) := r0
      have H5' := H5.out
      have H6' := H6.out
      obtain ⟨D, hD⟩ : ∃ D, o + (4 + (n + P)) = D := ⟨_, rfl⟩
      obtain ⟨E, hE⟩ : ∃ E, c - (4 + (n + P)) = E := ⟨_, rfl⟩
      rw [hD] at H5' H6' ⊢
      rw [hE]
      have hE4 : 4 < E := by have := HLL.out; omega
      clear hD hE
      have G1 := Lib.hid (get_true (w := wr.drew) (c := E) (H5'.below HB.out.drew hb) (by decide) hbw (by omega))
      have HX := Lib.hid H6'
      clear H5' H6'
      have hk1 : (2 : Int) ≤ (E : Int) := by omega
      have hk2 : (4 : Int) ≤ (E : Int) := by omega
      have hk3 : ¬ E = 2 := by omega
      have hk4 : ¬ E = 4 := by omega
      go_wp2_with fail
      refine wp_region_held_drew (S := fun w' => w'.cell? ⟨R, 0, none⟩ = some (.iface 96 (.agg #[]))) (by kernel_rfl) s0 (fun hHeld => ?_)
      refine tk 0 ?_
      repeat (rw [putL]; simp only [List.set])
      refine tk 1 ?_
      repeat (rw [putL]; simp only [List.set])
      refine tk 2 ?_
      repeat (rw [putL]; simp only [List.set])
      refine tk 3 ?_
      repeat (rw [putL]; simp only [List.set])
      refine tk 4 ?_
      repeat (rw [putL]; simp only [List.set])
      refine tk 5 ?_
      repeat (rw [putL]; simp only [List.set])
      refine tk 6 ?_
      repeat (rw [putL]; simp only [List.set])
      refine tk 7 ?_
      repeat (rw [putL]; simp only [List.set])
      refine tk 9 ?_
      repeat (rw [putL]; simp only [List.set])
      refine tk 10 ?_
      repeat (rw [putL]; simp only [List.set])
      refine tk 11 ?_
      repeat (rw [putL]; simp only [List.set])
      refine tk 12 ?_
      repeat (rw [putL]; simp only [List.set])
      refine tk 13 ?_
      repeat (rw [putL]; simp only [List.set])
      refine tk 14 ?_
      repeat (rw [putL]; simp only [List.set])
      refine tk 15 ?_
      repeat (rw [putL]; simp only [List.set])
      refine tk 16 ?_
      repeat (rw [putL]; simp only [List.set])
      refine wpAnyH_ready (rs := [8]) (by kernel_rfl) (by simp) ?_
      refine AllReadyH.cons rfl (fun K hK => ?_) (AllReadyH.nil)
      go_simp
      go_at_call 114
      with_reducible refine (G1.out).mono ?_
      rintro e wa ⟨rfl, hb⟩
      have HBwa : Hid (Below wr.heap.size wr wa) := Lib.hid (below_undrew2 hb)
      have twa : wa.cell? ⟨R, 0, none⟩ = some (.iface 96 (.agg #[])) := (HBwa.out.cell (p := ⟨R, 0, none⟩) hRw).trans r0
      clear hb
      go_wp2_with fail
      refine hK.out _ _ twa (fun hHeld => ?_)
      clear hK K
      repeat (rw [putL]; simp only [List.set])
      refine wpAnyH_ready (rs := [17]) (by kernel_rfl) (by simp) ?_
      refine AllReadyH.cons rfl (fun K hK => ?_) (AllReadyH.nil)
      go_simp
      go_at_call 114
      with_reducible refine (get_true (c := E - 2) (HX.out.below (HB.out.trans (HBwa.out.mono HB.out.size)) hb) (by decide) (Nat.lt_of_lt_of_le hbw HBwa.out.size) (by omega)).mono ?_
      rintro e wb ⟨rfl, hb⟩
      have HBwb : Hid (Below wr.heap.size wr wb) := Lib.hid (HBwa.out.trans (hb.mono HBwa.out.size))
      have twb : wb.cell? ⟨R, 0, none⟩ = some (.iface 96 (.agg #[])) := (HBwb.out.cell (p := ⟨R, 0, none⟩) hRw).trans r0
      clear hb
      go_wp2_with fail
      refine hK.out _ _ twb (fun hHeld => ?_)
      clear hK K
      repeat (rw [putL]; simp only [List.set])
      refine tk 18 ?_
      repeat (rw [putL]; simp only [List.set])
      refine tk 19 ?_
      repeat (rw [putL]; simp only [List.set])
      refine wpAnyH_done (by kernel_rfl) ?_ _
      have HBb : Hid (Below w.heap.size w wb) := Lib.hid (HB.out.trans (HBwb.out.mono HB.out.size))
      clear HBwa HBwb twa twb r0 s0 G1
      go_wp2_with fail
      go_ret2
      exact ⟨rfl, HBb.out⟩

set_option maxRecDepth 100000 in
set_option maxHeartbeats 4000000 in
theorem lastopt_false {w : World} {R b o c code : Nat} {s : ByteArray} {RC : Array Value} (hR : Blk w R 70 RC) (h0 : RC[0]? = some (.iface 97 (.agg #[])))
    (hp : Pc w b o (numB false 2 code ++ (numB false 2 s.size ++ (strL s ++ (List.replicate (padN s.size) 0 ++ (numB false 2 0 ++ numB false 2 0)))))) (hb : b < w.heap.size) (hc : 8 + s.size + padN s.size < c) (hs : 0 < s.size ∧ s.size ≤ 200) (hcode : 0 < code ∧ code < 256) :
    Calls Try.prog 86 #[.pointer (some ⟨R, 0, none⟩), .slice (some ⟨b, o, none⟩) (8 + s.size + padN s.size) c, .int .i64 code] w fun e w' => e = .returned (.tuple #[.string s, .bool true]) ∧ Below w.heap.size w w' := by
  obtain ⟨n, hn⟩ : ∃ n, s.size = n := ⟨_, rfl⟩
  have HSN := Lib.hid hn
  have hstr : (strL s).length = n := by rw [strL_len, hn]
  have hp2 := hp.right
  have hp3 := hp2.right
  have hp4 := hp3.right
  have hp5 := hp4.right
  rw [numB_len2] at hp2 hp3 hp4 hp5
  rw [numB_len2] at hp3 hp4 hp5
  rw [hstr] at hp4 hp5
  rw [hn] at hp hp2 hp3 hp4 hp5 hs hc ⊢
  have HP := padN_le n
  obtain ⟨P, hP⟩ : ∃ P, padN n = P := ⟨_, rfl⟩
  have HPN := Lib.hid hP
  rw [hP] at hp hp2 hp3 hp4 hp5 hc HP ⊢
  rw [List.length_replicate] at hp5
  have H1 : Hid (Pc w b o (numB false 2 code)) := Lib.hid hp.left
  have H2 : Hid (Pc w b (o + 2) (numB false 2 n)) := Lib.hid hp2.left
  have H3 : Hid (Pc w b (o + 4) (strL s)) := Lib.hid (hp3.left.at_ (by omega))
  have H4 : Hid (Pc w b (o + 4 + n) (List.replicate P 0)) := Lib.hid (hp4.left.at_ (by omega))
  have H5 : Hid (Pc w b (o + (4 + (n + P))) (numB false 2 0)) := Lib.hid (hp5.left.at_ (by omega))
  have H6 : Hid (Pc w b (o + (4 + (n + P)) + 2) (numB false 2 0)) := Lib.hid (by have h := hp5.right; rw [numB_len2] at h; exact h.at_ (by omega))
  have HR := Lib.hid hR
  have H0 : Hid (w.cell? ⟨R, 0, none⟩ = some (.iface 97 (.agg #[]))) := Lib.hid (by rw [hR.cell]; exact h0)
  have nah : ∀ (w : World), (nilAhead 246 97 (.agg #[]) "wireglass/capt.get").run Try.prog w = .ok (some false) w := fun w => by kernel_rfl
  have mth : ∀ (w : World), (method 246 97 (.agg #[]) "wireglass/capt.get").run Try.prog w = .ok (116, .agg #[]) w := fun w => by kernel_rfl
  clear hp hp2 hp3 hp4 hp5 hR h0 hn hP hstr
  have hc1 : ((code : Int) == 0) = false := by simp; omega
  have hL4 : (4 : Int) ≤ (8 : Int) + n + P := by omega
  obtain ⟨L, hL⟩ : ∃ L, 8 + n + P = L := ⟨_, rfl⟩
  have HLL := Lib.hid hL
  rw [hL] at hc ⊢
  have hLn : (L : Int) = 8 + (n : Int) + P := by omega
  have HLN := Lib.hid hLn
  have hL8 : 8 ≤ L := by omega
  have hL0 : ((L : Int) == 0) = false := by simp; omega
  clear hL hLn hL4
  go_enter Try.func86, Try.ntmps86
  go_wp2_with fail
  go_loopw [1, 8, 9] (fun bv t k wr => Hid (Below w.heap.size w wr) ∧ ((bv = .slice (some ⟨b, o, none⟩) L c ∧ t = .string ⟨#[]⟩ ∧ k = .int .i64 0) ∨ (bv = .slice (some ⟨b, o + (4 + (n + P)), none⟩) 4 (c - (4 + (n + P))) ∧ t = .string s ∧ k = .int .i64 1))) (fun bv _ _ _ => lenV bv)
  case atStart => exact ⟨Lib.hid (Below.refl _ _), Or.inl ⟨rfl, rfl, rfl⟩⟩
  case round =>
    obtain ⟨HB, ⟨rfl, rfl, rfl⟩ | ⟨rfl, rfl, rfl⟩⟩ := hrel
    · have hRw : R < wr.heap.size := Nat.lt_of_lt_of_le HR.out.lt HB.out.size
      have hbw : b < wr.heap.size := Nat.lt_of_lt_of_le hb HB.out.size
      have r0 : wr.cell? ⟨R, 0, none⟩ = some (.iface 97 (.agg #[])) := (HB.out.cell (p := ⟨R, 0, none⟩) HR.out.lt).trans H0.out
      have s0 : wr.drew.cell? ⟨R, 0, none⟩ = some (.iface 97 (.agg #[])) := r0
      have G1 := Lib.hid (get_false (w := wr.drew) (c := c) (H1.out.below HB.out.drew hb) (by decide) hbw (by omega))
      have hl1 : (2 : Int) ≤ (L : Int) := by omega
      have hk1 : (2 : Int) ≤ (c : Int) := by omega
      have hk2 : (4 : Int) ≤ (c : Int) := by omega
      have hk3 : ¬ c = 2 := by omega
      have hk4 : ¬ c = 4 := by omega
      have hl2 : (4 : Int) ≤ (L : Int) := by omega
      go_wp2_with fail
      refine wp_region_held_drew (S := fun w' => w'.cell? ⟨R, 0, none⟩ = some (.iface 97 (.agg #[]))) (by kernel_rfl) s0 (fun hHeld => ?_)
      refine tk 0 ?_
      repeat (rw [putL]; simp only [List.set])
      refine tk 1 ?_
      repeat (rw [putL]; simp only [List.set])
      refine tk 2 ?_
      repeat (rw [putL]; simp only [List.set])
      refine tk 3 ?_
      repeat (rw [putL]; simp only [List.set])
      refine tk 4 ?_
      repeat (rw [putL]; simp only [List.set])
      refine tk 5 ?_
      repeat (rw [putL]; simp only [List.set])
      refine tk 6 ?_
      repeat (rw [putL]; simp only [List.set])
      refine tk 7 ?_
      repeat (rw [putL]; simp only [List.set])
      refine tk 9 ?_
      repeat (rw [putL]; simp only [List.set])
      refine tk 10 ?_
      repeat (rw [putL]; simp only [List.set])
      refine tk 11 ?_
      repeat (rw [putL]; simp only [List.set])
      refine tk 12 ?_
      repeat (rw [putL]; simp only [List.set])
      refine tk 13 ?_
      repeat (rw [putL]; simp only [List.set])
      refine tk 14 ?_
      repeat (rw [putL]; simp only [List.set])
      refine tk 15 ?_
      repeat (rw [putL]; simp only [List.set])
      refine tk 16 ?_
      repeat (rw [putL]; simp only [List.set])
      refine wpAnyH_ready (rs := [8]) (by kernel_rfl) (by simp) ?_
      refine AllReadyH.cons rfl (fun K hK => ?_) (AllReadyH.nil)
      go_simp
      go_at_call 116
      with_reducible refine (G1.out).mono ?_
      rintro e wa ⟨rfl, hb⟩
      have HBwa : Hid (Below wr.heap.size wr wa) := Lib.hid (below_undrew2 hb)
      have twa : wa.cell? ⟨R, 0, none⟩ = some (.iface 97 (.agg #[])) := (HBwa.out.cell (p := ⟨R, 0, none⟩) hRw).trans r0
      clear hb
      go_wp2_with fail
      refine hK.out _ _ twa (fun hHeld => ?_)
      clear hK K
      repeat (rw [putL]; simp only [List.set])
      refine wpAnyH_ready (rs := [17]) (by kernel_rfl) (by simp) ?_
      refine AllReadyH.cons rfl (fun K hK => ?_) (AllReadyH.nil)
      go_simp
      go_at_call 116
      with_reducible refine (get_false (c := c - 2) (H2.out.below (HB.out.trans (HBwa.out.mono HB.out.size)) hb) (by decide) (Nat.lt_of_lt_of_le hbw HBwa.out.size) (by omega)).mono ?_
      rintro e wb ⟨rfl, hb⟩
      have HBwb : Hid (Below wr.heap.size wr wb) := Lib.hid (HBwa.out.trans (hb.mono HBwa.out.size))
      have twb : wb.cell? ⟨R, 0, none⟩ = some (.iface 97 (.agg #[])) := (HBwb.out.cell (p := ⟨R, 0, none⟩) hRw).trans r0
      clear hb
      go_wp2_with fail
      refine hK.out _ _ twb (fun hHeld => ?_)
      clear hK K
      repeat (rw [putL]; simp only [List.set])
      refine tk 18 ?_
      repeat (rw [putL]; simp only [List.set])
      refine tk 19 ?_
      repeat (rw [putL]; simp only [List.set])
      refine wpAnyH_done (by kernel_rfl) ?_ _
      have HBb : Hid (Below w.heap.size w wb) := Lib.hid (HB.out.trans (HBwb.out.mono HB.out.size))
      clear HBwa HBwb twa twb r0 s0 G1
      have e1 : L - 4 = 4 + (n + P) := by have := HLN.out; omega
      have FI := Lib.hid (filled_any (w := wb) (b := b) (o := o + 4) (L := L - 4) (c := c - 4) (n := n) (by rw [HPN.out]; omega) (by omega) (by omega) (fun i hi => by
        rw [HPN.out] at hi
        have h := (H4.out.below HBb.out hb).cells i (by simpa using hi)
        rw [h]
        simp [at8, hi]))
      rw [HPN.out] at FI
      clear e1
      rw [show L - 4 - (n + P) = 4 by have := HLL.out; omega, show o + 4 + (n + P) = o + (4 + (n + P)) by omega, show c - 4 - (n + P) = c - (4 + (n + P)) by omega] at FI
      have CV := Lib.hid (fun (w' : World) (hw' : Below w.heap.size w w') => conv_any (B := w'.heap.size) ((H3.out.below hw' hb).byt (Nat.lt_of_lt_of_le hb hw'.size)) (c - 4))
      rw [strL_len, strB_strL, HSN.out] at CV
      have hcc : ((code : Int) == (code : Int)) = true := by simp
      have ho4 : o + 2 + 2 = o + 4 := by omega
      go_wp2_with fail
      refine FI.out.mono ?_
      rintro e wc ⟨rfl, hb3⟩
      have HBc : Hid (Below w.heap.size w wc) := Lib.hid (HBb.out.trans (hb3.mono HBb.out.size))
      have CC := CV.out wc HBc.out
      clear FI CV hb3
      go_wp2_with fail
      go_roundw
      · exact ⟨HBc, Or.inr ⟨rfl, rfl, rfl⟩⟩
      · simp [lenV]; omega
    · have hRw : R < wr.heap.size := Nat.lt_of_lt_of_le HR.out.lt HB.out.size
      have hbw : b < wr.heap.size := Nat.lt_of_lt_of_le hb HB.out.size
      have r0 : wr.cell? ⟨R, 0, none⟩ = some (.iface 97 (.agg #[])) := (HB.out.cell (p := ⟨R, 0, none⟩) HR.out.lt).trans H0.out
      have s0 : wr.drew.cell? ⟨R, 0, none⟩ = some (.iface 97 (.agg #[])) := r0
      have H5' := H5.out
      have H6' := H6.out
      obtain ⟨D, hD⟩ : ∃ D, o + (4 + (n + P)) = D := ⟨_, rfl⟩
      obtain ⟨E, hE⟩ : ∃ E, c - (4 + (n + P)) = E := ⟨_, rfl⟩
      rw [hD] at H5' H6' ⊢
      rw [hE]
      have hE4 : 4 < E := by have := HLL.out; omega
      clear hD hE
      have G1 := Lib.hid (get_false (w := wr.drew) (c := E) (H5'.below HB.out.drew hb) (by decide) hbw (by omega))
      have HX := Lib.hid H6'
      clear H5' H6'
      have hk1 : (2 : Int) ≤ (E : Int) := by omega
      have hk2 : (4 : Int) ≤ (E : Int) := by omega
      have hk3 : ¬ E = 2 := by omega
      have hk4 : ¬ E = 4 := by omega
      go_wp2_with fail
      refine wp_region_held_drew (S := fun w' => w'.cell? ⟨R, 0, none⟩ = some (.iface 97 (.agg #[]))) (by kernel_rfl) s0 (fun hHeld => ?_)
      refine tk 0 ?_
      repeat (rw [putL]; simp only [List.set])
      refine tk 1 ?_
      repeat (rw [putL]; simp only [List.set])
      refine tk 2 ?_
      repeat (rw [putL]; simp only [List.set])
      refine tk 3 ?_
      repeat (rw [putL]; simp only [List.set])
      refine tk 4 ?_
      repeat (rw [putL]; simp only [List.set])
      refine tk 5 ?_
      repeat (rw [putL]; simp only [List.set])
      refine tk 6 ?_
      repeat (rw [putL]; simp only [List.set])
      refine tk 7 ?_
      repeat (rw [putL]; simp only [List.set])
      refine tk 9 ?_
      repeat (rw [putL]; simp only [List.set])
      refine tk 10 ?_
      repeat (rw [putL]; simp only [List.set])
      refine tk 11 ?_
      repeat (rw [putL]; simp only [List.set])
      refine tk 12 ?_
      repeat (rw [putL]; simp only [List.set])
      refine tk 13 ?_
      repeat (rw [putL]; simp only [List.set])
      refine tk 14 ?_
      repeat (rw [putL]; simp only [List.set])
      refine tk 15 ?_
      repeat (rw [putL]; simp only [List.set])
      refine tk 16 ?_
      repeat (rw [putL]; simp only [List.set])
      refine wpAnyH_ready (rs := [8]) (by kernel_rfl) (by simp) ?_
      refine AllReadyH.cons rfl (fun K hK => ?_) (AllReadyH.nil)
      go_simp
      go_at_call 116
      with_reducible refine (G1.out).mono ?_
      rintro e wa ⟨rfl, hb⟩
      have HBwa : Hid (Below wr.heap.size wr wa) := Lib.hid (below_undrew2 hb)
      have twa : wa.cell? ⟨R, 0, none⟩ = some (.iface 97 (.agg #[])) := (HBwa.out.cell (p := ⟨R, 0, none⟩) hRw).trans r0
      clear hb
      go_wp2_with fail
      refine hK.out _ _ twa (fun hHeld => ?_)
      clear hK K
      repeat (rw [putL]; simp only [List.set])
      refine wpAnyH_ready (rs := [17]) (by kernel_rfl) (by simp) ?_
      refine AllReadyH.cons rfl (fun K hK => ?_) (AllReadyH.nil)
      go_simp
      go_at_call 116
      with_reducible refine (get_false (c := E - 2) (HX.out.below (HB.out.trans (HBwa.out.mono HB.out.size)) hb) (by decide) (Nat.lt_of_lt_of_le hbw HBwa.out.size) (by omega)).mono ?_
      rintro e wb ⟨rfl, hb⟩
      have HBwb : Hid (Below wr.heap.size wr wb) := Lib.hid (HBwa.out.trans (hb.mono HBwa.out.size))
      have twb : wb.cell? ⟨R, 0, none⟩ = some (.iface 97 (.agg #[])) := (HBwb.out.cell (p := ⟨R, 0, none⟩) hRw).trans r0
      clear hb
      go_wp2_with fail
      refine hK.out _ _ twb (fun hHeld => ?_)
      clear hK K
      repeat (rw [putL]; simp only [List.set])
      refine tk 18 ?_
      repeat (rw [putL]; simp only [List.set])
      refine tk 19 ?_
      repeat (rw [putL]; simp only [List.set])
      refine wpAnyH_done (by kernel_rfl) ?_ _
      have HBb : Hid (Below w.heap.size w wb) := Lib.hid (HB.out.trans (HBwb.out.mono HB.out.size))
      clear HBwa HBwb twa twb r0 s0 G1
      go_wp2_with fail
      go_ret2
      exact ⟨rfl, HBb.out⟩
end Go.Proofs.Ytlimkckomdipkaa
