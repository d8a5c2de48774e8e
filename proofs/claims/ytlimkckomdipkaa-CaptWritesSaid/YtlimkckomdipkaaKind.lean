/- Kind. -/
import Derived.Test.YtlimkckomdipkaaRd3
import Derived.Test.YtlimkckomdipkaaW10
import Derived.Deep.RegionHeld3
import Derived.Test.YtlimkckomdipkaaMem
import Derived.Test.YtlimkckomdipkaaTky
namespace Go.Proofs.Ytlimkckomdipkaa
open Go.RowKit

/-- What one order of bytes tells of the kind. -/
def kindS (n v u : Nat) : Option Bool := if 4 ≤ n ∧ v = 2712847316 then some true else if 12 ≤ n ∧ v = 168627466 ∧ u = 439041101 then some false else none
def kindR (n : Nat) (v u : Bool → Nat) : List Value :=
  match kindS n (v false) (u false) with
  | some old => [.bool old, .bool false, .int .i64 0]
  | none => match kindS n (v true) (u true) with
    | some old => [.bool old, .bool true, .int .i64 0]
    | none => [.bool false, .bool false, .int .i64 11]

/-- Number i, whose guard is not met, is taken first. -/
theorem tko {P : Program} {ops : Array Oper} {Q : Exit → Act → World → Prop} {md : Region.Mode} {S : World → Prop} (i : Nat) {oi : Oper} {fuel : Nat} {listed : Array Bool} {a : Act} {w : World}
    (h : wpAnyH P md ops Q S fuel (listed.setIfInBounds i true) (a.put oi.dst undef) w) (hi : opAt ops.toList i = some oi := by rfl)
    (hb : (Region.noSelect ops && (Region.free md ops listed i && (Region.ready md ops listed).contains i)) = true := by kernel_rfl) (hg : Region.wanted oi (yielded ops a.tmps) = false := by rfl) (hS : S w := by assumption)
    (hQ : ∀ c a w, Q (.panic c) (a.put oi.dst undef) w → Q (.panic c) a w := by exact fun _ _ _ h => h) : wpAnyH P md ops Q S (fuel + 1) listed a w := by
  rw [Bool.and_eq_true, Bool.and_eq_true] at hb
  have hi' : ops[i]? = some oi := by rw [← hi, opAt_eq]; simp
  exact wpAnyH_take hi' hb.1 hb.2.1 hb.2.2 hQ (Or.inr ⟨hg, rfl⟩) hS h

set_option maxRecDepth 100000 in
set_option maxHeartbeats 16000000 in
theorem kind_any {w : World} {b0 o n C : Nat} (v u : Bool → Nat) (hnC : n ≤ C) (hn : n ≤ 200000)
    (hv : 4 ≤ n → ∀ low w', Below w.heap.size w w' → Calls Try.prog (getF low) #[.agg #[], .slice (some ⟨b0, o, none⟩) 4 C] w' fun e w2 => e = .returned (.int .i64 (v low : Nat)) ∧ Below w'.heap.size w' w2)
    (hu : 12 ≤ n → ∀ low w', Below w.heap.size w w' → Calls Try.prog (getF low) #[.agg #[], .slice (some ⟨b0, o + 8, none⟩) 4 (C - 8)] w' fun e w2 => e = .returned (.int .i64 (u low : Nat)) ∧ Below w'.heap.size w' w2) :
    Calls Try.prog 15 #[.slice (some ⟨b0, o, none⟩) n C] w fun e w' => e = .returned (.tuple (kindR n v u).toArray) ∧ Below w.heap.size w w' := by
  have HV := Lib.hid hv
  have HU := Lib.hid hu
  clear hv hu
  have HOR := Lib.hid order_any
  obtain ⟨B, hBB⟩ : ∃ B, w.heap.size = B := ⟨_, rfl⟩
  obtain ⟨W0, hW0⟩ : ∃ W0, w.alloc (.cells #[.bool false, .bool true] 4) = W0 := ⟨_, rfl⟩
  have HK0 : Hid (Blk W0 B 4 #[.bool false, .bool true] ∧ Below B w W0) := Lib.hid (by rw [← hW0, ← hBB]; exact ⟨Blk.new _ _ _, (Below.refl _ w).alloc (Nat.le_refl _) _⟩)
  have hc4 : (4 : Int) ≤ n → (4 : Int) ≤ (C : Int) := by omega
  have nah0 : ∀ (w : World), (nilAhead 246 97 (.agg #[]) "wireglass/capt.get").run Try.prog w = .ok (some false) w := fun w => by kernel_rfl
  have mth0 : ∀ (w : World), (method 246 97 (.agg #[]) "wireglass/capt.get").run Try.prog w = .ok (116, .agg #[]) w := fun w => by kernel_rfl
  have nah1 : ∀ (w : World), (nilAhead 246 96 (.agg #[]) "wireglass/capt.get").run Try.prog w = .ok (some false) w := fun w => by kernel_rfl
  have mth1 : ∀ (w : World), (method 246 96 (.agg #[]) "wireglass/capt.get").run Try.prog w = .ok (114, .agg #[]) w := fun w => by kernel_rfl
  go_enter Try.func15, Try.ntmps15
  go_wp2_with fail
  clear hW0
  go_loopw [10] (fun i10 wr => Hid (Below B w wr) ∧ Hid (Blk wr B 4 #[.bool false, .bool true]) ∧ (i10 = .int .i64 0 ∨ (i10 = .int .i64 1 ∧ Hid (kindS n (v false) (u false) = none)) ∨ (i10 = .int .i64 2 ∧ Hid (kindS n (v false) (u false) = none) ∧ Hid (kindS n (v true) (u true) = none)))) (fun i10 _ => 2 - (intOf i10).toNat)
  case atStart => exact ⟨Lib.hid HK0.out.2, Lib.hid HK0.out.1, Or.inl rfl⟩
  case round =>
    obtain ⟨HB, HK, rfl | ⟨rfl, HN⟩ | ⟨rfl, HN, HN2⟩⟩ := hrel
    · have HD : Hid (Below B w wr.drew) := Lib.hid HB.out.drew
      have KD : Hid (Blk wr.drew B 4 #[.bool false, .bool true]) := Lib.hid HK.out
      have c0 := HK.out.cell 0
      have HO : Hid (Calls Try.prog 27 #[.bool false] wr fun e w' => e = .returned (.iface 97 (.agg #[])) ∧ w' = wr) := Lib.hid (HOR.out wr false)
      by_cases h4 : 4 ≤ n
      · have hd4 : decide ((4 : Int) ≤ (n : Int)) = true := by simp; omega
        have hC4 : (4 : Int) ≤ (C : Int) := by omega
        obtain ⟨x, hx⟩ : ∃ x, v false = x := ⟨_, rfl⟩
        have HX := Lib.hid hx
        have G1 := Lib.hid (HV.out h4 false wr.drew (by rw [hBB]; exact HD.out))
        rw [hx] at G1
        change Hid (Calls Try.prog 116 _ _ _) at G1
        clear hx
        by_cases hv1 : x = 2712847316
        · subst hv1
          go_wp2_with fail
          refine HO.out.mono ?_
          rintro e w0 ⟨rfl, rfl⟩
          go_wp2_with fail
          refine wp_region_held_drew (S := fun w' => 0 ≤ w'.heap.size) (by kernel_rfl) (Nat.zero_le _) (fun hHeld => ?_)
          refine tky 0 ?_
          repeat (rw [putL]; simp only [List.set])
          refine tky 1 ?_
          repeat (rw [putL]; simp only [List.set])
          refine tky 2 ?_
          repeat (rw [putL]; simp only [List.set])
          refine tky 3 ?_
          repeat (rw [putL]; simp only [List.set])
          refine tky 4 ?_
          repeat (rw [putL]; simp only [List.set])
          refine tky 5 ?_
          repeat (rw [putL]; simp only [List.set])
          refine tky 6 ?_
          repeat (rw [putL]; simp only [List.set])
          refine tky 7 ?_
          repeat (rw [putL]; simp only [List.set])
          refine tky 8 ?_
          repeat (rw [putL]; simp only [List.set])
          refine tky 9 ?_
          repeat (rw [putL]; simp only [List.set])
          refine wpAnyH_ready (rs := [10]) (by kernel_rfl) (by simp) ?_
          refine rdy rfl (fun K hK => ?_) (AllReadyH.nil)
          go_simp
          go_at_call 116
          with_reducible refine G1.out.mono ?_
          rintro e w1 ⟨rfl, hb⟩
          have H1 : Hid (Below B w w1) := Lib.hid (HD.out.trans (hb.mono (by have := HD.out.size; omega)))
          have K1 : Hid (Blk w1 B 4 #[.bool false, .bool true]) := Lib.hid (KD.out.below hb KD.out.lt)
          clear hb
          dsimp only
          refine hK.out _ _ (Nat.zero_le _) (fun hHeld => ?_)
          clear hK K
          repeat (rw [putL]; simp only [List.set])
          refine tky 11 ?_
          repeat (rw [putL]; simp only [List.set])
          refine tky 12 ?_
          repeat (rw [putL]; simp only [List.set])
          refine wpAnyH_done (by kernel_rfl) ?_ _
          go_wp2_with fail
          go_ret3
          refine ⟨?_, ?_⟩
          · rw [show kindR n v u = [.bool true, .bool false, .int .i64 0] from by
              unfold kindR
              skip
              rw [show kindS n (v false) (u false) = some true from by unfold kindS; rw [HX.out]; simp [h4]]] <;> rfl
          · rw [hBB]; exact H1.out
        · have he1 : ((x : Int) == 2712847316) = false := by simp; omega
          go_wp2_with fail
          refine HO.out.mono ?_
          rintro e w0 ⟨rfl, rfl⟩
          go_wp2_with fail
          refine wp_region_held_drew (S := fun w' => 0 ≤ w'.heap.size) (by kernel_rfl) (Nat.zero_le _) (fun hHeld => ?_)
          refine tky 0 ?_
          repeat (rw [putL]; simp only [List.set])
          refine tky 1 ?_
          repeat (rw [putL]; simp only [List.set])
          refine tky 2 ?_
          repeat (rw [putL]; simp only [List.set])
          refine tky 3 ?_
          repeat (rw [putL]; simp only [List.set])
          refine tky 4 ?_
          repeat (rw [putL]; simp only [List.set])
          refine tky 5 ?_
          repeat (rw [putL]; simp only [List.set])
          refine tky 6 ?_
          repeat (rw [putL]; simp only [List.set])
          refine tky 7 ?_
          repeat (rw [putL]; simp only [List.set])
          refine tky 8 ?_
          repeat (rw [putL]; simp only [List.set])
          refine tky 9 ?_
          repeat (rw [putL]; simp only [List.set])
          refine wpAnyH_ready (rs := [10]) (by kernel_rfl) (by simp) ?_
          refine rdy rfl (fun K hK => ?_) (AllReadyH.nil)
          go_simp
          go_at_call 116
          with_reducible refine G1.out.mono ?_
          rintro e w1 ⟨rfl, hb⟩
          have H1 : Hid (Below B w w1) := Lib.hid (HD.out.trans (hb.mono (by have := HD.out.size; omega)))
          have K1 : Hid (Blk w1 B 4 #[.bool false, .bool true]) := Lib.hid (KD.out.below hb KD.out.lt)
          clear hb
          dsimp only
          refine hK.out _ _ (Nat.zero_le _) (fun hHeld => ?_)
          clear hK K
          repeat (rw [putL]; simp only [List.set])
          refine tky 11 ?_
          repeat (rw [putL]; simp only [List.set])
          refine tky 12 ?_
          repeat (rw [putL]; simp only [List.set])
          refine wpAnyH_done (by kernel_rfl) ?_ _
          have HD1 : Hid (Below B w w1.drew) := Lib.hid H1.out.drew
          have KD1 : Hid (Blk w1.drew B 4 #[.bool false, .bool true]) := Lib.hid K1.out
          by_cases h12 : 12 ≤ n
          · have hd12 : decide ((12 : Int) ≤ (n : Int)) = true := by simp; omega
            have hc8 : ¬ C = 8 := by omega
            have hc12 : (12 : Int) ≤ (C : Int) := by omega
            have G2 := Lib.hid (HV.out h4 false w1.drew (by rw [hBB]; exact HD1.out))
            rw [HX.out] at G2
            change Hid (Calls Try.prog 116 _ _ _) at G2
            by_cases hv2 : x = 168627466
            · subst hv2
              obtain ⟨y, hy⟩ : ∃ y, u false = y := ⟨_, rfl⟩
              have HY := Lib.hid hy
              clear hy
              by_cases hu1 : y = 439041101
              · subst hu1
                go_wp2_with fail
                refine wp_region_held_drew (S := fun w' => 0 ≤ w'.heap.size) (by kernel_rfl) (Nat.zero_le _) (fun hHeld => ?_)
                refine tky 0 ?_
                repeat (rw [putL]; simp only [List.set])
                refine tky 1 ?_
                repeat (rw [putL]; simp only [List.set])
                refine tky 2 ?_
                repeat (rw [putL]; simp only [List.set])
                refine tky 3 ?_
                repeat (rw [putL]; simp only [List.set])
                refine tky 4 ?_
                repeat (rw [putL]; simp only [List.set])
                refine tky 5 ?_
                repeat (rw [putL]; simp only [List.set])
                refine tky 6 ?_
                repeat (rw [putL]; simp only [List.set])
                refine tky 7 ?_
                repeat (rw [putL]; simp only [List.set])
                refine tky 8 ?_
                repeat (rw [putL]; simp only [List.set])
                refine tky 9 ?_
                repeat (rw [putL]; simp only [List.set])
                refine wpAnyH_ready (rs := [10]) (by kernel_rfl) (by simp) ?_
                refine rdy rfl (fun K hK => ?_) (AllReadyH.nil)
                go_simp
                go_at_call 116
                with_reducible refine G2.out.mono ?_
                rintro e w2 ⟨rfl, hb⟩
                have H2 : Hid (Below B w w2) := Lib.hid (HD1.out.trans (hb.mono (by have := HD1.out.size; omega)))
                have K2 : Hid (Blk w2 B 4 #[.bool false, .bool true]) := Lib.hid (KD1.out.below hb KD1.out.lt)
                clear hb
                have G3 := Lib.hid (HU.out h12 false w2 (by rw [hBB]; exact H2.out))
                rw [HY.out] at G3
                change Hid (Calls Try.prog 116 _ _ _) at G3
                dsimp only
                refine hK.out _ _ (Nat.zero_le _) (fun hHeld => ?_)
                clear hK K
                repeat (rw [putL]; simp only [List.set])
                refine tky 11 ?_
                repeat (rw [putL]; simp only [List.set])
                refine tky 12 ?_
                repeat (rw [putL]; simp only [List.set])
                refine tky 13 ?_
                repeat (rw [putL]; simp only [List.set])
                refine tky 14 ?_
                repeat (rw [putL]; simp only [List.set])
                refine tky 15 ?_
                repeat (rw [putL]; simp only [List.set])
                refine tky 16 ?_
                repeat (rw [putL]; simp only [List.set])
                refine tky 17 ?_
                repeat (rw [putL]; simp only [List.set])
                refine tky 18 ?_
                repeat (rw [putL]; simp only [List.set])
                refine tky 19 ?_
                repeat (rw [putL]; simp only [List.set])
                refine wpAnyH_ready (rs := [20]) (by kernel_rfl) (by simp) ?_
                refine rdy rfl (fun K hK => ?_) (AllReadyH.nil)
                go_simp
                go_at_call 116
                with_reducible refine G3.out.mono ?_
                rintro e w3 ⟨rfl, hb⟩
                have H3 : Hid (Below B w w3) := Lib.hid (H2.out.trans (hb.mono (by have := H2.out.size; omega)))
                have K3 : Hid (Blk w3 B 4 #[.bool false, .bool true]) := Lib.hid (K2.out.below hb K2.out.lt)
                clear hb
                dsimp only
                refine hK.out _ _ (Nat.zero_le _) (fun hHeld => ?_)
                clear hK K
                repeat (rw [putL]; simp only [List.set])
                refine tky 21 ?_
                repeat (rw [putL]; simp only [List.set])
                refine tky 22 ?_
                repeat (rw [putL]; simp only [List.set])
                refine wpAnyH_done (by kernel_rfl) ?_ _
                go_wp2_with fail
                go_ret3
                refine ⟨?_, ?_⟩
                · rw [show kindR n v u = [.bool false, .bool false, .int .i64 0] from by
                    unfold kindR
                    skip
                    rw [show kindS n (v false) (u false) = some false from by unfold kindS; rw [HX.out, HY.out]; simp [h12]]] <;> rfl
                · rw [hBB]; exact H3.out
              · have he3 : ((y : Int) == 439041101) = false := by simp; omega
                go_wp2_with fail
                refine wp_region_held_drew (S := fun w' => 0 ≤ w'.heap.size) (by kernel_rfl) (Nat.zero_le _) (fun hHeld => ?_)
                refine tky 0 ?_
                repeat (rw [putL]; simp only [List.set])
                refine tky 1 ?_
                repeat (rw [putL]; simp only [List.set])
                refine tky 2 ?_
                repeat (rw [putL]; simp only [List.set])
                refine tky 3 ?_
                repeat (rw [putL]; simp only [List.set])
                refine tky 4 ?_
                repeat (rw [putL]; simp only [List.set])
                refine tky 5 ?_
                repeat (rw [putL]; simp only [List.set])
                refine tky 6 ?_
                repeat (rw [putL]; simp only [List.set])
                refine tky 7 ?_
                repeat (rw [putL]; simp only [List.set])
                refine tky 8 ?_
                repeat (rw [putL]; simp only [List.set])
                refine tky 9 ?_
                repeat (rw [putL]; simp only [List.set])
                refine wpAnyH_ready (rs := [10]) (by kernel_rfl) (by simp) ?_
                refine rdy rfl (fun K hK => ?_) (AllReadyH.nil)
                go_simp
                go_at_call 116
                with_reducible refine G2.out.mono ?_
                rintro e w2 ⟨rfl, hb⟩
                have H2 : Hid (Below B w w2) := Lib.hid (HD1.out.trans (hb.mono (by have := HD1.out.size; omega)))
                have K2 : Hid (Blk w2 B 4 #[.bool false, .bool true]) := Lib.hid (KD1.out.below hb KD1.out.lt)
                clear hb
                have G3 := Lib.hid (HU.out h12 false w2 (by rw [hBB]; exact H2.out))
                rw [HY.out] at G3
                change Hid (Calls Try.prog 116 _ _ _) at G3
                dsimp only
                refine hK.out _ _ (Nat.zero_le _) (fun hHeld => ?_)
                clear hK K
                repeat (rw [putL]; simp only [List.set])
                refine tky 11 ?_
                repeat (rw [putL]; simp only [List.set])
                refine tky 12 ?_
                repeat (rw [putL]; simp only [List.set])
                refine tky 13 ?_
                repeat (rw [putL]; simp only [List.set])
                refine tky 14 ?_
                repeat (rw [putL]; simp only [List.set])
                refine tky 15 ?_
                repeat (rw [putL]; simp only [List.set])
                refine tky 16 ?_
                repeat (rw [putL]; simp only [List.set])
                refine tky 17 ?_
                repeat (rw [putL]; simp only [List.set])
                refine tky 18 ?_
                repeat (rw [putL]; simp only [List.set])
                refine tky 19 ?_
                repeat (rw [putL]; simp only [List.set])
                refine wpAnyH_ready (rs := [20]) (by kernel_rfl) (by simp) ?_
                refine rdy rfl (fun K hK => ?_) (AllReadyH.nil)
                go_simp
                go_at_call 116
                with_reducible refine G3.out.mono ?_
                rintro e w3 ⟨rfl, hb⟩
                have H3 : Hid (Below B w w3) := Lib.hid (H2.out.trans (hb.mono (by have := H2.out.size; omega)))
                have K3 : Hid (Blk w3 B 4 #[.bool false, .bool true]) := Lib.hid (K2.out.below hb K2.out.lt)
                clear hb
                dsimp only
                refine hK.out _ _ (Nat.zero_le _) (fun hHeld => ?_)
                clear hK K
                repeat (rw [putL]; simp only [List.set])
                refine tky 21 ?_
                repeat (rw [putL]; simp only [List.set])
                refine tky 22 ?_
                repeat (rw [putL]; simp only [List.set])
                refine wpAnyH_done (by kernel_rfl) ?_ _
                go_wp2_with fail
                refine ⟨⟨H3, K3, Or.inr (Or.inl ⟨rfl, Lib.hid (by unfold kindS; rw [HX.out, HY.out]; simp [hu1])⟩)⟩, ?_⟩
                simp [intOf]
            · have he2 : ((x : Int) == 168627466) = false := by simp; omega
              go_wp2_with fail
              refine wp_region_held_drew (S := fun w' => 0 ≤ w'.heap.size) (by kernel_rfl) (Nat.zero_le _) (fun hHeld => ?_)
              refine tky 0 ?_
              repeat (rw [putL]; simp only [List.set])
              refine tky 1 ?_
              repeat (rw [putL]; simp only [List.set])
              refine tky 2 ?_
              repeat (rw [putL]; simp only [List.set])
              refine tky 3 ?_
              repeat (rw [putL]; simp only [List.set])
              refine tky 4 ?_
              repeat (rw [putL]; simp only [List.set])
              refine tky 5 ?_
              repeat (rw [putL]; simp only [List.set])
              refine tky 6 ?_
              repeat (rw [putL]; simp only [List.set])
              refine tky 7 ?_
              repeat (rw [putL]; simp only [List.set])
              refine tky 8 ?_
              repeat (rw [putL]; simp only [List.set])
              refine tky 9 ?_
              repeat (rw [putL]; simp only [List.set])
              refine wpAnyH_ready (rs := [10]) (by kernel_rfl) (by simp) ?_
              refine rdy rfl (fun K hK => ?_) (AllReadyH.nil)
              go_simp
              go_at_call 116
              with_reducible refine G2.out.mono ?_
              rintro e w2 ⟨rfl, hb⟩
              have H2 : Hid (Below B w w2) := Lib.hid (HD1.out.trans (hb.mono (by have := HD1.out.size; omega)))
              have K2 : Hid (Blk w2 B 4 #[.bool false, .bool true]) := Lib.hid (KD1.out.below hb KD1.out.lt)
              clear hb
              dsimp only
              refine hK.out _ _ (Nat.zero_le _) (fun hHeld => ?_)
              clear hK K
              repeat (rw [putL]; simp only [List.set])
              refine tky 11 ?_
              repeat (rw [putL]; simp only [List.set])
              refine tky 12 ?_
              repeat (rw [putL]; simp only [List.set])
              refine tky 13 ?_
              repeat (rw [putL]; simp only [List.set])
              refine tko 14 ?_
              repeat (rw [putL]; simp only [List.set])
              refine tko 15 ?_
              repeat (rw [putL]; simp only [List.set])
              refine tko 16 ?_
              repeat (rw [putL]; simp only [List.set])
              refine tko 17 ?_
              repeat (rw [putL]; simp only [List.set])
              refine tko 18 ?_
              repeat (rw [putL]; simp only [List.set])
              refine tko 19 ?_
              repeat (rw [putL]; simp only [List.set])
              refine tko 20 ?_
              repeat (rw [putL]; simp only [List.set])
              refine tko 21 ?_
              repeat (rw [putL]; simp only [List.set])
              refine tky 22 ?_
              repeat (rw [putL]; simp only [List.set])
              refine wpAnyH_done (by kernel_rfl) ?_ _
              go_wp2_with fail
              refine ⟨⟨H2, K2, Or.inr (Or.inl ⟨rfl, Lib.hid (by unfold kindS; rw [HX.out]; simp [hv1, hv2])⟩)⟩, ?_⟩
              simp [intOf]
          · have hd12 : decide ((12 : Int) ≤ (n : Int)) = false := by simp; omega
            go_wp2_with fail
            refine wp_region_held_drew (S := fun w' => 0 ≤ w'.heap.size) (by kernel_rfl) (Nat.zero_le _) (fun hHeld => ?_)
            refine tky 0 ?_
            repeat (rw [putL]; simp only [List.set])
            refine tky 1 ?_
            repeat (rw [putL]; simp only [List.set])
            refine tky 2 ?_
            repeat (rw [putL]; simp only [List.set])
            refine tky 3 ?_
            repeat (rw [putL]; simp only [List.set])
            refine tko 4 ?_
            repeat (rw [putL]; simp only [List.set])
            refine tko 5 ?_
            repeat (rw [putL]; simp only [List.set])
            refine tko 6 ?_
            repeat (rw [putL]; simp only [List.set])
            refine tko 7 ?_
            repeat (rw [putL]; simp only [List.set])
            refine tko 8 ?_
            repeat (rw [putL]; simp only [List.set])
            refine tko 9 ?_
            repeat (rw [putL]; simp only [List.set])
            refine tko 10 ?_
            repeat (rw [putL]; simp only [List.set])
            refine tko 11 ?_
            repeat (rw [putL]; simp only [List.set])
            refine tky 12 ?_
            repeat (rw [putL]; simp only [List.set])
            refine tky 13 ?_
            repeat (rw [putL]; simp only [List.set])
            refine tko 14 ?_
            repeat (rw [putL]; simp only [List.set])
            refine tko 15 ?_
            repeat (rw [putL]; simp only [List.set])
            refine tko 16 ?_
            repeat (rw [putL]; simp only [List.set])
            refine tko 17 ?_
            repeat (rw [putL]; simp only [List.set])
            refine tko 18 ?_
            repeat (rw [putL]; simp only [List.set])
            refine tko 19 ?_
            repeat (rw [putL]; simp only [List.set])
            refine tko 20 ?_
            repeat (rw [putL]; simp only [List.set])
            refine tko 21 ?_
            repeat (rw [putL]; simp only [List.set])
            refine tky 22 ?_
            repeat (rw [putL]; simp only [List.set])
            refine wpAnyH_done (by kernel_rfl) ?_ _
            go_wp2_with fail
            refine ⟨⟨HD1, KD1, Or.inr (Or.inl ⟨rfl, Lib.hid (by unfold kindS; rw [HX.out]; simp [hv1, h12])⟩)⟩, ?_⟩
            simp [intOf]
      · have hd4 : decide ((4 : Int) ≤ (n : Int)) = false := by simp; omega
        have hd12 : decide ((12 : Int) ≤ (n : Int)) = false := by simp; omega
        have HDD : Hid (Below B w wr.drew.drew) := Lib.hid HD.out.drew
        have KDD : Hid (Blk wr.drew.drew B 4 #[.bool false, .bool true]) := Lib.hid KD.out
        go_wp2_with fail
        refine HO.out.mono ?_
        rintro e w0 ⟨rfl, rfl⟩
        go_wp2_with fail
        refine wp_region_held_drew (S := fun w' => 0 ≤ w'.heap.size) (by kernel_rfl) (Nat.zero_le _) (fun hHeld => ?_)
        refine tky 0 ?_
        repeat (rw [putL]; simp only [List.set])
        refine tky 1 ?_
        repeat (rw [putL]; simp only [List.set])
        refine tky 2 ?_
        repeat (rw [putL]; simp only [List.set])
        refine tky 3 ?_
        repeat (rw [putL]; simp only [List.set])
        refine tko 4 ?_
        repeat (rw [putL]; simp only [List.set])
        refine tko 5 ?_
        repeat (rw [putL]; simp only [List.set])
        refine tko 6 ?_
        repeat (rw [putL]; simp only [List.set])
        refine tko 7 ?_
        repeat (rw [putL]; simp only [List.set])
        refine tko 8 ?_
        repeat (rw [putL]; simp only [List.set])
        refine tko 9 ?_
        repeat (rw [putL]; simp only [List.set])
        refine tko 10 ?_
        repeat (rw [putL]; simp only [List.set])
        refine tko 11 ?_
        repeat (rw [putL]; simp only [List.set])
        refine tky 12 ?_
        repeat (rw [putL]; simp only [List.set])
        refine wpAnyH_done (by kernel_rfl) ?_ _
        go_wp2_with fail
        refine wp_region_held_drew (S := fun w' => 0 ≤ w'.heap.size) (by kernel_rfl) (Nat.zero_le _) (fun hHeld => ?_)
        refine tky 0 ?_
        repeat (rw [putL]; simp only [List.set])
        refine tky 1 ?_
        repeat (rw [putL]; simp only [List.set])
        refine tky 2 ?_
        repeat (rw [putL]; simp only [List.set])
        refine tky 3 ?_
        repeat (rw [putL]; simp only [List.set])
        refine tko 4 ?_
        repeat (rw [putL]; simp only [List.set])
        refine tko 5 ?_
        repeat (rw [putL]; simp only [List.set])
        refine tko 6 ?_
        repeat (rw [putL]; simp only [List.set])
        refine tko 7 ?_
        repeat (rw [putL]; simp only [List.set])
        refine tko 8 ?_
        repeat (rw [putL]; simp only [List.set])
        refine tko 9 ?_
        repeat (rw [putL]; simp only [List.set])
        refine tko 10 ?_
        repeat (rw [putL]; simp only [List.set])
        refine tko 11 ?_
        repeat (rw [putL]; simp only [List.set])
        refine tky 12 ?_
        repeat (rw [putL]; simp only [List.set])
        refine tky 13 ?_
        repeat (rw [putL]; simp only [List.set])
        refine tko 14 ?_
        repeat (rw [putL]; simp only [List.set])
        refine tko 15 ?_
        repeat (rw [putL]; simp only [List.set])
        refine tko 16 ?_
        repeat (rw [putL]; simp only [List.set])
        refine tko 17 ?_
        repeat (rw [putL]; simp only [List.set])
        refine tko 18 ?_
        repeat (rw [putL]; simp only [List.set])
        refine tko 19 ?_
        repeat (rw [putL]; simp only [List.set])
        refine tko 20 ?_
        repeat (rw [putL]; simp only [List.set])
        refine tko 21 ?_
        repeat (rw [putL]; simp only [List.set])
        refine tky 22 ?_
        repeat (rw [putL]; simp only [List.set])
        refine wpAnyH_done (by kernel_rfl) ?_ _
        go_wp2_with fail
        refine ⟨⟨HDD, KDD, Or.inr (Or.inl ⟨rfl, Lib.hid (by unfold kindS; rw [if_neg (by omega), if_neg (by omega)])⟩)⟩, ?_⟩
        simp [intOf]
    · have HD : Hid (Below B w wr.drew) := Lib.hid HB.out.drew
      have KD : Hid (Blk wr.drew B 4 #[.bool false, .bool true]) := Lib.hid HK.out
      have c0 := HK.out.cell 1
      have HO : Hid (Calls Try.prog 27 #[.bool true] wr fun e w' => e = .returned (.iface 96 (.agg #[])) ∧ w' = wr) := Lib.hid (HOR.out wr true)
      by_cases h4 : 4 ≤ n
      · have hd4 : decide ((4 : Int) ≤ (n : Int)) = true := by simp; omega
        have hC4 : (4 : Int) ≤ (C : Int) := by omega
        obtain ⟨x, hx⟩ : ∃ x, v true = x := ⟨_, rfl⟩
        have HX := Lib.hid hx
        have G1 := Lib.hid (HV.out h4 true wr.drew (by rw [hBB]; exact HD.out))
        rw [hx] at G1
        change Hid (Calls Try.prog 114 _ _ _) at G1
        clear hx
        by_cases hv1 : x = 2712847316
        · subst hv1
          go_wp2_with fail
          refine HO.out.mono ?_
          rintro e w0 ⟨rfl, rfl⟩
          go_wp2_with fail
          refine wp_region_held_drew (S := fun w' => 0 ≤ w'.heap.size) (by kernel_rfl) (Nat.zero_le _) (fun hHeld => ?_)
          refine tky 0 ?_
          repeat (rw [putL]; simp only [List.set])
          refine tky 1 ?_
          repeat (rw [putL]; simp only [List.set])
          refine tky 2 ?_
          repeat (rw [putL]; simp only [List.set])
          refine tky 3 ?_
          repeat (rw [putL]; simp only [List.set])
          refine tky 4 ?_
          repeat (rw [putL]; simp only [List.set])
          refine tky 5 ?_
          repeat (rw [putL]; simp only [List.set])
          refine tky 6 ?_
          repeat (rw [putL]; simp only [List.set])
          refine tky 7 ?_
          repeat (rw [putL]; simp only [List.set])
          refine tky 8 ?_
          repeat (rw [putL]; simp only [List.set])
          refine tky 9 ?_
          repeat (rw [putL]; simp only [List.set])
          refine wpAnyH_ready (rs := [10]) (by kernel_rfl) (by simp) ?_
          refine rdy rfl (fun K hK => ?_) (AllReadyH.nil)
          go_simp
          go_at_call 114
          with_reducible refine G1.out.mono ?_
          rintro e w1 ⟨rfl, hb⟩
          have H1 : Hid (Below B w w1) := Lib.hid (HD.out.trans (hb.mono (by have := HD.out.size; omega)))
          have K1 : Hid (Blk w1 B 4 #[.bool false, .bool true]) := Lib.hid (KD.out.below hb KD.out.lt)
          clear hb
          dsimp only
          refine hK.out _ _ (Nat.zero_le _) (fun hHeld => ?_)
          clear hK K
          repeat (rw [putL]; simp only [List.set])
          refine tky 11 ?_
          repeat (rw [putL]; simp only [List.set])
          refine tky 12 ?_
          repeat (rw [putL]; simp only [List.set])
          refine wpAnyH_done (by kernel_rfl) ?_ _
          go_wp2_with fail
          go_ret3
          refine ⟨?_, ?_⟩
          · rw [show kindR n v u = [.bool true, .bool true, .int .i64 0] from by
              unfold kindR
              rw [HN.out]
              rw [show kindS n (v true) (u true) = some true from by unfold kindS; rw [HX.out]; simp [h4]]] <;> rfl
          · rw [hBB]; exact H1.out
        · have he1 : ((x : Int) == 2712847316) = false := by simp; omega
          go_wp2_with fail
          refine HO.out.mono ?_
          rintro e w0 ⟨rfl, rfl⟩
          go_wp2_with fail
          refine wp_region_held_drew (S := fun w' => 0 ≤ w'.heap.size) (by kernel_rfl) (Nat.zero_le _) (fun hHeld => ?_)
          refine tky 0 ?_
          repeat (rw [putL]; simp only [List.set])
          refine tky 1 ?_
          repeat (rw [putL]; simp only [List.set])
          refine tky 2 ?_
          repeat (rw [putL]; simp only [List.set])
          refine tky 3 ?_
          repeat (rw [putL]; simp only [List.set])
          refine tky 4 ?_
          repeat (rw [putL]; simp only [List.set])
          refine tky 5 ?_
          repeat (rw [putL]; simp only [List.set])
          refine tky 6 ?_
          repeat (rw [putL]; simp only [List.set])
          refine tky 7 ?_
          repeat (rw [putL]; simp only [List.set])
          refine tky 8 ?_
          repeat (rw [putL]; simp only [List.set])
          refine tky 9 ?_
          repeat (rw [putL]; simp only [List.set])
          refine wpAnyH_ready (rs := [10]) (by kernel_rfl) (by simp) ?_
          refine rdy rfl (fun K hK => ?_) (AllReadyH.nil)
          go_simp
          go_at_call 114
          with_reducible refine G1.out.mono ?_
          rintro e w1 ⟨rfl, hb⟩
          have H1 : Hid (Below B w w1) := Lib.hid (HD.out.trans (hb.mono (by have := HD.out.size; omega)))
          have K1 : Hid (Blk w1 B 4 #[.bool false, .bool true]) := Lib.hid (KD.out.below hb KD.out.lt)
          clear hb
          dsimp only
          refine hK.out _ _ (Nat.zero_le _) (fun hHeld => ?_)
          clear hK K
          repeat (rw [putL]; simp only [List.set])
          refine tky 11 ?_
          repeat (rw [putL]; simp only [List.set])
          refine tky 12 ?_
          repeat (rw [putL]; simp only [List.set])
          refine wpAnyH_done (by kernel_rfl) ?_ _
          have HD1 : Hid (Below B w w1.drew) := Lib.hid H1.out.drew
          have KD1 : Hid (Blk w1.drew B 4 #[.bool false, .bool true]) := Lib.hid K1.out
          by_cases h12 : 12 ≤ n
          · have hd12 : decide ((12 : Int) ≤ (n : Int)) = true := by simp; omega
            have hc8 : ¬ C = 8 := by omega
            have hc12 : (12 : Int) ≤ (C : Int) := by omega
            have G2 := Lib.hid (HV.out h4 true w1.drew (by rw [hBB]; exact HD1.out))
            rw [HX.out] at G2
            change Hid (Calls Try.prog 114 _ _ _) at G2
            by_cases hv2 : x = 168627466
            · subst hv2
              obtain ⟨y, hy⟩ : ∃ y, u true = y := ⟨_, rfl⟩
              have HY := Lib.hid hy
              clear hy
              by_cases hu1 : y = 439041101
              · subst hu1
                go_wp2_with fail
                refine wp_region_held_drew (S := fun w' => 0 ≤ w'.heap.size) (by kernel_rfl) (Nat.zero_le _) (fun hHeld => ?_)
                refine tky 0 ?_
                repeat (rw [putL]; simp only [List.set])
                refine tky 1 ?_
                repeat (rw [putL]; simp only [List.set])
                refine tky 2 ?_
                repeat (rw [putL]; simp only [List.set])
                refine tky 3 ?_
                repeat (rw [putL]; simp only [List.set])
                refine tky 4 ?_
                repeat (rw [putL]; simp only [List.set])
                refine tky 5 ?_
                repeat (rw [putL]; simp only [List.set])
                refine tky 6 ?_
                repeat (rw [putL]; simp only [List.set])
                refine tky 7 ?_
                repeat (rw [putL]; simp only [List.set])
                refine tky 8 ?_
                repeat (rw [putL]; simp only [List.set])
                refine tky 9 ?_
                repeat (rw [putL]; simp only [List.set])
                refine wpAnyH_ready (rs := [10]) (by kernel_rfl) (by simp) ?_
                refine rdy rfl (fun K hK => ?_) (AllReadyH.nil)
                go_simp
                go_at_call 114
                with_reducible refine G2.out.mono ?_
                rintro e w2 ⟨rfl, hb⟩
                have H2 : Hid (Below B w w2) := Lib.hid (HD1.out.trans (hb.mono (by have := HD1.out.size; omega)))
                have K2 : Hid (Blk w2 B 4 #[.bool false, .bool true]) := Lib.hid (KD1.out.below hb KD1.out.lt)
                clear hb
                have G3 := Lib.hid (HU.out h12 true w2 (by rw [hBB]; exact H2.out))
                rw [HY.out] at G3
                change Hid (Calls Try.prog 114 _ _ _) at G3
                dsimp only
                refine hK.out _ _ (Nat.zero_le _) (fun hHeld => ?_)
                clear hK K
                repeat (rw [putL]; simp only [List.set])
                refine tky 11 ?_
                repeat (rw [putL]; simp only [List.set])
                refine tky 12 ?_
                repeat (rw [putL]; simp only [List.set])
                refine tky 13 ?_
                repeat (rw [putL]; simp only [List.set])
                refine tky 14 ?_
                repeat (rw [putL]; simp only [List.set])
                refine tky 15 ?_
                repeat (rw [putL]; simp only [List.set])
                refine tky 16 ?_
                repeat (rw [putL]; simp only [List.set])
                refine tky 17 ?_
                repeat (rw [putL]; simp only [List.set])
                refine tky 18 ?_
                repeat (rw [putL]; simp only [List.set])
                refine tky 19 ?_
                repeat (rw [putL]; simp only [List.set])
                refine wpAnyH_ready (rs := [20]) (by kernel_rfl) (by simp) ?_
                refine rdy rfl (fun K hK => ?_) (AllReadyH.nil)
                go_simp
                go_at_call 114
                with_reducible refine G3.out.mono ?_
                rintro e w3 ⟨rfl, hb⟩
                have H3 : Hid (Below B w w3) := Lib.hid (H2.out.trans (hb.mono (by have := H2.out.size; omega)))
                have K3 : Hid (Blk w3 B 4 #[.bool false, .bool true]) := Lib.hid (K2.out.below hb K2.out.lt)
                clear hb
                dsimp only
                refine hK.out _ _ (Nat.zero_le _) (fun hHeld => ?_)
                clear hK K
                repeat (rw [putL]; simp only [List.set])
                refine tky 21 ?_
                repeat (rw [putL]; simp only [List.set])
                refine tky 22 ?_
                repeat (rw [putL]; simp only [List.set])
                refine wpAnyH_done (by kernel_rfl) ?_ _
                go_wp2_with fail
                go_ret3
                refine ⟨?_, ?_⟩
                · rw [show kindR n v u = [.bool false, .bool true, .int .i64 0] from by
                    unfold kindR
                    rw [HN.out]
                    rw [show kindS n (v true) (u true) = some false from by unfold kindS; rw [HX.out, HY.out]; simp [h12]]] <;> rfl
                · rw [hBB]; exact H3.out
              · have he3 : ((y : Int) == 439041101) = false := by simp; omega
                go_wp2_with fail
                refine wp_region_held_drew (S := fun w' => 0 ≤ w'.heap.size) (by kernel_rfl) (Nat.zero_le _) (fun hHeld => ?_)
                refine tky 0 ?_
                repeat (rw [putL]; simp only [List.set])
                refine tky 1 ?_
                repeat (rw [putL]; simp only [List.set])
                refine tky 2 ?_
                repeat (rw [putL]; simp only [List.set])
                refine tky 3 ?_
                repeat (rw [putL]; simp only [List.set])
                refine tky 4 ?_
                repeat (rw [putL]; simp only [List.set])
                refine tky 5 ?_
                repeat (rw [putL]; simp only [List.set])
                refine tky 6 ?_
                repeat (rw [putL]; simp only [List.set])
                refine tky 7 ?_
                repeat (rw [putL]; simp only [List.set])
                refine tky 8 ?_
                repeat (rw [putL]; simp only [List.set])
                refine tky 9 ?_
                repeat (rw [putL]; simp only [List.set])
                refine wpAnyH_ready (rs := [10]) (by kernel_rfl) (by simp) ?_
                refine rdy rfl (fun K hK => ?_) (AllReadyH.nil)
                go_simp
                go_at_call 114
                with_reducible refine G2.out.mono ?_
                rintro e w2 ⟨rfl, hb⟩
                have H2 : Hid (Below B w w2) := Lib.hid (HD1.out.trans (hb.mono (by have := HD1.out.size; omega)))
                have K2 : Hid (Blk w2 B 4 #[.bool false, .bool true]) := Lib.hid (KD1.out.below hb KD1.out.lt)
                clear hb
                have G3 := Lib.hid (HU.out h12 true w2 (by rw [hBB]; exact H2.out))
                rw [HY.out] at G3
                change Hid (Calls Try.prog 114 _ _ _) at G3
                dsimp only
                refine hK.out _ _ (Nat.zero_le _) (fun hHeld => ?_)
                clear hK K
                repeat (rw [putL]; simp only [List.set])
                refine tky 11 ?_
                repeat (rw [putL]; simp only [List.set])
                refine tky 12 ?_
                repeat (rw [putL]; simp only [List.set])
                refine tky 13 ?_
                repeat (rw [putL]; simp only [List.set])
                refine tky 14 ?_
                repeat (rw [putL]; simp only [List.set])
                refine tky 15 ?_
                repeat (rw [putL]; simp only [List.set])
                refine tky 16 ?_
                repeat (rw [putL]; simp only [List.set])
                refine tky 17 ?_
                repeat (rw [putL]; simp only [List.set])
                refine tky 18 ?_
                repeat (rw [putL]; simp only [List.set])
                refine tky 19 ?_
                repeat (rw [putL]; simp only [List.set])
                refine wpAnyH_ready (rs := [20]) (by kernel_rfl) (by simp) ?_
                refine rdy rfl (fun K hK => ?_) (AllReadyH.nil)
                go_simp
                go_at_call 114
                with_reducible refine G3.out.mono ?_
                rintro e w3 ⟨rfl, hb⟩
                have H3 : Hid (Below B w w3) := Lib.hid (H2.out.trans (hb.mono (by have := H2.out.size; omega)))
                have K3 : Hid (Blk w3 B 4 #[.bool false, .bool true]) := Lib.hid (K2.out.below hb K2.out.lt)
                clear hb
                dsimp only
                refine hK.out _ _ (Nat.zero_le _) (fun hHeld => ?_)
                clear hK K
                repeat (rw [putL]; simp only [List.set])
                refine tky 21 ?_
                repeat (rw [putL]; simp only [List.set])
                refine tky 22 ?_
                repeat (rw [putL]; simp only [List.set])
                refine wpAnyH_done (by kernel_rfl) ?_ _
                go_wp2_with fail
                refine ⟨⟨H3, K3, Or.inr (Or.inr ⟨rfl, Lib.hid (HN.out), Lib.hid (by unfold kindS; rw [HX.out, HY.out]; simp [hu1])⟩)⟩, ?_⟩
                simp [intOf]
            · have he2 : ((x : Int) == 168627466) = false := by simp; omega
              go_wp2_with fail
              refine wp_region_held_drew (S := fun w' => 0 ≤ w'.heap.size) (by kernel_rfl) (Nat.zero_le _) (fun hHeld => ?_)
              refine tky 0 ?_
              repeat (rw [putL]; simp only [List.set])
              refine tky 1 ?_
              repeat (rw [putL]; simp only [List.set])
              refine tky 2 ?_
              repeat (rw [putL]; simp only [List.set])
              refine tky 3 ?_
              repeat (rw [putL]; simp only [List.set])
              refine tky 4 ?_
              repeat (rw [putL]; simp only [List.set])
              refine tky 5 ?_
              repeat (rw [putL]; simp only [List.set])
              refine tky 6 ?_
              repeat (rw [putL]; simp only [List.set])
              refine tky 7 ?_
              repeat (rw [putL]; simp only [List.set])
              refine tky 8 ?_
              repeat (rw [putL]; simp only [List.set])
              refine tky 9 ?_
              repeat (rw [putL]; simp only [List.set])
              refine wpAnyH_ready (rs := [10]) (by kernel_rfl) (by simp) ?_
              refine rdy rfl (fun K hK => ?_) (AllReadyH.nil)
              go_simp
              go_at_call 114
              with_reducible refine G2.out.mono ?_
              rintro e w2 ⟨rfl, hb⟩
              have H2 : Hid (Below B w w2) := Lib.hid (HD1.out.trans (hb.mono (by have := HD1.out.size; omega)))
              have K2 : Hid (Blk w2 B 4 #[.bool false, .bool true]) := Lib.hid (KD1.out.below hb KD1.out.lt)
              clear hb
              dsimp only
              refine hK.out _ _ (Nat.zero_le _) (fun hHeld => ?_)
              clear hK K
              repeat (rw [putL]; simp only [List.set])
              refine tky 11 ?_
              repeat (rw [putL]; simp only [List.set])
              refine tky 12 ?_
              repeat (rw [putL]; simp only [List.set])
              refine tky 13 ?_
              repeat (rw [putL]; simp only [List.set])
              refine tko 14 ?_
              repeat (rw [putL]; simp only [List.set])
              refine tko 15 ?_
              repeat (rw [putL]; simp only [List.set])
              refine tko 16 ?_
              repeat (rw [putL]; simp only [List.set])
              refine tko 17 ?_
              repeat (rw [putL]; simp only [List.set])
              refine tko 18 ?_
              repeat (rw [putL]; simp only [List.set])
              refine tko 19 ?_
              repeat (rw [putL]; simp only [List.set])
              refine tko 20 ?_
              repeat (rw [putL]; simp only [List.set])
              refine tko 21 ?_
              repeat (rw [putL]; simp only [List.set])
              refine tky 22 ?_
              repeat (rw [putL]; simp only [List.set])
              refine wpAnyH_done (by kernel_rfl) ?_ _
              go_wp2_with fail
              refine ⟨⟨H2, K2, Or.inr (Or.inr ⟨rfl, Lib.hid (HN.out), Lib.hid (by unfold kindS; rw [HX.out]; simp [hv1, hv2])⟩)⟩, ?_⟩
              simp [intOf]
          · have hd12 : decide ((12 : Int) ≤ (n : Int)) = false := by simp; omega
            go_wp2_with fail
            refine wp_region_held_drew (S := fun w' => 0 ≤ w'.heap.size) (by kernel_rfl) (Nat.zero_le _) (fun hHeld => ?_)
            refine tky 0 ?_
            repeat (rw [putL]; simp only [List.set])
            refine tky 1 ?_
            repeat (rw [putL]; simp only [List.set])
            refine tky 2 ?_
            repeat (rw [putL]; simp only [List.set])
            refine tky 3 ?_
            repeat (rw [putL]; simp only [List.set])
            refine tko 4 ?_
            repeat (rw [putL]; simp only [List.set])
            refine tko 5 ?_
            repeat (rw [putL]; simp only [List.set])
            refine tko 6 ?_
            repeat (rw [putL]; simp only [List.set])
            refine tko 7 ?_
            repeat (rw [putL]; simp only [List.set])
            refine tko 8 ?_
            repeat (rw [putL]; simp only [List.set])
            refine tko 9 ?_
            repeat (rw [putL]; simp only [List.set])
            refine tko 10 ?_
            repeat (rw [putL]; simp only [List.set])
            refine tko 11 ?_
            repeat (rw [putL]; simp only [List.set])
            refine tky 12 ?_
            repeat (rw [putL]; simp only [List.set])
            refine tky 13 ?_
            repeat (rw [putL]; simp only [List.set])
            refine tko 14 ?_
            repeat (rw [putL]; simp only [List.set])
            refine tko 15 ?_
            repeat (rw [putL]; simp only [List.set])
            refine tko 16 ?_
            repeat (rw [putL]; simp only [List.set])
            refine tko 17 ?_
            repeat (rw [putL]; simp only [List.set])
            refine tko 18 ?_
            repeat (rw [putL]; simp only [List.set])
            refine tko 19 ?_
            repeat (rw [putL]; simp only [List.set])
            refine tko 20 ?_
            repeat (rw [putL]; simp only [List.set])
            refine tko 21 ?_
            repeat (rw [putL]; simp only [List.set])
            refine tky 22 ?_
            repeat (rw [putL]; simp only [List.set])
            refine wpAnyH_done (by kernel_rfl) ?_ _
            go_wp2_with fail
            refine ⟨⟨HD1, KD1, Or.inr (Or.inr ⟨rfl, Lib.hid (HN.out), Lib.hid (by unfold kindS; rw [HX.out]; simp [hv1, h12])⟩)⟩, ?_⟩
            simp [intOf]
      · have hd4 : decide ((4 : Int) ≤ (n : Int)) = false := by simp; omega
        have hd12 : decide ((12 : Int) ≤ (n : Int)) = false := by simp; omega
        have HDD : Hid (Below B w wr.drew.drew) := Lib.hid HD.out.drew
        have KDD : Hid (Blk wr.drew.drew B 4 #[.bool false, .bool true]) := Lib.hid KD.out
        go_wp2_with fail
        refine HO.out.mono ?_
        rintro e w0 ⟨rfl, rfl⟩
        go_wp2_with fail
        refine wp_region_held_drew (S := fun w' => 0 ≤ w'.heap.size) (by kernel_rfl) (Nat.zero_le _) (fun hHeld => ?_)
        refine tky 0 ?_
        repeat (rw [putL]; simp only [List.set])
        refine tky 1 ?_
        repeat (rw [putL]; simp only [List.set])
        refine tky 2 ?_
        repeat (rw [putL]; simp only [List.set])
        refine tky 3 ?_
        repeat (rw [putL]; simp only [List.set])
        refine tko 4 ?_
        repeat (rw [putL]; simp only [List.set])
        refine tko 5 ?_
        repeat (rw [putL]; simp only [List.set])
        refine tko 6 ?_
        repeat (rw [putL]; simp only [List.set])
        refine tko 7 ?_
        repeat (rw [putL]; simp only [List.set])
        refine tko 8 ?_
        repeat (rw [putL]; simp only [List.set])
        refine tko 9 ?_
        repeat (rw [putL]; simp only [List.set])
        refine tko 10 ?_
        repeat (rw [putL]; simp only [List.set])
        refine tko 11 ?_
        repeat (rw [putL]; simp only [List.set])
        refine tky 12 ?_
        repeat (rw [putL]; simp only [List.set])
        refine wpAnyH_done (by kernel_rfl) ?_ _
        go_wp2_with fail
        refine wp_region_held_drew (S := fun w' => 0 ≤ w'.heap.size) (by kernel_rfl) (Nat.zero_le _) (fun hHeld => ?_)
        refine tky 0 ?_
        repeat (rw [putL]; simp only [List.set])
        refine tky 1 ?_
        repeat (rw [putL]; simp only [List.set])
        refine tky 2 ?_
        repeat (rw [putL]; simp only [List.set])
        refine tky 3 ?_
        repeat (rw [putL]; simp only [List.set])
        refine tko 4 ?_
        repeat (rw [putL]; simp only [List.set])
        refine tko 5 ?_
        repeat (rw [putL]; simp only [List.set])
        refine tko 6 ?_
        repeat (rw [putL]; simp only [List.set])
        refine tko 7 ?_
        repeat (rw [putL]; simp only [List.set])
        refine tko 8 ?_
        repeat (rw [putL]; simp only [List.set])
        refine tko 9 ?_
        repeat (rw [putL]; simp only [List.set])
        refine tko 10 ?_
        repeat (rw [putL]; simp only [List.set])
        refine tko 11 ?_
        repeat (rw [putL]; simp only [List.set])
        refine tky 12 ?_
        repeat (rw [putL]; simp only [List.set])
        refine tky 13 ?_
        repeat (rw [putL]; simp only [List.set])
        refine tko 14 ?_
        repeat (rw [putL]; simp only [List.set])
        refine tko 15 ?_
        repeat (rw [putL]; simp only [List.set])
        refine tko 16 ?_
        repeat (rw [putL]; simp only [List.set])
        refine tko 17 ?_
        repeat (rw [putL]; simp only [List.set])
        refine tko 18 ?_
        repeat (rw [putL]; simp only [List.set])
        refine tko 19 ?_
        repeat (rw [putL]; simp only [List.set])
        refine tko 20 ?_
        repeat (rw [putL]; simp only [List.set])
        refine tko 21 ?_
        repeat (rw [putL]; simp only [List.set])
        refine tky 22 ?_
        repeat (rw [putL]; simp only [List.set])
        refine wpAnyH_done (by kernel_rfl) ?_ _
        go_wp2_with fail
        refine ⟨⟨HDD, KDD, Or.inr (Or.inr ⟨rfl, Lib.hid (HN.out), Lib.hid (by unfold kindS; rw [if_neg (by omega), if_neg (by omega)])⟩)⟩, ?_⟩
        simp [intOf]
    · go_wp2_with fail
      go_ret3
      refine ⟨?_, ?_⟩
      · rw [show kindR n v u = [.bool false, .bool false, .int .i64 11] from by unfold kindR; rw [HN.out, HN2.out]] <;> rfl
      · rw [hBB]; exact HB.out
end Go.Proofs.Ytlimkckomdipkaa
