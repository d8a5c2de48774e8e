/- The search among the packets before. -/
import Derived.Test.YtghdilmlfficlaaDbl
namespace Go.Proofs.Ytghdilmlfficlaa
open Go.RowKit

set_option maxRecDepth 100000 in
set_option maxHeartbeats 4000000 in
theorem indexd_any {w : World} {s x : Nat} {A : Option Addr} {c : Nat} {xs : List Pkt} {Ap : Option Addr} {cp : Nat} {n : Int} (p : Pkt) (hx : Blk w x 50 (pktW p Ap cp)) (hs : w.cell? ⟨s, 0, none⟩ = some (.int .i64 n)) (hp : Byt w w.heap.size Ap p.data) (tp : timeOk p) (tx : ∀ q ∈ xs, timeOk q) (tn : 0 ≤ n ∧ n ≤ 1000000000000000) (hm : Els 5 PktE w w.heap.size A xs) (hl : xs.length ≤ 140737488355328) :
    Calls Try.prog 117 #[.slice A xs.length c, .func (.func 76) #[] #[.pointer (some ⟨x, 0, none⟩), .pointer (some ⟨s, 0, none⟩)]] w fun e w' => e = .returned (.int .i64 (idxB (dblB n p) xs 0)) ∧ Below w.heap.size w w' := by
  have HM := Lib.hid hm
  obtain ⟨B, hB⟩ : ∃ B, w.heap.size = B := ⟨_, rfl⟩
  have HB := Lib.hid hB
  have HS := Lib.hid hs
  have HX := Lib.hid hx
  have HP := Lib.hid hp
  have HTX := Lib.hid tx
  have HTP := Lib.hid tp
  have HTN := Lib.hid tn
  have hsb : s < B := by rw [← hB]; exact cell_lt hs
  have hxb : x < B := by rw [← hB]; exact hx.lt
  rw [hB] at HM HP ⊢
  clear hB hm hs hx hp tx tp tn
  go_enter Try.func117, Try.ntmps117
  go_wp2
  go_loopw [5, 8] (fun _ i wr => ∃ k : Nat, i = .int .i64 k ∧ k ≤ xs.length ∧ Hid (idxB (dblB n p) xs 0 = idxB (dblB n p) (xs.drop k) k) ∧ Hid (Below B w wr ∧ B ≤ wr.heap.size)) (fun _ i _ => xs.length - (intOf i).toNat)
  case atStart => exact ⟨0, rfl, Nat.zero_le _, Lib.hid rfl, Lib.hid ⟨Below.refl _ _, by rw [HB.out]; exact Nat.le_refl _⟩⟩
  case round =>
    obtain ⟨k, rfl, hk, HE, HW⟩ := hrel
    by_cases hlt : k < xs.length
    · obtain ⟨b, o, hA, hb, vs, hvl, ⟨Aq, cq, rfl, hbq, _, _, _, _⟩, hcell⟩ := (HM.out.keep pktK HW.out.1 (Nat.le_refl _)).row k hlt
      subst hA
      have c0 : wr.cell? ⟨b, o + k * 5, none⟩ = _ := hcell 0 _ rfl
      have c1 := hcell 1 _ rfl
      have c2 := hcell 2 _ rfl
      have c3 := hcell 3 _ rfl
      have c4 := hcell 4 _ rfl
      clear hcell
      have HD := Lib.hid (idxB_drop (dblB n p) xs k hlt)
      have HC := Lib.hid (closd_any (w := wr) (s := s) (x := x) (Ap := Ap) (Aq := Aq) (cp := cp) (cq := cq) p xs[k] (HX.out.below HW.out.1 hxb) ((HW.out.1.cell (p := ⟨s, 0, none⟩) hsb).trans HS.out) ((HP.out.below HW.out.1).more HW.out.2) (hbq.byt.more HW.out.2) HTP.out (HTX.out _ (List.getElem_mem hlt)) HTN.out)
      clear hbq
      unfold pktW at HC
      cases hq : dblB n p xs[k] with
      | true =>
        have HR : Hid (idxB (dblB n p) xs 0 = (k : Int)) := Lib.hid (by rw [HE.out, HD.out, hq]; rfl)
        rw [hq] at HC
        clear hq HD HE
        go_wp2_with fail
        refine HC.out.mono ?_
        rintro e w1 ⟨rfl, hb1⟩
        have HW1 := Lib.hid (HW.out.1.trans (hb1.mono HW.out.2))
        clear hb1
        go_wp2
        go_ret
        exact ⟨ret_int HR.out.symm, HW1.out⟩
      | false =>
        have HR : Hid (idxB (dblB n p) xs 0 = idxB (dblB n p) (xs.drop (k + 1)) (k + 1)) := Lib.hid (by rw [HE.out, HD.out, hq]; rfl)
        rw [hq] at HC
        clear hq HD HE
        go_wp2_with fail
        refine HC.out.mono ?_
        rintro e w1 ⟨rfl, hb1⟩
        have HW1 : Hid (Below B w w1 ∧ B ≤ w1.heap.size) := Lib.hid ⟨HW.out.1.trans (hb1.mono HW.out.2), Nat.le_trans HW.out.2 hb1.size⟩
        clear hb1 c0 c1 c2 c3 c4
        go_wp2
        go_roundw
        case rel => exact ⟨k + 1, by go_num, by omega, HR, HW1⟩
        case measure => simp [intOf]; omega
    · have HR : Hid (idxB (dblB n p) xs 0 = -1) := Lib.hid (by rw [HE.out, List.drop_eq_nil_of_le (by omega)]; rfl)
      go_wp2
      go_ret
      exact ⟨ret_int HR.out.symm, HW.out.1⟩
set_option maxRecDepth 100000 in
set_option maxHeartbeats 2000000 in
theorem containsd_any {w : World} {s x : Nat} {A : Option Addr} {c : Nat} {xs : List Pkt} {Ap : Option Addr} {cp : Nat} {n : Int} (p : Pkt) (hx : Blk w x 50 (pktW p Ap cp)) (hs : w.cell? ⟨s, 0, none⟩ = some (.int .i64 n)) (hp : Byt w w.heap.size Ap p.data) (tp : timeOk p) (tx : ∀ q ∈ xs, timeOk q) (tn : 0 ≤ n ∧ n ≤ 1000000000000000) (hm : Els 5 PktE w w.heap.size A xs) (hl : xs.length ≤ 140737488355328) :
    Calls Try.prog 75 #[.slice A xs.length c, .func (.func 76) #[] #[.pointer (some ⟨x, 0, none⟩), .pointer (some ⟨s, 0, none⟩)]] w fun e w' => e = .returned (.bool (xs.any (dblB n p))) ∧ Below w.heap.size w w' := by
  have HC := Lib.hid (indexd_any (c := c) p hx hs hp tp tx tn hm hl)
  have HA := Lib.hid (idxB_any (dblB n p) xs 0)
  have hr := idxB_rng (dblB n p) xs 0
  obtain ⟨r, hR⟩ : ∃ r, idxB (dblB n p) xs 0 = r := ⟨_, rfl⟩
  obtain ⟨q, hQ⟩ : ∃ q, (xs.any (dblB n p)) = q := ⟨_, rfl⟩
  rw [hR] at HC HA hr
  rw [hQ] at HA ⊢
  clear hs hx hp tp tx tn hm hR hQ
  go_enter Try.func75, Try.ntmps75
  go_wp2_with fail
  refine HC.out.mono ?_
  rintro e w1 ⟨rfl, hb1⟩
  have HB := Lib.hid hb1
  clear hb1
  go_wp2
  go_ret
  exact ⟨ret_bool HA.out, HB.out⟩
end Go.Proofs.Ytghdilmlfficlaa
