/- The reference's Unpack. -/
import Derived.Test.YtghdilmlfficlaaUnpack
namespace Go.Proofs.Ytghdilmlfficlaa
open Go.RowKit

theorem at8_drop (b : List Nat) (p k : Nat) : at8 (b.drop p) k = at8 b (p + k) := by unfold at8; rw [List.getElem?_drop]

set_option maxRecDepth 100000 in
set_option maxHeartbeats 16000000 in
theorem runp_any {w : World} {A : Option Addr} {c : Nat} {b : List Nat} (hb : Byt w w.heap.size A b) (hc : b.length ≤ c) (hbl : b.length ≤ 1000000) :
    Calls Try.prog 38 #[.slice A b.length c] w (UnpP w (unpackR b)) := by
  obtain ⟨L, hL⟩ : ∃ L, b.length = L := ⟨_, rfl⟩
  by_cases h1 : 262144 < L
  · have HR : Hid (unpackR b = ([], 3)) := Lib.hid (by unfold unpackR; rw [hL, if_pos h1])
    rw [hL] at hc hbl ⊢
    have hd1 : decide ((262144 : Int) < (L : Int)) = true := decide_eq_true (by omega)
    clear hb hL h1
    go_enter Try.func38, Try.ntmps38
    go_wp2
    go_ret2
    rw [HR.out]
    exact unpP_nil (Below.refl _ _)
  · have hd1 : decide ((262144 : Int) < (L : Int)) = false := decide_eq_false (by omega)
    have HU : Hid (Calls Try.prog 83 #[.slice A L c] w fun e w' => e = .returned (unsVal (unsV b)) ∧ Below w.heap.size w w') := Lib.hid (by
      have h := S1.runseven A b c w (s1byt hb) hbl
      rw [hL] at h
      refine h.mono ?_
      rintro e w' ⟨⟨v, rfl, hv⟩, hbw⟩
      exact ⟨by rw [unsR_val hv], hbw⟩)
    cases hu : unsV b with
    | none =>
      have HR : Hid (unpackR b = ([], 11)) := Lib.hid (by unfold unpackR; rw [hL, if_neg h1, hu])
      rw [hu] at HU
      unfold unsVal S1.unsBad at HU
      rw [hL]
      clear hb hL h1 hu
      go_enter Try.func38, Try.ntmps38
      go_wp2_with fail
      with_reducible refine HU.out.mono ?_
      rintro e w1 ⟨rfl, hb1⟩
      have HB1 := Lib.hid hb1
      clear hb1
      go_wp2
      go_ret2
      rw [HR.out]
      exact unpP_nil HB1.out
    | some r =>
      obtain ⟨x, u⟩ := r
      have hux := unsV_le hu
      rw [hu] at HU
      unfold unsVal at HU
      by_cases h2 : 131072 < x
      · have HR : Hid (unpackR b = ([], 3)) := Lib.hid (by unfold unpackR; rw [hL, if_neg h1, hu]; simp only [if_pos h2])
        have hd2 : decide ((131072 : Int) < (x : Int)) = true := decide_eq_true (by omega)
        rw [hL]
        clear hb hL h1 hu h2
        go_enter Try.func38, Try.ntmps38
        go_wp2_with fail
        with_reducible refine HU.out.mono ?_
        rintro e w1 ⟨rfl, hb1⟩
        have HB1 := Lib.hid hb1
        clear hb1
        go_wp2
        go_ret2
        rw [HR.out]
        exact unpP_nil HB1.out
      · have hd2 : decide ((131072 : Int) < (x : Int)) = false := decide_eq_false (by omega)
        have HR : Hid (unpackR b = match runU ((b.drop u).length + 1) x [] (b.drop u) with | none => ([], 11) | some o => (o, 0)) := Lib.hid (by unfold unpackR; rw [hL, if_neg h1, hu]; simp only [if_neg h2]; rfl)
        obtain ⟨bb, ob, hA, hbb, _⟩ := hb.cells (by omega)
        subst hA
        have hx : x ≤ 131072 := by omega
        have huL : u ≤ L := by omega
        have HLL := Lib.hid hL
        have HBY := Lib.hid hb
        rw [hL] at hc ⊢
        have hLs : L ≤ 262144 := by omega
        clear hb hL h1 hu h2 hux
        go_enter Try.func38, Try.ntmps38
        go_wp2_with fail
        with_reducible refine HU.out.mono ?_
        rintro e w1 ⟨rfl, hb1⟩
        have HB1 := Lib.hid hb1
        clear hb1
        obtain ⟨B, hB⟩ : ∃ B, w.heap.size = B := ⟨_, rfl⟩
        have HBS := Lib.hid hB
        rw [hB] at HB1 HBY hbb
        obtain ⟨R0, hR0⟩ : ∃ R0, runU ((b.drop u).length + 1) x [] (b.drop u) = R0 := ⟨_, rfl⟩
        have HR0 := Lib.hid hR0
        rw [hR0] at HR
        have HDL : Hid (∀ p, (b.drop p).length = L - p) := Lib.hid (fun p => by rw [List.length_drop, HLL.out])
        clear hB hR0
        go_wp2
        go_loopw [5, 7] (fun t5 t7 wr => ∃ (p : Nat) (out : List Nat) (Ao : Option Addr) (co ol : Nat), t5 = .int .i64 p ∧ t7 = .slice Ao ol co ∧ p ≤ L ∧ ol ≤ 131072 ∧ Hid (out.length = ol) ∧ Hid (wr.ownsRow B 5 1 (.slice Ao ol co) ol (out.map u8)) ∧ Hid (∀ y ∈ out, y < 256) ∧ Hid (R0 = runU (L - p + 1) x out (b.drop p)) ∧ Hid (Below B w wr)) (fun t5 _ _ => L - (intOf t5).toNat)
        case atStart =>
          exact ⟨u, [], none, 0, 0, rfl, rfl, huL, by omega, Lib.hid rfl, Lib.hid (World.ownsRow_nil _ _ _ _), Lib.hid (by simp), Lib.hid (by rw [← HR0.out, HDL.out]), HB1⟩
        case round =>
          obtain ⟨p, out, Ao, co, ol, rfl, rfl, hpL, hol, HOL, HOW, HLO, HEQ, HBW⟩ := hrel
          have hBw : B ≤ wr.heap.size := by have := HBW.out.size; have := HBS.out; omega
          by_cases h0 : p < L
          · have hd0 : decide ((p : Int) < (L : Int)) = true := decide_eq_true (by omega)
            have hr0 : 0 < (b.drop p).length := by rw [HDL.out]; omega
            have HNZ : Hid (¬ (b.drop p).length = 0) := Lib.hid (by omega)
            have HBD : Hid (Byt wr B (some ⟨bb, ob + p, none⟩) (b.drop p)) := Lib.hid (byt_drop (HBY.out.below HBW.out) (by rw [HLL.out]; omega))
            have hx0 := at8_lt HBD.out.lt 0
            have c0 : wr.cell? ⟨bb, ob + p, none⟩ = some (.int .u8 (at8 (b.drop p) 0 : Nat)) := by
              obtain ⟨b2, o2, e, _, hc⟩ := HBD.out.cells hr0
              injection e with e; injection e with e1 e2; subst e1; subst e2
              have := hc 0 hr0
              simpa using this
            obtain ⟨n, hn⟩ : ∃ n, at8 (b.drop p) 0 = n := ⟨_, rfl⟩
            have HN := Lib.hid hn
            rw [hn] at c0 hx0
            clear hn
            have ht0 : ((p : Int)).toNat = p := by omega
            by_cases h1 : n < 128
            · have hd3 : decide ((n : Int) < 128) = true := decide_eq_true (by omega)
              by_cases h2 : n + 2 ≤ L - p
              · have HP : Hid (partU out (b.drop p) = some (out ++ ((b.drop p).drop 1).take (n + 1), n + 2)) := Lib.hid (by unfold partU; rw [HN.out, HDL.out, if_pos h1, if_pos h2])
                have hbt : Byt wr B (some ⟨bb, ob + (p + 1), none⟩) (((b.drop p).drop 1).take (n + 1)) := by
                  have := byt_sub HBD.out hr0 (m := n + 1) (by rw [HDL.out]; omega)
                  rwa [Nat.add_assoc] at this
                have hll : (((b.drop p).drop 1).take (n + 1)).length = n + 1 := by rw [List.length_take, List.length_drop, HDL.out]; omega
                have how := HOW.out
                rw [← HOL.out] at how
                obtain ⟨v7, w7, hrun, happ⟩ := run_own_byt wr B _ out how (c - (p + 1)) hbt (by first | (rw [HOL.out]; omega) | (rw [hll]; omega) | (rw [HOL.out, hll]; omega)) (by first | (rw [HOL.out]; omega) | (rw [hll]; omega) | (rw [HOL.out, hll]; omega)) hBw
                rw [hll, HOL.out] at hrun
                have HAP := Lib.hid happ
                obtain ⟨A7, c7, rfl⟩ : ∃ A7 c7, v7 = .slice A7 (out ++ ((b.drop p).drop 1).take (n + 1)).length c7 := by
                  rcases happ.own.2 with ⟨e, h0'⟩ | ⟨g, cap, _, e, _⟩
                  · rw [h0']; exact ⟨none, 0, e⟩
                  · exact ⟨_, _, e⟩
                have HBW7 : Hid (Below B w w7) := Lib.hid (HBW.out.grown happ.grown hBw (fun j hj => (how.lt _ hj).1))
                have hnl : (out ++ ((b.drop p).drop 1).take (n + 1)).length = ol + (n + 1) := by rw [List.length_append, hll, HOL.out]
                rw [hnl] at hrun
                have HNL := Lib.hid hnl
                have HLO2 := Lib.hid (partU_lt HP.out HLO.out HBD.out.lt)
                have hd4 : decide ((L : Int) < (p : Int) + 1 + (n : Int) + 1) = false := decide_eq_false (by omega)
                have hc1 : ¬ c = p + 1 := by omega
                have hh1 : (p : Int) + 1 ≤ (p : Int) + (n : Int) + 2 := by omega
                have hh2 : (p : Int) + (n : Int) + 2 ≤ (c : Int) := by omega
                have hh3 : (0 : Int) ≤ (p : Int) + 1 := by omega
                have ht1 : ((p : Int) + 1).toNat = p + 1 := by omega
                have ht2 : ((p : Int) + (n : Int) + 2).toNat = p + n + 2 := by omega
                have ht3 : p + n + 2 - (p + 1) = n + 1 := by omega
                have hp2 : (p : Int) + ((n : Int) + 2) = ((p + n + 2 : Nat) : Int) := by omega
                have HDR : Hid ((b.drop p).drop (n + 2) = b.drop (p + n + 2)) := Lib.hid (by rw [List.drop_drop, Nat.add_assoc])
                by_cases hs : x < ol + (n + 1)
                · have HR2 : Hid (R0 = none) := Lib.hid (by rw [HEQ.out, ← HDL.out p]; exact runU_big HP.out (by rw [HNL.out]; exact hs) HNZ.out)
                  have hds : decide ((x : Int) < ((ol + (n + 1) : Nat) : Int)) = true := decide_eq_true (by omega)
                  clear hbt hll how happ hnl
                  go_wp2_with (at_builtin; refine Lib.wpList_append_run _ rfl _ _ _ _ rfl _ _ rfl rfl _ _ hrun ?_)
                  go_ret2
                  rw [HR.out, HR2.out]
                  exact unpP_nil (by rw [HBS.out]; exact HBW7.out)
                · have HE2 : Hid (R0 = runU (L - (p + n + 2) + 1) x (out ++ ((b.drop p).drop 1).take (n + 1)) (b.drop (p + n + 2))) := Lib.hid (by
                    have h := runU_step HP.out (by rw [HNL.out]; exact hs) HNZ.out
                    rw [HDR.out, HDL.out, HDL.out] at h
                    rw [HEQ.out]; exact h)
                  have hds : decide ((x : Int) < ((ol + (n + 1) : Nat) : Int)) = false := decide_eq_false (by omega)
                  clear hbt hll how happ hnl
                  go_wp2_with (at_builtin; refine Lib.wpList_append_run _ rfl _ _ _ _ rfl _ _ rfl rfl _ _ hrun ?_)
                  go_roundw
                  case rel => exact ⟨p + n + 2, _, A7, c7, ol + (n + 1), by go_num, rfl, by omega, by omega, HNL, Lib.hid (by have h := HAP.out.own; rw [HNL.out] at h; exact h), HLO2, HE2, HBW7⟩
                  case measure => simp [intOf]; omega
              · have HP : Hid (partU out (b.drop p) = none) := Lib.hid (by unfold partU; rw [HN.out, HDL.out, if_pos h1, if_neg h2])
                have HR2 : Hid (R0 = none) := Lib.hid (by rw [HEQ.out, ← HDL.out p]; exact runU_none HP.out HNZ.out)
                have hd4 : decide ((L : Int) < (p : Int) + 1 + (n : Int) + 1) = true := decide_eq_true (by omega)
                go_wp2
                go_ret2
                rw [HR.out, HR2.out]
                exact unpP_nil (by rw [HBS.out]; exact HBW.out)
            · have hd3 : decide ((n : Int) < 128) = false := decide_eq_false (by omega)
              by_cases h2 : L - p < 3
              · have HP : Hid (partU out (b.drop p) = none) := Lib.hid (by unfold partU; rw [HN.out, HDL.out, if_neg h1, if_pos h2])
                have HR2 : Hid (R0 = none) := Lib.hid (by rw [HEQ.out, ← HDL.out p]; exact runU_none HP.out HNZ.out)
                have hd4 : decide ((L : Int) < (p : Int) + 3) = true := decide_eq_true (by omega)
                go_wp2
                go_ret2
                rw [HR.out, HR2.out]
                exact unpP_nil (by rw [HBS.out]; exact HBW.out)
              · have hd4 : decide ((L : Int) < (p : Int) + 3) = false := decide_eq_false (by omega)
                have hx1 := at8_lt HBD.out.lt 1
                have hx2 := at8_lt HBD.out.lt 2
                have c12 : wr.cell? ⟨bb, ob + (p + 1), none⟩ = some (.int .u8 (at8 (b.drop p) 1 : Nat)) ∧ wr.cell? ⟨bb, ob + (p + 2), none⟩ = some (.int .u8 (at8 (b.drop p) 2 : Nat)) := by
                  obtain ⟨b2, o2, e, _, hc⟩ := HBD.out.cells hr0
                  injection e with e; injection e with e1 e2; subst e1; subst e2
                  exact ⟨hc 1 (by rw [HDL.out]; omega), hc 2 (by rw [HDL.out]; omega)⟩
                obtain ⟨X, hX⟩ : ∃ X, at8 (b.drop p) 1 = X := ⟨_, rfl⟩
                obtain ⟨Y, hY⟩ : ∃ Y, at8 (b.drop p) 2 = Y := ⟨_, rfl⟩
                have HPU : Hid (partU out (b.drop p) = if X * 256 + Y = 0 ∨ ol < X * 256 + Y then none else some (repU out (ol - (X * 256 + Y)) (n - 125), 3)) := Lib.hid (by unfold partU; rw [HN.out, HDL.out, if_neg h1, if_neg h2, hX, hY, HOL.out])
                rw [hX, hY] at c12
                rw [hX] at hx1
                rw [hY] at hx2
                obtain ⟨c1, c2⟩ := c12
                have ht1 : ((p : Int) + 1).toNat = p + 1 := by omega
                have ht2 : ((p : Int) + 2).toNat = p + 2 := by omega
                have hi1 : (p : Int) + 1 < (L : Int) := by omega
                have hi2 : (p : Int) + 2 < (L : Int) := by omega
                have hj1 : (0 : Int) ≤ (p : Int) + 1 := by omega
                have hj2 : (0 : Int) ≤ (p : Int) + 2 := by omega
                obtain ⟨D, hD⟩ : ∃ D : Nat, X * 256 + Y = D := ⟨_, rfl⟩
                have hDI : 256 * (X : Int) + (Y : Int) = (D : Int) := by omega
                have hXs : 256 * (X : Int) ≤ 65280 := by omega
                have hXp : 0 ≤ 256 * (X : Int) := by omega
                rw [hD] at HPU
                clear hX hY hD
                by_cases h3 : D = 0 ∨ ol < D
                · have HR2 : Hid (R0 = none) := Lib.hid (by rw [HEQ.out, ← HDL.out p]; exact runU_none (by rw [HPU.out, if_pos h3]) HNZ.out)
                  rcases (by omega : D < 1 ∨ (1 ≤ D ∧ ol < D)) with h4 | ⟨h4, h5⟩
                  · have hd5 : decide ((D : Int) < 1) = true := decide_eq_true (by omega)
                    go_wp2
                    go_quiet (fail)
                    go_wp2
                    go_ret2
                    rw [HR.out, HR2.out]
                    exact unpP_nil (by rw [HBS.out]; exact below_drewN HBW.out _)
                  · have hd5 : decide ((D : Int) < 1) = false := decide_eq_false (by omega)
                    have hd6 : decide ((ol : Int) < (D : Int)) = true := decide_eq_true (by omega)
                    go_wp2
                    go_quiet (fail)
                    go_wp2
                    go_ret2
                    rw [HR.out, HR2.out]
                    exact unpP_nil (by rw [HBS.out]; exact below_drewN HBW.out _)
                · have hd5 : decide ((D : Int) < 1) = false := decide_eq_false (by omega)
                  have hd6 : decide ((ol : Int) < (D : Int)) = false := decide_eq_false (by omega)
                  have hd6n : decide (ol < D) = false := decide_eq_false (by omega)
                  obtain ⟨F, hF⟩ : ∃ F, ol - D = F := ⟨_, rfl⟩
                  have hP : partU out (b.drop p) = some (repU out F (n - 125), 3) := by rw [HPU.out, if_neg h3, hF]
                  have HP := Lib.hid hP
                  have hRL : ∀ m, (repU out F m).length = ol + m := fun m => by rw [repU_len, HOL.out]
                  have HRL := Lib.hid hRL
                  have hFD : F + D = ol := by omega
                  have hD1 : 1 ≤ D := by omega
                  have hn128 : 128 ≤ n := by omega
                  clear hP hRL hF h3 HPU h1 h2
                  go_wp2
                  go_quiet (fail)
                  go_wp2
                  go_loopw [7, 10] (fun t i wi => ∃ (m : Nat) (A' : Option Addr) (c' : Nat), i = .int .i64 m ∧ t = .slice A' (ol + m) c' ∧ m ≤ n - 125 ∧ Hid (wi.ownsRow B 5 1 (.slice A' (ol + m) c') (ol + m) ((repU out F m).map Go.Proofs.Ytghdilmlfficlaa.u8)) ∧ Hid (Below B w wi)) (fun _ i _ => n - 125 - (intOf i).toNat)
                  case atStart => exact ⟨0, Ao, co, rfl, rfl, Nat.zero_le _, Lib.hid HOW.out, Lib.hid (below_drewN HBW.out _)⟩
                  case round =>
                    obtain ⟨m, A', c', rfl, rfl, hm, HIW, HIB⟩ := hrel
                    have hbw : B ≤ wr.heap.size := by have := HIB.out.size; have := HBS.out; omega
                    have hrl : (repU out F m).length = ol + m := HRL.out m
                    by_cases hlt : m < n - 125
                    · have hd7 : decide ((m : Int) < (n : Int) - 125) = true := decide_eq_true (by omega)
                      have hby : Byt wr wr.heap.size A' (repU out F m) := byt_own (c := c') (repU_lt HLO.out m) (by rw [hrl]; exact HIW.out)
                      obtain ⟨g, o, rfl, hg, hc'⟩ := hby.cells (by omega)
                      have cx := hc' (F + m) (by omega)
                      obtain ⟨y, hy⟩ : ∃ y, at8 (repU out F m) (F + m) = y := ⟨_, rfl⟩
                      have HXX := Lib.hid hy
                      rw [hy, show F + m = ol + m - D by omega] at cx
                      obtain ⟨v7, w7, hrun, ho7, hg7, _⟩ := run_own_struct wr B 5 1 1 48 _ Try.underlying48 info5 (by rfl) (by decide) _ _ _ HIW.out [.int .u8 (y : Int)] rfl (by
                        intro u hu; simp only [List.mem_cons, List.not_mem_nil, or_false] at hu; rcases hu with rfl; rfl) (by unfold maxLen; omega) (by omega) hbw
                      obtain ⟨A7, c7, rfl⟩ : ∃ A c, v7 = .slice A (ol + m + 1) c := by
                        rcases ho7.2 with ⟨e, h0⟩ | ⟨g, cap, _, e, _⟩
                        · omega
                        · exact ⟨_, _, e⟩
                      have HO7 : Hid (w7.ownsRow B 5 1 (.slice A7 (ol + m + 1) c7) (ol + m + 1) ((repU out F (m + 1)).map Go.Proofs.Ytghdilmlfficlaa.u8)) := Lib.hid (by
                        rw [repU, List.map_append, HXX.out]
                        exact ho7)
                      have HB7 : Hid (Below B w w7) := Lib.hid ((HIB.out.alloc hbw _).grown hg7 (by rw [alloc_size]; omega) (fun j hj => (HIW.out.lt _ hj).1))
                      have hti : (((ol + m : Nat) : Int) - (D : Int)).toNat = F + m := by omega
                      have hfm : ((ol + m : Nat) : Int) - (D : Int) < ((ol + m : Nat) : Int) := by omega
                      have hfm0 : (0 : Int) ≤ ((ol + m : Nat) : Int) - (D : Int) := by omega
                      clear hby hc' hy ho7 hg7 hrl HIW HIB
                      go_wp2_with (at_builtin; refine Lib.wpList_append_run _ rfl _ _ _ _ rfl _ _ rfl rfl _ _ hrun ?_)
                      go_roundw
                      case rel => exact ⟨m + 1, A7, c7, by go_num, rfl, by omega, HO7, HB7⟩
                      case measure => simp [intOf]; omega
                    · have hd7 : decide ((m : Int) < (n : Int) - 125) = false := decide_eq_false (by omega)
                      have hme : m = n - 125 := by omega
                      have HP2 : Hid (partU out (b.drop p) = some (repU out F m, 3)) := Lib.hid (by rw [HP.out, hme])
                      have HNL := Lib.hid hrl
                      have HLO2 := Lib.hid (repU_lt (fr := F) HLO.out m)
                      have HDR : Hid ((b.drop p).drop 3 = b.drop (p + 3)) := Lib.hid (by rw [List.drop_drop])
                      clear hme hrl
                      by_cases hs : x < ol + m
                      · have HR2 : Hid (R0 = none) := Lib.hid (by rw [HEQ.out, ← HDL.out p]; exact runU_big HP2.out (by rw [HNL.out]; exact hs) HNZ.out)
                        have hds : decide ((x : Int) < ((ol + m : Nat) : Int)) = true := decide_eq_true (by omega)
                        go_wp2
                        go_ret2
                        rw [HR.out, HR2.out]
                        exact unpP_nil (by rw [HBS.out]; exact HIB.out)
                      · have HE2 : Hid (R0 = runU (L - (p + 3) + 1) x (repU out F m) (b.drop (p + 3))) := Lib.hid (by
                          have h := runU_step HP2.out (by rw [HNL.out]; exact hs) HNZ.out
                          rw [HDR.out, HDL.out, HDL.out] at h
                          rw [HEQ.out]; exact h)
                        have hds : decide ((x : Int) < ((ol + m : Nat) : Int)) = false := decide_eq_false (by omega)
                        go_wp2
                        go_roundw
                        case rel => exact ⟨p + 3, _, A', c', ol + m, by go_num, rfl, by omega, by omega, HNL, HIW, HLO2, HE2, HIB⟩
                        case measure => simp [intOf]; omega
          · have hpe : p = L := by omega
            subst hpe
            have HRN : Hid (b.drop p = []) := Lib.hid (List.length_eq_zero_iff.1 (by rw [HDL.out]; omega))
            have hd0 : decide ((p : Int) < (p : Int)) = false := decide_eq_false (by omega)
            have HZ : Hid (R0 = if ol = x then some out else none) := Lib.hid (by rw [HEQ.out, HRN.out, Nat.sub_self, runU_end, HOL.out])
            by_cases hsz : ol = x
            · have HR2 : Hid (R0 = some out) := Lib.hid (by rw [HZ.out, if_pos hsz])
              have hds : ((ol : Int) != (x : Int)) = false := by rw [hsz]; simp
              clear hsz
              go_wp2
              go_ret2
              rw [HR.out, HR2.out]
              exact ⟨Ao, co, by rw [HOL.out]; rfl, by rw [HBS.out]; simp only [HOL.out]; exact HOW.out, HLO.out, by rw [HBS.out]; exact HBW.out⟩
            · have HR2 : Hid (R0 = none) := Lib.hid (by rw [HZ.out, if_neg hsz])
              have hds : ((ol : Int) != (x : Int)) = true := by rw [bne_iff_ne]; omega
              clear hsz
              go_wp2
              go_ret2
              rw [HR.out, HR2.out]
              exact unpP_nil (by rw [HBS.out]; exact HBW.out)
end Go.Proofs.Ytghdilmlfficlaa
