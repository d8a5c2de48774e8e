/- Unseven: the reference's loop. -/
import Derived.Test.YtghdilmlfficlaaS1UnsStep
namespace Go.Proofs.Ytghdilmlfficlaa.S1
open Go.RowKit Go.Shelf

attribute [local go_sem] Oper.semAt_some

theorem runs_step (bs : List Nat) (k N F x : Nat) (hk : k < 7) (hN : uv bs k = N) (hF : 128 ^ k = F) (hX : at8 bs k = x) : ∃ y r N2 F2 : Nat, uv bs (k + 1) = N2 ∧ 128 ^ (k + 1) = F2 ∧ (x : Int) % 128 = (y : Int) ∧ y < 128 ∧
    IntKind.i64.wrap ((F : Int) * (y : Int)) = (r : Int) ∧ IntKind.i64.wrap ((N : Int) + (r : Int)) = (N2 : Int) ∧ IntKind.i64.wrap ((F : Int) * 128) = (F2 : Int) := by
  have h49 : 128 ^ (k + 1) ≤ 562949953421312 := Nat.pow_le_pow_right (n := 128) (by decide) (show k + 1 ≤ 7 by omega)
  have hlt := uv_lt bs k
  have hle : x % 128 * 128 ^ k ≤ 127 * 128 ^ k := Nat.mul_le_mul_right _ (by omega)
  have e : uv bs (k + 1) = uv bs k + at8 bs k % 128 * 128 ^ k := rfl
  rw [Nat.pow_succ] at h49
  rw [hN, hX] at e
  rw [hN] at hlt
  rw [hF] at e hlt hle h49
  obtain ⟨y, hy⟩ : ∃ y, x % 128 = y := ⟨_, rfl⟩
  rw [hy] at e hle
  have er : ((F : Int) * (y : Int)) = ((y * F : Nat) : Int) := by rw [Nat.mul_comm]; push_cast; rfl
  obtain ⟨r, hr⟩ : ∃ r, y * F = r := ⟨_, rfl⟩
  rw [hr] at e hle er
  refine ⟨y, r, N + r, F * 128, e, by rw [Nat.pow_succ, hF], by omega, by omega, ?_, ?_, ?_⟩
  · rw [er, IntKind.wrap_i64]; omega
  · rw [IntKind.wrap_i64]; omega
  · rw [IntKind.wrap_i64]; omega

set_option maxRecDepth 100000 in
set_option maxHeartbeats 4000000 in
theorem runseven (A : Option Addr) (bs : List Nat) (c : Nat) (w : World) (hm : Byt w w.heap.size A bs) (hL : bs.length ≤ 1000000) :
    Calls Try.prog 83 #[.slice A bs.length c] w fun e w' => (∃ v, e = .returned v ∧ UnsR bs v) ∧ Below w.heap.size w w' := by
  obtain ⟨L, hLL⟩ : ∃ L, bs.length = L := ⟨_, rfl⟩
  have HL := Lib.hid hLL
  rw [hLL] at hL ⊢
  have HM := Lib.hid hm
  clear hLL hm
  go_enter Try.func83, Try.ntmps83
  go_wp2
  go_loopw [5, 6, 7] (fun n f i wr => ∃ (k : Nat) (N F : Nat), n = .int .i64 N ∧ f = .int .i64 F ∧ i = .int .i64 k ∧ k ≤ L ∧ k ≤ 7 ∧ Hid (uv bs k = N) ∧ Hid (128 ^ k = F) ∧ Hid (∀ i, i < k → 128 ≤ at8 bs i) ∧ Hid (Below w.heap.size w wr))
    (fun _ _ i _ => L - (intOf i).toNat)
  case atStart =>
    exact ⟨0, 0, 1, rfl, rfl, rfl, by omega, by omega, Lib.hid rfl, Lib.hid rfl, Lib.hid (fun i h => by omega), Lib.hid (Below.refl _ _)⟩
  case round =>
    obtain ⟨k, N, F, rfl, rfl, rfl, hkL, hk7, HN, HF, HA, HB⟩ := hrel
    by_cases hlt : k < L ∧ k < 7
    · obtain ⟨hk1, hk2⟩ := hlt
      obtain ⟨b, o, rfl, hb, hcell0⟩ := HM.out.cells (by rw [HL.out]; omega)
      have hck := hcell0 k (by rw [HL.out]; exact hk1)
      have hck2 := (HB.out.cell (p := ⟨b, o + k, none⟩) hb).trans hck
      have hx := at8_lt HM.out.lt k
      obtain ⟨x, hX⟩ : ∃ x, at8 bs k = x := ⟨_, rfl⟩
      rw [hX] at hck2 hx
      obtain ⟨y, r, N2, F2, e1, e2, e3, e4, e5, e6, e7⟩ := runs_step bs k N F x hk2 HN.out HF.out hX
      have HX := Lib.hid hX
      have HN2 := Lib.hid e1
      have HF2 := Lib.hid e2
      have HE : Hid (x < 128 → Ends bs k) := Lib.hid (fun h => ⟨by rw [HL.out]; exact hk1, hk2, HA.out, by rw [HX.out]; exact h⟩)
      clear hcell0 hck hX hb e1 e2
      by_cases h128 : x < 128
      · have hb1 : decide ((x : Int) < 128) = true := decide_eq_true (by omega)
        have HE2 := Lib.hid (HE.out h128)
        clear HE
        by_cases hbig : 281474976710656 ≤ N2
        · have hb2 : decide (281474976710656 ≤ (N2 : Int)) = true := decide_eq_true (by omega)
          have HR : Hid (UnsR bs unsBad) := Lib.hid (unsR_bad HE2.out (fun o => by have := o.1; rw [HN2.out] at this; omega))
          go_wp2
          refine bodyPost_ret (results_tmp3 rfl _ _ _) rfl ?_
          exact ⟨⟨_, rfl, HR.out⟩, HB.out⟩
        · have hb2 : decide (281474976710656 ≤ (N2 : Int)) = false := decide_eq_false (by omega)
          by_cases hk0 : k = 0
          · have HR : Hid (UnsR bs _) := Lib.hid (unsR_good HE2.out ⟨by rw [HN2.out]; omega, Or.inl hk0⟩)
            rw [HN2.out] at HR
            have HK0 := Lib.hid hk0
            clear hk0
            go_wp2
            all_goals first
              | (exfalso; have := HK0.out; omega)
              | (refine bodyPost_ret (results_tmp3 rfl _ _ _) rfl ?_; exact ⟨⟨_, rfl, HR.out⟩, HB.out⟩)
          · have hb3 : decide (0 < (k : Int)) = true := decide_eq_true (by omega)
            by_cases hx0 : x = 0
            · have HR : Hid (UnsR bs unsBad) := Lib.hid (unsR_bad HE2.out (fun o => by have := o.2; rw [HX.out] at this; omega))
              have HX0 := Lib.hid hx0
              clear hx0
              go_wp2
              all_goals first
                | (refine bodyPost_ret (results_tmp3 rfl _ _ _) rfl ?_; exact ⟨⟨_, rfl, HR.out⟩, HB.out⟩)
                | (exfalso; have := HX0.out; simp_all)
            · have hb4 : ((x : Int) == 0) = false := by simp; omega
              have HR : Hid (UnsR bs _) := Lib.hid (unsR_good HE2.out ⟨by rw [HN2.out]; omega, Or.inr (by rw [HX.out]; omega)⟩)
              rw [HN2.out] at HR
              go_wp2
              refine bodyPost_ret (results_tmp3 rfl _ _ _) rfl ?_
              exact ⟨⟨_, rfl, HR.out⟩, HB.out⟩
      · have hb1 : decide ((x : Int) < 128) = false := decide_eq_false (by omega)
        clear HE
        go_wp2
        go_roundw
        case rel => exact ⟨k + 1, N2, F2, rfl, rfl, by go_num, by omega, by omega, HN2, HF2, Lib.hid (fun i hi => by
          by_cases e : i = k
          · rw [e, HX.out]; omega
          · exact HA.out i (by omega)), HB⟩
        case measure => simp [intOf]; omega
    · have HR : Hid (UnsR bs unsBad) := Lib.hid (unsR_never (fun i h1 h2 => HA.out i (by rw [HL.out] at h1; omega)))
      by_cases hk : k < L
      · have hk7 : k = 7 := by omega
        have hb1 : decide ((k : Int) < (L : Int)) = true := decide_eq_true (by omega)
        have hb2 : decide ((k : Int) < 7) = false := decide_eq_false (by omega)
        go_wp2
        refine bodyPost_ret (results_tmp3 rfl _ _ _) rfl ?_
        exact ⟨⟨_, rfl, HR.out⟩, HB.out⟩
      · have hb1 : decide ((k : Int) < (L : Int)) = false := decide_eq_false (by omega)
        go_wp2
        refine bodyPost_ret (results_tmp3 rfl _ _ _) rfl ?_
        exact ⟨⟨_, rfl, HR.out⟩, HB.out⟩
end Go.Proofs.Ytghdilmlfficlaa.S1
