/- Get of longer bytes. -/
import Derived.Test.YtghdilmlfficlaaS1Get2
namespace Go.Proofs.Ytghdilmlfficlaa.S1P
open Go.RowKit Go.Proofs.Ytghdilmlfficlaa.S1
variable {w : World} {B c : Nat} {A : Option Addr} {bs : List Nat}

set_option maxHeartbeats 2000000 in
theorem span_any (A : Option Addr) (L c : Nat) (p n : Int) (low : Bool) (w : World) (hL : L ≤ 1000000) :
    Calls Try.prog 175 #[.slice A L c, .int .i64 p, .int .i64 n, .bool low] w fun e w' => e = .returned (.int .i64 (spanE L p n low)) ∧ w = w' := by
  by_cases h1 : p < 0
  · go_enter Try.func175, Try.ntmps175
    go_wp2
    go_ret
    exact ⟨ret_int (by simp [spanE, h1]), rfl⟩
  by_cases h2 : n < 0
  · go_enter Try.func175, Try.ntmps175
    go_wp2
    go_ret
    exact ⟨ret_int (by simp [spanE, h2]), rfl⟩
  by_cases h3 : 48 < n
  · go_enter Try.func175, Try.ntmps175
    go_wp2
    go_ret
    exact ⟨ret_int (by simp [spanE, h3]), rfl⟩
  have k1 : ¬ (p < 0 ∨ n < 0 ∨ 48 < n) := by omega
  by_cases h6 : 8 * (L : Int) - n < p
  · cases low with
    | false =>
      have E : Hid (spanE L p n false = 4) := Lib.hid (by unfold spanE; rw [if_neg k1, if_neg (by simp), if_pos h6])
      clear k1
      go_enter Try.func175, Try.ntmps175
      go_wp2
      go_ret
      exact ⟨ret_int E.out.symm, rfl⟩
    | true =>
      by_cases h4 : p % 8 = 0
      · by_cases h5 : n % 8 = 0
        · have E : Hid (spanE L p n true = 4) := Lib.hid (by unfold spanE; rw [if_neg k1, if_neg (by omega), if_pos h6])
          clear k1
          go_enter Try.func175, Try.ntmps175
          go_wp2
          go_ret
          exact ⟨ret_int E.out.symm, rfl⟩
        · have E : Hid (spanE L p n true = 1) := Lib.hid (by unfold spanE; rw [if_neg k1, if_pos ⟨rfl, by omega⟩])
          clear k1
          go_enter Try.func175, Try.ntmps175
          go_wp2
          go_ret
          exact ⟨ret_int E.out.symm, rfl⟩
      · have E : Hid (spanE L p n true = 1) := Lib.hid (by unfold spanE; rw [if_neg k1, if_pos ⟨rfl, by omega⟩])
        clear k1
        go_enter Try.func175, Try.ntmps175
        go_wp2
        go_ret
        exact ⟨ret_int E.out.symm, rfl⟩
  · cases low with
    | false =>
      have E : Hid (spanE L p n false = 0) := Lib.hid (by unfold spanE; rw [if_neg k1, if_neg (by simp), if_neg h6])
      clear k1
      go_enter Try.func175, Try.ntmps175
      go_wp2
      go_ret
      exact ⟨ret_int E.out.symm, rfl⟩
    | true =>
      by_cases h4 : p % 8 = 0
      · by_cases h5 : n % 8 = 0
        · have E : Hid (spanE L p n true = 0) := Lib.hid (by unfold spanE; rw [if_neg k1, if_neg (by omega), if_neg h6])
          clear k1
          go_enter Try.func175, Try.ntmps175
          go_wp2
          go_ret
          exact ⟨ret_int E.out.symm, rfl⟩
        · have E : Hid (spanE L p n true = 1) := Lib.hid (by unfold spanE; rw [if_neg k1, if_pos ⟨rfl, by omega⟩])
          clear k1
          go_enter Try.func175, Try.ntmps175
          go_wp2
          go_ret
          exact ⟨ret_int E.out.symm, rfl⟩
      · have E : Hid (spanE L p n true = 1) := Lib.hid (by unfold spanE; rw [if_neg k1, if_pos ⟨rfl, by omega⟩])
        clear k1
        go_enter Try.func175, Try.ntmps175
        go_wp2
        go_ret
        exact ⟨ret_int E.out.symm, rfl⟩

set_option maxHeartbeats 1000000 in
theorem get_err (p n : Int) (low : Bool) (hL : bs.length ≤ 1000000) (he : (spanE bs.length p n low == 0) = false) :
    Calls Try.prog 158 #[.slice A bs.length c, .int .i64 p, .int .i64 n, .bool low] w fun e w' => e = .returned (.tuple #[.int .i64 0, .int .i64 (spanE bs.length p n low)]) ∧ w = w' := by
  obtain ⟨E, hE⟩ : ∃ E, spanE bs.length p n low = E := ⟨_, rfl⟩
  have he2 : (E != 0) = true := by rw [← hE]; simpa [bne] using he
  have HE := Lib.hid hE
  rw [hE] at he ⊢
  clear hE
  go_enter Try.func158, Try.ntmps158
  go_wp2_with (go_at_call 175; refine (span_any A bs.length c p n low _ hL).mono ?_; rw [HE.out]; rintro e w' ⟨rfl, rfl⟩)
  go_ret2
  exact ⟨rfl, rfl⟩

set_option maxHeartbeats 1000000 in
theorem get_hi (hm : Byt w B A bs) (p n : Nat) (hL : bs.length ≤ 1000000) (hc : bs.length ≤ c) (hn : n ≤ 48) (hp : p + n ≤ 8 * bs.length) :
    Calls Try.prog 158 #[.slice A bs.length c, .int .i64 p, .int .i64 n, .bool false] w fun e w' => e = .returned (.tuple #[.int .i64 (getV bs p n false : Nat), .int .i64 0]) ∧ Below w.heap.size w w' := by
  have HE : Hid (spanE bs.length p n false = 0) := Lib.hid (by unfold spanE; rw [if_neg (by omega), if_neg (by simp), if_neg (by omega)])
  obtain ⟨L, hL0⟩ : ∃ L, bs.length = L := ⟨_, rfl⟩
  have HL := Lib.hid hL0
  rw [hL0] at hL hc hp ⊢
  clear hL0
  go_enter Try.func158, Try.ntmps158
  go_wp2_with (go_at_call 175; refine (span_any A L c p n false _ hL).mono ?_; rw [← HL.out, HE.out]; rintro e w' ⟨rfl, rfl⟩)
  · have hb : Byt w B A ((bs.drop (p / 8)).take ((p + n + 7) / 8 - p / 8)) := by
      rw [show (p + n + 7) / 8 - p / 8 = 0 by omega]; exact Byt.nil _ _ _
    generalize hA1 : A = A1 at hb ⊢
    clear hA1
    have hlm : ((bs.drop (p / 8)).take ((p + n + 7) / 8 - p / 8)).length = (p + n + 7) / 8 - p / 8 := by simp; rw [HL.out]; omega
    have HLM := Lib.hid hlm
    have hm7 : (p + n + 7) / 8 - p / 8 ≤ 7 := by omega
    clear hlm
    go_loop [12, 35] (fun v i => ∃ k V : Nat, k ≤ (p + n + 7) / 8 - p / 8 ∧ i = .int .i64 k ∧ v = .int .i64 V ∧ V < 256 ^ k ∧ Hid (V = bev bs (p / 8) k)) (fun _ i => 7 - (intOf i).toNat)
    case atStart => exact ⟨0, 0, Nat.zero_le _, rfl, rfl, by decide, Lib.hid rfl⟩
    case round =>
      obtain ⟨k, V, hk, rfl, rfl, hV, HV⟩ := hrel
      by_cases hlt : k < (p + n + 7) / 8 - p / 8
      · obtain ⟨b, o, rfl, hbb, hcc⟩ := hb.cells (by rw [HLM.out]; omega)
        have hck := hcc k (by rw [HLM.out]; exact hlt)
        rw [at8_part _ _ _ hlt] at hck
        have hx := at8_lt hm.lt (p / 8 + k)
        obtain ⟨x, hX⟩ : ∃ x, at8 bs (p / 8 + k) = x := ⟨_, rfl⟩
        rw [hX] at hck hx
        have HX := Lib.hid hX
        clear hX hcc
        have hp6 : 256 ^ k ≤ 256 ^ 6 := Nat.pow_le_pow_right (by decide) (by omega)
        have hV2 : V < 281474976710656 := Nat.lt_of_lt_of_le hV hp6
        have HO3 : Hid (V * 256 + x < 256 ^ (k + 1)) := Lib.hid (by rw [Nat.pow_succ]; omega)
        clear hp6 hV
        have hj := or64_join ((V : Int) * 256) x 8 (by omega) (by omega) (by omega) (by omega) (by omega)
        go_wp2
        go_round
        case rel => exact ⟨k + 1, V * 256 + x, by omega, by go_num, by go_num, HO3.out, Lib.hid (by rw [HV.out, ← HX.out]; rfl)⟩
        case measure => simp [intOf]; omega
      · have hkm : k = (p + n + 7) / 8 - p / 8 := by omega
        have HVV : Hid (V = bev bs (p / 8) ((p + n + 7) / 8 - p / 8)) := Lib.hid (by rw [← hkm]; exact HV.out)
        clear hkm
        obtain ⟨r, hr⟩ : ∃ r : Nat, (8 - (p + n) % 8) % 8 = r := ⟨_, rfl⟩
        have hr1 : -(((p : Int) + n) % 8) % 8 = (r : Int) := by omega
        have hr2 : r ≤ 7 := by omega
        have hpw := pow_int n hn
        have hGV : Hid (getV bs p n false = V / 2 ^ r % 2 ^ n) := Lib.hid (by
          rw [HVV.out, num_cut bs hm.lt (p / 8) ((p + n + 7) / 8 - p / 8) p n r (by omega) (by omega)]; rfl)
        have hand := and64_mask ((V : Int) / 2 ^ r) n (by omega) _ rfl
        obtain ⟨G, hG⟩ : ∃ G : Nat, V / 2 ^ r % 2 ^ n = G := ⟨_, rfl⟩
        have hGi : ((V : Int) / 2 ^ r) % (2 ^ n : Int) = (G : Int) := by rw [← hG]; simp
        rw [hGi] at hand
        have HG := Lib.hid hG
        clear hG hGi hr
        obtain ⟨P, hP⟩ : ∃ P : Int, (2 : Int) ^ n = P := ⟨_, rfl⟩
        rw [hP] at hand hpw
        have hw1 : IntKind.i64.wrap P = P := IntWalk.i64_in _ (by omega)
        have hw2 : IntKind.i64.wrap (P - 1) = P - 1 := IntWalk.i64_in _ (by omega)
        go_wp2
        go_quiet (fail)
        go_wp2
        go_ret2
        exact ⟨ret_two (by rw [hGV.out, HG.out]), below_drewN (Below.refl _ _) _⟩
  · have hb := hm.part (p / 8) ((p + n + 7) / 8 - p / 8) (by rw [HL.out]; omega)
    generalize hA1 : Option.map (fun x => x.add (p / 8)) A = A1 at hb ⊢
    clear hA1
    have hlm : ((bs.drop (p / 8)).take ((p + n + 7) / 8 - p / 8)).length = (p + n + 7) / 8 - p / 8 := by simp; rw [HL.out]; omega
    have HLM := Lib.hid hlm
    have hm7 : (p + n + 7) / 8 - p / 8 ≤ 7 := by omega
    clear hlm
    go_loop [12, 35] (fun v i => ∃ k V : Nat, k ≤ (p + n + 7) / 8 - p / 8 ∧ i = .int .i64 k ∧ v = .int .i64 V ∧ V < 256 ^ k ∧ Hid (V = bev bs (p / 8) k)) (fun _ i => 7 - (intOf i).toNat)
    case atStart => exact ⟨0, 0, Nat.zero_le _, rfl, rfl, by decide, Lib.hid rfl⟩
    case round =>
      obtain ⟨k, V, hk, rfl, rfl, hV, HV⟩ := hrel
      by_cases hlt : k < (p + n + 7) / 8 - p / 8
      · obtain ⟨b, o, rfl, hbb, hcc⟩ := hb.cells (by rw [HLM.out]; omega)
        have hck := hcc k (by rw [HLM.out]; exact hlt)
        rw [at8_part _ _ _ hlt] at hck
        have hx := at8_lt hm.lt (p / 8 + k)
        obtain ⟨x, hX⟩ : ∃ x, at8 bs (p / 8 + k) = x := ⟨_, rfl⟩
        rw [hX] at hck hx
        have HX := Lib.hid hX
        clear hX hcc
        have hp6 : 256 ^ k ≤ 256 ^ 6 := Nat.pow_le_pow_right (by decide) (by omega)
        have hV2 : V < 281474976710656 := Nat.lt_of_lt_of_le hV hp6
        have HO3 : Hid (V * 256 + x < 256 ^ (k + 1)) := Lib.hid (by rw [Nat.pow_succ]; omega)
        clear hp6 hV
        have hj := or64_join ((V : Int) * 256) x 8 (by omega) (by omega) (by omega) (by omega) (by omega)
        go_wp2
        go_round
        case rel => exact ⟨k + 1, V * 256 + x, by omega, by go_num, by go_num, HO3.out, Lib.hid (by rw [HV.out, ← HX.out]; rfl)⟩
        case measure => simp [intOf]; omega
      · have hkm : k = (p + n + 7) / 8 - p / 8 := by omega
        have HVV : Hid (V = bev bs (p / 8) ((p + n + 7) / 8 - p / 8)) := Lib.hid (by rw [← hkm]; exact HV.out)
        clear hkm
        obtain ⟨r, hr⟩ : ∃ r : Nat, (8 - (p + n) % 8) % 8 = r := ⟨_, rfl⟩
        have hr1 : -(((p : Int) + n) % 8) % 8 = (r : Int) := by omega
        have hr2 : r ≤ 7 := by omega
        have hpw := pow_int n hn
        have hGV : Hid (getV bs p n false = V / 2 ^ r % 2 ^ n) := Lib.hid (by
          rw [HVV.out, num_cut bs hm.lt (p / 8) ((p + n + 7) / 8 - p / 8) p n r (by omega) (by omega)]; rfl)
        have hand := and64_mask ((V : Int) / 2 ^ r) n (by omega) _ rfl
        obtain ⟨G, hG⟩ : ∃ G : Nat, V / 2 ^ r % 2 ^ n = G := ⟨_, rfl⟩
        have hGi : ((V : Int) / 2 ^ r) % (2 ^ n : Int) = (G : Int) := by rw [← hG]; simp
        rw [hGi] at hand
        have HG := Lib.hid hG
        clear hG hGi hr
        obtain ⟨P, hP⟩ : ∃ P : Int, (2 : Int) ^ n = P := ⟨_, rfl⟩
        rw [hP] at hand hpw
        have hw1 : IntKind.i64.wrap P = P := IntWalk.i64_in _ (by omega)
        have hw2 : IntKind.i64.wrap (P - 1) = P - 1 := IntWalk.i64_in _ (by omega)
        go_wp2
        go_quiet (fail)
        go_wp2
        go_ret2
        exact ⟨ret_two (by rw [hGV.out, HG.out]), below_drewN (Below.refl _ _) _⟩
end Go.Proofs.Ytghdilmlfficlaa.S1P
