/- Get: the program's contract. -/
import Derived.Test.YtghdilmlfficlaaS1GetMath
import Derived.BigQuiet
import Derived.Deep.QuietTactic
namespace Go.Proofs.Ytghdilmlfficlaa.S1
open Go.RowKit
variable {w : World} {B c : Nat} {A : Option Addr} {bs : List Nat}

/-- A part of a slice of bytes, wherever the walk lays it. -/
theorem Byt.part (hm : Byt w B A bs) (q m : Nat) (h : q + m ≤ bs.length) : Byt w B (Option.map (fun x => x.add q) A) ((bs.drop q).take m) := by
  refine ⟨drop_take_lt hm.lt q m, fun hn => ?_⟩
  have hl : ((bs.drop q).take m).length = m := by simp; omega
  obtain ⟨b, o, rfl, hb, hc⟩ := hm.cells (by omega)
  by_cases hq : q = 0
  · subst hq
    refine ⟨b, o, by simp [Addr.add], hb, fun k hk => ?_⟩
    rw [hl] at hk
    rw [hc k (by omega)]
    simp [at8, hk]
  · refine ⟨b, o + q, by simp [Addr.add, hq], hb, fun k hk => ?_⟩
    rw [hl] at hk
    rw [show o + q + k = o + (q + k) by omega, hc (q + k) (by omega)]
    simp [at8, hk]
theorem at8_part (q m k : Nat) (h : k < m) : at8 ((bs.drop q).take m) k = at8 bs (q + k) := by simp [at8, h]

theorem ret_two {a b c : Int} (h : a = b) : Ending.returned (.tuple #[.int .i64 a, .int .i64 c]) = .returned (.tuple #[.int .i64 b, .int .i64 c]) := by rw [h]
/-- What Get gives. -/
def getV (bs : List Nat) (p n : Nat) (low : Bool) : Nat := if low then num ((bs.drop (p / 8)).take (n / 8)).reverse 0 n else num bs p n

set_option maxHeartbeats 1000000 in
theorem get_err (p n : Int) (low : Bool) (hL : bs.length ≤ 20000) (he : (spanE bs.length p n low == 0) = false) :
    Calls Try.prog 158 #[.slice A bs.length c, .int .i64 p, .int .i64 n, .bool low] w fun e w' => e = .returned (.tuple #[.int .i64 0, .int .i64 (spanE bs.length p n low)]) ∧ w = w' := by
  obtain ⟨E, hE⟩ : ∃ E, spanE bs.length p n low = E := ⟨_, rfl⟩
  have he2 : (E != 0) = true := by rw [← hE]; simpa [bne] using he
  have HE := Lib.hid hE
  rw [hE] at he ⊢
  clear hE
  go_enter Try.func158, Try.ntmps158
  go_wp2_with (go_at_call 175; refine (span_any A bs.length c p n low _ hL).mono ?_; rw [HE.out]; rintro e w' ⟨rfl, rfl⟩)
  go_ret2
  exact ⟨rfl, rfl⟩

set_option maxHeartbeats 1000000 in
theorem get_hi (hm : Byt w B A bs) (p n : Nat) (hL : bs.length ≤ 20000) (hc : bs.length ≤ c) (hn : n ≤ 48) (hp : p + n ≤ 8 * bs.length) :
    Calls Try.prog 158 #[.slice A bs.length c, .int .i64 p, .int .i64 n, .bool false] w fun e w' => e = .returned (.tuple #[.int .i64 (getV bs p n false : Nat), .int .i64 0]) ∧ Below w.heap.size w w' := by
  have HE : Hid (spanE bs.length p n false = 0) := Lib.hid (by unfold spanE; rw [if_neg (by omega), if_neg (by simp), if_neg (by omega)])
  obtain ⟨L, hL0⟩ : ∃ L, bs.length = L := ⟨_, rfl⟩
  have HL := Lib.hid hL0
  rw [hL0] at hL hc hp ⊢
  clear hL0
  go_enter Try.func158, Try.ntmps158
  go_wp2_with (go_at_call 175; refine (span_any A L c p n false _ hL).mono ?_; rw [← HL.out, HE.out]; rintro e w' ⟨rfl, rfl⟩)
  · have hb : Byt w B A ((bs.drop (p / 8)).take ((p + n + 7) / 8 - p / 8)) := by
      rw [show (p + n + 7) / 8 - p / 8 = 0 by omega]; exact Byt.nil _ _ _
    generalize hA1 : A = A1 at hb ⊢
    clear hA1
    have hlm : ((bs.drop (p / 8)).take ((p + n + 7) / 8 - p / 8)).length = (p + n + 7) / 8 - p / 8 := by simp; rw [HL.out]; omega
    have HLM := Lib.hid hlm
    have hm7 : (p + n + 7) / 8 - p / 8 ≤ 7 := by omega
    clear hlm
    go_loop [12, 35] (fun v i => ∃ k V : Nat, k ≤ (p + n + 7) / 8 - p / 8 ∧ i = .int .i64 k ∧ v = .int .i64 V ∧ V < 256 ^ k ∧ Hid (V = bev bs (p / 8) k)) (fun _ i => 7 - (intOf i).toNat)
    case atStart => exact ⟨0, 0, Nat.zero_le _, rfl, rfl, by decide, Lib.hid rfl⟩
    case round =>
      obtain ⟨k, V, hk, rfl, rfl, hV, HV⟩ := hrel
      by_cases hlt : k < (p + n + 7) / 8 - p / 8
      · obtain ⟨b, o, rfl, hbb, hcc⟩ := hb.cells (by rw [HLM.out]; omega)
        have hck := hcc k (by rw [HLM.out]; exact hlt)
        rw [at8_part _ _ _ hlt] at hck
        have hx := at8_lt hm.lt (p / 8 + k)
        obtain ⟨x, hX⟩ : ∃ x, at8 bs (p / 8 + k) = x := ⟨_, rfl⟩
        rw [hX] at hck hx
        have HX := Lib.hid hX
        clear hX hcc
        have hp6 : 256 ^ k ≤ 256 ^ 6 := Nat.pow_le_pow_right (by decide) (by omega)
        have hV2 : V < 281474976710656 := Nat.lt_of_lt_of_le hV hp6
        have HO3 : Hid (V * 256 + x < 256 ^ (k + 1)) := Lib.hid (by rw [Nat.pow_succ]; omega)
        clear hp6 hV
        have hj := or64_join ((V : Int) * 256) x 8 (by omega) (by omega) (by omega) (by omega) (by omega)
        go_wp2
        go_round
        case rel => exact ⟨k + 1, V * 256 + x, by omega, by go_num, by go_num, HO3.out, Lib.hid (by rw [HV.out, ← HX.out]; rfl)⟩
        case measure => simp [intOf]; omega
      · have hkm : k = (p + n + 7) / 8 - p / 8 := by omega
        have HVV : Hid (V = bev bs (p / 8) ((p + n + 7) / 8 - p / 8)) := Lib.hid (by rw [← hkm]; exact HV.out)
        clear hkm
        obtain ⟨r, hr⟩ : ∃ r : Nat, (8 - (p + n) % 8) % 8 = r := ⟨_, rfl⟩
        have hr1 : -(((p : Int) + n) % 8) % 8 = (r : Int) := by omega
        have hr2 : r ≤ 7 := by omega
        have hpw := pow_int n hn
        have hGV : Hid (getV bs p n false = V / 2 ^ r % 2 ^ n) := Lib.hid (by
          rw [HVV.out, num_cut bs hm.lt (p / 8) ((p + n + 7) / 8 - p / 8) p n r (by omega) (by omega)]; rfl)
        have hand := and64_mask ((V : Int) / 2 ^ r) n (by omega) _ rfl
        obtain ⟨G, hG⟩ : ∃ G : Nat, V / 2 ^ r % 2 ^ n = G := ⟨_, rfl⟩
        have hGi : ((V : Int) / 2 ^ r) % (2 ^ n : Int) = (G : Int) := by rw [← hG]; simp
        rw [hGi] at hand
        have HG := Lib.hid hG
        clear hG hGi hr
        obtain ⟨P, hP⟩ : ∃ P : Int, (2 : Int) ^ n = P := ⟨_, rfl⟩
        rw [hP] at hand hpw
        have hw1 : IntKind.i64.wrap P = P := IntWalk.i64_in _ (by omega)
        have hw2 : IntKind.i64.wrap (P - 1) = P - 1 := IntWalk.i64_in _ (by omega)
        go_wp2
        go_quiet (fail)
        go_wp2
        go_ret2
        exact ⟨ret_two (by rw [hGV.out, HG.out]), below_drewN (Below.refl _ _) _⟩
  · have hb := hm.part (p / 8) ((p + n + 7) / 8 - p / 8) (by rw [HL.out]; omega)
    generalize hA1 : Option.map (fun x => x.add (p / 8)) A = A1 at hb ⊢
    clear hA1
    have hlm : ((bs.drop (p / 8)).take ((p + n + 7) / 8 - p / 8)).length = (p + n + 7) / 8 - p / 8 := by simp; rw [HL.out]; omega
    have HLM := Lib.hid hlm
    have hm7 : (p + n + 7) / 8 - p / 8 ≤ 7 := by omega
    clear hlm
    go_loop [12, 35] (fun v i => ∃ k V : Nat, k ≤ (p + n + 7) / 8 - p / 8 ∧ i = .int .i64 k ∧ v = .int .i64 V ∧ V < 256 ^ k ∧ Hid (V = bev bs (p / 8) k)) (fun _ i => 7 - (intOf i).toNat)
    case atStart => exact ⟨0, 0, Nat.zero_le _, rfl, rfl, by decide, Lib.hid rfl⟩
    case round =>
      obtain ⟨k, V, hk, rfl, rfl, hV, HV⟩ := hrel
      by_cases hlt : k < (p + n + 7) / 8 - p / 8
      · obtain ⟨b, o, rfl, hbb, hcc⟩ := hb.cells (by rw [HLM.out]; omega)
        have hck := hcc k (by rw [HLM.out]; exact hlt)
        rw [at8_part _ _ _ hlt] at hck
        have hx := at8_lt hm.lt (p / 8 + k)
        obtain ⟨x, hX⟩ : ∃ x, at8 bs (p / 8 + k) = x := ⟨_, rfl⟩
        rw [hX] at hck hx
        have HX := Lib.hid hX
        clear hX hcc
        have hp6 : 256 ^ k ≤ 256 ^ 6 := Nat.pow_le_pow_right (by decide) (by omega)
        have hV2 : V < 281474976710656 := Nat.lt_of_lt_of_le hV hp6
        have HO3 : Hid (V * 256 + x < 256 ^ (k + 1)) := Lib.hid (by rw [Nat.pow_succ]; omega)
        clear hp6 hV
        have hj := or64_join ((V : Int) * 256) x 8 (by omega) (by omega) (by omega) (by omega) (by omega)
        go_wp2
        go_round
        case rel => exact ⟨k + 1, V * 256 + x, by omega, by go_num, by go_num, HO3.out, Lib.hid (by rw [HV.out, ← HX.out]; rfl)⟩
        case measure => simp [intOf]; omega
      · have hkm : k = (p + n + 7) / 8 - p / 8 := by omega
        have HVV : Hid (V = bev bs (p / 8) ((p + n + 7) / 8 - p / 8)) := Lib.hid (by rw [← hkm]; exact HV.out)
        clear hkm
        obtain ⟨r, hr⟩ : ∃ r : Nat, (8 - (p + n) % 8) % 8 = r := ⟨_, rfl⟩
        have hr1 : -(((p : Int) + n) % 8) % 8 = (r : Int) := by omega
        have hr2 : r ≤ 7 := by omega
        have hpw := pow_int n hn
        have hGV : Hid (getV bs p n false = V / 2 ^ r % 2 ^ n) := Lib.hid (by
          rw [HVV.out, num_cut bs hm.lt (p / 8) ((p + n + 7) / 8 - p / 8) p n r (by omega) (by omega)]; rfl)
        have hand := and64_mask ((V : Int) / 2 ^ r) n (by omega) _ rfl
        obtain ⟨G, hG⟩ : ∃ G : Nat, V / 2 ^ r % 2 ^ n = G := ⟨_, rfl⟩
        have hGi : ((V : Int) / 2 ^ r) % (2 ^ n : Int) = (G : Int) := by rw [← hG]; simp
        rw [hGi] at hand
        have HG := Lib.hid hG
        clear hG hGi hr
        obtain ⟨P, hP⟩ : ∃ P : Int, (2 : Int) ^ n = P := ⟨_, rfl⟩
        rw [hP] at hand hpw
        have hw1 : IntKind.i64.wrap P = P := IntWalk.i64_in _ (by omega)
        have hw2 : IntKind.i64.wrap (P - 1) = P - 1 := IntWalk.i64_in _ (by omega)
        go_wp2
        go_quiet (fail)
        go_wp2
        go_ret2
        exact ⟨ret_two (by rw [hGV.out, HG.out]), below_drewN (Below.refl _ _) _⟩
theorem turn_any' (v n m : Nat) (w : World) (hn : n = 8 * m) (hm : m ≤ 6) (hv : v ≤ 9223372036854775807) :
    Calls Try.prog 176 #[.int .i64 v, .int .i64 n] w fun e w' => e = .returned (.int .i64 (trn m v 0 : Nat)) ∧ w = w' := by
  subst hn; exact turn_any v m w hm hv

set_option maxHeartbeats 1000000 in
theorem get_lo (hm : Byt w B A bs) (p n : Nat) (hL : bs.length ≤ 20000) (hc : bs.length ≤ c) (hn : n ≤ 48) (hp : p + n ≤ 8 * bs.length) (hp8 : p % 8 = 0) (hn8 : n % 8 = 0) :
    Calls Try.prog 158 #[.slice A bs.length c, .int .i64 p, .int .i64 n, .bool true] w fun e w' => e = .returned (.tuple #[.int .i64 (getV bs p n true : Nat), .int .i64 0]) ∧ Below w.heap.size w w' := by
  have HE : Hid (spanE bs.length p n true = 0) := Lib.hid (by unfold spanE; rw [if_neg (by omega), if_neg (by omega), if_neg (by omega)])
  obtain ⟨L, hL0⟩ : ∃ L, bs.length = L := ⟨_, rfl⟩
  have HL := Lib.hid hL0
  rw [hL0] at hL hc hp ⊢
  clear hL0
  go_enter Try.func158, Try.ntmps158
  go_wp2_with (go_at_call 175; refine (span_any A L c p n true _ hL).mono ?_; rw [← HL.out, HE.out]; rintro e w' ⟨rfl, rfl⟩)
  · have hb : Byt w B A ((bs.drop (p / 8)).take ((p + n + 7) / 8 - p / 8)) := by
      rw [show (p + n + 7) / 8 - p / 8 = 0 by omega]; exact Byt.nil _ _ _
    generalize hA1 : A = A1 at hb ⊢
    clear hA1
    have hlm : ((bs.drop (p / 8)).take ((p + n + 7) / 8 - p / 8)).length = (p + n + 7) / 8 - p / 8 := by simp; rw [HL.out]; omega
    have HLM := Lib.hid hlm
    have hm7 : (p + n + 7) / 8 - p / 8 ≤ 7 := by omega
    clear hlm
    go_loop [12, 35] (fun v i => ∃ k V : Nat, k ≤ (p + n + 7) / 8 - p / 8 ∧ i = .int .i64 k ∧ v = .int .i64 V ∧ V < 256 ^ k ∧ Hid (V = bev bs (p / 8) k)) (fun _ i => 7 - (intOf i).toNat)
    case atStart => exact ⟨0, 0, Nat.zero_le _, rfl, rfl, by decide, Lib.hid rfl⟩
    case round =>
      obtain ⟨k, V, hk, rfl, rfl, hV, HV⟩ := hrel
      by_cases hlt : k < (p + n + 7) / 8 - p / 8
      · obtain ⟨b, o, rfl, hbb, hcc⟩ := hb.cells (by rw [HLM.out]; omega)
        have hck := hcc k (by rw [HLM.out]; exact hlt)
        rw [at8_part _ _ _ hlt] at hck
        have hx := at8_lt hm.lt (p / 8 + k)
        obtain ⟨x, hX⟩ : ∃ x, at8 bs (p / 8 + k) = x := ⟨_, rfl⟩
        rw [hX] at hck hx
        have HX := Lib.hid hX
        clear hX hcc
        have hp6 : 256 ^ k ≤ 256 ^ 6 := Nat.pow_le_pow_right (by decide) (by omega)
        have hV2 : V < 281474976710656 := Nat.lt_of_lt_of_le hV hp6
        have HO3 : Hid (V * 256 + x < 256 ^ (k + 1)) := Lib.hid (by rw [Nat.pow_succ]; omega)
        clear hp6 hV
        have hj := or64_join ((V : Int) * 256) x 8 (by omega) (by omega) (by omega) (by omega) (by omega)
        go_wp2
        go_round
        case rel => exact ⟨k + 1, V * 256 + x, by omega, by go_num, by go_num, HO3.out, Lib.hid (by rw [HV.out, ← HX.out]; rfl)⟩
        case measure => simp [intOf]; omega
      · have hkm : k = (p + n + 7) / 8 - p / 8 := by omega
        have HVV : Hid (V = bev bs (p / 8) ((p + n + 7) / 8 - p / 8)) := Lib.hid (by rw [← hkm]; exact HV.out)
        clear hkm
        obtain ⟨r, hr⟩ : ∃ r : Nat, (8 - (p + n) % 8) % 8 = r := ⟨_, rfl⟩
        have hr1 : -(((p : Int) + n) % 8) % 8 = (r : Int) := by omega
        have hr2 : r ≤ 7 := by omega
        have hpw := pow_int n hn
        have hGV : Hid (trn (n / 8) (V / 2 ^ r % 2 ^ n) 0 = getV bs p n true) := Lib.hid (by
          have h1 := num_cut bs hm.lt (p / 8) ((p + n + 7) / 8 - p / 8) p n r (by omega) (by omega)
          rw [HVV.out, h1]
          have h2 := low_num bs hm.lt (p / 8) (n / 8) (by rw [HL.out]; omega)
          rw [show 8 * (n / 8) = n by omega, bev_num bs hm.lt, show 8 * (p / 8) = p by omega, show 8 * (n / 8) = n by omega] at h2
          rw [h2]; rfl)
        have hGle : V / 2 ^ r % 2 ^ n ≤ 281474976710656 := Nat.le_of_lt (Nat.lt_of_lt_of_le (Nat.mod_lt _ (Nat.two_pow_pos n)) (pow_nat n hn).2)
        have hand := and64_mask ((V : Int) / 2 ^ r) n (by omega) _ rfl
        obtain ⟨G, hG⟩ : ∃ G : Nat, V / 2 ^ r % 2 ^ n = G := ⟨_, rfl⟩
        have hGi : ((V : Int) / 2 ^ r) % (2 ^ n : Int) = (G : Int) := by rw [← hG]; simp
        rw [hGi] at hand
        rw [hG] at hGle
        have HG := Lib.hid hG
        clear hG hGi hr
        obtain ⟨P, hP⟩ : ∃ P : Int, (2 : Int) ^ n = P := ⟨_, rfl⟩
        rw [hP] at hand hpw
        have hw1 : IntKind.i64.wrap P = P := IntWalk.i64_in _ (by omega)
        have hw2 : IntKind.i64.wrap (P - 1) = P - 1 := IntWalk.i64_in _ (by omega)
        go_wp2
        go_quiet (fail)
        go_wp2_with fail
        refine (turn_any' G n (n / 8) _ (by omega) (by omega) (by omega)).mono ?_; rintro e w' ⟨rfl, rfl⟩
        go_wp2
        go_ret2
        exact ⟨ret_two (by rw [← hGV.out, HG.out]), below_drewN (Below.refl _ _) _⟩
  · have hb := hm.part (p / 8) ((p + n + 7) / 8 - p / 8) (by rw [HL.out]; omega)
    generalize hA1 : Option.map (fun x => x.add (p / 8)) A = A1 at hb ⊢
    clear hA1
    have hlm : ((bs.drop (p / 8)).take ((p + n + 7) / 8 - p / 8)).length = (p + n + 7) / 8 - p / 8 := by simp; rw [HL.out]; omega
    have HLM := Lib.hid hlm
    have hm7 : (p + n + 7) / 8 - p / 8 ≤ 7 := by omega
    clear hlm
    go_loop [12, 35] (fun v i => ∃ k V : Nat, k ≤ (p + n + 7) / 8 - p / 8 ∧ i = .int .i64 k ∧ v = .int .i64 V ∧ V < 256 ^ k ∧ Hid (V = bev bs (p / 8) k)) (fun _ i => 7 - (intOf i).toNat)
    case atStart => exact ⟨0, 0, Nat.zero_le _, rfl, rfl, by decide, Lib.hid rfl⟩
    case round =>
      obtain ⟨k, V, hk, rfl, rfl, hV, HV⟩ := hrel
      by_cases hlt : k < (p + n + 7) / 8 - p / 8
      · obtain ⟨b, o, rfl, hbb, hcc⟩ := hb.cells (by rw [HLM.out]; omega)
        have hck := hcc k (by rw [HLM.out]; exact hlt)
        rw [at8_part _ _ _ hlt] at hck
        have hx := at8_lt hm.lt (p / 8 + k)
        obtain ⟨x, hX⟩ : ∃ x, at8 bs (p / 8 + k) = x := ⟨_, rfl⟩
        rw [hX] at hck hx
        have HX := Lib.hid hX
        clear hX hcc
        have hp6 : 256 ^ k ≤ 256 ^ 6 := Nat.pow_le_pow_right (by decide) (by omega)
        have hV2 : V < 281474976710656 := Nat.lt_of_lt_of_le hV hp6
        have HO3 : Hid (V * 256 + x < 256 ^ (k + 1)) := Lib.hid (by rw [Nat.pow_succ]; omega)
        clear hp6 hV
        have hj := or64_join ((V : Int) * 256) x 8 (by omega) (by omega) (by omega) (by omega) (by omega)
        go_wp2
        go_round
        case rel => exact ⟨k + 1, V * 256 + x, by omega, by go_num, by go_num, HO3.out, Lib.hid (by rw [HV.out, ← HX.out]; rfl)⟩
        case measure => simp [intOf]; omega
      · have hkm : k = (p + n + 7) / 8 - p / 8 := by omega
        have HVV : Hid (V = bev bs (p / 8) ((p + n + 7) / 8 - p / 8)) := Lib.hid (by rw [← hkm]; exact HV.out)
        clear hkm
        obtain ⟨r, hr⟩ : ∃ r : Nat, (8 - (p + n) % 8) % 8 = r := ⟨_, rfl⟩
        have hr1 : -(((p : Int) + n) % 8) % 8 = (r : Int) := by omega
        have hr2 : r ≤ 7 := by omega
        have hpw := pow_int n hn
        have hGV : Hid (trn (n / 8) (V / 2 ^ r % 2 ^ n) 0 = getV bs p n true) := Lib.hid (by
          have h1 := num_cut bs hm.lt (p / 8) ((p + n + 7) / 8 - p / 8) p n r (by omega) (by omega)
          rw [HVV.out, h1]
          have h2 := low_num bs hm.lt (p / 8) (n / 8) (by rw [HL.out]; omega)
          rw [show 8 * (n / 8) = n by omega, bev_num bs hm.lt, show 8 * (p / 8) = p by omega, show 8 * (n / 8) = n by omega] at h2
          rw [h2]; rfl)
        have hGle : V / 2 ^ r % 2 ^ n ≤ 281474976710656 := Nat.le_of_lt (Nat.lt_of_lt_of_le (Nat.mod_lt _ (Nat.two_pow_pos n)) (pow_nat n hn).2)
        have hand := and64_mask ((V : Int) / 2 ^ r) n (by omega) _ rfl
        obtain ⟨G, hG⟩ : ∃ G : Nat, V / 2 ^ r % 2 ^ n = G := ⟨_, rfl⟩
        have hGi : ((V : Int) / 2 ^ r) % (2 ^ n : Int) = (G : Int) := by rw [← hG]; simp
        rw [hGi] at hand
        rw [hG] at hGle
        have HG := Lib.hid hG
        clear hG hGi hr
        obtain ⟨P, hP⟩ : ∃ P : Int, (2 : Int) ^ n = P := ⟨_, rfl⟩
        rw [hP] at hand hpw
        have hw1 : IntKind.i64.wrap P = P := IntWalk.i64_in _ (by omega)
        have hw2 : IntKind.i64.wrap (P - 1) = P - 1 := IntWalk.i64_in _ (by omega)
        go_wp2
        go_quiet (fail)
        go_wp2_with fail
        refine (turn_any' G n (n / 8) _ (by omega) (by omega) (by omega)).mono ?_; rintro e w' ⟨rfl, rfl⟩
        go_wp2
        go_ret2
        exact ⟨ret_two (by rw [← hGV.out, HG.out]), below_drewN (Below.refl _ _) _⟩
end Go.Proofs.Ytghdilmlfficlaa.S1
