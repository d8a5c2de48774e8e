/- The contracts of the polynomial check: the program's, by its table, and the reference's, bit by bit. -/
import Derived.Test.YtbgkkaecpmgnoaaDoorCrcMath
namespace Go.Proofs.YtbgkkaecpmgnoaaDoor
open Go.RowKit
variable {w : World} {B c : Nat} {A : Option Addr} {bs : List Nat}

/-- The table's variable holds the table. -/
def Tab (w : World) : Prop := ∀ j, j < 16 → w.cell? ⟨0, j, none⟩ = some (.int .u32 (crcT j : Nat))

theorem not32 (c : Nat) (h : c < 4294967296) : bits .xor .u32 4294967295 (c : Int) = ((4294967295 - c : Nat) : Int) := by
  have e := u32_xor_nat 4294967295 c (by decide) h
  rw [show (4294967295 : Int) = ((4294967295 : Nat) : Int) from rfl, e]
  have hx : 4294967295 ^^^ c = 2 ^ 32 - 1 - c := by
    have h3 : 4294967295 ^^^ c = (~~~ (BitVec.ofNat 32 c)).toNat := by
      have : BitVec.allOnes 32 ^^^ BitVec.ofNat 32 c = ~~~ (BitVec.ofNat 32 c) := by rw [BitVec.allOnes_xor]
      rw [← this, BitVec.toNat_xor, BitVec.toNat_ofNat, Nat.mod_eq_of_lt (by omega)]
      rfl
    rw [h3, BitVec.toNat_not, BitVec.toNat_ofNat, Nat.mod_eq_of_lt (by omega)]
  rw [hx]

set_option maxHeartbeats 1000000 in
theorem crc_any (hT : Tab w) (hm : Byt w B A bs) (hl : bs.length ≤ 20000) :
    Calls Tryd.prog 24 #[.slice A bs.length c] w fun e w' => e = .returned (.int .i64 (crcV bs : Nat)) ∧ w = w' := by
  obtain ⟨n, hn⟩ : ∃ n, bs.length = n := ⟨_, rfl⟩
  have HN := Lib.hid hn
  rw [hn] at hl ⊢
  clear hn
  have HT := Lib.hid hT
  clear hT
  go_enter Tryd.func24, Tryd.ntmps24
  go_wp2
  go_loop [3, 8] (fun s i => ∃ k S : Nat, k ≤ n ∧ i = .int .i64 k ∧ s = .int .u32 S ∧ S < 4294967296 ∧ Hid (S = crcS bs k)) (fun _ i => n - (intOf i).toNat)
  case atStart => exact ⟨0, 4294967295, Nat.zero_le _, rfl, rfl, by omega, Lib.hid rfl⟩
  case round =>
    obtain ⟨k, S, hk, rfl, rfl, hS, HS⟩ := hrel
    by_cases hlt : k < n
    · obtain ⟨b, o, rfl, hb, hc⟩ := hm.cells (by rw [HN.out]; omega)
      have hck := hc k (by rw [HN.out]; exact hlt)
      have hx := at8_lt hm.lt k
      obtain ⟨x, hX⟩ : ∃ x, at8 bs k = x := ⟨_, rfl⟩
      rw [hX] at hck hx
      have HX := Lib.hid hX
      clear hX hc
      have e1 := u32_xor_nat S x hS (by omega)
      have l1 := xor_lt32 hS (show x < 4294967296 by omega)
      obtain ⟨c1, hc1⟩ : ∃ c1, S ^^^ x = c1 := ⟨_, rfl⟩
      rw [hc1] at e1 l1
      have HC1 := Lib.hid hc1; clear hc1
      have a1 := u32_and_nat c1 15 l1 (by decide)
      rw [nat_mask4] at a1
      obtain ⟨j1, hj1⟩ : ∃ j1, c1 % 16 = j1 := ⟨_, rfl⟩
      have lj1 : j1 < 16 := by omega
      rw [hj1] at a1
      have HJ1 := Lib.hid hj1; clear hj1
      have t1 := HT.out j1 lj1
      have lt1 := crcT_lt j1
      obtain ⟨T1, hT1⟩ : ∃ T1, crcT j1 = T1 := ⟨_, rfl⟩
      rw [hT1] at t1 lt1
      have HT1 := Lib.hid hT1; clear hT1
      have e2 := u32_xor_nat (c1 / 16) T1 (by omega) lt1
      have l2 := xor_lt32 (show c1 / 16 < 4294967296 by omega) lt1
      obtain ⟨c2, hc2⟩ : ∃ c2, c1 / 16 ^^^ T1 = c2 := ⟨_, rfl⟩
      rw [hc2] at e2 l2
      have HC2 := Lib.hid hc2; clear hc2
      rw [show ((c1 / 16 : Nat) : Int) = (c1 : Int) / 16 by omega] at e2
      have a2 := u32_and_nat c2 15 l2 (by decide)
      rw [nat_mask4] at a2
      obtain ⟨j2, hj2⟩ : ∃ j2, c2 % 16 = j2 := ⟨_, rfl⟩
      have lj2 : j2 < 16 := by omega
      rw [hj2] at a2
      have HJ2 := Lib.hid hj2; clear hj2
      have t2 := HT.out j2 lj2
      have lt2 := crcT_lt j2
      obtain ⟨T2, hT2⟩ : ∃ T2, crcT j2 = T2 := ⟨_, rfl⟩
      rw [hT2] at t2 lt2
      have HT2 := Lib.hid hT2; clear hT2
      have e3 := u32_xor_nat (c2 / 16) T2 (by omega) lt2
      have l3 := xor_lt32 (show c2 / 16 < 4294967296 by omega) lt2
      obtain ⟨c3, hc3⟩ : ∃ c3, c2 / 16 ^^^ T2 = c3 := ⟨_, rfl⟩
      rw [hc3] at e3 l3
      have HC3 := Lib.hid hc3; clear hc3
      rw [show ((c2 / 16 : Nat) : Int) = (c2 : Int) / 16 by omega] at e3
      rw [show ((15 : Nat) : Int) = 15 from rfl] at a1 a2
      have HR : Hid (c3 = crcS bs (k + 1)) := Lib.hid (by
        show c3 = crcB (crcS bs k) (at8 bs k)
        unfold crcB
        rw [← HS.out, HX.out, HC1.out, HJ1.out, HT1.out, HC2.out, HJ2.out, HT2.out, HC3.out])
      go_wp2
      go_round
      case rel => exact ⟨k + 1, c3, by omega, by go_num, rfl, l3, HR⟩
      case measure => simp [intOf]; omega
    · have hkn : k = n := by omega
      have HS2 : Hid (crcV bs = 4294967295 - S) := by
        unfold crcV; rw [HN.out, ← hkn, ← HS.out]; exact Lib.hid rfl
      have hnot : bits .xor .u32 IntKind.u32.max (S : Int) = ((4294967295 - S : Nat) : Int) := by rw [show IntKind.u32.max = 4294967295 by decide]; exact not32 S hS
      obtain ⟨U, hU⟩ : ∃ U, 4294967295 - S = U := ⟨_, rfl⟩
      have hU2 : U ≤ 4294967295 := by omega
      rw [hU] at hnot
      have HU := Lib.hid hU; clear hU
      go_wp2
      go_ret
      exact ⟨ret_int (by rw [HS2.out, HU.out]; exact IntWalk.wrap64_in _ ⟨by omega, by omega⟩), rfl⟩

set_option maxHeartbeats 2000000 in
theorem rcrc_any (hm : Byt w B A bs) (hl : bs.length ≤ 20000) :
    Calls Tryd.prog 25 #[.slice A bs.length c] w fun e w' => e = .returned (.int .i64 (crcV bs : Nat)) ∧ w = w' := by
  obtain ⟨n, hn⟩ : ∃ n, bs.length = n := ⟨_, rfl⟩
  have HN := Lib.hid hn
  rw [hn] at hl ⊢
  clear hn
  go_enter Tryd.func25, Tryd.ntmps25
  go_wp2
  go_loop [3, 4] (fun s i => ∃ k S : Nat, k ≤ n ∧ i = .int .i64 k ∧ s = .int .i64 S ∧ S < 4294967296 ∧ Hid (S = crcS bs k)) (fun _ i => n - (intOf i).toNat)
  case atStart => exact ⟨0, 4294967295, Nat.zero_le _, rfl, rfl, by omega, Lib.hid rfl⟩
  case round =>
    obtain ⟨k, S, hk, rfl, rfl, hS, HS⟩ := hrel
    by_cases hlt : k < n
    · obtain ⟨b, o, rfl, hb, hc⟩ := hm.cells (by rw [HN.out]; omega)
      have hck := hc k (by rw [HN.out]; exact hlt)
      have hx := at8_lt hm.lt k
      obtain ⟨x, hX⟩ : ∃ x, at8 bs k = x := ⟨_, rfl⟩
      rw [hX] at hck hx
      have HX := Lib.hid hX
      clear hX hc
      go_wp2
      go_loop [3, 5] (fun s j => ∃ q R : Nat, q ≤ 8 ∧ j = .int .i64 q ∧ s = .int .i64 R ∧ R < 4294967296 ∧ Hid (R = bitsIn x S q)) (fun _ j => 8 - (intOf j).toNat)
      case atStart => exact ⟨0, S, Nat.zero_le _, rfl, rfl, hS, Lib.hid rfl⟩
      case round =>
        obtain ⟨q, R, hq, rfl, rfl, hR, HR⟩ := hrel
        by_cases hq8 : q < 8
        · have hyle : x / 2 ^ q ≤ x := Nat.div_le_self _ _
          have hyc : ((x : Int) / 2 ^ q) = ((x / 2 ^ q : Nat) : Int) := by simp
          obtain ⟨y, hy⟩ : ∃ y, x / 2 ^ q = y := ⟨_, rfl⟩
          rw [hy] at hyc hyle
          have HY := Lib.hid hy; clear hy
          have e1 := xor64_nat R y (by omega) (by omega)
          have l1 := xor_lt32 hR (show y < 4294967296 by omega)
          obtain ⟨z, hz⟩ : ∃ z, R ^^^ y = z := ⟨_, rfl⟩
          rw [hz] at e1 l1
          have HZ := Lib.hid hz; clear hz
          have e2 := xor64_nat (R / 2) 3988292384 (by omega) (by decide)
          have l2 := xor_lt32 (show R / 2 < 4294967296 by omega) (show 3988292384 < 4294967296 by decide)
          obtain ⟨u, hu⟩ : ∃ u, R / 2 ^^^ 3988292384 = u := ⟨_, rfl⟩
          rw [hu] at e2 l2
          have HU := Lib.hid hu; clear hu
          rw [show ((R / 2 : Nat) : Int) = (R : Int) / 2 by omega, show ((3988292384 : Nat) : Int) = 3988292384 from rfl] at e2
          by_cases hz1 : z % 2 = 1
          · have HRR : Hid (u = bitsIn x S (q + 1)) := Lib.hid (by
              show u = bitStep (bitsIn x S q) (x / 2 ^ q)
              unfold bitStep
              rw [← HR.out, HY.out, HZ.out, if_pos hz1, HU.out])
            go_wp2
            go_round
            case rel => exact ⟨q + 1, u, by omega, by go_num, rfl, l2, HRR⟩
            case measure => simp [intOf]; omega
          · have HRR : Hid (R / 2 = bitsIn x S (q + 1)) := Lib.hid (by
              show R / 2 = bitStep (bitsIn x S q) (x / 2 ^ q)
              unfold bitStep
              rw [← HR.out, HY.out, HZ.out, if_neg hz1, Nat.xor_zero])
            go_wp2
            go_round
            case rel => exact ⟨q + 1, R / 2, by omega, by go_num, by go_num, by omega, HRR⟩
            case measure => simp [intOf]; omega
        · have hq' : q = 8 := by omega
          have HRR : Hid (R = crcS bs (k + 1)) := Lib.hid (by
            show R = crcB (crcS bs k) (at8 bs k)
            rw [← HS.out, HX.out, ← bits_crcB x S hx, ← hq']; exact HR.out)
          clear hq'
          go_wp2
          go_round
          case rel => exact ⟨k + 1, R, by omega, by go_num, rfl, hR, HRR⟩
          case measure => simp [intOf]; omega
    · have hkn : k = n := by omega
      have HS2 : Hid (crcV bs = 4294967295 - S) := by
        unfold crcV; rw [HN.out, ← hkn, ← HS.out]; exact Lib.hid rfl
      go_wp2
      go_ret
      exact ⟨ret_int (by rw [HS2.out]; omega), rfl⟩
end Go.Proofs.YtbgkkaecpmgnoaaDoor
