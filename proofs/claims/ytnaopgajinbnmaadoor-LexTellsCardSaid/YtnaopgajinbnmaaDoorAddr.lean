/- Number, Address: the program's and the reference's. -/
import Derived.Test.YtnaopgajinbnmaaDoorLine
import Derived.Lib.AppendIntMem
import Derived.Lib.ItoaLen
import Derived.Lib.Join
namespace Go.Proofs.YtnaopgajinbnmaaDoor
open Go.RowKit

def numS (n : Int) : ByteArray := ⟨(Lib.itoa n).toArray⟩
theorem itoa_any (n : Int) (hn : -9223372036854775808 ≤ n ∧ n ≤ 9223372036854775807) {w : World} (hL : Laid w) :
    Calls Tryd.prog 32 #[.int .i64 n] w fun e w' => e = .returned (.string (numS n)) ∧ Below w.heap.size w w' := by
  refine (Tryd.strconv_Itoa n hn.1 hn.2 w hL.pow).mono ?_
  rintro e w' ⟨rfl, k, os, rfl⟩
  exact ⟨rfl, Lib.below_grow _ _ (Nat.le_refl _) _ _⟩
theorem number_any (n : Int) (hn : -9223372036854775808 ≤ n ∧ n ≤ 9223372036854775807) {w : World} (hL : Laid w) :
    Calls Tryd.prog 19 #[.int .i64 n] w fun e w' => e = .returned (.string (numS n)) ∧ Below w.heap.size w w' := by
  go_enter Tryd.func19, Tryd.ntmps19
  go_wp2_with (go_at_call 32; refine (itoa_any n hn hL).mono ?_; rintro e w' ⟨rfl, hb⟩)
  go_ret
  exact ⟨rfl, hb⟩
theorem rnumber_any (n : Int) (hn : -9223372036854775808 ≤ n ∧ n ≤ 9223372036854775807) {w : World} (hL : Laid w) :
    Calls Tryd.prog 20 #[.int .i64 n] w fun e w' => e = .returned (.string (numS n)) ∧ Below w.heap.size w w' := by
  go_enter Tryd.func20, Tryd.ntmps20
  go_wp2_with (go_at_call 32; refine (itoa_any n hn hL).mono ?_; rintro e w' ⟨rfl, hb⟩)
  go_ret
  exact ⟨rfl, hb⟩

/-- The address and the error. -/
def addrL (n : Nat) : List UInt8 := bl (numS (n / 16777216 : Nat)) ++ 46 :: (bl (numS (n / 65536 % 256 : Nat)) ++ 46 :: (bl (numS (n / 256 % 256 : Nat)) ++ 46 :: bl (numS (n % 256 : Nat))))
def addrR (n : Int) : List UInt8 × Int := if n < 0 ∨ 4294967296 ≤ n then ([], 1) else (addrL n.toNat, 0)
abbrev addrV (r : List UInt8 × Int) : Value := .tuple #[.string ⟨r.1.toArray⟩, .int .i64 r.2]

theorem numS_size (n : Int) (h0 : -9223372036854775808 ≤ n) (h1 : n ≤ 9223372036854775807) : (numS n).size ≤ 21 := by
  have := Lib.itoa_length_le n h0 h1
  rw [← bl_len]; exact this
theorem catS (S3 S2 S1 S0 : ByteArray) : S3 ++ ⟨#[46]⟩ ++ S2 ++ ⟨#[46]⟩ ++ S1 ++ ⟨#[46]⟩ ++ S0 = ⟨(bl S3 ++ 46 :: (bl S2 ++ 46 :: (bl S1 ++ 46 :: bl S0))).toArray⟩ := bl_ext (by
  unfold bl; simp)
theorem bl_append (a b : ByteArray) : bl (a ++ b) = bl a ++ bl b := by unfold bl; simp
theorem and64_mask (n : Int) (j : Nat) (hj : j ≤ 62) (M : Int) (hM : M = 2 ^ j - 1) : bits .and .i64 n M = n % (2 ^ j : Int) := by
  have hp : (2 : Nat) ^ j ≤ 4611686018427387904 := Nat.le_trans (Nat.pow_le_pow_right (by omega) hj) (by decide)
  have hp1 : 1 ≤ (2 : Nat) ^ j := Nat.one_le_two_pow
  have e : (2 : Int) ^ j = ((2 ^ j : Nat) : Int) := by simp
  have hM' : M = ((2 ^ j - 1 : Nat) : Int) := by rw [hM, e]; omega
  have h127 : (BitVec.ofInt 64 M).toNat = 2 ^ j - 1 := by rw [hM']; exact ofInt64 _ (by omega)
  have key : (BitVec.ofInt 64 n &&& BitVec.ofInt 64 M).toNat = (n % ((2 ^ 64 : Nat) : Int)).toNat % 2 ^ j := by
    rw [BitVec.toNat_and, BitVec.toNat_ofInt, h127, Nat.and_two_pow_sub_one_eq_mod]
  show IntKind.i64.wrap ((BitVec.ofInt 64 n &&& BitVec.ofInt 64 M).toNat : Nat) = _
  rw [key, IntKind.wrap_i64]
  have hlt : (n % ((2 ^ 64 : Nat) : Int)).toNat % 2 ^ j < 2 ^ j := Nat.mod_lt _ (by omega)
  have hd : ((2 ^ j : Nat) : Int) ∣ ((2 ^ 64 : Nat) : Int) := Int.natCast_dvd_natCast.2 (Nat.pow_dvd_pow 2 (by omega))
  have h2 : (((n % ((2 ^ 64 : Nat) : Int)).toNat % 2 ^ j : Nat) : Int) = n % (2 ^ j : Int) := by
    rw [Int.natCast_emod, Int.toNat_of_nonneg (Int.emod_nonneg _ (by decide)), e, Int.emod_emod_of_dvd n hd]
  rw [← h2]
  omega
theorem and255 (q : Nat) : bits .and .i64 (q : Int) 255 = ((q % 256 : Nat) : Int) := by
  have := and64_mask (q : Int) 8 (by decide) 255 (by decide)
  rw [this]
  show (q : Int) % 256 = _
  omega
theorem shr_by (q : Nat) (m : Nat) (hm : m ≤ 64) (M r : Nat) (hM : 2 ^ m = M) (hr : q / M = r) : Op.shift .shr .i64 (q : Int) .u64 (m : Int) = pure (.int .i64 (r : Int)) := by
  rw [shift_shr .i64 .u64 q m (by omega) (by simp [IntKind.bits]; omega), Int.toNat_natCast]
  have : (q : Int) / 2 ^ m = (r : Int) := by
    have e : (2 : Int) ^ m = ((2 ^ m : Nat) : Int) := by simp
    rw [e, hM, ← hr]; simp
  rw [this]
/-- Numbers and texts that Address goes through, by name. -/
theorem addr_facts (k : Nat) (hk : k < 4294967296) : ∃ (q3 q2 q1 m2 m1 m0 : Nat) (S3 S2 S1 S0 : ByteArray), Hid (addrL k = bl S3 ++ 46 :: (bl S2 ++ 46 :: (bl S1 ++ 46 :: bl S0))) ∧
      (-9223372036854775808 ≤ (q3 : Int) ∧ (q3 : Int) ≤ 9223372036854775807) ∧ (-9223372036854775808 ≤ (m2 : Int) ∧ (m2 : Int) ≤ 9223372036854775807) ∧ (-9223372036854775808 ≤ (m1 : Int) ∧ (m1 : Int) ≤ 9223372036854775807) ∧ (-9223372036854775808 ≤ (m0 : Int) ∧ (m0 : Int) ≤ 9223372036854775807) ∧
      numS q3 = S3 ∧ numS m2 = S2 ∧ numS m1 = S1 ∧ numS m0 = S0 ∧ S3.size ≤ 21 ∧ S2.size ≤ 21 ∧ S1.size ≤ 21 ∧ S0.size ≤ 21 ∧
      Op.shift .shr .i64 (k : Int) .u64 24 = pure (.int .i64 (q3 : Int)) ∧ Op.shift .shr .i64 (k : Int) .u64 16 = pure (.int .i64 (q2 : Int)) ∧ Op.shift .shr .i64 (k : Int) .u64 8 = pure (.int .i64 (q1 : Int)) ∧
      bits .and .i64 (q2 : Int) 255 = (m2 : Int) ∧ bits .and .i64 (q1 : Int) 255 = (m1 : Int) ∧ bits .and .i64 (k : Int) 255 = (m0 : Int) ∧ bits .and .i64 (q3 : Int) 255 = (q3 : Int) := by
  refine ⟨k / 16777216, k / 65536, k / 256, k / 65536 % 256, k / 256 % 256, k % 256, _, _, _, _, Lib.hid rfl, by omega, by omega, by omega, by omega, rfl, rfl, rfl, rfl, numS_size _ (by omega) (by omega), numS_size _ (by omega) (by omega), numS_size _ (by omega) (by omega), numS_size _ (by omega) (by omega),
    shr_by k 24 (by decide) _ _ rfl rfl, shr_by k 16 (by decide) _ _ rfl rfl, shr_by k 8 (by decide) _ _ rfl rfl, and255 _, and255 _, and255 _, by rw [and255]; omega⟩

set_option maxRecDepth 100000 in
set_option maxHeartbeats 4000000 in
theorem raddr_any (n : Int) (hn : -9223372036854775808 ≤ n ∧ n ≤ 9223372036854775807) {w : World} (hL : Laid w) :
    Calls Tryd.prog 18 #[.int .i64 n] w fun e w' => e = .returned (addrV (addrR n)) ∧ Below w.heap.size w w' := by
  by_cases h1 : n < 0
  · have hF : addrR n = ([], 1) := by unfold addrR; rw [if_pos (.inl h1)]
    rw [hF]
    go_enter Tryd.func18, Tryd.ntmps18
    go_wp2
    go_ret2
    exact ⟨rfl, Below.refl _ _⟩
  · by_cases h2 : 4294967296 ≤ n
    · have hF : addrR n = ([], 1) := by unfold addrR; rw [if_pos (.inr h2)]
      rw [hF]
      go_enter Tryd.func18, Tryd.ntmps18
      go_wp2
      go_ret2
      exact ⟨rfl, Below.refl _ _⟩
    · obtain ⟨k, rfl⟩ : ∃ k : Nat, n = k := ⟨n.toNat, by omega⟩
      have hk : k < 4294967296 := by omega
      have HF : Hid (addrR k = (addrL k, 0)) := Lib.hid (by unfold addrR; rw [if_neg (by omega)]; rfl)
      have HL := Lib.hid hL
      clear hL h1 h2
      obtain ⟨q3, q2, q1, m2, m1, m0, S3, S2, S1, S0, HS, b3, b2, b1, b0, n3, n2, n1, n0, z3, z2, z1, z0, s24, s16, s8, a16, a8, a0, a24⟩ := addr_facts k hk
      go_enter Tryd.func18, Tryd.ntmps18
      go_wp2_with (go_at_call 20; refine (rnumber_any _ b3 HL.out).mono ?_)
      rintro e w1 ⟨rfl, hb1⟩
      rw [n3]
      have hL1 := HL.out.below hb1
      go_wp2_with (go_at_call 20; refine (rnumber_any _ b2 hL1).mono ?_)
      rintro e w2 ⟨rfl, hb2⟩
      rw [n2]
      have hL2 := hL1.below hb2
      go_wp2_with (go_at_call 20; refine (rnumber_any _ b1 hL2).mono ?_)
      rintro e w3 ⟨rfl, hb3⟩
      rw [n1]
      have hL3 := hL2.below hb3
      go_wp2_with (go_at_call 20; refine (rnumber_any _ b0 hL3).mono ?_)
      rintro e w4 ⟨rfl, hb4⟩
      rw [n0]
      go_wp2
      go_ret2
      refine ⟨?_, hb1.trans ((hb2.mono hb1.size).trans ((hb3.mono (Nat.le_trans hb1.size hb2.size)).trans (hb4.mono (Nat.le_trans hb1.size (Nat.le_trans hb2.size hb3.size)))))⟩
      rw [HF.out]
      show Ending.returned (.tuple #[.string (S3 ++ ⟨#[46]⟩ ++ S2 ++ ⟨#[46]⟩ ++ S1 ++ ⟨#[46]⟩ ++ S0), .int .i64 0]) = Ending.returned (.tuple #[.string ⟨(addrL k).toArray⟩, .int .i64 0])
      rw [HS.out, catS]

/-- The four cells while they are filled. -/
def arrA (S3 S2 S1 S0 : ByteArray) : Nat → Array Value
  | 0 => #[.string ⟨#[]⟩, .string ⟨#[]⟩, .string ⟨#[]⟩, .string ⟨#[]⟩]
  | 1 => #[.string S3, .string ⟨#[]⟩, .string ⟨#[]⟩, .string ⟨#[]⟩]
  | 2 => #[.string S3, .string S2, .string ⟨#[]⟩, .string ⟨#[]⟩]
  | 3 => #[.string S3, .string S2, .string S1, .string ⟨#[]⟩]
  | _ => #[.string S3, .string S2, .string S1, .string S0]

theorem shr_int (q : Nat) (m : Nat) (hm : m ≤ 64) (M r : Nat) (hM : 2 ^ m = M) (hr : q / M = r) : Op.shift .shr .i64 (q : Int) .i64 (m : Int) = pure (.int .i64 (r : Int)) := by
  rw [shift_shr .i64 .i64 q m (by omega) (by simp [IntKind.bits]; omega), Int.toNat_natCast]
  have : (q : Int) / 2 ^ m = (r : Int) := by
    have e : (2 : Int) ^ m = ((2 ^ m : Nat) : Int) := by simp
    rw [e, hM, ← hr]; simp
  rw [this]

set_option maxRecDepth 100000 in
set_option maxHeartbeats 8000000 in
theorem addr_any (n : Int) (hn : -9223372036854775808 ≤ n ∧ n ≤ 9223372036854775807) {w : World} (hL : Laid w) :
    Calls Tryd.prog 17 #[.int .i64 n] w fun e w' => e = .returned (addrV (addrR n)) ∧ Below w.heap.size w w' := by
  by_cases h1 : n < 0
  · have hF : addrR n = ([], 1) := by unfold addrR; rw [if_pos (.inl h1)]
    rw [hF]
    go_enter Tryd.func17, Tryd.ntmps17
    go_wp2
    go_ret2
    exact ⟨rfl, Below.refl _ _⟩
  · by_cases h2 : 4294967296 ≤ n
    · have hF : addrR n = ([], 1) := by unfold addrR; rw [if_pos (.inr h2)]
      rw [hF]
      go_enter Tryd.func17, Tryd.ntmps17
      go_wp2
      go_ret2
      exact ⟨rfl, Below.refl _ _⟩
    · obtain ⟨k, rfl⟩ : ∃ k : Nat, n = k := ⟨n.toNat, by omega⟩
      have hk : k < 4294967296 := by omega
      have HF : Hid (addrR k = (addrL k, 0)) := Lib.hid (by unfold addrR; rw [if_neg (by omega)]; rfl)
      have HL := Lib.hid hL
      clear hL h1 h2
      obtain ⟨q3, q2, q1, m2, m1, m0, S3, S2, S1, S0, HS, b3, b2, b1, b0, n3, n2, n1, n0, z3, z2, z1, z0, s24, s16, s8, a16, a8, a0, a24⟩ := addr_facts k hk
      have i24 : Op.shift .shr .i64 (k : Int) .i64 24 = pure (.int .i64 (q3 : Int)) := s24
      have i16 : Op.shift .shr .i64 (k : Int) .i64 16 = pure (.int .i64 (q2 : Int)) := s16
      have i8 : Op.shift .shr .i64 (k : Int) .i64 8 = pure (.int .i64 (q1 : Int)) := s8
      have i0 : Op.shift .shr .i64 (k : Int) .i64 0 = pure (.int .i64 (k : Int)) := shr_int k 0 (by decide) 1 k rfl (by simp)
      have hmk : ∀ w, (Instr.makeSlice 48 (.int .i64 4) (.int .i64 4)).run Tryd.prog w = .ok (.slice (some ⟨w.heap.size, 0, none⟩) 4 4) (w.alloc (.cells #[.string ⟨#[]⟩, .string ⟨#[]⟩, .string ⟨#[]⟩, .string ⟨#[]⟩] 9)) := fun _ => by kernel_rfl
      clear s24 s16 s8
      obtain ⟨B, hB⟩ : ∃ B, w.heap.size = B := ⟨_, rfl⟩
      have HB := Lib.hid hB
      go_enter Tryd.func17, Tryd.ntmps17
      go_wp2
      go_loopw [16] (fun i wr => ∃ j : Nat, i = .int .i64 j ∧ j ≤ 4 ∧ Hid (Blk wr B 9 (arrA S3 S2 S1 S0 j) ∧ Below B w wr)) (fun i _ => 4 - (intOf i).toNat)
      case atStart => exact ⟨0, rfl, by omega, Lib.hid ⟨by rw [← HB.out]; exact Blk.new _ _ _, (Below.refl B w).alloc (by rw [HB.out]; exact Nat.le_refl _) _⟩⟩
      case round =>
        obtain ⟨j, rfl, hj, HW⟩ := hrel
        have hcase : j = 0 ∨ j = 1 ∨ j = 2 ∨ j = 3 ∨ j = 4 := by omega
        clear hB
        rcases hcase with rfl | rfl | rfl | rfl | rfl
        · have hb0 : Blk wr B 9 (arrA S3 S2 S1 S0 0) := HW.out.1
          unfold arrA at hb0
          have hLr : Laid wr := HL.out.below (by rw [HB.out]; exact HW.out.2)
          have hlt := hb0.lt
          have hN := number_any q3 b3 hLr
          rw [n3] at hN
          go_wp2_with (go_at_call 19; refine hN.mono ?_)
          rintro e w1 rfl hb1
          have hb2 := hb0.below hb1 hlt
          have hc := hb2.cell 0
          have hf := hb2.frozen 0
          have hb3 : Blk (w1.setCell ⟨B, 0, none⟩ (.string S3)) B 9 (arrA S3 S2 S1 S0 1) := by
            have := hb2.set_ 0 (.string S3); simpa [arrA] using this
          have hB3 : Below B w (w1.setCell ⟨B, 0, none⟩ (.string S3)) := (HW.out.2.trans (hb1.mono (by omega))).setCell (p := ⟨B, 0, none⟩) (Nat.le_refl _) _
          simp at hc
          go_wp2
          exact ⟨⟨1, rfl, by omega, Lib.hid ⟨hb3, hB3⟩⟩, by simp [intOf]⟩
        · have hb0 : Blk wr B 9 (arrA S3 S2 S1 S0 1) := HW.out.1
          unfold arrA at hb0
          have hLr : Laid wr := HL.out.below (by rw [HB.out]; exact HW.out.2)
          have hlt := hb0.lt
          have hN := number_any m2 b2 hLr
          rw [n2] at hN
          go_wp2_with (go_at_call 19; refine hN.mono ?_)
          rintro e w1 rfl hb1
          have hb2 := hb0.below hb1 hlt
          have hc := hb2.cell 1
          have hf := hb2.frozen 1
          have hb3 : Blk (w1.setCell ⟨B, 1, none⟩ (.string S2)) B 9 (arrA S3 S2 S1 S0 2) := by
            have := hb2.set_ 1 (.string S2); simpa [arrA] using this
          have hB3 : Below B w (w1.setCell ⟨B, 1, none⟩ (.string S2)) := (HW.out.2.trans (hb1.mono (by omega))).setCell (p := ⟨B, 1, none⟩) (Nat.le_refl _) _
          simp at hc
          go_wp2
          exact ⟨⟨2, rfl, by omega, Lib.hid ⟨hb3, hB3⟩⟩, by simp [intOf]⟩
        · have hb0 : Blk wr B 9 (arrA S3 S2 S1 S0 2) := HW.out.1
          unfold arrA at hb0
          have hLr : Laid wr := HL.out.below (by rw [HB.out]; exact HW.out.2)
          have hlt := hb0.lt
          have hN := number_any m1 b1 hLr
          rw [n1] at hN
          go_wp2_with (go_at_call 19; refine hN.mono ?_)
          rintro e w1 rfl hb1
          have hb2 := hb0.below hb1 hlt
          have hc := hb2.cell 2
          have hf := hb2.frozen 2
          have hb3 : Blk (w1.setCell ⟨B, 2, none⟩ (.string S1)) B 9 (arrA S3 S2 S1 S0 3) := by
            have := hb2.set_ 2 (.string S1); simpa [arrA] using this
          have hB3 : Below B w (w1.setCell ⟨B, 2, none⟩ (.string S1)) := (HW.out.2.trans (hb1.mono (by omega))).setCell (p := ⟨B, 2, none⟩) (Nat.le_refl _) _
          simp at hc
          go_wp2
          exact ⟨⟨3, rfl, by omega, Lib.hid ⟨hb3, hB3⟩⟩, by simp [intOf]⟩
        · have hb0 : Blk wr B 9 (arrA S3 S2 S1 S0 3) := HW.out.1
          unfold arrA at hb0
          have hLr : Laid wr := HL.out.below (by rw [HB.out]; exact HW.out.2)
          have hlt := hb0.lt
          have hN := number_any m0 b0 hLr
          rw [n0] at hN
          go_wp2_with (go_at_call 19; refine hN.mono ?_)
          rintro e w1 rfl hb1
          have hb2 := hb0.below hb1 hlt
          have hc := hb2.cell 3
          have hf := hb2.frozen 3
          have hb3 : Blk (w1.setCell ⟨B, 3, none⟩ (.string S0)) B 9 (arrA S3 S2 S1 S0 4) := by
            have := hb2.set_ 3 (.string S0); simpa [arrA] using this
          have hB3 : Below B w (w1.setCell ⟨B, 3, none⟩ (.string S0)) := (HW.out.2.trans (hb1.mono (by omega))).setCell (p := ⟨B, 3, none⟩) (Nat.le_refl _) _
          simp at hc
          go_wp2
          exact ⟨⟨4, rfl, by omega, Lib.hid ⟨hb3, hB3⟩⟩, by simp [intOf]⟩
        · have hb0 : Blk wr B 9 #[.string S3, .string S2, .string S1, .string S0] := HW.out.1
          have hlt := hb0.lt
          have hJ := Tryd.strings_Join B 0 4 [S3, S2, S1, S0] ⟨#[46]⟩ wr (fun j x hx => by
            rw [Nat.zero_add, hb0.cell j]
            match j, hx with
            | 0, hx => cases hx; rfl
            | 1, hx => cases hx; rfl
            | 2, hx => cases hx; rfl
            | 3, hx => cases hx; rfl
            | j + 4, hx => simp at hx) hlt (by simp) (by simp) (by
            simp [Lib.join_cons, Lib.joinTail]
            have e3 : S3.data.size ≤ 21 := z3
            have e2 : S2.data.size ≤ 21 := z2
            have e1 : S1.data.size ≤ 21 := z1
            have e0 : S0.data.size ≤ 21 := z0
            omega)
          have hjn : (⟨(Lib.join ([S3, S2, S1, S0].map (·.data.toList)) (ByteArray.mk #[46]).data.toList).toArray⟩ : ByteArray) = ⟨(addrL k).toArray⟩ := by
            rw [HS.out]; simp [Lib.join_cons, Lib.joinTail, bl]
          rw [hjn] at hJ
          have hJ2 : Calls Tryd.prog 31 #[.slice (some ⟨B, 0, none⟩) 4 4, .string ⟨#[46]⟩] wr _ := hJ
          clear hJ
          go_wp2_with (go_at_call 31; refine hJ2.mono ?_)
          rintro e w1 rfl hb1
          go_wp2
          go_ret2
          exact ⟨by rw [HF.out]; rfl, by rw [HB.out]; exact HW.out.2.trans (hb1.mono (by omega))⟩
end Go.Proofs.YtnaopgajinbnmaaDoor
