/- The reference's Bytes; when two lists of bytes are equal. -/
import Derived.Test.YtbgkkaecpmgnoaaDoorBytes
namespace Go.Proofs.YtbgkkaecpmgnoaaDoor
open Go.RowKit
variable {w : World} {B c : Nat} {A : Option Addr} {bs : List Nat}

theorem ret_sl {A : Option Addr} {a b c : Nat} {k : Int} (h : a = b) : Ending.returned (.tuple #[.slice A a c, .int .i64 k]) = .returned (.tuple #[.slice A b c, .int .i64 k]) := by rw [h]

set_option maxHeartbeats 1000000 in
theorem same_any {B1 B2 c1 c2 : Nat} {A1 A2 : Option Addr} {l1 l2 : List Nat} (h1 : Byt w B1 A1 l1) (h2 : Byt w B2 A2 l2) (h : l1 = l2) :
    Calls Tryd.prog 17 #[.slice A1 l1.length c1, .slice A2 l2.length c2] w fun e w' => e = .returned (.bool true) ∧ w = w' := by
  subst h
  have e1 := conv_any h1 c1
  have e2 := conv_any h2 c2
  obtain ⟨L, hL⟩ : ∃ L, l1.length = L := ⟨_, rfl⟩
  obtain ⟨S, hS⟩ : ∃ S, strB l1 = S := ⟨_, rfl⟩
  rw [hL, hS] at e1 e2
  rw [hL]
  clear hL hS h1 h2
  go_enter Tryd.func17, Tryd.ntmps17
  go_wp2
  go_ret
  exact ⟨ret_bool (by simp), rfl⟩

set_option maxHeartbeats 1000000 in
theorem rbytes_arg (p n : Int) (h : p < 0 ∨ n < 0) :
    Calls Tryd.prog 21 #[.slice A bs.length c, .int .i64 p, .int .i64 n] w fun e w' => e = .returned (.tuple #[.slice none 0 0, .int .i64 1]) ∧ w = w' := by
  by_cases h2 : n < 0
  · go_enter Tryd.func21, Tryd.ntmps21
    go_wp2
    go_ret2
    exact ⟨rfl, rfl⟩
  · have h3 : p < 0 := by omega
    clear h
    go_enter Tryd.func21, Tryd.ntmps21
    go_wp2
    go_ret2
    exact ⟨rfl, rfl⟩

set_option maxHeartbeats 1000000 in
theorem rbytes_none (L : Nat) (hL : L ≤ 20000) (p n : Int) (hp : 0 ≤ p) (hn : 0 ≤ n) (h : 8 * (L : Int) < p + 8 * n) :
    Calls Tryd.prog 21 #[.slice A L c, .int .i64 p, .int .i64 n] w fun e w' => e = .returned (.tuple #[.slice none 0 0, .int .i64 4]) ∧ w = w' := by
  by_cases h1 : (L : Int) < n
  · clear h
    go_enter Tryd.func21, Tryd.ntmps21
    go_wp2
    go_ret2
    exact ⟨rfl, rfl⟩
  · have H := Lib.hid (inside_no A L c p (8 * n) w hL hp h)
    go_enter Tryd.func21, Tryd.ntmps21
    go_wp2_with fail
    refine H.out.mono ?_; rintro e w' ⟨rfl, rfl⟩
    go_wp2
    go_ret2
    exact ⟨rfl, rfl⟩

set_option maxHeartbeats 2000000 in
theorem rbytes_ok (hm : Byt w w.heap.size A bs) (hL : bs.length ≤ 20000) (p n : Nat) (h : p + 8 * n ≤ 8 * bs.length) :
    Calls Tryd.prog 21 #[.slice A bs.length c, .int .i64 p, .int .i64 n] w fun e w' => ∃ A2 c2, e = .returned (.tuple #[.slice A2 n c2, .int .i64 0]) ∧ Hid (Byt w' w'.heap.size A2 (outB bs p n)) ∧ Below w.heap.size w w' := by
  obtain ⟨i0, hi, hz0, hz1, hz2⟩ := info_parts info5
  have HI := Lib.hid (inside_yes A bs.length c p (8 * n) w hL (by omega) (by omega) (by omega))
  have HM := Lib.hid hm
  obtain ⟨L, hL0⟩ : ∃ L, bs.length = L := ⟨_, rfl⟩
  have HL := Lib.hid hL0
  rw [hL0] at hL h HI ⊢
  have hnL : n ≤ L := by omega
  have hnLb : decide (L < n) = false := decide_eq_false (by omega)
  clear hL0 hm
  go_enter Tryd.func21, Tryd.ntmps21
  go_wp2_with fail
  refine HI.out.mono ?_; rintro e w' ⟨rfl, rfl⟩
  go_wp2
  go_loopw [8, 9] (fun v i wr => ∃ k : Nat, k ≤ n ∧ i = .int .i64 k ∧ wr.ownsRow w.heap.size 5 1 v k ((outB bs p k).map u8) ∧ Below w.heap.size w wr) (fun _ i _ => n - (intOf i).toNat)
  case atStart => exact ⟨0, Nat.zero_le _, rfl, World.ownsRow_nil _ _ _ _, Below.refl _ _⟩
  case round =>
    obtain ⟨k, hk, rfl, hown, hB⟩ := hrel
    by_cases hlt : k < n
    · have hnum := number_any (c := c) (HM.out.below hB) (p + 8 * k) 8 (by omega) (by rw [HL.out]; omega) (by rw [HL.out]; exact hL)
      have hx := num8_lt bs (p + 8 * k)
      have HOS := Lib.hid (outB_succ bs p k)
      rw [HL.out] at hnum
      obtain ⟨x, hX⟩ : ∃ x, num bs (p + 8 * k) 8 = x := ⟨_, rfl⟩
      rw [hX] at hnum hx HOS
      have HN := Lib.hid hnum
      have b1 : k + 1 ≤ maxLen := by unfold maxLen; omega
      have b2 : (k + 1) * 1 ≤ 140737488355328 := by omega
      have hsz := hB.size
      have HBW := Lib.hid hB
      clear hX hnum hB
      go_wp2_with fail
      rw [show (p : Int) + 8 * k = ((p + 8 * k : Nat) : Int) by omega]
      refine HN.out.mono ?_; rintro e w' ⟨rfl, rfl⟩
      go_wp2_with (at_builtin; refine wpList_append_own _ rfl _ _ 22 rfl w.heap.size 5 i0 (.int .u8 0) 1 1 Tryd.underlying22 hi hz0 hz1 hz2 rfl (by decide) _ _ _ rfl (hown.alloc _) ⟨wr.heap.size, 0, none⟩ 1 1 [.int .u8 (x : Int)] rfl rfl (cell_one_new _ _ _) (by simp [Value.oneCell']) b1 b2 (by simp; omega) ?_; intro v' w1 hown' hgrow _)
      have hBw1 := ((HBW.out).alloc hsz (.cells #[.int .u8 (x : Int)] 5)).grown hgrow (by simp; omega) (fun g hg => (hown.lt g hg).1)
      go_roundw
      case rel =>
        refine ⟨k + 1, by omega, by go_num, ?_, hBw1⟩
        rw [HOS.out, List.map_append]
        exact hown'
      case measure => simp [intOf]; omega
    · have hkn : k = n := by omega
      subst hkn
      have hol := outB_len bs p k
      obtain ⟨ob, hob⟩ : ∃ ob, outB bs p k = ob := ⟨_, rfl⟩
      have hobl := outB_lt bs p k
      rw [hob] at hown hol hobl
      have HOB := Lib.hid hob
      rw [← hol] at hown
      obtain ⟨A2, c2, rfl, _, hb2⟩ := Byt.of_own hobl hown
      have HB2 := Lib.hid hb2
      have HOL := Lib.hid hol
      clear hb2 hown hob hobl hol
      go_wp2
      go_ret2
      exact ⟨A2, c2, ret_sl HOL.out, by rw [HOB.out]; exact HB2, hB⟩
end Go.Proofs.YtbgkkaecpmgnoaaDoor
