/- The reference's bytes turned round, and its Get. -/
import Derived.Test.YtbgkkaecpmgnoaaDoorRefGet
import Derived.Test.YtbgkkaecpmgnoaaDoorKnown
import Derived.Maps.AppendAt
namespace Go.Proofs.YtbgkkaecpmgnoaaDoor
open Go.RowKit
variable {w : World} {B c : Nat} {A : Option Addr} {bs : List Nat}

theorem below_cells {B : Nat} {W w1 : World} (hb : Below B W w1) : (∀ b o, b < B → w1.cell? ⟨b, o, none⟩ = W.cell? ⟨b, o, none⟩) :=
  fun b o h => hb.cell (p := ⟨b, o, none⟩) h

set_option maxHeartbeats 1000000 in
theorem turned_any (hm : Byt w w.heap.size A bs) (hL : bs.length ≤ 20000) :
    Calls Tryd.prog 38 #[.slice A bs.length c] w fun e w' => ∃ v, e = .returned v ∧ w'.ownsRow w.heap.size 5 1 v bs.reverse.length (bs.reverse.map u8) ∧ Below w.heap.size w w' := by
  obtain ⟨i0, hi, hz0, hz1, hz2⟩ := info_parts info5
  obtain ⟨L, hL0⟩ : ∃ L, bs.length = L := ⟨_, rfl⟩
  have HL := Lib.hid hL0
  have HM := Lib.hid hm
  rw [hL0] at hL ⊢
  clear hL0 hm
  obtain ⟨N, hN⟩ : ∃ N, w.heap.size = N := ⟨_, rfl⟩
  have HN := Lib.hid hN
  rw [hN] at HM ⊢
  clear hN
  go_enter Tryd.func38, Tryd.ntmps38
  go_wp2
  go_loopw [3, 4] (fun v i wr => ∃ (k : Nat), k ≤ L ∧ i = .int .i64 ((L : Int) - 1 - k) ∧ wr.ownsRow N 5 1 v k ((bs.drop (L - k)).reverse.map u8) ∧ Below N w wr) (fun _ i _ => (intOf i + 1).toNat)
  case atStart =>
    refine ⟨0, Nat.zero_le _, by simp, ?_, by rw [← HN.out]; exact Below.refl _ _⟩
    rw [List.drop_eq_nil_of_le (by rw [HL.out]; omega)]
    exact World.ownsRow_nil _ _ _ _
  case round =>
    obtain ⟨k, hk, rfl, hown, hB⟩ := hrel
    by_cases hlt : k < L
    · have hm2 := HM.out.below hB
      obtain ⟨b, o, rfl, hb, hc⟩ := hm2.cells (by rw [HL.out]; omega)
      have hck := hc (L - (k + 1)) (by rw [HL.out]; omega)
      have hx := at8_lt hm2.lt (L - (k + 1))
      have hrv := rev_drop bs k (by rw [HL.out]; exact hlt)
      rw [HL.out] at hrv
      obtain ⟨x, hX⟩ : ∃ x, at8 bs (L - (k + 1)) = x := ⟨_, rfl⟩
      rw [hX] at hck hx hrv
      have HR := Lib.hid hrv
      obtain ⟨j, hj⟩ : ∃ j : Nat, L - (k + 1) = j := ⟨_, rfl⟩
      rw [hj] at hck
      have hji : (L : Int) - 1 - k = (j : Int) := by omega
      have hjL : j < L := by omega
      rw [hji]
      have HJ := Lib.hid hji
      have b1 : k + 1 ≤ maxLen := by unfold maxLen; omega
      have b2 : (k + 1) * 1 ≤ 140737488355328 := by omega
      have hsz := hB.size
      rw [HN.out] at hsz
      have HBW := Lib.hid hB
      clear hX hc hrv hj hji hm2 hB
      go_wp2_with (at_builtin; refine wpList_append_own _ rfl _ _ 22 rfl N 5 i0 (.int .u8 0) 1 1 Tryd.underlying22 hi hz0 hz1 hz2 rfl (by decide) _ _ _ rfl (hown.alloc _) ⟨wr.heap.size, 0, none⟩ 1 1 [.int .u8 (x : Int)] rfl rfl (cell_one_new _ _ _) (by simp [Value.oneCell']) b1 b2 (by simp; omega) ?_; intro v' w1 hown' hgrow _)
      have hBw1 := ((HBW.out).alloc hsz (.cells #[.int .u8 (x : Int)] 5)).grown hgrow (by simp; omega) (fun g hg => (hown.lt g hg).1)
      go_roundw
      case rel =>
        refine ⟨k + 1, by omega, by rw [← HJ.out]; congr 1; omega, ?_, hBw1⟩
        rw [HR.out, List.map_append]
        exact hown'
      case measure => simp [intOf]
    · have hkL : k = L := by omega
      subst hkL
      have HW : Hid (bs.drop (k - k) = bs) := Lib.hid (by simp)
      go_wp2
      go_ret
      exact ⟨_, rfl, by rw [HW.out] at hown; simpa [HL.out] using hown, hB⟩

set_option maxHeartbeats 1000000 in
theorem rget_err (p n : Int) (low : Bool) (hL : bs.length ≤ 20000) (hp : p ≤ 9223372036854775807) (he : (spanE bs.length p n low == 0) = false) :
    Calls Tryd.prog 14 #[.slice A bs.length c, .int .i64 p, .int .i64 n, .bool low] w fun e w' => e = .returned (.tuple #[.int .i64 0, .int .i64 (spanE bs.length p n low)]) ∧ w = w' := by
  obtain ⟨E, hE⟩ : ∃ E, spanE bs.length p n low = E := ⟨_, rfl⟩
  have he2 : (E != 0) = true := by rw [← hE]; simpa [bne] using he
  have H := asked_any A bs.length c p n low w hL hp
  rw [hE] at he H ⊢
  have H1 := Lib.hid H
  clear hE H
  go_enter Tryd.func14, Tryd.ntmps14
  go_wp2_with fail
  refine H1.out.mono ?_; rintro e w' ⟨rfl, rfl⟩
  go_wp2
  go_ret2
  exact ⟨rfl, rfl⟩

set_option maxHeartbeats 1000000 in
theorem rget_hi (hm : Byt w B A bs) (p n : Nat) (hL : bs.length ≤ 20000) (hn : n ≤ 48) (hp : p + n ≤ 8 * bs.length) :
    Calls Tryd.prog 14 #[.slice A bs.length c, .int .i64 p, .int .i64 n, .bool false] w fun e w' => e = .returned (.tuple #[.int .i64 (getV bs p n false : Nat), .int .i64 0]) ∧ w = w' := by
  have HE : spanE bs.length p n false = 0 := by unfold spanE; rw [if_neg (by omega), if_neg (by simp), if_neg (by omega)]
  have H := asked_any A bs.length c p n false w hL (by omega)
  rw [HE] at H
  have H1 := Lib.hid H
  have H2 := Lib.hid (number_any (c := c) hm p n hn hp hL)
  clear HE H
  go_enter Tryd.func14, Tryd.ntmps14
  go_wp2_with fail
  refine H1.out.mono ?_; rintro e w' ⟨rfl, rfl⟩
  go_wp2_with fail
  refine H2.out.mono ?_; rintro e w' ⟨rfl, rfl⟩
  go_wp2
  go_ret2
  exact ⟨rfl, rfl⟩

set_option maxHeartbeats 1000000 in
theorem rget_lo (hm : Byt w w.heap.size A bs) (p n : Nat) (hL : bs.length ≤ 20000) (hc : bs.length ≤ c) (hn : n ≤ 48) (hp : p + n ≤ 8 * bs.length) (hp8 : p % 8 = 0) (hn8 : n % 8 = 0) :
    Calls Tryd.prog 14 #[.slice A bs.length c, .int .i64 p, .int .i64 n, .bool true] w fun e w' => e = .returned (.tuple #[.int .i64 (getV bs p n true : Nat), .int .i64 0]) ∧ Below w.heap.size w w' := by
  have HE : spanE bs.length p n true = 0 := by unfold spanE; rw [if_neg (by omega), if_neg (by omega), if_neg (by omega)]
  have H := asked_any A bs.length c p n true w hL (by omega)
  rw [HE] at H
  have H1 := Lib.hid H
  have hpart := hm.part (p / 8) (n / 8) (by omega)
  have hpl : ((bs.drop (p / 8)).take (n / 8)).length = n / 8 := by simp; omega
  have hll : ((bs.drop (p / 8)).take (n / 8)).length ≤ 20000 := by omega
  have hGV : Hid (getV bs p n true = num ((bs.drop (p / 8)).take (n / 8)).reverse 0 n) := Lib.hid rfl
  have hlt := drop_take_lt hm.lt (p / 8) (n / 8)
  obtain ⟨ls, hls⟩ : ∃ ls, (bs.drop (p / 8)).take (n / 8) = ls := ⟨_, rfl⟩
  rw [hls] at hpart hpl hll hGV hlt
  have HPL := Lib.hid hpl
  have HPA := Lib.hid hpart
  obtain ⟨L, hL0⟩ : ∃ L, bs.length = L := ⟨_, rfl⟩
  rw [hL0] at hL hc hp H1 ⊢
  have hdiff : (p + n) / 8 - p / 8 = n / 8 := by omega
  have HD := Lib.hid hdiff
  clear HE H hls hL0 hpl hpart hdiff
  go_enter Tryd.func14, Tryd.ntmps14
  go_wp2_with fail
  refine H1.out.mono ?_; rintro e w' ⟨rfl, rfl⟩
  go_wp2_with fail
  · have hb0 : Byt w w.heap.size A ls := by
      have : ls = [] := List.length_eq_zero_iff.1 (by rw [HPL.out]; omega)
      rw [this]; exact Byt.nil _ _ _
    rw [show (p + n) / 8 - p / 8 = ls.length by rw [HD.out, HPL.out]]
    refine (turned_any hb0 hll).mono ?_; rintro e w1 ⟨v, rfl, hown, hB⟩
    obtain ⟨rs, hrs⟩ : ∃ rs, ls.reverse = rs := ⟨_, rfl⟩
    have hrl : rs.length = ls.length := by rw [← hrs, List.length_reverse]
    have hrlt : ∀ x ∈ rs, x < 256 := fun x hx => hlt x (List.mem_reverse.1 (by rw [hrs]; exact hx))
    rw [hrs] at hown hGV
    clear hlt
    obtain ⟨A2, c2, rfl, _, hb2⟩ := Byt.of_own hrlt hown
    have HBB := Lib.hid hB
    have H2 := Lib.hid (number_any (c := c2) hb2 0 n hn (by rw [hrl, HPL.out]; omega) (by rw [hrl]; exact hll))
    clear hown hb2 hB hrs hrl hrlt
    go_wp2_with fail
    refine H2.out.mono ?_; rintro e w' ⟨rfl, rfl⟩
    go_wp2
    go_ret2
    exact ⟨ret_two (by rw [hGV.out]), HBB.out⟩
  · have hb0 := HPA.out
    rw [show (p + n) / 8 - p / 8 = ls.length by rw [HD.out, HPL.out]]
    refine (turned_any hb0 hll).mono ?_; rintro e w1 ⟨v, rfl, hown, hB⟩
    obtain ⟨rs, hrs⟩ : ∃ rs, ls.reverse = rs := ⟨_, rfl⟩
    have hrl : rs.length = ls.length := by rw [← hrs, List.length_reverse]
    have hrlt : ∀ x ∈ rs, x < 256 := fun x hx => hlt x (List.mem_reverse.1 (by rw [hrs]; exact hx))
    rw [hrs] at hown hGV
    clear hlt
    obtain ⟨A2, c2, rfl, _, hb2⟩ := Byt.of_own hrlt hown
    have HBB := Lib.hid hB
    have H2 := Lib.hid (number_any (c := c2) hb2 0 n hn (by rw [hrl, HPL.out]; omega) (by rw [hrl]; exact hll))
    clear hown hb2 hB hrs hrl hrlt
    go_wp2_with fail
    refine H2.out.mono ?_; rintro e w' ⟨rfl, rfl⟩
    go_wp2
    go_ret2
    exact ⟨ret_two (by rw [hGV.out]), HBB.out⟩
end Go.Proofs.YtbgkkaecpmgnoaaDoor
