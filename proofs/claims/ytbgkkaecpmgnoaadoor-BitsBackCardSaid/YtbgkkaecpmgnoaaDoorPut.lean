/- Put: the program's contract. -/
import Derived.Test.YtbgkkaecpmgnoaaDoorClone
namespace Go.Proofs.YtbgkkaecpmgnoaaDoor
open Go.RowKit
variable {w : World} {B c : Nat} {A : Option Addr} {bs : List Nat}

set_option maxHeartbeats 1000000 in
theorem put_err (p n v : Int) (low : Bool) (hL : bs.length ≤ 20000) (he : (spanE bs.length p n low == 0) = false) :
    Calls Tryd.prog 15 #[.slice A bs.length c, .int .i64 p, .int .i64 n, .int .i64 v, .bool low] w fun e w' => e = .returned (.tuple #[.slice none 0 0, .int .i64 (spanE bs.length p n low)]) ∧ w = w' := by
  obtain ⟨E, hE⟩ : ∃ E, spanE bs.length p n low = E := ⟨_, rfl⟩
  have he2 : (E != 0) = true := by rw [← hE]; simpa [bne] using he
  have H := span_any A bs.length c p n low w hL
  rw [hE] at he H ⊢
  have H1 := Lib.hid H
  clear hE H
  go_enter Tryd.func15, Tryd.ntmps15
  go_wp2_with fail
  refine H1.out.mono ?_; rintro e w' ⟨rfl, rfl⟩
  go_wp2
  go_ret2
  exact ⟨rfl, rfl⟩

theorem spanE_ok (L p n : Nat) (low : Bool) (hn : n ≤ 48) (hp : p + n ≤ 8 * L) (hlow : low = true → p % 8 = 0 ∧ n % 8 = 0) : spanE L p n low = 0 := by
  unfold spanE
  rw [if_neg (by omega), if_neg (by rintro ⟨h1, h2⟩; have := hlow h1; omega), if_neg (by omega)]

set_option maxHeartbeats 1000000 in
theorem put_fit (p n : Nat) (v : Int) (low : Bool) (hL : bs.length ≤ 20000) (hn : n ≤ 48) (hp : p + n ≤ 8 * bs.length) (hlow : low = true → p % 8 = 0 ∧ n % 8 = 0) (hf : fitB v n = false) :
    Calls Tryd.prog 15 #[.slice A bs.length c, .int .i64 p, .int .i64 n, .int .i64 v, .bool low] w fun e w' => e = .returned (.tuple #[.slice none 0 0, .int .i64 10]) ∧ w = w' := by
  have H := span_any A bs.length c p n low w hL
  rw [spanE_ok _ p n low hn hp hlow] at H
  have H1 := Lib.hid H
  have H2 := Lib.hid (fits_any v n w hn)
  rw [hf] at H2
  clear H hlow hf
  go_enter Tryd.func15, Tryd.ntmps15
  go_wp2_with fail
  refine H1.out.mono ?_; rintro e w' ⟨rfl, rfl⟩
  go_wp2_with fail
  refine H2.out.mono ?_; rintro e w' ⟨rfl, rfl⟩
  go_wp2
  go_ret2
  exact ⟨rfl, rfl⟩

theorem shr128 (s : Nat) (hs : s < 8) : (128 : Int) / 2 ^ s = ((2 ^ (7 - s) : Nat) : Int) := by
  have hr' : s = 0 ∨ s = 1 ∨ s = 2 ∨ s = 3 ∨ s = 4 ∨ s = 5 ∨ s = 6 ∨ s = 7 := by omega
  rcases hr' with rfl | rfl | rfl | rfl | rfl | rfl | rfl | rfl <;> rfl

theorem set_row (bs : List Nat) (q x : Nat) : (bs.map u8).set q (.int .u8 (x : Int)) = (bs.set q x).map u8 := by rw [List.map_set]

set_option maxHeartbeats 4000000 in
theorem put_loop {a : Addr} (hm : Byt w w.heap.size (some a) bs) (hL : bs.length ≤ 20000) (hL0 : 0 < bs.length) (p n v : Nat) (low : Bool) (hn : n ≤ 48) (hp : p + n ≤ 8 * bs.length) (hlow : low = true → p % 8 = 0 ∧ n % 8 = 0) (hf : fitB v n = true) :
    Calls Tryd.prog 15 #[.slice (some a) bs.length c, .int .i64 p, .int .i64 n, .int .i64 v, .bool low] w fun e w' => ∃ g cap, e = .returned (.tuple #[.slice (some ⟨g, 0, none⟩) bs.length cap, .int .i64 0]) ∧
      w'.ownsRow w.heap.size 5 1 (.slice (some ⟨g, 0, none⟩) bs.length cap) bs.length ((putC bs p n (putN n v low) n).map u8) ∧ Below w.heap.size w w' := by
  have H := span_any (some a) bs.length c p n low w hL
  rw [spanE_ok _ p n low hn hp hlow] at H
  have H1 := Lib.hid H
  have H2 := Lib.hid (fits_any v n w hn)
  have H4 := Lib.hid (clone_some (c := c) hm hL)
  have hlt := hm.lt
  have hvn : v < 2 ^ n := by
    have := of_decide_eq_true hf
    have e : (2 : Int) ^ n = ((2 ^ n : Nat) : Int) := by simp
    rw [e] at this; omega
  have hv48 : v ≤ 281474976710656 := Nat.le_of_lt (Nat.lt_of_lt_of_le hvn (pow_nat n hn).2)
  have hV48 : putN n v low ≤ 281474976710656 := by
    cases low with
    | false => exact hv48
    | true =>
      obtain ⟨_, h8⟩ := hlow rfl
      have h1 := trn_lt (n / 8) v
      have h2 : (256 : Nat) ^ (n / 8) = 2 ^ n := by rw [show (256 : Nat) = 2 ^ 8 from rfl, ← Nat.pow_mul]; congr 1; omega
      rw [h2] at h1
      exact Nat.le_of_lt (Nat.lt_of_lt_of_le h1 (pow_nat n hn).2)
  have H3 : Hid (low = true → Calls Tryd.prog 35 #[.int .i64 v, .int .i64 n] w fun e w' => e = .returned (.int .i64 (putN n v true : Nat)) ∧ w = w') := Lib.hid (fun h => by
    subst h
    obtain ⟨_, h8⟩ := hlow rfl
    exact turn_any' v n (n / 8) w (by omega) (by omega) (by omega))
  rw [hf] at H2
  have hpl : ∀ k, (putC bs p n (putN n v low) k).length = bs.length := putC_len bs p n _
  have hplt := putC_lt hlt p n (putN n v low)
  have HPL := Lib.hid hpl
  have HPLT := Lib.hid hplt
  obtain ⟨L, hLL⟩ : ∃ L, bs.length = L := ⟨_, rfl⟩
  have HLL := Lib.hid hLL
  rw [hLL] at hL hL0 hp H1 H4 HPL ⊢
  clear H hlow hf hm hlt hpl hplt hLL hvn
  cases low with
  | true =>
    have H3' := Lib.hid (H3.out rfl)
    clear H3
    obtain ⟨V0, hV0⟩ : ∃ V0, putN n v true = V0 := ⟨_, rfl⟩
    rw [hV0] at H3' HPL HPLT hV48 ⊢
    clear hV0
    go_enter Tryd.func15, Tryd.ntmps15
    go_wp2_with fail
    refine H1.out.mono ?_; rintro e w' ⟨rfl, rfl⟩
    go_wp2_with fail
    refine H2.out.mono ?_; rintro e w' ⟨rfl, rfl⟩
    go_wp2_with fail
    refine H3'.out.mono ?_; rintro e w' ⟨rfl, rfl⟩
    go_wp2_with fail
    refine H4.out.mono ?_; rintro e w2 ⟨V, rfl, hown, hB⟩
    obtain ⟨g, cap, rfl, hg⟩ := wrow_form hown hL0
    have HOWN := Lib.hid hown
    have HB := Lib.hid hB
    clear hown hB
    go_wp2
    go_loopw [3, 14] (fun x i wr => ∃ k V : Nat, k ≤ n ∧ i = .int .i64 ((p : Int) + n - 1 - k) ∧ x = .int .i64 V ∧ V ≤ 281474976710656 ∧ Hid (V = V0 / 2 ^ k) ∧ Hid (wr.ownsRow w.heap.size 5 1 (.slice (some ⟨g, 0, none⟩) L cap) L ((putC bs p n V0 k).map YtbgkkaecpmgnoaaDoor.u8)) ∧ Hid (Below w.heap.size w wr)) (fun _ i _ => (intOf i + 1).toNat)
    case atStart => exact ⟨0, V0, Nat.zero_le _, by simp, rfl, hV48, Lib.hid (by simp), HOWN, HB⟩
    case round =>
      obtain ⟨k, V, hk, rfl, rfl, hV, HV, HR, HBW⟩ := hrel
      by_cases hlt : k < n
      · obtain ⟨i0, hi0⟩ : ∃ i0 : Nat, p + n - 1 - k = i0 := ⟨_, rfl⟩
        have hii : (p : Int) + n - 1 - k = (i0 : Int) := by omega
        have HI := Lib.hid hi0
        have hiL : i0 < 8 * L := by omega
        have hip : p ≤ i0 := by omega
        have HII := Lib.hid hii
        rw [hii]
        obtain ⟨q, hq⟩ : ∃ q, i0 / 8 = q := ⟨_, rfl⟩
        obtain ⟨s, hs⟩ : ∃ s, i0 % 8 = s := ⟨_, rfl⟩
        have hqi : (i0 : Int) / 8 = (q : Int) := by omega
        have hsi : (i0 : Int) % 8 = (s : Int) := by omega
        have hqL : q < L := by omega
        have hs8 : s < 8 := by omega
        have hcell := HR.out.cellAt q (by omega)
        have hfro := HR.out.frozenAt q
        have hpq : ((putC bs p n V0 k).map YtbgkkaecpmgnoaaDoor.u8)[q]? = some (.int .u8 (at8 (putC bs p n V0 k) q : Nat)) := by
          have hql : q < (putC bs p n V0 k).length := by rw [HPL.out]; exact hqL
          rw [List.getElem?_map, List.getElem?_eq_getElem hql, at8_eq _ _ hql]; rfl
        rw [hpq] at hcell
        have hx := at8_lt (HPLT.out k) q
        have hsh := shr128 s hs8
        have hb2 : V % 2 < 2 := Nat.mod_lt _ (by decide)
        have hsb := sb_all (7 - s) (by omega) 1 (by decide) (at8 (putC bs p n V0 k) q) hx
        have hm256 : 2 ^ (7 - s) < 256 := Nat.lt_of_le_of_lt (Nat.pow_le_pow_right (by decide) (show 7 - s ≤ 7 by omega)) (by decide)
        have hset : ∀ b, setBit (putC bs p n V0 k) i0 b = (putC bs p n V0 k).set q (sb (at8 (putC bs p n V0 k) q) (2 ^ (7 - s)) b) := fun b => by unfold setBit; rw [hq, hs]
        obtain ⟨x, hX⟩ : ∃ x, at8 (putC bs p n V0 k) q = x := ⟨_, rfl⟩
        obtain ⟨m, hM⟩ : ∃ m, 2 ^ (7 - s) = m := ⟨_, rfl⟩
        rw [hX] at hcell hx hsb hset
        rw [hM] at hsb hsh hm256 hset
        have h1 := u8_andNot_nat x m hx hm256
        rw [hsb.2.1] at h1
        have hsb0 : sb x m 0 < 256 := by unfold sb; omega
        have h2 := u8_or_nat (sb x m 0) m hsb0 hm256
        have h22 := hsb.2.2
        rw [Nat.one_mul] at h22
        rw [h22] at h2
        have hs0 := hset 0
        have hs1 := hset 1
        obtain ⟨x1, hx1⟩ : ∃ x1, sb x m 0 = x1 := ⟨_, rfl⟩
        obtain ⟨x2, hx2⟩ : ∃ x2, sb x m 1 = x2 := ⟨_, rfl⟩
        rw [hx1] at h1 h2 hsb0 hs0
        rw [hx2] at h2 hs1
        have hx2l : x2 < 256 := by rw [← hx2]; exact hsb.1
        have hav := and64_1 (V : Int)
        have HS0 := Lib.hid hs0
        have HS1 := Lib.hid hs1
        have hst0 := HR.out.stored q (.int .u8 (x1 : Int))
        have hst1 := hst0.1.stored q (.int .u8 (x2 : Int))
        rw [List.set_set, set_row] at hst1
        rw [set_row] at hst0
        have HST0 := Lib.hid hst0.1
        have HST1 := Lib.hid hst1.1
        clear hi0 hii hq hs hpq hb2 hsb hset hX hM h22 hs0 hs1 hx1 hx2 hst0 hst1
        by_cases hb : V % 2 = 1
        · have hbi : ((V : Int) % 2 == 1) = true := by simp; omega
          go_wp2
          go_roundw
          case rel =>
            refine ⟨k + 1, V / 2, by omega, by rw [← HII.out]; congr 1; omega, by go_num, by omega, Lib.hid (by rw [HV.out, Nat.pow_succ, Nat.div_div_eq_div_mul]), Lib.hid ?_, Lib.hid ((HBW.out.setCell (p := ⟨g, q, none⟩) hg _).setCell (p := ⟨g, q, none⟩) hg _)⟩
            have e : putC bs p n V0 (k + 1) = (putC bs p n V0 k).set q x2 := by rw [putC, HI.out, ← HV.out, hb]; exact HS1.out
            rw [e]; exact HST1.out
          case measure => simp [intOf]
        · have hbi : ((V : Int) % 2 == 1) = false := by simp; omega
          have hb0 : V % 2 = 0 := by omega
          go_wp2
          go_roundw
          case rel =>
            refine ⟨k + 1, V / 2, by omega, by rw [← HII.out]; congr 1; omega, by go_num, by omega, Lib.hid (by rw [HV.out, Nat.pow_succ, Nat.div_div_eq_div_mul]), Lib.hid ?_, Lib.hid (HBW.out.setCell (p := ⟨g, q, none⟩) hg _)⟩
            have e : putC bs p n V0 (k + 1) = (putC bs p n V0 k).set q x1 := by rw [putC, HI.out, ← HV.out, hb0]; exact HS0.out
            rw [e]; exact HST0.out
          case measure => simp [intOf]
      · have hkn : k = n := by omega
        subst hkn
        go_wp2
        go_ret2
        exact ⟨_, _, rfl, HR.out, HBW.out⟩
  | false =>
    clear H3
    obtain ⟨V0, hV0⟩ : ∃ V0, putN n v false = V0 := ⟨_, rfl⟩
    have hvV : v = V0 := hV0
    rw [hV0] at HPL HPLT hV48 ⊢
    rw [hvV] at H2 ⊢
    clear hV0 hvV
    go_enter Tryd.func15, Tryd.ntmps15
    go_wp2_with fail
    refine H1.out.mono ?_; rintro e w' ⟨rfl, rfl⟩
    go_wp2_with fail
    refine H2.out.mono ?_; rintro e w' ⟨rfl, rfl⟩
    go_wp2_with fail
    refine H4.out.mono ?_; rintro e w2 ⟨V, rfl, hown, hB⟩
    obtain ⟨g, cap, rfl, hg⟩ := wrow_form hown hL0
    have HOWN := Lib.hid hown
    have HB := Lib.hid hB
    clear hown hB
    go_wp2
    go_loopw [3, 14] (fun x i wr => ∃ k V : Nat, k ≤ n ∧ i = .int .i64 ((p : Int) + n - 1 - k) ∧ x = .int .i64 V ∧ V ≤ 281474976710656 ∧ Hid (V = V0 / 2 ^ k) ∧ Hid (wr.ownsRow w.heap.size 5 1 (.slice (some ⟨g, 0, none⟩) L cap) L ((putC bs p n V0 k).map YtbgkkaecpmgnoaaDoor.u8)) ∧ Hid (Below w.heap.size w wr)) (fun _ i _ => (intOf i + 1).toNat)
    case atStart => exact ⟨0, V0, Nat.zero_le _, by simp, rfl, hV48, Lib.hid (by simp), HOWN, HB⟩
    case round =>
      obtain ⟨k, V, hk, rfl, rfl, hV, HV, HR, HBW⟩ := hrel
      by_cases hlt : k < n
      · obtain ⟨i0, hi0⟩ : ∃ i0 : Nat, p + n - 1 - k = i0 := ⟨_, rfl⟩
        have hii : (p : Int) + n - 1 - k = (i0 : Int) := by omega
        have HI := Lib.hid hi0
        have hiL : i0 < 8 * L := by omega
        have hip : p ≤ i0 := by omega
        have HII := Lib.hid hii
        rw [hii]
        obtain ⟨q, hq⟩ : ∃ q, i0 / 8 = q := ⟨_, rfl⟩
        obtain ⟨s, hs⟩ : ∃ s, i0 % 8 = s := ⟨_, rfl⟩
        have hqi : (i0 : Int) / 8 = (q : Int) := by omega
        have hsi : (i0 : Int) % 8 = (s : Int) := by omega
        have hqL : q < L := by omega
        have hs8 : s < 8 := by omega
        have hcell := HR.out.cellAt q (by omega)
        have hfro := HR.out.frozenAt q
        have hpq : ((putC bs p n V0 k).map YtbgkkaecpmgnoaaDoor.u8)[q]? = some (.int .u8 (at8 (putC bs p n V0 k) q : Nat)) := by
          have hql : q < (putC bs p n V0 k).length := by rw [HPL.out]; exact hqL
          rw [List.getElem?_map, List.getElem?_eq_getElem hql, at8_eq _ _ hql]; rfl
        rw [hpq] at hcell
        have hx := at8_lt (HPLT.out k) q
        have hsh := shr128 s hs8
        have hb2 : V % 2 < 2 := Nat.mod_lt _ (by decide)
        have hsb := sb_all (7 - s) (by omega) 1 (by decide) (at8 (putC bs p n V0 k) q) hx
        have hm256 : 2 ^ (7 - s) < 256 := Nat.lt_of_le_of_lt (Nat.pow_le_pow_right (by decide) (show 7 - s ≤ 7 by omega)) (by decide)
        have hset : ∀ b, setBit (putC bs p n V0 k) i0 b = (putC bs p n V0 k).set q (sb (at8 (putC bs p n V0 k) q) (2 ^ (7 - s)) b) := fun b => by unfold setBit; rw [hq, hs]
        obtain ⟨x, hX⟩ : ∃ x, at8 (putC bs p n V0 k) q = x := ⟨_, rfl⟩
        obtain ⟨m, hM⟩ : ∃ m, 2 ^ (7 - s) = m := ⟨_, rfl⟩
        rw [hX] at hcell hx hsb hset
        rw [hM] at hsb hsh hm256 hset
        have h1 := u8_andNot_nat x m hx hm256
        rw [hsb.2.1] at h1
        have hsb0 : sb x m 0 < 256 := by unfold sb; omega
        have h2 := u8_or_nat (sb x m 0) m hsb0 hm256
        have h22 := hsb.2.2
        rw [Nat.one_mul] at h22
        rw [h22] at h2
        have hs0 := hset 0
        have hs1 := hset 1
        obtain ⟨x1, hx1⟩ : ∃ x1, sb x m 0 = x1 := ⟨_, rfl⟩
        obtain ⟨x2, hx2⟩ : ∃ x2, sb x m 1 = x2 := ⟨_, rfl⟩
        rw [hx1] at h1 h2 hsb0 hs0
        rw [hx2] at h2 hs1
        have hx2l : x2 < 256 := by rw [← hx2]; exact hsb.1
        have hav := and64_1 (V : Int)
        have HS0 := Lib.hid hs0
        have HS1 := Lib.hid hs1
        have hst0 := HR.out.stored q (.int .u8 (x1 : Int))
        have hst1 := hst0.1.stored q (.int .u8 (x2 : Int))
        rw [List.set_set, set_row] at hst1
        rw [set_row] at hst0
        have HST0 := Lib.hid hst0.1
        have HST1 := Lib.hid hst1.1
        clear hi0 hii hq hs hpq hb2 hsb hset hX hM h22 hs0 hs1 hx1 hx2 hst0 hst1
        by_cases hb : V % 2 = 1
        · have hbi : ((V : Int) % 2 == 1) = true := by simp; omega
          go_wp2
          go_roundw
          case rel =>
            refine ⟨k + 1, V / 2, by omega, by rw [← HII.out]; congr 1; omega, by go_num, by omega, Lib.hid (by rw [HV.out, Nat.pow_succ, Nat.div_div_eq_div_mul]), Lib.hid ?_, Lib.hid ((HBW.out.setCell (p := ⟨g, q, none⟩) hg _).setCell (p := ⟨g, q, none⟩) hg _)⟩
            have e : putC bs p n V0 (k + 1) = (putC bs p n V0 k).set q x2 := by rw [putC, HI.out, ← HV.out, hb]; exact HS1.out
            rw [e]; exact HST1.out
          case measure => simp [intOf]
        · have hbi : ((V : Int) % 2 == 1) = false := by simp; omega
          have hb0 : V % 2 = 0 := by omega
          go_wp2
          go_roundw
          case rel =>
            refine ⟨k + 1, V / 2, by omega, by rw [← HII.out]; congr 1; omega, by go_num, by omega, Lib.hid (by rw [HV.out, Nat.pow_succ, Nat.div_div_eq_div_mul]), Lib.hid ?_, Lib.hid (HBW.out.setCell (p := ⟨g, q, none⟩) hg _)⟩
            have e : putC bs p n V0 (k + 1) = (putC bs p n V0 k).set q x1 := by rw [putC, HI.out, ← HV.out, hb0]; exact HS0.out
            rw [e]; exact HST0.out
          case measure => simp [intOf]
      · have hkn : k = n := by omega
        subst hkn
        go_wp2
        go_ret2
        exact ⟨_, _, rfl, HR.out, HBW.out⟩
end Go.Proofs.YtbgkkaecpmgnoaaDoor
