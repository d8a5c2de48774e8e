/- The law BitsBack, walked. -/
import Derived.Test.YtbgkkaecpmgnoaaDoorPutZero
import Derived.Test.YtbgkkaecpmgnoaaDoorGetsLaw
namespace Go.Proofs.YtbgkkaecpmgnoaaDoor
open Go.RowKit
variable {w : World} {A : Option Addr} {bs : List Nat}

theorem get_ok {B c : Nat} (hm : Byt w B A bs) (p n : Nat) (low : Bool) (hL : bs.length ≤ 20000) (hc : bs.length ≤ c) (hn : n ≤ 48) (hp : p + n ≤ 8 * bs.length) (hlow : low = true → p % 8 = 0 ∧ n % 8 = 0) :
    Calls Tryd.prog 13 #[.slice A bs.length c, .int .i64 p, .int .i64 n, .bool low] w fun e w' => e = .returned (.tuple #[.int .i64 (getV bs p n low : Nat), .int .i64 0]) ∧ Below w.heap.size w w' := by
  cases low with
  | false => exact get_hi hm p n hL hc hn hp
  | true => exact get_lo hm p n hL hc hn hp (hlow rfl).1 (hlow rfl).2

set_option maxHeartbeats 4000000 in
theorem back_walk (c : Nat) (hm : Byt w w.heap.size A bs) (hc : bs.length ≤ c) (hA : A = none → c = 0) (hl : bs.length ≤ 20000) (p n v : Nat) (l k0 : Int) (lb : Bool) (hlb : (l == 1) = lb) (hn : n ≤ 48) (hpn : p + n ≤ 8 * bs.length)
    (hlow : lb = true → p % 8 = 0 ∧ n % 8 = 0) (hf : fitB v n = true) (hT : Tab w) (h0 : 0 < w.heap.size) :
    Calls Tryd.prog 5 #[.slice A bs.length c, .agg #[.int .i64 p, .int .i64 n, .int .i64 v, .int .i64 l], .int .i64 k0] w fun e w' => e = .returned (.bool true) ∧ Below w.heap.size w w' := by
  have hB0 : Below w.heap.size w (w.alloc (.cells #[.int .i64 (p : Int), .int .i64 (n : Int), .int .i64 (v : Int), .int .i64 l] 29)) := (Below.refl _ _).alloc (Nat.le_refl _) _
  have hvn : v < 2 ^ n := by
    have := of_decide_eq_true hf
    have e : (2 : Int) ^ n = ((2 ^ n : Nat) : Int) := by simp
    rw [e] at this; omega
  have hlt := hm.lt
  have HPUT : Hid (∀ W1, Below w.heap.size w W1 → _) := Lib.hid (fun W1 hb => put_ok (w := W1) (c := c) ((hm.below hb).more hb.size) hA hl p n v lb hn hpn hlow hf)
  have hcl := putC_len bs p n (putN n v lb) n
  have HGET : Hid (∀ (W1 : World) (B d : Nat) (A2 : Option Addr), Byt W1 B A2 (putC bs p n (putN n v lb) n) → bs.length ≤ d → Calls Tryd.prog 13 #[.slice A2 bs.length d, .int .i64 p, .int .i64 n, .bool lb] W1 fun e w' => e = .returned (.tuple #[.int .i64 v, .int .i64 0]) ∧ Below W1.heap.size W1 w') := Lib.hid (fun W1 B d A2 hb hd => by
    have h := get_ok (c := d) hb p n lb (by rw [hcl]; exact hl) (by rw [hcl]; exact hd) hn (by rw [hcl]; exact hpn) hlow
    rw [hcl, get_putC hlt p n v hpn hvn lb hlow] at h
    exact h)
  have HGB : Hid (∀ (W1 : World) (k : Nat), Below w.heap.size w W1 → k < 8 * bs.length → Calls Tryd.prog 13 #[.slice A bs.length c, .int .i64 k, .int .i64 1, .bool false] W1 fun e w' => e = .returned (.tuple #[.int .i64 (num bs k 1 : Nat), .int .i64 0]) ∧ Below W1.heap.size W1 w') := Lib.hid (fun W1 k hb hk =>
    get_hi (w := W1) (hm.below hb) k 1 hl hc (by decide) (by omega))
  have HGC : Hid (∀ (W1 : World) (B d k : Nat) (A2 : Option Addr), Byt W1 B A2 (putC bs p n (putN n v lb) n) → bs.length ≤ d → k < 8 * bs.length → Calls Tryd.prog 13 #[.slice A2 bs.length d, .int .i64 k, .int .i64 1, .bool false] W1 fun e w' => e = .returned (.tuple #[.int .i64 (num (putC bs p n (putN n v lb) n) k 1 : Nat), .int .i64 0]) ∧ Below W1.heap.size W1 w') := Lib.hid (fun W1 B d k A2 hb hd hk => by
    have h := get_hi (c := d) hb k 1 (by rw [hcl]; exact hl) (by rw [hcl]; exact hd) (by decide) (by rw [hcl]; omega)
    rw [hcl] at h
    exact h)
  have HSAME : Hid (∀ k, ¬ (p ≤ k ∧ k < p + n) → num (putC bs p n (putN n v lb) n) k 1 = num bs k 1) := Lib.hid (fun k hk => bit_putC hlt p n _ hpn k hk)
  have HT := Lib.hid hT
  have HB := Lib.hid hB0
  obtain ⟨L, hLL⟩ : ∃ L, bs.length = L := ⟨_, rfl⟩
  rw [hLL] at hl hc hpn HPUT HGET HGB HGC ⊢
  have hpi : IntKind.i64.wrap (p : Int) = (p : Int) := IntWalk.i64_in _ (by omega)
  clear hlow hf hvn hlt hcl hT hB0 hm hLL
  by_cases hL0 : L = 0
  · subst hL0
    go_enter Tryd.func5, Tryd.ntmps5
    go_wp2
    go_quiet (fail)
    go_wp2_with fail
    have hBq : Below w.heap.size w ((w.alloc (.cells #[.int .i64 (p : Int), .int .i64 (n : Int), .int .i64 (v : Int), .int .i64 l] 29)).drewN nq) := below_drewN HB.out nq
    refine (HPUT.out _ hBq).mono ?_; rintro e W1 ⟨A2, c2, rfl, hc2, hb1, hB1⟩
    have HB1 := Lib.hid (hBq.trans (hB1.mono hBq.size))
    clear hB1 hBq
    go_wp2_with fail
    refine (HGET.out W1 _ c2 A2 hb1.out hc2).mono ?_; rintro e W2 ⟨rfl, hB2⟩
    have HB2 := Lib.hid (HB1.out.trans (hB2.mono HB1.out.size))
    have HC2 := Lib.hid ((hb1.out.below hB2).more hB2.size)
    clear hB2 hb1
    go_wp2_with fail
    refine (known_any _ (HT.out.below HB2.out h0) (by have := HB2.out.size; omega)).mono ?_; rintro e w' ⟨rfl, hB⟩
    go_wp2
    go_ret
    exact ⟨rfl, HB2.out.trans (hB.mono HB2.out.size)⟩
  · have hL1 : 1 ≤ L := by omega
    clear hL0
    obtain ⟨T, hTm⟩ : ∃ T : Int, k0.tmod (8 * (L : Int)) = T := ⟨_, rfl⟩
    have hT1 : -160000 ≤ T ∧ T ≤ 160000 ∧ 0 ≤ T + 8 * (L : Int) := by
      have h1 := Int.tmod_lt_of_pos k0 (show (0 : Int) < 8 * L by omega)
      have h2 := Int.lt_tmod_of_pos k0 (show (0 : Int) < 8 * L by omega)
      omega
    have hj0 : 0 ≤ T % (8 * (L : Int)) := Int.emod_nonneg _ (by omega)
    have hj1 : T % (8 * (L : Int)) < 8 * L := Int.emod_lt_of_pos _ (by omega)
    obtain ⟨k, hk⟩ : ∃ k : Nat, T % (8 * (L : Int)) = k := ⟨(T % (8 * (L : Int))).toNat, (Int.toNat_of_nonneg hj0).symm⟩
    rw [hk] at hj0 hj1
    have hkL : k < 8 * L := by omega
    obtain ⟨X, hX⟩ : ∃ X, num bs k 1 = X := ⟨_, rfl⟩
    obtain ⟨Y, hY⟩ : ∃ Y, num (putC bs p n (putN n v lb) n) k 1 = Y := ⟨_, rfl⟩
    have HGB1 : Hid (∀ (W1 : World), Below w.heap.size w W1 → Calls Tryd.prog 13 #[.slice A L c, .int .i64 k, .int .i64 1, .bool false] W1 fun e w' => e = .returned (.tuple #[.int .i64 X, .int .i64 0]) ∧ Below W1.heap.size W1 w') := Lib.hid (fun W1 hb => by rw [← hX]; exact HGB.out W1 k hb hkL)
    have HGC1 : Hid (∀ (W1 : World) (B d : Nat) (A2 : Option Addr), Byt W1 B A2 (putC bs p n (putN n v lb) n) → L ≤ d → Calls Tryd.prog 13 #[.slice A2 L d, .int .i64 k, .int .i64 1, .bool false] W1 fun e w' => e = .returned (.tuple #[.int .i64 Y, .int .i64 0]) ∧ Below W1.heap.size W1 w') := Lib.hid (fun W1 B d A2 hb hd => by rw [← hY]; exact HGC.out W1 B d k A2 hb hd hkL)
    have hXY : X = Y ∨ (p ≤ k ∧ k < p + n) := by
      by_cases h : p ≤ k ∧ k < p + n
      · exact Or.inr h
      · left; rw [← hX, ← hY]; exact (HSAME.out k h).symm
    have HXY := Lib.hid hXY
    clear hX hY HGB HGC HSAME hXY
    go_enter Tryd.func5, Tryd.ntmps5
    go_wp2
    go_quiet (fail)
    go_wp2_with fail
    have hBq : Below w.heap.size w ((w.alloc (.cells #[.int .i64 (p : Int), .int .i64 (n : Int), .int .i64 (v : Int), .int .i64 l] 29)).drewN nq) := below_drewN HB.out nq
    refine (HPUT.out _ hBq).mono ?_; rintro e W1 ⟨A2, c2, rfl, hc2, hb1, hB1⟩
    have HB1 := Lib.hid (hBq.trans (hB1.mono hBq.size))
    clear hB1 hBq
    go_wp2_with fail
    refine (HGET.out W1 _ c2 A2 hb1.out hc2).mono ?_; rintro e W2 ⟨rfl, hB2⟩
    have HB2 := Lib.hid (HB1.out.trans (hB2.mono HB1.out.size))
    have HC2 := Lib.hid ((hb1.out.below hB2).more hB2.size)
    clear hB2 hb1
    go_wp2_with fail
    refine (HGB1.out W2 HB2.out).mono ?_; rintro e W3 ⟨rfl, hB3⟩
    have HB3 := Lib.hid (HB2.out.trans (hB3.mono HB2.out.size))
    have HC3 := Lib.hid ((HC2.out.below hB3).more hB3.size)
    clear hB3
    go_wp2_with fail
    refine (HGC1.out W3 _ c2 A2 HC3.out hc2).mono ?_; rintro e W4 ⟨rfl, hB4⟩
    have HB4 := Lib.hid (HB3.out.trans (hB4.mono HB3.out.size))
    clear hB4
    by_cases hE : X = Y
    · subst hE
      go_wp2_with fail
      refine (known_any _ (HT.out.below HB4.out h0) (by have := HB4.out.size; omega)).mono ?_; rintro e w' ⟨rfl, hB⟩
      go_wp2
      go_ret
      exact ⟨rfl, HB4.out.trans (hB.mono HB4.out.size)⟩
    · obtain ⟨hin1, hin2⟩ : p ≤ k ∧ k < p + n := HXY.out.resolve_left hE
      go_wp2_with fail
      refine (known_any _ (HT.out.below HB4.out h0) (by have := HB4.out.size; omega)).mono ?_; rintro e w' ⟨rfl, hB⟩
      go_wp2
      go_ret
      exact ⟨rfl, HB4.out.trans (hB.mono HB4.out.size)⟩

set_option maxHeartbeats 2000000 in
theorem back_law (c : Nat) (hm : Byt w w.heap.size A bs) (hc : bs.length ≤ c) (hA : A = none → c = 0) (p n v l k0 : Int) (hT : Tab w) (h0 : 0 < w.heap.size) :
    Calls Tryd.prog 5 #[.slice A bs.length c, .agg #[.int .i64 p, .int .i64 n, .int .i64 v, .int .i64 l], .int .i64 k0] w fun e w' => e = .returned (.bool true) ∧ Below w.heap.size w w' := by
  have hB0 : Below w.heap.size w (w.alloc (.cells #[.int .i64 p, .int .i64 n, .int .i64 v, .int .i64 l] 29)) := (Below.refl _ _).alloc (Nat.le_refl _) _
  have HT := Lib.hid hT
  have HB := Lib.hid hB0
  by_cases hl : bs.length ≤ 20000
  · obtain ⟨lb, hlb⟩ : ∃ lb : Bool, (l == 1) = lb := ⟨_, rfl⟩
    rcases span_cases bs.length p n lb with he | ⟨p', n', rfl, rfl, hn, hpn, hlow⟩
    · have H1 := Lib.hid (fun w => put_err (w := w) (A := A) (c := c) p n v lb hl he)
      have heb : (spanE bs.length p n lb != 0) = true := by simpa [bne] using he
      clear hT hm hB0 hA
      go_enter Tryd.func5, Tryd.ntmps5
      go_wp2
      go_quiet (fail)
      go_wp2_with fail
      refine (H1.out _).mono ?_; rintro e w' ⟨rfl, rfl⟩
      have HBq := Lib.hid (below_drewN HB.out nq)
      go_wp2_with fail
      refine (known_any _ (HT.out.below HBq.out h0) (by simp)).mono ?_; rintro e w' ⟨rfl, hB⟩
      go_wp2
      go_ret
      exact ⟨rfl, HBq.out.trans (hB.mono HBq.out.size)⟩
    · by_cases hf : fitB v n' = true
      · have hv0 : 0 ≤ v := (of_decide_eq_true hf).1
        obtain ⟨v', rfl⟩ := Int.eq_ofNat_of_zero_le hv0
        exact back_walk c hm hc hA hl p' n' v' l k0 lb hlb hn hpn hlow hf hT h0
      · have hf' : fitB v n' = false := by simpa using hf
        have H1 := Lib.hid (fun w => put_fit (w := w) (A := A) (c := c) p' n' v lb hl hn hpn hlow hf')
        clear hT hm hB0 hA hf hf' hlow
        go_enter Tryd.func5, Tryd.ntmps5
        go_wp2
        go_quiet (fail)
        go_wp2_with fail
        refine (H1.out _).mono ?_; rintro e w' ⟨rfl, rfl⟩
        have HBq := Lib.hid (below_drewN HB.out nq)
        go_wp2_with fail
        refine (known_any _ (HT.out.below HBq.out h0) (by simp)).mono ?_; rintro e w' ⟨rfl, hB⟩
        go_wp2
        go_ret
        exact ⟨rfl, HBq.out.trans (hB.mono HBq.out.size)⟩
  · clear hT hm hB0 hA
    go_enter Tryd.func5, Tryd.ntmps5
    go_wp2_with fail
    refine (known_any _ (HT.out.below HB.out h0) (by simp)).mono ?_; rintro e w' ⟨rfl, hB⟩
    go_wp2
    go_ret
    exact ⟨rfl, HB.out.trans (hB.mono HB.out.size)⟩
end Go.Proofs.YtbgkkaecpmgnoaaDoor
