/- The law BitsGets, walked. -/
import Derived.Test.YtbgkkaecpmgnoaaDoorRefGet2
namespace Go.Proofs.YtbgkkaecpmgnoaaDoor
open Go.RowKit
variable {w : World} {A : Option Addr} {bs : List Nat}

theorem span_cases (L : Nat) (p n : Int) (low : Bool) : (spanE L p n low == 0) = false ∨
    ∃ p' n' : Nat, p = p' ∧ n = n' ∧ n' ≤ 48 ∧ p' + n' ≤ 8 * L ∧ (low = true → p' % 8 = 0 ∧ n' % 8 = 0) := by
  unfold spanE
  by_cases h1 : p < 0 ∨ n < 0 ∨ 48 < n
  · rw [if_pos h1]; exact Or.inl rfl
  · rw [if_neg h1]
    by_cases h2 : low = true ∧ (p % 8 ≠ 0 ∨ n % 8 ≠ 0)
    · rw [if_pos h2]; exact Or.inl rfl
    · rw [if_neg h2]
      by_cases h3 : 8 * (L : Int) - n < p
      · rw [if_pos h3]; exact Or.inl rfl
      · refine Or.inr ⟨p.toNat, n.toNat, by omega, by omega, by omega, by omega, fun hl => ?_⟩
        have : ¬ (p % 8 ≠ 0 ∨ n % 8 ≠ 0) := fun h => h2 ⟨hl, h⟩
        omega

set_option maxHeartbeats 2000000 in
theorem gets_law (c : Nat) (hm : Byt w w.heap.size A bs) (hc : bs.length ≤ c) (p n l : Int) (hp : p ≤ 9223372036854775807) (hT : Tab w) (h0 : 0 < w.heap.size) :
    Calls Tryd.prog 3 #[.slice A bs.length c, .agg #[.int .i64 p, .int .i64 n, .int .i64 l]] w fun e w' => e = .returned (.bool true) ∧ Below w.heap.size w w' := by
  have hB0 : Below w.heap.size w (w.alloc (.cells #[.int .i64 p, .int .i64 n, .int .i64 l] 23)) := (Below.refl _ _).alloc (Nat.le_refl _) _
  by_cases hl : bs.length ≤ 20000
  · obtain ⟨lb, hlb⟩ : ∃ lb : Bool, (l == 1) = lb := ⟨_, rfl⟩
    rcases span_cases bs.length p n lb with he | ⟨p', n', rfl, rfl, hn, hpn, hlow⟩
    · have H1 := Lib.hid (fun w => get_err (w := w) (A := A) (c := c) p n lb hl he)
      have H2 := Lib.hid (fun w => rget_err (w := w) (A := A) (c := c) p n lb hl hp he)
      have HT := Lib.hid hT
      have HB := Lib.hid hB0
      clear hT hm he hB0
      go_enter Tryd.func3, Tryd.ntmps3
      go_wp2_with fail
      refine (H1.out _).mono ?_; rintro e w' ⟨rfl, rfl⟩
      go_wp2_with fail
      refine (H2.out _).mono ?_; rintro e w' ⟨rfl, rfl⟩
      go_wp2_with fail
      refine (known_any _ (HT.out.below HB.out h0) (by simp)).mono ?_; rintro e w' ⟨rfl, hB⟩
      go_wp2
      go_ret
      exact ⟨rfl, HB.out.trans (hB.mono HB.out.size)⟩
    · have hmW : Byt (w.alloc (.cells #[.int .i64 (p' : Int), .int .i64 (n' : Int), .int .i64 l] 23)) (w.alloc (.cells #[.int .i64 (p' : Int), .int .i64 (n' : Int), .int .i64 l] 23)).heap.size A bs := (hm.alloc (Nat.le_refl _) _).more (by simp)
      obtain ⟨W, hW⟩ : ∃ W, w.alloc (.cells #[.int .i64 (p' : Int), .int .i64 (n' : Int), .int .i64 l] 23) = W := ⟨_, rfl⟩
      have c0 : W.cell? ⟨w.heap.size, 0, none⟩ = some (.int .i64 (p' : Int)) := by rw [← hW]; simp
      have c1 : W.cell? ⟨w.heap.size, 1, none⟩ = some (.int .i64 (n' : Int)) := by rw [← hW]; simp
      have c2 : W.cell? ⟨w.heap.size, 2, none⟩ = some (.int .i64 l) := by rw [← hW]; simp
      have hsz : w.heap.size < W.heap.size := by rw [← hW]; simp
      rw [hW] at hmW hB0
      have HT := Lib.hid (hT.below hB0 h0)
      have HB := Lib.hid hB0
      have HM := Lib.hid hmW
      have HW := Lib.hid hW
      clear hT hm hB0 hmW hW
      cases lb with
      | false =>
        go_enter Tryd.func3, Tryd.ntmps3
        go_wp2_with fail
        rw [HW.out]
        refine (get_hi HM.out p' n' hl hc hn hpn).mono ?_; rintro e W1 ⟨rfl, hB1⟩
        have k0 := (hB1.cell (p := ⟨w.heap.size, 0, none⟩) hsz).trans c0
        have k1 := (hB1.cell (p := ⟨w.heap.size, 1, none⟩) hsz).trans c1
        have k2 := (hB1.cell (p := ⟨w.heap.size, 2, none⟩) hsz).trans c2
        have HM1 := Lib.hid ((HM.out.below hB1))
        have HB1 := Lib.hid hB1
        clear hB1
        go_wp2_with fail
        refine (rget_hi HM1.out p' n' hl hn hpn).mono ?_; rintro e w' ⟨rfl, rfl⟩
        go_wp2_with fail
        refine (known_any _ (HT.out.below HB1.out (by omega)) (by have := HB1.out.size; omega)).mono ?_; rintro e w' ⟨rfl, hB⟩
        go_wp2
        go_ret
        exact ⟨rfl, (HB.out.trans (HB1.out.mono (by omega))).trans (hB.mono (by have := HB1.out.size; omega))⟩
      | true =>
        have hlw := hlow rfl
        go_enter Tryd.func3, Tryd.ntmps3
        go_wp2_with fail
        rw [HW.out]
        refine (get_lo HM.out p' n' hl hc hn hpn hlw.1 hlw.2).mono ?_; rintro e W1 ⟨rfl, hB1⟩
        have k0 := (hB1.cell (p := ⟨w.heap.size, 0, none⟩) hsz).trans c0
        have k1 := (hB1.cell (p := ⟨w.heap.size, 1, none⟩) hsz).trans c1
        have k2 := (hB1.cell (p := ⟨w.heap.size, 2, none⟩) hsz).trans c2
        have HM1 := Lib.hid ((HM.out.below hB1).more hB1.size)
        have HB1 := Lib.hid hB1
        clear hB1
        go_wp2_with fail
        refine (rget_lo HM1.out p' n' hl hc hn hpn hlw.1 hlw.2).mono ?_; rintro e W2 ⟨rfl, hB2⟩
        have HB2 := Lib.hid (HB1.out.trans (hB2.mono HB1.out.size))
        clear hB2
        go_wp2_with fail
        refine (known_any _ (HT.out.below HB2.out (by omega)) (by have := HB2.out.size; omega)).mono ?_; rintro e w' ⟨rfl, hB⟩
        go_wp2
        go_ret
        exact ⟨rfl, (HB.out.trans (HB2.out.mono (by omega))).trans (hB.mono (by have := HB2.out.size; omega))⟩
  · have HT := Lib.hid hT
    have HB := Lib.hid hB0
    clear hT hm hB0
    go_enter Tryd.func3, Tryd.ntmps3
    go_wp2_with fail
    refine (known_any _ (HT.out.below HB.out h0) (by simp)).mono ?_; rintro e w' ⟨rfl, hB⟩
    go_wp2
    go_ret
    exact ⟨rfl, HB.out.trans (hB.mono HB.out.size)⟩
end Go.Proofs.YtbgkkaecpmgnoaaDoor
