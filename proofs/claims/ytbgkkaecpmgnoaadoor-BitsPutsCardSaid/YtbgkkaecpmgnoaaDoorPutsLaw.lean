/- The law BitsPuts, walked. -/
import Derived.Test.YtbgkkaecpmgnoaaDoorPutZero
import Derived.Test.YtbgkkaecpmgnoaaDoorGetsLaw
namespace Go.Proofs.YtbgkkaecpmgnoaaDoor
open Go.RowKit
variable {w : World} {A : Option Addr} {bs : List Nat}

set_option maxHeartbeats 2000000 in
theorem puts_law (c : Nat) (hm : Byt w w.heap.size A bs) (hA : A = none → c = 0) (p n v l : Int) (hp : p ≤ 9223372036854775807) (hT : Tab w) (h0 : 0 < w.heap.size) :
    Calls Tryd.prog 4 #[.slice A bs.length c, .agg #[.int .i64 p, .int .i64 n, .int .i64 v, .int .i64 l]] w fun e w' => e = .returned (.bool true) ∧ Below w.heap.size w w' := by
  have hB0 : Below w.heap.size w (w.alloc (.cells #[.int .i64 p, .int .i64 n, .int .i64 v, .int .i64 l] 29)) := (Below.refl _ _).alloc (Nat.le_refl _) _
  have HT := Lib.hid hT
  by_cases hl : bs.length ≤ 20000
  · obtain ⟨lb, hlb⟩ : ∃ lb : Bool, (l == 1) = lb := ⟨_, rfl⟩
    rcases span_cases bs.length p n lb with he | ⟨p', n', rfl, rfl, hn, hpn, hlow⟩
    · have H1 := Lib.hid (fun w => put_err (w := w) (A := A) (c := c) p n v lb hl he)
      have H2 := Lib.hid (fun w => rput_err (w := w) (A := A) (c := c) p n v lb hl hp he)
      have HS := Lib.hid (fun w => same_any (w := w) (c1 := 0) (c2 := 0) (Byt.nil w 0 none) (Byt.nil w 0 none) rfl)
      have HB := Lib.hid hB0
      clear hT hm he hB0 hA
      go_enter Tryd.func4, Tryd.ntmps4
      go_wp2_with fail
      refine (H1.out _).mono ?_; rintro e w' ⟨rfl, rfl⟩
      go_wp2_with fail
      refine (H2.out _).mono ?_; rintro e w' ⟨rfl, rfl⟩
      go_wp2_with fail
      refine (HS.out _).mono ?_; rintro e w' ⟨rfl, rfl⟩
      go_wp2_with fail
      refine (known_any _ (HT.out.below HB.out h0) (by simp)).mono ?_; rintro e w' ⟨rfl, hB⟩
      go_wp2
      go_ret
      exact ⟨rfl, HB.out.trans (hB.mono HB.out.size)⟩
    · by_cases hf : fitB v n' = true
      · have hv0 : 0 ≤ v := (of_decide_eq_true hf).1
        obtain ⟨v', rfl⟩ := Int.eq_ofNat_of_zero_le hv0
        have hmW : Byt (w.alloc (.cells #[.int .i64 (p' : Int), .int .i64 (n' : Int), .int .i64 (v' : Int), .int .i64 l] 29)) (w.alloc (.cells #[.int .i64 (p' : Int), .int .i64 (n' : Int), .int .i64 (v' : Int), .int .i64 l] 29)).heap.size A bs := (hm.alloc (Nat.le_refl _) _).more (by simp)
        obtain ⟨W, hW⟩ : ∃ W, w.alloc (.cells #[.int .i64 (p' : Int), .int .i64 (n' : Int), .int .i64 (v' : Int), .int .i64 l] 29) = W := ⟨_, rfl⟩
        have c0 : W.cell? ⟨w.heap.size, 0, none⟩ = some (.int .i64 (p' : Int)) := by rw [← hW]; simp
        have c1 : W.cell? ⟨w.heap.size, 1, none⟩ = some (.int .i64 (n' : Int)) := by rw [← hW]; simp
        have c2 : W.cell? ⟨w.heap.size, 2, none⟩ = some (.int .i64 (v' : Int)) := by rw [← hW]; simp
        have c3 : W.cell? ⟨w.heap.size, 3, none⟩ = some (.int .i64 l) := by rw [← hW]; simp
        have hsz : w.heap.size < W.heap.size := by rw [← hW]; simp
        rw [hW] at hmW hB0
        have HTW := Lib.hid (hT.below hB0 h0)
        have H1 := Lib.hid (put_ok (c := c) hmW hA hl p' n' v' lb hn hpn hlow hf)
        have H2 : Hid (∀ W1, Below W.heap.size W W1 → _) := Lib.hid (fun W1 hb => rput_ok (w := W1) (c := c) ((hmW.below hb).more hb.size) hA hl p' n' v' lb hn hpn hlow hf)
        have HLEN := Lib.hid (putC_len bs p' n' (putN n' v' lb) n')
        have HB := Lib.hid hB0
        have HW := Lib.hid hW
        clear hT hm hB0 hmW hW hf hv0 hlow hA
        go_enter Tryd.func4, Tryd.ntmps4
        go_wp2_with fail
        rw [HW.out]
        refine H1.out.mono ?_; rintro e W1 ⟨A1, d1, rfl, _, hb1, hB1⟩
        have k0 := (hB1.cell (p := ⟨w.heap.size, 0, none⟩) hsz).trans c0
        have k1 := (hB1.cell (p := ⟨w.heap.size, 1, none⟩) hsz).trans c1
        have k2 := (hB1.cell (p := ⟨w.heap.size, 2, none⟩) hsz).trans c2
        have k3 := (hB1.cell (p := ⟨w.heap.size, 3, none⟩) hsz).trans c3
        have HB1 := Lib.hid hB1
        clear hB1
        go_wp2_with fail
        refine (H2.out _ HB1.out).mono ?_; rintro e W2 ⟨A2, d2, rfl, hb2, hB2⟩
        have HS := Lib.hid (same_any (c1 := d1) (c2 := d2) (hb1.out.below hB2) hb2.out rfl)
        rw [HLEN.out] at HS
        have HB2 := Lib.hid (HB1.out.trans (hB2.mono HB1.out.size))
        clear hB2 hb1 hb2
        go_wp2_with fail
        refine HS.out.mono ?_; rintro e w' ⟨rfl, rfl⟩
        go_wp2_with fail
        refine (known_any _ (HTW.out.below HB2.out (by omega)) (by have := HB2.out.size; omega)).mono ?_; rintro e w' ⟨rfl, hB⟩
        go_wp2
        go_ret
        exact ⟨rfl, (HB.out.trans (HB2.out.mono (by omega))).trans (hB.mono (by have := HB2.out.size; omega))⟩
      · have hf' : fitB v n' = false := by simpa using hf
        have H1 := Lib.hid (fun w => put_fit (w := w) (A := A) (c := c) p' n' v lb hl hn hpn hlow hf')
        have H2 := Lib.hid (fun w => rput_fit (w := w) (A := A) (c := c) p' n' v lb hl hn hpn hlow hf')
        have HS := Lib.hid (fun w => same_any (w := w) (c1 := 0) (c2 := 0) (Byt.nil w 0 none) (Byt.nil w 0 none) rfl)
        have HB := Lib.hid hB0
        clear hT hm hB0 hA hf hf' hlow
        go_enter Tryd.func4, Tryd.ntmps4
        go_wp2_with fail
        refine (H1.out _).mono ?_; rintro e w' ⟨rfl, rfl⟩
        go_wp2_with fail
        refine (H2.out _).mono ?_; rintro e w' ⟨rfl, rfl⟩
        go_wp2_with fail
        refine (HS.out _).mono ?_; rintro e w' ⟨rfl, rfl⟩
        go_wp2_with fail
        refine (known_any _ (HT.out.below HB.out h0) (by simp)).mono ?_; rintro e w' ⟨rfl, hB⟩
        go_wp2
        go_ret
        exact ⟨rfl, HB.out.trans (hB.mono HB.out.size)⟩
  · have HB := Lib.hid hB0
    clear hT hm hB0 hA
    go_enter Tryd.func4, Tryd.ntmps4
    go_wp2_with fail
    refine (known_any _ (HT.out.below HB.out h0) (by simp)).mono ?_; rintro e w' ⟨rfl, hB⟩
    go_wp2
    go_ret
    exact ⟨rfl, HB.out.trans (hB.mono HB.out.size)⟩
end Go.Proofs.YtbgkkaecpmgnoaaDoor
