/- The text of a token; how much tokens are; the reference's Same and Lex. -/
import Derived.Test.YtnaopgajinbnmaaGreatDoorGen
import Derived.Test.YtnaopgajinbnmaaGreatDoorQuote
import Derived.Test.YtnaopgajinbnmaaGreatDoorRefCut
import Derived.Test.YtnaopgajinbnmaaGreatDoorKnown
import Derived.Lib.AppendIntMem
import Derived.Lib.ItoaLen
namespace Go.Proofs.YtnaopgajinbnmaaGreatDoor
open Go.RowKit

def numS (n : Int) : ByteArray := ⟨(Lib.itoa n).toArray⟩
theorem itoa_any (n : Int) (hn : -9223372036854775808 ≤ n ∧ n ≤ 9223372036854775807) {w : World} (hL : Laid w) :
    Calls Tryz.prog 30 #[.int .i64 n] w fun e w' => e = .returned (.string (numS n)) ∧ Below w.heap.size w w' := by
  refine (Tryz.strconv_Itoa n hn.1 hn.2 w hL.pow).mono ?_
  rintro e w' ⟨rfl, k, os, rfl⟩
  exact ⟨rfl, Lib.below_grow _ _ (Nat.le_refl _) _ _⟩
theorem number_any (n : Int) (hn : -9223372036854775808 ≤ n ∧ n ≤ 9223372036854775807) {w : World} (hL : Laid w) :
    Calls Tryz.prog 21 #[.int .i64 n] w fun e w' => e = .returned (.string (numS n)) ∧ Below w.heap.size w w' := by
  go_enter Tryz.func21, Tryz.ntmps21
  go_wp2_with (go_at_call 30; refine (itoa_any n hn hL).mono ?_; rintro e w' ⟨rfl, hb⟩)
  go_ret
  exact ⟨rfl, hb⟩
theorem rnumber_any (n : Int) (hn : -9223372036854775808 ≤ n ∧ n ≤ 9223372036854775807) {w : World} (hL : Laid w) :
    Calls Tryz.prog 23 #[.int .i64 n] w fun e w' => e = .returned (.string (numS n)) ∧ Below w.heap.size w w' := by
  go_enter Tryz.func23, Tryz.ntmps23
  go_wp2_with (go_at_call 30; refine (itoa_any n hn hL).mono ?_; rintro e w' ⟨rfl, hb⟩)
  go_ret
  exact ⟨rfl, hb⟩
theorem numS_size (n : Int) (h0 : -9223372036854775808 ≤ n) (h1 : n ≤ 9223372036854775807) : (numS n).size ≤ 21 := by
  have := Lib.itoa_length_le n h0 h1
  rw [← bl_len]; exact this

/-- The text of a token. -/
def wrS (t : ATk) : ByteArray := if t.k = 1 then numS t.n else if t.k = 2 then ⟨(quoteL (bl t.s)).toArray⟩ else t.s
def ATk.ok (t : ATk) : Prop := -9223372036854775808 ≤ t.n ∧ t.n ≤ 9223372036854775807
theorem wrS_size (t : ATk) (h : t.ok) : (wrS t).size ≤ 4 * t.s.size + 21 := by
  unfold wrS
  split
  · have := numS_size t.n h.1 h.2; omega
  · split
    · have h2 := flat_size (bl t.s)
      have : (⟨(quoteL (bl t.s)).toArray⟩ : ByteArray).size = (quoteL (bl t.s)).length := by rw [← bl_len]; simp [bl]
      rw [this]; unfold quoteL; rw [bl_len] at h2; rw [List.length_cons, List.length_append, List.length_singleton]; omega
    · omega

set_option maxRecDepth 100000 in
set_option maxHeartbeats 4000000 in
theorem written_any (t : ATk) (ht : t.ok) (hs : t.s.size ≤ 48000) {w : World} (hL : Laid w) :
    Calls Tryz.prog 13 #[aVV t] w fun e w' => e = .returned (.string (wrS t)) ∧ Below w.heap.size w w' := by
  obtain ⟨xk, xn, xa, xs⟩ := t
  obtain ⟨W, hW⟩ : ∃ W, w.alloc (.cells #[.int .i64 xk, .int .i64 xn, .int .i64 xa, .string xs] 32) = W := ⟨_, rfl⟩
  have hb : Below w.heap.size w W := hW ▸ (Below.refl _ w).alloc (Nat.le_refl _) _
  have hy : Blk W w.heap.size 32 #[.int .i64 xk, .int .i64 xn, .int .i64 xa, .string xs] := hW ▸ Blk.new _ _ _
  have hLW := hL.below hb
  obtain ⟨z0, z1, z2, z3, -⟩ := tok_facts hy
  by_cases h1 : xk = 1
  · have e1 : (xk == 1) = true := by simp [h1]
    have hF : wrS ⟨xk, xn, xa, xs⟩ = numS xn := by unfold wrS; rw [if_pos h1]
    have hN := number_any xn ht hLW
    rw [hF]
    have HB := Lib.hid hb
    clear h1 hF hb
    go_enter Tryz.func13, Tryz.ntmps13
    go_wp2_with (go_at_call 21; (try rw [hW]); refine hN.mono ?_)
    rintro e w2 rfl hb2
    go_wp2
    go_ret
    exact ⟨rfl, HB.out.trans (hb2.mono HB.out.size)⟩
  · have e1 : (xk == 1) = false := by simp [h1]
    by_cases h2 : xk = 2
    · have e2 : (xk == 2) = true := by simp [h2]
      have hF : wrS ⟨xk, xn, xa, xs⟩ = ⟨(quoteL (bl xs)).toArray⟩ := by unfold wrS; rw [if_neg h1, if_pos h2]
      have hN := quoted_any xs hs W
      rw [hF]
      have HB := Lib.hid hb
      clear h1 h2 hF hb
      go_enter Tryz.func13, Tryz.ntmps13
      go_wp2_with (go_at_call 22; (try rw [hW]); refine hN.mono ?_)
      rintro e w2 rfl hb2
      go_wp2
      go_ret
      exact ⟨rfl, HB.out.trans (hb2.mono HB.out.size)⟩
    · have e2 : (xk == 2) = false := by simp [h2]
      have hF : wrS ⟨xk, xn, xa, xs⟩ = xs := by unfold wrS; rw [if_neg h1, if_neg h2]
      rw [hF]
      have HB := Lib.hid (show Below w.heap.size w (w.alloc (.cells #[.int .i64 xk, .int .i64 xn, .int .i64 xa, .string xs] 32)) from hW ▸ hb)
      clear h1 h2 hF hb hW z0 z1 z2 z3
      go_enter Tryz.func13, Tryz.ntmps13
      go_wp2
      go_ret
      exact ⟨rfl, HB.out⟩

set_option maxRecDepth 100000 in
set_option maxHeartbeats 4000000 in
theorem rwritten_any (t : ATk) (ht : t.ok) (hs : t.s.size ≤ 48000) {w : World} (hL : Laid w) :
    Calls Tryz.prog 15 #[aVV t] w fun e w' => e = .returned (.string (wrS t)) ∧ Below w.heap.size w w' := by
  obtain ⟨xk, xn, xa, xs⟩ := t
  obtain ⟨W, hW⟩ : ∃ W, w.alloc (.cells #[.int .i64 xk, .int .i64 xn, .int .i64 xa, .string xs] 32) = W := ⟨_, rfl⟩
  have hb : Below w.heap.size w W := hW ▸ (Below.refl _ w).alloc (Nat.le_refl _) _
  have hy : Blk W w.heap.size 32 #[.int .i64 xk, .int .i64 xn, .int .i64 xa, .string xs] := hW ▸ Blk.new _ _ _
  have hLW := hL.below hb
  obtain ⟨z0, z1, z2, z3, -⟩ := tok_facts hy
  by_cases h1 : xk = 1
  · have e1 : (xk == 1) = true := by simp [h1]
    have hF : wrS ⟨xk, xn, xa, xs⟩ = numS xn := by unfold wrS; rw [if_pos h1]
    have hN := rnumber_any xn ht hLW
    rw [hF]
    have HB := Lib.hid hb
    clear h1 hF hb
    go_enter Tryz.func15, Tryz.ntmps15
    go_wp2_with (go_at_call 23; (try rw [hW]); refine hN.mono ?_)
    rintro e w2 rfl hb2
    go_wp2
    go_ret
    exact ⟨rfl, HB.out.trans (hb2.mono HB.out.size)⟩
  · have e1 : (xk == 1) = false := by simp [h1]
    by_cases h2 : xk = 2
    · have e2 : (xk == 2) = true := by simp [h2]
      have hF : wrS ⟨xk, xn, xa, xs⟩ = ⟨(quoteL (bl xs)).toArray⟩ := by unfold wrS; rw [if_neg h1, if_pos h2]
      have hN := rquoted_any xs hs W
      rw [hF]
      have HB := Lib.hid hb
      clear h1 h2 hF hb
      go_enter Tryz.func15, Tryz.ntmps15
      go_wp2_with (go_at_call 24; (try rw [hW]); refine hN.mono ?_)
      rintro e w2 rfl hb2
      go_wp2
      go_ret
      exact ⟨rfl, HB.out.trans (hb2.mono HB.out.size)⟩
    · have e2 : (xk == 2) = false := by simp [h2]
      have hF : wrS ⟨xk, xn, xa, xs⟩ = xs := by unfold wrS; rw [if_neg h1, if_neg h2]
      rw [hF]
      have HB := Lib.hid (show Below w.heap.size w (w.alloc (.cells #[.int .i64 xk, .int .i64 xn, .int .i64 xa, .string xs] 32)) from hW ▸ hb)
      clear h1 h2 hF hb hW z0 z1 z2 z3
      go_enter Tryz.func15, Tryz.ntmps15
      go_wp2
      go_ret
      exact ⟨rfl, HB.out⟩

/-- How much tokens are. -/
def sumS (ts : List ATk) : Nat := (ts.map fun t => t.s.size).sum
theorem sumS_cons (t : ATk) (ts : List ATk) : sumS (t :: ts) = t.s.size + sumS ts := by simp [sumS]
theorem sumS_drop (ts : List ATk) (k : Nat) (h : k < ts.length) : sumS (ts.drop k) = ts[k].s.size + sumS (ts.drop (k + 1)) := by
  rw [List.drop_eq_getElem_cons h, sumS_cons]
theorem sumS_mem (ts : List ATk) : ∀ t ∈ ts, t.s.size ≤ sumS ts := by
  induction ts with
  | nil => intro t h; cases h
  | cons x r ih =>
    intro t h
    rw [sumS_cons]
    rcases List.mem_cons.1 h with rfl | h
    · omega
    · have := ih t h; omega

set_option maxRecDepth 100000 in
set_option maxHeartbeats 4000000 in
theorem heavy_any (ts : List ATk) (A : Option Addr) (c : Nat) (hl : ts.length ≤ 1048576) (hs : sumS ts ≤ 1048576) {w : World} (hA : ATokAt w A ts) :
    Calls Tryz.prog 4 #[.slice A ts.length c] w fun e w' => e = .returned (.int .i64 (4 * ts.length + sumS ts : Nat)) ∧ w = w' := by
  obtain ⟨n, hn⟩ : ∃ n, ts.length = n := ⟨_, rfl⟩
  have HN := Lib.hid hn
  rw [hn] at hl ⊢
  obtain ⟨S, hS⟩ : ∃ S, sumS ts = S := ⟨_, rfl⟩
  have HS := Lib.hid hS
  rw [hS] at hs ⊢
  clear hn hS
  go_enter Tryz.func4, Tryz.ntmps4
  go_wp2
  go_loop [3, 4] (fun v i => ∃ x k : Nat, v = .int .i64 x ∧ i = .int .i64 k ∧ k ≤ n ∧ x ≤ 4 * n + S ∧ Hid (x + sumS (ts.drop k) = 4 * n + S)) (fun _ i => n - (intOf i).toNat)
  case atStart => exact ⟨4 * n, 0, by go_num, rfl, by omega, by omega, Lib.hid (by rw [List.drop_zero, HS.out])⟩
  case round =>
    obtain ⟨x, k, rfl, rfl, hk, hx, HX⟩ := hrel
    by_cases hlt : k < n
    · have hkx : k < ts.length := by rw [HN.out]; exact hlt
      obtain ⟨b, o, rfl, hbl, hc⟩ := hA (by omega)
      obtain ⟨-, -, -, p3⟩ := hc k hkx
      have hd := sumS_drop ts k hkx
      generalize ts[k] = t at p3 hd
      obtain ⟨xk, xn, xa, xs⟩ := t
      have hX := HX.out
      rw [hd] at hX
      simp only at hX p3
      have hx2 : x + xs.size ≤ 4 * n + S := by omega
      have HN2 : Hid (x + xs.size + sumS (ts.drop (k + 1)) = 4 * n + S) := Lib.hid (by omega)
      have hdl : decide ((k : Int) < (n : Int)) = true := decide_eq_true (by omega)
      clear hc hA hd hX
      go_wp2
      go_round
      case rel => exact ⟨x + xs.size, k + 1, by go_num, by go_num, by omega, hx2, HN2⟩
      case measure => simp [intOf]; omega
    · obtain rfl : k = n := by omega
      have HF : Hid (x = 4 * k + S) := Lib.hid (by
        have h := HX.out
        rw [List.drop_eq_nil_of_le (by rw [HN.out]; omega)] at h
        simpa [sumS] using h)
      clear hlt
      go_wp2
      go_ret
      exact ⟨ret_int (by have := HF.out; omega), rfl⟩

theorem sameA_no (x y : ATk) (r q : List ATk) (h : sameA x y = false) : sameAL (x :: r) (y :: q) = false := by rw [sameAL, h]; rfl
set_option maxRecDepth 100000 in
set_option maxHeartbeats 8000000 in
theorem rsame_any (xs ys : List ATk) (A C : Option Addr) (c1 c2 : Nat) (hx : xs.length ≤ 1048576) (hy : ys.length ≤ 1048576) {w : World} (hA : ATokAt w A xs) (hC : ATokAt w C ys) :
    Calls Tryz.prog 9 #[.slice A xs.length c1, .slice C ys.length c2] w fun e w' => e = .returned (.bool (sameAL xs ys)) ∧ Below w.heap.size w w' := by
  by_cases hlen : xs.length = ys.length
  · obtain ⟨n, hn⟩ : ∃ n, xs.length = n := ⟨_, rfl⟩
    have hn2 : ys.length = n := by omega
    have HN := Lib.hid (And.intro hn hn2)
    rw [hn] at hx ⊢
    rw [hn2]
    clear hn hn2 hlen hy
    go_enter Tryz.func9, Tryz.ntmps9
    go_wp2
    go_loopw [5] (fun i wr => ∃ k : Nat, i = .int .i64 k ∧ k ≤ n ∧ Hid (sameAL xs ys = sameAL (xs.drop k) (ys.drop k) ∧ Below w.heap.size w wr)) (fun i _ => n - (intOf i).toNat)
    case atStart => exact ⟨0, rfl, Nat.zero_le _, Lib.hid ⟨rfl, Below.refl _ _⟩⟩
    case round =>
      obtain ⟨k, rfl, hk, HW⟩ := hrel
      by_cases hlt : k < n
      · have hkx : k < xs.length := by rw [HN.out.1]; exact hlt
        have hky : k < ys.length := by rw [HN.out.2]; exact hlt
        obtain ⟨b, o, rfl, hbl, hc⟩ := hA.below HW.out.2 (by omega)
        obtain ⟨b', o', rfl, hbl', hc'⟩ := hC.below HW.out.2 (by omega)
        obtain ⟨p0, p1, p2, p3⟩ := hc k hkx
        obtain ⟨r0, r1, r2, r3⟩ := hc' k hky
        have HS := Lib.hid (sameAL_drop xs ys k hkx hky)
        generalize xs[k] = x at p0 p1 p2 p3 HS
        generalize ys[k] = y at r0 r1 r2 r3 HS
        obtain ⟨xk, xn, xa, xt⟩ := x
        obtain ⟨yk, yn, ya, yt⟩ := y
        simp only at p0 p1 p2 p3 r0 r1 r2 r3
        have hd : decide ((k : Int) < (n : Int)) = true := decide_eq_true (by omega)
        have h3 : (k : Int) < (n : Int) := by omega
        have HB2 : ∀ m, Below w.heap.size w (wr.drewN m) := fun m => below_drewN HW.out.2 m
        clear hc hc' hA hC
        cases e1 : (xk == yk) with
        | false =>
          have HF : Hid (sameAL xs ys = false) := Lib.hid (by rw [HW.out.1, HS.out]; simp [sameA, e1])
          have n1 : (xk != yk) = true := by rw [bne, e1]; rfl
          go_wp2
          go_quiet (fail)
          go_wp2
          go_ret
          exact ⟨ret_bool HF.out.symm, HB2 _⟩
        | true =>
          have n1 : (xk != yk) = false := by rw [bne, e1]; rfl
          cases e2 : (xn == yn) with
          | false =>
            have n2 : (xn != yn) = true := by rw [bne, e2]; rfl
            have HF : Hid (sameAL xs ys = false) := Lib.hid (by rw [HW.out.1, HS.out]; simp [sameA, e2])
            go_wp2
            go_quiet (fail)
            go_wp2
            go_ret
            exact ⟨ret_bool HF.out.symm, HB2 _⟩
          | true =>
            have n2 : (xn != yn) = false := by rw [bne, e2]; rfl
            cases e3 : (xt.toList == yt.toList) with
            | false =>
              have n3 : (xt.toList != yt.toList) = true := by rw [bne, e3]; rfl
              have HF : Hid (sameAL xs ys = false) := Lib.hid (by rw [HW.out.1, HS.out]; simp [sameA, e3])
              go_wp2
              go_quiet (fail)
              go_wp2
              go_ret
              exact ⟨ret_bool HF.out.symm, HB2 _⟩
            | true =>
              have n3 : (xt.toList != yt.toList) = false := by rw [bne, e3]; rfl
              have HN2 : Hid (sameAL xs ys = sameAL (xs.drop (k + 1)) (ys.drop (k + 1))) := Lib.hid (by rw [HW.out.1, HS.out]; simp only [sameA, e1, e2, e3, Bool.and_self, Bool.true_and])
              go_wp2
              go_quiet (fail)
              go_wp2
              exact ⟨⟨k + 1, by go_num, by omega, Lib.hid ⟨HN2.out, HB2 _⟩⟩, by simp [intOf]; omega⟩
      · obtain rfl : k = n := by omega
        have HF : Hid (sameAL xs ys = true) := Lib.hid (by rw [HW.out.1, List.drop_eq_nil_of_le (by rw [HN.out.1]; omega), List.drop_eq_nil_of_le (by rw [HN.out.2]; omega)]; rfl)
        clear hlt
        go_wp2
        go_ret
        exact ⟨ret_bool HF.out.symm, HW.out.2⟩
  · have HF : Hid (sameAL xs ys = false) := Lib.hid (sameAL_len _ _ hlen)
    obtain ⟨n, hn⟩ : ∃ n, xs.length = n := ⟨_, rfl⟩
    obtain ⟨m, hm⟩ : ∃ m, ys.length = m := ⟨_, rfl⟩
    rw [hn] at hlen hx ⊢
    rw [hm] at hlen hy ⊢
    have hne : ((n : Int) == (m : Int)) = false := by simp; omega
    clear hn hm
    go_enter Tryz.func9, Tryz.ntmps9
    go_wp2
    go_ret
    exact ⟨ret_bool HF.out.symm, Below.refl _ _⟩
end Go.Proofs.YtnaopgajinbnmaaGreatDoor
