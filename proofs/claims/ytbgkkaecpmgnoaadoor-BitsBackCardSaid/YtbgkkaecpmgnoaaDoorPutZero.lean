/- Put into no bytes; Put in one form for all bytes. -/
import Derived.Test.YtbgkkaecpmgnoaaDoorRefPut
import Derived.Laws.AppendOwnNone
namespace Go.Proofs.YtbgkkaecpmgnoaaDoor
open Go.RowKit
variable {w : World} {B c : Nat} {A : Option Addr} {bs : List Nat}

set_option maxHeartbeats 2000000 in
theorem put_zero (hA : A = none → c = 0) (low : Bool) :
    Calls Tryd.prog 15 #[.slice A 0 c, .int .i64 0, .int .i64 0, .int .i64 0, .bool low] w fun e w' => ∃ A2 c2, e = .returned (.tuple #[.slice A2 0 c2, .int .i64 0]) ∧ Below w.heap.size w w' := by
  have H := span_any A 0 c 0 0 low w (by decide)
  rw [show spanE 0 0 0 low = 0 by cases low <;> decide] at H
  have H1 := Lib.hid H
  have H2 := Lib.hid (fits_any 0 0 w (by decide))
  rw [show fitB 0 0 = true by decide] at H2
  have H3 := Lib.hid (turn_any' 0 0 0 w rfl (by decide) (by decide))
  rw [show trn 0 0 0 = 0 from rfl] at H3
  have H4 : Hid (Calls Tryd.prog 40 #[.slice A 0 c] w fun e w' => ∃ A2 c2, e = .returned (.slice A2 0 c2) ∧ Below w.heap.size w w') := Lib.hid (by
    cases A with
    | none =>
      rw [hA rfl]
      exact clone_nil.mono fun e w' ⟨he, hw⟩ => ⟨none, 0, he, by rw [← hw]; exact Below.refl _ _⟩
    | some a =>
      refine (clone_some (c := c) (Byt.nil w w.heap.size (some a)) (by decide)).mono fun e w' ⟨v, he, hown, hb⟩ => ?_
      obtain ⟨A2, c2, hv, _⟩ := Byt.of_own (bs := []) (by simp) hown
      exact ⟨A2, c2, by rw [he, hv]; rfl, hb⟩)
  clear H hA
  cases low with
  | true =>
    go_enter Tryd.func15, Tryd.ntmps15
    go_wp2_with fail
    refine H1.out.mono ?_; rintro e w' ⟨rfl, rfl⟩
    go_wp2_with fail
    refine H2.out.mono ?_; rintro e w' ⟨rfl, rfl⟩
    go_wp2_with fail
    refine H3.out.mono ?_; rintro e w' ⟨rfl, rfl⟩
    go_wp2_with fail
    refine H4.out.mono ?_; rintro e w2 ⟨A2, c2, rfl, hb⟩
    go_wp2
    go_loop [14] (fun i => i = .int .i64 (-1)) (fun _ => 0)
    case atStart => rfl
    case round =>
      subst hrel
      go_wp2
      go_ret2
      exact ⟨⟨_, _, rfl⟩, hb⟩
  | false =>
    go_enter Tryd.func15, Tryd.ntmps15
    go_wp2_with fail
    refine H1.out.mono ?_; rintro e w' ⟨rfl, rfl⟩
    go_wp2_with fail
    refine H2.out.mono ?_; rintro e w' ⟨rfl, rfl⟩
    go_wp2_with fail
    refine H4.out.mono ?_; rintro e w2 ⟨A2, c2, rfl, hb⟩
    go_wp2
    go_loop [14] (fun i => i = .int .i64 (-1)) (fun _ => 0)
    case atStart => rfl
    case round =>
      subst hrel
      go_wp2
      go_ret2
      exact ⟨⟨_, _, rfl⟩, hb⟩

set_option maxHeartbeats 2000000 in
theorem rput_zero (hA : A = none → c = 0) (low : Bool) :
    Calls Tryd.prog 16 #[.slice A 0 c, .int .i64 0, .int .i64 0, .int .i64 0, .bool low] w fun e w' => ∃ A2 c2, e = .returned (.tuple #[.slice A2 0 c2, .int .i64 0]) ∧ Below w.heap.size w w' := by
  obtain ⟨i0, hi, hz0, hz1, hz2⟩ := info_parts info5
  have H := asked_any A 0 c 0 0 low w (by decide) (by decide)
  rw [show spanE 0 0 0 low = 0 by cases low <;> decide] at H
  have H1 := Lib.hid H
  clear H
  cases A with
  | none =>
    obtain rfl := hA rfl
    clear hA
    go_enter Tryd.func16, Tryd.ntmps16
    go_wp2_with fail
    refine H1.out.mono ?_; rintro e w' ⟨rfl, rfl⟩
    go_wp2_with (at_builtin; refine wpList_append_own_none rfl _ _ 22 rfl w.heap.size 5 i0 1 Tryd.underlying22 hi (.slice none 0 0) 0 [] rfl (World.ownsRow_nil _ _ _ _) rfl ?_)
    go_loop [14] (fun i => i = .int .i64 0) (fun _ => 0)
    case atStart => rfl
    case round =>
      subst hrel
      go_wp2
      go_ret2
      exact ⟨⟨_, _, rfl⟩, Below.refl _ _⟩
  | some a =>
    clear hA
    have HSRC := Lib.hid (byt_src (Byt.nil w w.heap.size (some a)))
    go_enter Tryd.func16, Tryd.ntmps16
    go_wp2_with fail
    refine H1.out.mono ?_; rintro e w' ⟨rfl, rfl⟩
    go_wp2_with (at_builtin; refine wpList_append_own _ rfl _ _ 22 rfl w.heap.size 5 i0 (.int .u8 0) 1 1 Tryd.underlying22 hi hz0 hz1 hz2 rfl (by decide) (.slice none 0 0) 0 [] rfl (World.ownsRow_nil _ _ _ _) a 0 c [] rfl rfl HSRC.out (by simp) (by decide) (by decide) (Nat.le_refl _) ?_; intro v' w1 hown hgrow _; obtain ⟨A2, c2, rfl, _⟩ := Byt.of_own (bs := []) (by simp) hown; have HB := Lib.hid ((Below.refl w.heap.size w).grown hgrow (Nat.le_refl _) (fun k h => by cases h)); clear hown hgrow)
    go_loop [14] (fun i => i = .int .i64 0) (fun _ => 0)
    case atStart => rfl
    case round =>
      subst hrel
      go_wp2
      go_ret2
      exact ⟨⟨_, _, rfl⟩, HB.out⟩

/-- Put of a number that fits, in one form. -/
theorem put_ok (hm : Byt w w.heap.size A bs) (hA : A = none → c = 0) (hL : bs.length ≤ 20000) (p n v : Nat) (low : Bool) (hn : n ≤ 48) (hp : p + n ≤ 8 * bs.length) (hlow : low = true → p % 8 = 0 ∧ n % 8 = 0) (hf : fitB v n = true) :
    Calls Tryd.prog 15 #[.slice A bs.length c, .int .i64 p, .int .i64 n, .int .i64 v, .bool low] w fun e w' => ∃ A2 c2, e = .returned (.tuple #[.slice A2 bs.length c2, .int .i64 0]) ∧ bs.length ≤ c2 ∧ Hid (Byt w' w'.heap.size A2 (putC bs p n (putN n v low) n)) ∧ Below w.heap.size w w' := by
  by_cases h0 : bs.length = 0
  · obtain rfl := List.length_eq_zero_iff.1 h0
    have hp0 : p = 0 := by simp at hp; omega
    have hn0 : n = 0 := by simp at hp; omega
    subst hp0; subst hn0
    have hv0 : v = 0 := by have := of_decide_eq_true hf; simp at this; omega
    subst hv0
    refine (put_zero (w := w) hA low).mono ?_
    rintro e w' ⟨A2, c2, rfl, hb⟩
    exact ⟨A2, c2, rfl, Nat.zero_le _, Byt.nil _ _ _, hb⟩
  · obtain ⟨b, o, rfl, _, _⟩ := hm.cells (by omega)
    refine (put_loop (c := c) hm hL (by omega) p n v low hn hp hlow hf).mono ?_
    rintro e w' ⟨g, cap, rfl, hown, hb⟩
    rw [← putC_len bs p n (putN n v low) n] at hown
    obtain ⟨A2, c2, hv, hc2, hb2⟩ := Byt.of_own (putC_lt hm.lt p n _ n) hown
    rw [putC_len] at hv hc2
    injection hv with h1 _ h3
    subst h1; subst h3
    exact ⟨_, _, rfl, hc2, hb2, hb⟩

theorem rput_ok (hm : Byt w w.heap.size A bs) (hA : A = none → c = 0) (hL : bs.length ≤ 20000) (p n v : Nat) (low : Bool) (hn : n ≤ 48) (hp : p + n ≤ 8 * bs.length) (hlow : low = true → p % 8 = 0 ∧ n % 8 = 0) (hf : fitB v n = true) :
    Calls Tryd.prog 16 #[.slice A bs.length c, .int .i64 p, .int .i64 n, .int .i64 v, .bool low] w fun e w' => ∃ A2 c2, e = .returned (.tuple #[.slice A2 bs.length c2, .int .i64 0]) ∧ Hid (Byt w' w'.heap.size A2 (putC bs p n (putN n v low) n)) ∧ Below w.heap.size w w' := by
  rw [put_same hm.lt p n v hp low hlow]
  by_cases h0 : bs.length = 0
  · obtain rfl := List.length_eq_zero_iff.1 h0
    have hp0 : p = 0 := by simp at hp; omega
    have hn0 : n = 0 := by simp at hp; omega
    subst hp0; subst hn0
    have hv0 : v = 0 := by have := of_decide_eq_true hf; simp at this; omega
    subst hv0
    refine (rput_zero (w := w) hA low).mono ?_
    rintro e w' ⟨A2, c2, rfl, hb⟩
    exact ⟨A2, c2, rfl, Byt.nil _ _ _, hb⟩
  · obtain ⟨b, o, rfl, _, _⟩ := hm.cells (by omega)
    refine (rput_loop (c := c) hm hL (by omega) p n v low hn hp hlow hf).mono ?_
    rintro e w' ⟨g, cap, rfl, hown, hb⟩
    rw [← putR_len bs p n v low n] at hown
    obtain ⟨A2, c2, hv, hc2, hb2⟩ := Byt.of_own (putR_lt hm.lt p n v low n) hown
    rw [putR_len] at hv hc2
    injection hv with h1 _ h3
    subst h1; subst h3
    exact ⟨_, _, rfl, hb2, hb⟩
end Go.Proofs.YtbgkkaecpmgnoaaDoor
