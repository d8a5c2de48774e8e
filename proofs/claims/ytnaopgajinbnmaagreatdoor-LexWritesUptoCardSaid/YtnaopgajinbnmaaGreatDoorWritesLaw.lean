/- The law of tokens that are written. -/
import Derived.Test.YtnaopgajinbnmaaGreatDoorRText
namespace Go.Proofs.YtnaopgajinbnmaaGreatDoor
open Go.RowKit

theorem textR_ok (xs : List ATk) (h : (textR xs).2 = 0) : (lexR (textR xs).1).2.2 = 0 ∧ sameAL ((lexR (textR xs).1).1.map ofTok) xs = true := by
  unfold textR at h ⊢
  by_cases h1 : (lexR (joinT xs)).2.2 = 0
  · rw [if_pos h1] at h ⊢
    cases h2 : sameAL ((lexR (joinT xs)).1.map ofTok) xs with
    | true => simp only [if_true]; exact ⟨h1, h2⟩
    | false => rw [h2] at h; simp at h
  · rw [if_neg h1] at h; exact absurd h h1
theorem lexR_size (l : List UInt8) : (lexR l).1.length ≤ 2000 := by
  rcases lexR_cases l with ⟨ts, _, _, h, e⟩ | ⟨n, e, h, _⟩
  · rw [e]; exact h
  · rw [h]; simp

set_option maxRecDepth 100000 in
set_option maxHeartbeats 16000000 in
theorem writes_law (xs ys : List ATk) (A C : Option Addr) (c1 c2 : Nat) (hx : xs.length ≤ 1048576) (hy : ys.length ≤ 1048576) (hsx : sumS xs ≤ 1048576) (hsy : sumS ys ≤ 1048576)
    (hok : ∀ t ∈ xs, t.ok) {w : World} (hA : ATokAt w A xs) (hC : ATokAt w C ys) (hL : Laid w) :
    Calls Tryz.prog 3 #[.slice A xs.length c1, .slice C ys.length c2] w fun e w' => e = .returned (.bool true) ∧ Below w.heap.size w w' := by
  have hh1 := heavy_any xs A c1 hx hsx hA
  have hh2 := heavy_any ys C c2 hy hsy hC
  have HL := Lib.hid hL
  have HA := Lib.hid hA
  have HC := Lib.hid hC
  have HOK := Lib.hid hok
  have hK := known_any hL
  have hmem := sumS_mem xs
  have hjs := joinT_size xs hok
  have hsm := fun (w : World) (hA : ATokAt w A xs) (hC : ATokAt w C ys) => asame_any xs ys A C c1 c2 hx hy hA hC
  have hrs := fun (w : World) (hA : ATokAt w A xs) (hC : ATokAt w C ys) => rsame_any xs ys A C c1 c2 hx hy hA hC
  have hrs2 := fun (us : List ATk) (A' : Option Addr) (c' : Nat) (hu : us.length ≤ 1048576) (w : World) (h1 : ATokAt w A' us) (hA : ATokAt w A xs) => rsame_any us xs A' A c' c1 hu hx h1 hA
  have htx := fun (h48 : ∀ t ∈ xs, t.ok ∧ t.s.size ≤ 48000) (hJ : (joinT xs).length ≤ 1000000) => text_any xs A c1 hx h48 hJ hA hL
  have hrt := fun (h48 : ∀ t ∈ xs, t.ok ∧ t.s.size ≤ 48000) (w : World) (hA : ATokAt w A xs) (hL : Laid w) => rtext_any2 xs A c1 hx h48 hA hL
  obtain ⟨n, hn⟩ : ∃ n, xs.length = n := ⟨_, rfl⟩
  obtain ⟨m, hm⟩ : ∃ m, ys.length = m := ⟨_, rfl⟩
  obtain ⟨S1, hS1⟩ : ∃ S1, sumS xs = S1 := ⟨_, rfl⟩
  obtain ⟨S2, hS2⟩ : ∃ S2, sumS ys = S2 := ⟨_, rfl⟩
  rw [hn] at hh1 hx hjs htx hrt hsm hrs hrs2 ⊢
  rw [hm] at hh2 hy hsm hrs ⊢
  rw [hS1] at hh1 hsx hjs hmem
  rw [hS2] at hh2 hsy
  obtain ⟨v1, hv1⟩ : ∃ v1, 4 * n + S1 = v1 := ⟨_, rfl⟩
  obtain ⟨v2, hv2⟩ : ∃ v2, 4 * m + S2 = v2 := ⟨_, rfl⟩
  rw [hv1] at hh1
  rw [hv2] at hh2
  have hvb1 : v1 ≤ 5242880 := by omega
  have hvb2 : v2 ≤ 5242880 := by omega
  by_cases hbig : 48000 < v1 + v2
  · have hd : decide (48000 < (v1 : Int) + (v2 : Int)) = true := decide_eq_true (by omega)
    clear hmem hjs hsm hrs hrs2 htx hrt hA hC hL hok hn hm hS1 hS2 hbig
    go_enter Tryz.func3, Tryz.ntmps3
    go_wp2_with (go_at_call 4; (first | (with_reducible refine hh1.mono ?_) | (with_reducible refine hh2.mono ?_)); rintro e w' ⟨rfl, rfl⟩)
    go_wp2_with (go_at_call 5; refine hK.mono ?_)
    rintro e w1 ⟨rfl, hb⟩
    go_wp2
    go_ret
    exact ⟨rfl, hb⟩
  · have hd : decide (48000 < (v1 : Int) + (v2 : Int)) = false := decide_eq_false (by omega)
    have h48 : ∀ t ∈ xs, t.ok ∧ t.s.size ≤ 48000 := fun t ht => ⟨hok t ht, by have := hmem t ht; omega⟩
    have htx2 := htx h48 (by omega)
    have hrt2 := hrt h48
    obtain ⟨⟨T, e⟩, hT⟩ : ∃ X, textR xs = X := ⟨_, rfl⟩
    have hok2 := textR_ok xs
    rw [hT] at htx2 hrt2 hok2
    obtain ⟨S, hS⟩ : ∃ S : ByteArray, ⟨T.toArray⟩ = S := ⟨_, rfl⟩
    have hbS : bl S = T := by rw [← hS]; simp [bl]
    have htx3 : Calls Tryz.prog 6 #[.slice A n c1] w fun e' w' => e' = .returned (.tuple #[.string S, .int .i64 (e : Nat)]) ∧ Below w.heap.size w w' := hS ▸ htx2
    have hrt3 : ∀ (w : World), ATokAt w A xs → Laid w → Calls Tryz.prog 7 #[.slice A n c1] w fun e' w' => e' = .returned (.tuple #[.string S, .int .i64 (e : Nat)]) ∧ Below w.heap.size w w' := hS ▸ hrt2
    have hlx := fun (w : World) (hL : Laid w) => lex_any S w hL
    rw [hbS] at hlx
    have hlz := lexR_size T
    obtain ⟨⟨us, q, e0⟩, hR⟩ : ∃ R, lexR T = R := ⟨_, rfl⟩
    rw [hR] at hlx hlz
    simp only [hR] at hok2
    simp only at hlz
    have HO := Lib.hid hok2
    obtain ⟨sb, hsb⟩ : ∃ sb, sameAL xs ys = sb := ⟨_, rfl⟩
    rw [hsb] at hsm hrs
    clear hmem hjs htx hrt htx2 hrt2 hA hC hL hok hn hm hS1 hS2 hbig hT hS hbS hR hok2 hsb h48 hK hv1 hv2
    go_enter Tryz.func3, Tryz.ntmps3
    go_wp2_with (go_at_call 4; (first | (with_reducible refine hh1.mono ?_) | (with_reducible refine hh2.mono ?_)); rintro e w' ⟨rfl, rfl⟩)
    go_wp2_with (go_at_call 6; refine htx3.mono ?_)
    rintro e1 w1 ⟨rfl, hb1⟩
    have hL1 := HL.out.below hb1
    have hA1 := HA.out.below hb1
    have hC1 := HC.out.below hb1
    go_wp2_with (go_at_call 7; refine (hrt3 _ hA1 hL1).mono ?_)
    rintro e2 w2 ⟨rfl, hb2⟩
    have hL2 := hL1.below hb2
    have hA2 := hA1.below hb2
    have hC2 := hC1.below hb2
    have hB2 : Below w.heap.size w w2 := hb1.trans (hb2.mono hb1.size)
    go_wp2_with (go_at_call 8; refine (hsm _ hA2 hC2).mono ?_)
    rintro e3 w3 ⟨rfl, hb3⟩
    have hL3 := hL2.below hb3
    have hA3 := hA2.below hb3
    have hC3 := hC2.below hb3
    have hB3 : Below w.heap.size w w3 := hB2.trans (hb3.mono hB2.size)
    go_wp2_with (go_at_call 9; refine (hrs _ hA3 hC3).mono ?_)
    rintro e4 w4 ⟨rfl, hb4⟩
    have hL4 := hL3.below hb4
    have hA4 := hA3.below hb4
    have hB4 : Below w.heap.size w w4 := hB3.trans (hb4.mono hB3.size)
    clear hb1 hb2 hb3 hb4 hB2 hB3
    by_cases he : e = 0
    · subst he
      obtain ⟨he0, hsame⟩ := HO.out rfl
      subst he0
      go_wp2_with (go_at_call 10; refine (hlx _ hL4).mono ?_)
      rintro e5 w5 ⟨v, rfl, hrow, hb5⟩
      obtain ⟨A2, cp, rfl, -⟩ := own_form hrow
      have hT1 := aTok_of (tokAt_own hrow).1
      have hL5 := hL4.below hb5
      have hA5 := hA4.below hb5
      have hB5 : Below w.heap.size w w5 := hB4.trans (hb5.mono hB4.size)
      have h6 := hrs2 (us.map ofTok) A2 cp (by rw [List.length_map]; omega) w5 hT1 hA5
      rw [List.length_map, hsame] at h6
      clear hrow hb5
      go_wp2_with (go_at_call 9; refine h6.mono ?_)
      rintro e6 w6 ⟨rfl, hb6⟩
      have hK := known_any (hL5.below hb6)
      have hB6 : Below w.heap.size w w6 := hB5.trans (hb6.mono hB5.size)
      go_wp2_with (go_at_call 5; refine hK.mono ?_)
      rintro e7 w7 ⟨rfl, hb7⟩
      go_wp2
      go_ret
      exact ⟨rfl, hB6.trans (hb7.mono hB6.size)⟩
    · have e1 : ((e : Int) == 0) = false := by simp; omega
      have hK := known_any hL4
      clear he
      go_wp2_with (go_at_call 5; refine hK.mono ?_)
      rintro e7 w7 ⟨rfl, hb7⟩
      go_wp2
      go_ret
      exact ⟨rfl, hB4.trans (hb7.mono hB4.size)⟩
end Go.Proofs.YtnaopgajinbnmaaGreatDoor
