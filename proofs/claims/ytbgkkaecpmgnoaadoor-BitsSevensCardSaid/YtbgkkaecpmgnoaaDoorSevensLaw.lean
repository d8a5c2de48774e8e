/- The law BitsSevens, walked. -/
import Derived.Test.YtbgkkaecpmgnoaaDoorUns2
import Derived.Test.YtbgkkaecpmgnoaaDoorUns3
import Derived.Test.YtbgkkaecpmgnoaaDoorBytes2
import Derived.Test.YtbgkkaecpmgnoaaDoorClone
import Derived.Laws.AppendOwnNone
namespace Go.Proofs.YtbgkkaecpmgnoaaDoor
open Go.RowKit
variable {w : World} {A : Option Addr} {bs : List Nat}

theorem uns_fix (bs : List Nat) : ∃ x y z : Int, UnsR bs (.tuple #[.int .i64 x, .int .i64 y, .int .i64 z]) := by
  rcases ends_or bs with h | ⟨t, h⟩
  · exact ⟨_, _, _, unsR_never h⟩
  · by_cases o : unsOk bs t
    · exact ⟨_, _, _, unsR_good h o⟩
    · exact ⟨_, _, _, unsR_bad h o⟩
theorem unseven_fix {c : Nat} (hm : Byt w w.heap.size A bs) (hc : bs.length ≤ c) (hL : bs.length ≤ 100000) {x y z : Int} (hx : UnsR bs (.tuple #[.int .i64 x, .int .i64 y, .int .i64 z])) :
    Calls Tryd.prog 32 #[.slice A bs.length c] w fun e w' => e = .returned (.tuple #[.int .i64 x, .int .i64 y, .int .i64 z]) ∧ Below w.heap.size w w' :=
  (callsIn_wide.1 (unseven_in A bs c w hm hc hL)).mono (by rintro e w' ⟨⟨v, rfl, hv⟩, hb⟩; exact ⟨by rw [unsR_same hv hx], hb⟩)
theorem runseven_fix {c : Nat} (hm : Byt w w.heap.size A bs) (hL : bs.length ≤ 100000) {x y z : Int} (hx : UnsR bs (.tuple #[.int .i64 x, .int .i64 y, .int .i64 z])) :
    Calls Tryd.prog 33 #[.slice A bs.length c] w fun e w' => e = .returned (.tuple #[.int .i64 x, .int .i64 y, .int .i64 z]) ∧ Below w.heap.size w w' :=
  (runseven A bs c w hm hL).mono (by rintro e w' ⟨⟨v, rfl, hv⟩, hb⟩; exact ⟨by rw [unsR_same hv hx], hb⟩)

set_option maxHeartbeats 2000000 in
theorem sevens_bad (c : Nat) (hm : Byt w w.heap.size A bs) (hc : bs.length ≤ c) (N : Int) (hN : N < 0 ∨ 281474976710656 ≤ N) (hT : Tab w) (h0 : 0 < w.heap.size) (hl : bs.length ≤ 20000) :
    Calls Tryd.prog 11 #[.int .i64 N, .slice A bs.length c] w fun e w' => e = .returned (.bool true) ∧ Below w.heap.size w w' := by
  obtain ⟨x, y, z, hx⟩ := uns_fix bs
  have H1 := Lib.hid (seven_err N hN w)
  have H2 := Lib.hid (rseven_err N hN w)
  have H3 := Lib.hid (unseven_fix (c := c) hm hc (by omega) hx)
  have HM := Lib.hid hm
  have HX := Lib.hid hx
  have HT := Lib.hid hT
  clear hT hm hx hN
  go_enter Tryd.func11, Tryd.ntmps11
  go_wp2_with fail
  refine H1.out.mono ?_; rintro e w' ⟨rfl, rfl⟩
  go_wp2_with fail
  refine H2.out.mono ?_; rintro e w' ⟨rfl, rfl⟩
  go_wp2_with fail
  refine H3.out.mono ?_; rintro e w1 ⟨rfl, hB1⟩
  have hz1 := hB1.size
  have H4 := Lib.hid (runseven_fix (c := c) ((HM.out.below hB1).more hz1) (by omega) HX.out)
  have HB1 := Lib.hid hB1
  clear hB1
  go_wp2_with fail
  refine H4.out.mono ?_; rintro e w2 ⟨rfl, hB2⟩
  have hz2 := hB2.size
  have HBB := Lib.hid (HB1.out.trans (hB2.mono hz1))
  have HS : Hid (Calls Tryd.prog 17 #[.slice none ([] : List Nat).length 0, .slice none ([] : List Nat).length 0] w2 fun e w' => e = .returned (.bool true) ∧ w2 = w') := Lib.hid (same_any (c1 := 0) (c2 := 0) (Byt.nil w2 0 none) (Byt.nil w2 0 none) rfl)
  clear hB2
  go_wp2_with fail
  refine HS.out.mono ?_; rintro e w' ⟨rfl, rfl⟩
  go_wp2_with fail
  refine (known_any _ (HT.out.below HBB.out h0) (by omega)).mono ?_; rintro e w' ⟨rfl, hB⟩
  go_wp2
  go_ret
  exact ⟨rfl, HBB.out.trans (hB.mono (by omega))⟩

theorem sev_back (N : Nat) (hN : N < 281474976710656) (bs : List Nat) (m : Nat) (hm : (svB N).length = m + 1) :
    UnsR (svB N ++ bs) (.tuple #[.int .i64 N, .int .i64 (m + 1 : Nat), .int .i64 0]) := by
  obtain ⟨t, h1, h2, h3, h4, h5⟩ := svB_ends bs N
  obtain rfl : t = m := by omega
  have h7 := svB_len N hN
  have he : Ends (svB N ++ bs) t := ⟨by rw [List.length_append]; omega, by omega, h2, h3⟩
  have ho : unsOk (svB N ++ bs) t := ⟨by rw [h4]; exact hN, by
    rcases Nat.eq_zero_or_pos N with h | h
    · left
      subst h
      have : (svB 0).length = 1 := by have := prt_len_eq 0 0 (by decide) (Or.inl rfl); simpa [svB] using this
      omega
    · exact Or.inr (h5 h)⟩
  have := unsR_good he ho
  rw [h4] at this
  exact this

set_option maxHeartbeats 4000000 in
theorem sevens_good {a : Addr} (c : Nat) (hm : Byt w w.heap.size (some a) bs) (hc : bs.length ≤ c) (N : Nat) (hN : N < 281474976710656) (hT : Tab w) (h0 : 0 < w.heap.size) (hl : bs.length ≤ 20000) :
    Calls Tryd.prog 11 #[.int .i64 N, .slice (some a) bs.length c] w fun e w' => e = .returned (.bool true) ∧ Below w.heap.size w w' := by
  obtain ⟨i0, hi, hq0, hq1, hq2⟩ := info_parts info5
  obtain ⟨x, y, z, hx⟩ := uns_fix bs
  obtain ⟨m, hm1⟩ : ∃ m, (svB N).length = m + 1 := by obtain ⟨m, hm, -⟩ := svB_ends [] N; exact ⟨m, hm⟩
  have hm7 : m < 7 := by have := svB_len N hN; omega
  have H1 := callsIn_wide.1 (seven_in N hN w)
  rw [hm1] at H1
  have HH1 := Lib.hid H1
  have HR := Lib.hid (sev_back N hN bs m hm1)
  have HM1 := Lib.hid hm1
  have HM := Lib.hid hm
  have HX := Lib.hid hx
  have HT := Lib.hid hT
  have HLT : Hid (∀ x ∈ svB N ++ bs, x < 256) := Lib.hid (fun x hx => by
    rcases List.mem_append.1 hx with h | h
    · exact svB_lt N x h
    · exact hm.lt x h)
  obtain ⟨L, hL⟩ : ∃ L, bs.length = L := ⟨_, rfl⟩
  have HL := Lib.hid hL
  rw [hL] at hc hl ⊢
  clear hT hm hx H1 hm1 hL
  go_enter Tryd.func11, Tryd.ntmps11
  go_wp2_with fail
  refine HH1.out.mono ?_; rintro e w1 ⟨v1, rfl, hown1, hB1⟩
  have hz1 := hB1.size
  have HO1 := Lib.hid hown1
  obtain ⟨g1, cap1, rfl⟩ := ownsRow_succ hown1
  have hb1 : Hid (Byt w1 w1.heap.size (some ⟨g1, 0, none⟩) (svB N)) := Lib.hid (by
    have := Byt.of_own (bs := svB N) (svB_lt N) (by rw [HM1.out]; exact hown1)
    obtain ⟨A, c, e, _, h⟩ := this
    obtain ⟨eA, -, -⟩ := Value.slice.inj e
    subst eA
    exact h)
  have HB1 := Lib.hid hB1
  have H2 := Lib.hid (rseven_ok N hN w1)
  rw [HM1.out] at H2
  clear hown1 hB1 HO1
  go_wp2_with fail
  refine H2.out.mono ?_; rintro e w2 ⟨v2, rfl, hown2, hB2⟩
  have hz2' := hB2.size
  obtain ⟨g2, cap2, rfl⟩ := ownsRow_succ hown2
  have hb2 : Hid (Byt w2 w2.heap.size (some ⟨g2, 0, none⟩) (svB N)) := Lib.hid (by
    have := Byt.of_own (bs := svB N) (svB_lt N) (by rw [HM1.out]; exact hown2)
    obtain ⟨A, c, e, _, h⟩ := this
    obtain ⟨eA, -, -⟩ := Value.slice.inj e
    subst eA
    exact h)
  have HB2 := Lib.hid (HB1.out.trans (hB2.mono hz1))
  have hb12 : Hid (Byt w2 w2.heap.size (some ⟨g1, 0, none⟩) (svB N)) := Lib.hid ((hb1.out.below hB2).more hz2')
  clear hown2 hB2 hb1 HB1
  have H3 : Hid (Calls Tryd.prog 32 #[.slice (some a) bs.length c] w2 _) := Lib.hid (unseven_fix (c := c) ((HM.out.below HB2.out).more (by omega)) (by rw [HL.out]; exact hc) (by rw [HL.out]; omega) HX.out)
  rw [HL.out] at H3
  go_wp2_with fail
  refine H3.out.mono ?_; rintro e w3 ⟨rfl, hB3⟩
  have hz3 := hB3.size
  have HB3 := Lib.hid (HB2.out.trans (hB3.mono (by omega)))
  have hb23 : Hid (Byt w3 w3.heap.size (some ⟨g2, 0, none⟩) (svB N)) := Lib.hid ((hb2.out.below hB3).more hz3)
  have hb13 : Hid (Byt w3 w3.heap.size (some ⟨g1, 0, none⟩) (svB N)) := Lib.hid ((hb12.out.below hB3).more hz3)
  clear hB3 hb2 hb12 HB2 H2
  have H4 : Hid (Calls Tryd.prog 33 #[.slice (some a) bs.length c] w3 _) := Lib.hid (runseven_fix (c := c) ((HM.out.below HB3.out).more (by omega)) (by rw [HL.out]; omega) HX.out)
  rw [HL.out] at H4
  go_wp2_with fail
  refine H4.out.mono ?_; rintro e w4 ⟨rfl, hB4⟩
  have hz4 := hB4.size
  have HB4 := Lib.hid (HB3.out.trans (hB4.mono (by omega)))
  have hb24 : Hid (Byt w4 w4.heap.size (some ⟨g2, 0, none⟩) (svB N)) := Lib.hid ((hb23.out.below hB4).more hz4)
  have hb14 : Hid (Byt w4 w4.heap.size (some ⟨g1, 0, none⟩) (svB N)) := Lib.hid ((hb13.out.below hB4).more hz4)
  have HS := Lib.hid (same_any (c1 := cap1) (c2 := cap2) hb14.out hb24.out rfl)
  rw [HM1.out] at HS
  clear hB4 hb23 hb13 HB3 H3
  go_wp2_with fail
  refine HS.out.mono ?_; rintro e w' ⟨rfl, rfl⟩
  have HSRC1 := Lib.hid (byt_src hb14.out)
  have HONE1 := Lib.hid (bytes_one (svB N))
  have HONE2 := Lib.hid (bytes_one bs)
  have HLEN1 : Hid (((svB N).map YtbgkkaecpmgnoaaDoor.u8).length = (m + 1) * 1) := Lib.hid (by simp [HM1.out])
  have HLEN2 : Hid ((bs.map YtbgkkaecpmgnoaaDoor.u8).length = L * 1) := Lib.hid (by simp [HL.out])
  go_wp2_with (first
    | (at_builtin; refine wpList_append_own _ rfl _ _ 22 rfl w4.heap.size 5 i0 (.int .u8 0) 1 1 Tryd.underlying22 hi hq0 hq1 hq2 rfl (by decide) (.slice none 0 0) 0 [] rfl (World.ownsRow_nil _ _ _ _) ⟨g1, 0, none⟩ (m + 1) cap1 ((svB N).map YtbgkkaecpmgnoaaDoor.u8) rfl HLEN1.out HSRC1.out HONE1.out (by unfold maxLen; omega) (by omega) (Nat.le_refl _) ?_; intro v5 w5 hown5 hgrow5 _; rw [Nat.zero_add, List.nil_append] at hown5; obtain ⟨g5, cap5, rfl⟩ := ownsRow_succ hown5; have HO5 := Lib.hid hown5; have hB5 : Below w4.heap.size w4 w5 := (Below.refl w4.heap.size w4).grown hgrow5 (Nat.le_refl _) (fun k h => by cases h); have hz5 := hB5.size; have HB5 := Lib.hid (HB4.out.trans (hB5.mono (by omega))); clear hown5 hgrow5 hB5)
    | (at_builtin; refine wpList_append_own _ rfl _ _ 22 rfl w4.heap.size 5 i0 (.int .u8 0) 1 1 Tryd.underlying22 hi hq0 hq1 hq2 rfl (by decide) (.slice (some ⟨g5, 0, none⟩) (m + 1) cap5) (m + 1) ((svB N).map YtbgkkaecpmgnoaaDoor.u8) rfl HO5.out a L c (bs.map YtbgkkaecpmgnoaaDoor.u8) rfl HLEN2.out (byt_src (HM.out.below HB5.out)) HONE2.out (by unfold maxLen; omega) (by omega) hz5 ?_; intro v6 w6 hown6 hgrow6 _; have hB6 : Below w4.heap.size w5 w6 := (Below.refl w4.heap.size w5).grown hgrow6 hz5 (fun k h => (HO5.out.lt k h).1); have hz6 := hB6.size; have HB6 := Lib.hid (HB5.out.trans (hB6.mono (by omega))); have HO6 := Lib.hid hown6; obtain ⟨A6, c6, hv6, hc6, hb6⟩ := Byt.of_own (bs := svB N ++ bs) HLT.out (by rw [List.length_append, HM1.out, HL.out, List.map_append]; exact HO6.out); have H7 := Lib.hid (unseven_fix hb6 hc6 (by rw [List.length_append, HM1.out, HL.out]; omega) HR.out); rw [List.length_append, HM1.out, HL.out] at hv6 H7; subst hv6; clear hown6 hgrow6 hB6 hb6 hc6 HO6))
  refine H7.out.mono ?_; rintro e w7 ⟨rfl, hB7⟩
  have hz7 := hB7.size
  have HBB := Lib.hid (HB6.out.trans (hB7.mono (by omega)))
  clear hB7
  go_wp2_with fail
  refine (known_any _ (HT.out.below HBB.out h0) (by omega)).mono ?_; rintro e w' ⟨rfl, hB⟩
  go_wp2
  go_ret
  exact ⟨rfl, HBB.out.trans (hB.mono (by omega))⟩

set_option maxHeartbeats 4000000 in
theorem sevens_nil (N : Nat) (hN : N < 281474976710656) (hT : Tab w) (h0 : 0 < w.heap.size) :
    Calls Tryd.prog 11 #[.int .i64 N, .slice none 0 0] w fun e w' => e = .returned (.bool true) ∧ Below w.heap.size w w' := by
  obtain ⟨i0, hi, hq0, hq1, hq2⟩ := info_parts info5
  obtain ⟨x, y, z, hx⟩ := uns_fix []
  obtain ⟨m, hm1⟩ : ∃ m, (svB N).length = m + 1 := by obtain ⟨m, hm, -⟩ := svB_ends [] N; exact ⟨m, hm⟩
  have hm7 : m < 7 := by have := svB_len N hN; omega
  have H1 := callsIn_wide.1 (seven_in N hN w)
  rw [hm1] at H1
  have HH1 := Lib.hid H1
  have HR := Lib.hid (sev_back N hN [] m hm1)
  have HM1 := Lib.hid hm1
  have HM := Lib.hid (Byt.nil w w.heap.size none)
  have HX := Lib.hid hx
  have HT := Lib.hid hT
  rw [List.append_nil] at HR
  clear hT hx H1 hm1
  go_enter Tryd.func11, Tryd.ntmps11
  go_wp2_with fail
  refine HH1.out.mono ?_; rintro e w1 ⟨v1, rfl, hown1, hB1⟩
  have hz1 := hB1.size
  have HO1 := Lib.hid hown1
  obtain ⟨g1, cap1, rfl⟩ := ownsRow_succ hown1
  have hb1 : Hid (Byt w1 w1.heap.size (some ⟨g1, 0, none⟩) (svB N)) := Lib.hid (by
    have := Byt.of_own (bs := svB N) (svB_lt N) (by rw [HM1.out]; exact hown1)
    obtain ⟨A, c, e, _, h⟩ := this
    obtain ⟨eA, -, -⟩ := Value.slice.inj e
    subst eA
    exact h)
  have HB1 := Lib.hid hB1
  have H2 := Lib.hid (rseven_ok N hN w1)
  rw [HM1.out] at H2
  clear hown1 hB1 HO1
  go_wp2_with fail
  refine H2.out.mono ?_; rintro e w2 ⟨v2, rfl, hown2, hB2⟩
  have hz2' := hB2.size
  obtain ⟨g2, cap2, rfl⟩ := ownsRow_succ hown2
  have hb2 : Hid (Byt w2 w2.heap.size (some ⟨g2, 0, none⟩) (svB N)) := Lib.hid (by
    have := Byt.of_own (bs := svB N) (svB_lt N) (by rw [HM1.out]; exact hown2)
    obtain ⟨A, c, e, _, h⟩ := this
    obtain ⟨eA, -, -⟩ := Value.slice.inj e
    subst eA
    exact h)
  have HB2 := Lib.hid (HB1.out.trans (hB2.mono hz1))
  have hb12 : Hid (Byt w2 w2.heap.size (some ⟨g1, 0, none⟩) (svB N)) := Lib.hid ((hb1.out.below hB2).more hz2')
  clear hown2 hB2 hb1 HB1
  have H3 : Hid (Calls Tryd.prog 32 #[.slice none 0 0] w2 _) := Lib.hid (unseven_fix (c := 0) ((HM.out.below HB2.out).more (by omega)) (by simp) (by simp) HX.out)
  go_wp2_with fail
  refine H3.out.mono ?_; rintro e w3 ⟨rfl, hB3⟩
  have hz3 := hB3.size
  have HB3 := Lib.hid (HB2.out.trans (hB3.mono (by omega)))
  have hb23 : Hid (Byt w3 w3.heap.size (some ⟨g2, 0, none⟩) (svB N)) := Lib.hid ((hb2.out.below hB3).more hz3)
  have hb13 : Hid (Byt w3 w3.heap.size (some ⟨g1, 0, none⟩) (svB N)) := Lib.hid ((hb12.out.below hB3).more hz3)
  clear hB3 hb2 hb12 HB2 H2
  have H4 : Hid (Calls Tryd.prog 33 #[.slice none 0 0] w3 _) := Lib.hid (runseven_fix (c := 0) ((HM.out.below HB3.out).more (by omega)) (by simp) HX.out)
  go_wp2_with fail
  refine H4.out.mono ?_; rintro e w4 ⟨rfl, hB4⟩
  have hz4 := hB4.size
  have HB4 := Lib.hid (HB3.out.trans (hB4.mono (by omega)))
  have hb24 : Hid (Byt w4 w4.heap.size (some ⟨g2, 0, none⟩) (svB N)) := Lib.hid ((hb23.out.below hB4).more hz4)
  have hb14 : Hid (Byt w4 w4.heap.size (some ⟨g1, 0, none⟩) (svB N)) := Lib.hid ((hb13.out.below hB4).more hz4)
  have HS := Lib.hid (same_any (c1 := cap1) (c2 := cap2) hb14.out hb24.out rfl)
  rw [HM1.out] at HS
  clear hB4 hb23 hb13 HB3 H3
  go_wp2_with fail
  refine HS.out.mono ?_; rintro e w' ⟨rfl, rfl⟩
  have HSRC1 := Lib.hid (byt_src hb14.out)
  have HONE1 := Lib.hid (bytes_one (svB N))
  have HLEN1 : Hid (((svB N).map YtbgkkaecpmgnoaaDoor.u8).length = (m + 1) * 1) := Lib.hid (by simp [HM1.out])
  go_wp2_with (first
    | (at_builtin; refine wpList_append_own _ rfl _ _ 22 rfl w4.heap.size 5 i0 (.int .u8 0) 1 1 Tryd.underlying22 hi hq0 hq1 hq2 rfl (by decide) (.slice none 0 0) 0 [] rfl (World.ownsRow_nil _ _ _ _) ⟨g1, 0, none⟩ (m + 1) cap1 ((svB N).map YtbgkkaecpmgnoaaDoor.u8) rfl HLEN1.out HSRC1.out HONE1.out (by unfold maxLen; omega) (by omega) (Nat.le_refl _) ?_; intro v5 w5 hown5 hgrow5 _; rw [Nat.zero_add, List.nil_append] at hown5; obtain ⟨g5, cap5, rfl⟩ := ownsRow_succ hown5; have HO5 := Lib.hid hown5; have hB5 : Below w4.heap.size w4 w5 := (Below.refl w4.heap.size w4).grown hgrow5 (Nat.le_refl _) (fun k h => by cases h); have hz5 := hB5.size; have HB5 := Lib.hid (HB4.out.trans (hB5.mono (by omega))); clear hown5 hgrow5 hB5)
    | (at_builtin; refine wpList_append_own_none rfl _ _ 22 rfl w4.heap.size 5 i0 1 Tryd.underlying22 hi (.slice (some ⟨g5, 0, none⟩) (m + 1) cap5) (m + 1) ((svB N).map YtbgkkaecpmgnoaaDoor.u8) rfl HO5.out rfl ?_; obtain ⟨A6, c6, hv6, hc6, hb6⟩ := Byt.of_own (bs := svB N) (svB_lt N) (by rw [HM1.out]; exact HO5.out); have H7 := Lib.hid (unseven_fix hb6 hc6 (by rw [HM1.out]; omega) HR.out); rw [HM1.out] at hv6 H7; rw [← hv6] at H7; clear hb6 hc6 hv6))
  refine H7.out.mono ?_; rintro e w7 ⟨rfl, hB7⟩
  have hz7 := hB7.size
  have HBB := Lib.hid (HB5.out.trans (hB7.mono (by omega)))
  clear hB7
  go_wp2_with fail
  refine (known_any _ (HT.out.below HBB.out h0) (by omega)).mono ?_; rintro e w' ⟨rfl, hB⟩
  go_wp2
  go_ret
  exact ⟨rfl, HBB.out.trans (hB.mono (by omega))⟩

theorem sevens_law (c : Nat) (hm : Byt w w.heap.size A bs) (hc : bs.length ≤ c) (hA : A = none → c = 0) (N : Int) (hT : Tab w) (h0 : 0 < w.heap.size) :
    Calls Tryd.prog 11 #[.int .i64 N, .slice A bs.length c] w fun e w' => e = .returned (.bool true) ∧ Below w.heap.size w w' := by
  by_cases hl : bs.length ≤ 20000
  · by_cases hN : N < 0 ∨ 281474976710656 ≤ N
    · exact sevens_bad c hm hc N hN hT h0 hl
    · obtain ⟨k, rfl⟩ := Int.eq_ofNat_of_zero_le (show 0 ≤ N by omega)
      cases A with
      | none =>
        obtain rfl := hA rfl
        have : bs = [] := List.length_eq_zero_iff.1 (by omega)
        subst this
        exact sevens_nil k (by omega) hT h0
      | some a => exact sevens_good c hm hc k (by omega) hT h0 hl
  · have HT := Lib.hid hT
    clear hT hm
    go_enter Tryd.func11, Tryd.ntmps11
    go_wp2_with fail
    refine (known_any _ HT.out h0).mono ?_; rintro e w' ⟨rfl, hB⟩
    go_wp2
    go_ret
    exact ⟨rfl, hB⟩
end Go.Proofs.YtbgkkaecpmgnoaaDoor
