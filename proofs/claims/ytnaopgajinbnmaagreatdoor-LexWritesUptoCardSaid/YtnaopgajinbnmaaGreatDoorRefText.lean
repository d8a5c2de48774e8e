/- The reference's texts. -/
import Derived.Test.YtnaopgajinbnmaaGreatDoorRefSign
import Derived.Test.YtnaopgajinbnmaaGreatDoorTxt
namespace Go.Proofs.YtnaopgajinbnmaaGreatDoor
open Go.RowKit

/-- byteL by the first bytes, 0 where there are none. -/
theorem byteL_hd (l : List UInt8) (hl : l ≠ []) : byteL l =
    if (hd l).toNat = 92 then
      (if (hd (l.drop 1)).toNat = 34 ∨ (hd (l.drop 1)).toNat = 92 then (hd (l.drop 1), 2)
       else if (hd (l.drop 1)).toNat = 110 then (10, 2)
       else if (hd (l.drop 1)).toNat = 120 then (if hexB (hd (l.drop 2)) && hexB (hd (l.drop 3)) then (UInt8.ofNat (hexV (hd (l.drop 2)) * 16 + hexV (hd (l.drop 3))), 4) else (0, 0))
       else (0, 0))
    else if (hd l).toNat = 10 ∨ srcB (hd l) = false then (0, 0) else (hd l, 1) := by
  have h0 : hexB 0 = false := rfl
  match l with
  | [] => exact absurd rfl hl
  | [c] => simp [byteL, hd]
  | [c, d] => simp [byteL, hd, h0]
  | [c, d, a] => simp [byteL, hd, h0]
  | c :: d :: a :: b :: r => simp [byteL, hd]

/-- What the reference answers for a text. -/
def RText (r : Option (List UInt8 × Nat)) (at_ : Nat) (w : World) (e : Ending) (w' : World) : Prop :=
  ∃ (t : ByteArray) (n : Nat) (b : Bool), e = .returned (.tuple #[.string t, .int .i64 (n : Int), .bool b]) ∧ Below w.heap.size w w' ∧
    (b = true → ∃ l m, r = some (l, m) ∧ l.length ≤ 200 ∧ t = ⟨l.toArray⟩ ∧ n = at_ + 1 + m) ∧ (b = false → ∀ l m, r = some (l, m) → 200 < l.length)
theorem rtext_none {at_ : Nat} {w w' : World} (n : Nat) (t : ByteArray) (hb : Below w.heap.size w w') : RText none at_ w (.returned (.tuple #[.string t, .int .i64 (n : Int), .bool false])) w' :=
  ⟨t, n, false, rfl, hb, (fun h => by cases h), (fun _ _ _ h => by cases h)⟩
theorem rtext_some {at_ : Nat} {w w' : World} (l : List UInt8) (m : Nat) (hb : Below w.heap.size w w') : RText (some (l, m)) at_ w (.returned (.tuple #[.string ⟨l.toArray⟩, .int .i64 ((at_ + 1 + m : Nat) : Int), .bool (decide (l.length ≤ 200))])) w' :=
  ⟨_, _, _, rfl, hb, fun h => ⟨l, m, rfl, by simpa using h, rfl, rfl⟩, fun h l' m' e => by
    injection e with e; injection e with e1 e2; subst e1; simpa using h⟩

theorem step_text (g : Nat) (l : List UInt8) (bb : UInt8) (n : Nat) (hl : l ≠ []) (h34 : (hd l).toNat ≠ 34) (hb : byteL l = (bb, n + 1)) (out : List UInt8) (m : Nat) :
    preT out m (textGo (g + 1) l) = preT (out ++ [bb]) (m + (n + 1)) (textGo g (l.drop (n + 1))) := by
  match l with
  | [] => exact absurd rfl hl
  | c :: r =>
    change c.toNat ≠ 34 at h34
    rw [textGo, if_neg h34, hb]
    show preT out m (match textGo g ((c :: r).drop (n + 1)) with | none => none | some (t, k) => some (bb :: t, k + n + 1)) = _
    cases textGo g ((c :: r).drop (n + 1)) with
    | none => rfl
    | some p => obtain ⟨t, k⟩ := p; simp [preT]; omega
theorem fail_text (g : Nat) (l : List UInt8) (bb : UInt8) (hl : l ≠ []) (h34 : (hd l).toNat ≠ 34) (hb : byteL l = (bb, 0)) : textGo (g + 1) l = none := by
  match l with
  | [] => exact absurd rfl hl
  | c :: r =>
    change c.toNat ≠ 34 at h34
    rw [textGo, if_neg h34, hb]
theorem end_text (g : Nat) (l : List UInt8) (hl : l ≠ []) (h34 : (hd l).toNat = 34) : textGo (g + 1) l = some ([], 1) := by
  match l with
  | [] => exact absurd rfl hl
  | c :: r =>
    change c.toNat = 34 at h34
    rw [textGo, if_pos h34]
theorem nil_text (g : Nat) : textGo g [] = none := by cases g <;> rfl
theorem hexI_true {c : UInt8} (h : hexB c = true) : hexI c = (hexV c : Nat) := by unfold hexI; rw [h]; rfl
theorem hexI_false {c : UInt8} (h : hexB c = false) : hexI c = -1 := by unfold hexI; rw [h]; rfl
theorem hexV16 {c : UInt8} (h : hexB c = true) : hexV c < 16 := by
  have := all256 (fun c => !hexB c || decide (hexV c < 16)) (by decide +kernel) c
  rw [h] at this; simpa using this

set_option maxRecDepth 100000 in
set_option maxHeartbeats 16000000 in
theorem rtext_any (s : ByteArray) (at_ : Nat) (h0 : at_ < s.size) (hz : s.size ≤ 1048576) (w : World) :
    Calls Tryz.prog 47 #[.string s, .int .i64 (at_ : Int)] w (RText (textGo (s.size - at_) ((bl s).drop (at_ + 1))) at_ w) := by
  obtain ⟨i0, hi, hz0, hz1, hz2⟩ := info_parts info5
  obtain ⟨B, hB⟩ : ∃ B, w.heap.size = B := ⟨_, rfl⟩
  have HB := Lib.hid hB
  obtain ⟨R, hR⟩ : ∃ R, textGo (s.size - at_) ((bl s).drop (at_ + 1)) = R := ⟨_, rfl⟩
  have HR := Lib.hid hR
  rw [hR]
  clear hR hB
  go_enter Tryz.func47, Tryz.ntmps47
  go_wp2
  go_loopw [1, 7] (fun i v wr => ∃ (out : List UInt8) (a f : Nat), i = .int .i64 a ∧ at_ + 1 ≤ a ∧ a ≤ s.size ∧ out.length ≤ a ∧ wr.ownsRow B 5 1 v out.length (out.map byt) ∧
      Hid (Below B w wr) ∧ Hid (s.size - a < f ∧ R = preT out (a - (at_ + 1)) (textGo f ((bl s).drop a))))
    (fun i _ _ => s.size - (intOf i).toNat)
  case atStart => exact ⟨[], at_ + 1, s.size - at_, by go_num, by omega, by omega, by simp, World.ownsRow_nil _ _ _ _, Lib.hid (Below.refl _ _), Lib.hid ⟨by omega, by
    rw [← HR.out]; cases textGo (s.size - at_) ((bl s).drop (at_ + 1)) with
    | none => rfl
    | some p => obtain ⟨t, n⟩ := p; simp [preT]⟩⟩
  case round =>
    obtain ⟨out, a, f, rfl, ha1, has, hol, hown, HW, HT⟩ := hrel
    have b1 : out.length + 1 ≤ maxLen := by unfold maxLen; omega
    have b2 : (out.length + 1) * 1 ≤ 140737488355328 := by omega
    have hsz := HW.out.size
    rw [HB.out] at hsz
    by_cases hal : a < s.size
    · obtain ⟨g, rfl⟩ : ∃ g, f = g + 1 := ⟨f - 1, by have := HT.out.1; omega⟩
      have hfu := HT.out.1
      have hA := hd_at s a hal
      have hne : (bl s).drop a ≠ [] := by rw [bl_at s a hal]; simp
      have hdl : decide ((a : Int) < (s.size : Int)) = true := decide_eq_true (by omega)
      have hin : ∀ j, (hd ((bl s).drop j)).toNat ≠ 0 → j < s.size := fun j h => by
        rcases Nat.lt_or_ge j s.size with h1 | h1
        · exact h1
        · rw [hd_end s j h1] at h; exact absurd rfl h
      by_cases h34 : s[a].toNat = 34
      · have e34 : ((s[a].toNat : Int) == 34) = true := by simp [h34]
        have HF : Hid (R = some (out, a + 1 - (at_ + 1))) := Lib.hid (by rw [HT.out.2, end_text g _ hne (by rw [hA]; exact h34)]; simp [preT]; omega)
        have hcv := conv_own hown
        obtain ⟨A, cp, rfl, -⟩ := own_form hown
        clear h34 hA hin
        go_wp2
        go_ret3
        rw [HF.out]
        have := rtext_some (at_ := at_) out (a + 1 - (at_ + 1)) (show Below w.heap.size w wr by rw [HB.out]; exact HW.out)
        rw [show ((at_ + 1 + (a + 1 - (at_ + 1)) : Nat) : Int) = (a : Int) + 1 by omega, show decide (out.length ≤ 200) = decide ((out.length : Int) ≤ 200) by simp; omega] at this
        exact this
      · have e34 : ((s[a].toNat : Int) == 34) = false := by simp; omega
        have hS := rsrc_any s[a] wr
        have hBL := byteL_hd ((bl s).drop a) hne
        rw [hA, List.drop_drop, List.drop_drop, List.drop_drop] at hBL
        have h34' := h34
        rw [← hA] at h34
        by_cases h10 : s[a].toNat = 10
        · have e10 : ((s[a].toNat : Int) == 10) = true := by simp [h10]
          have hbL : byteL ((bl s).drop a) = (0, 0) := by rw [hBL, if_neg (by omega), if_pos (.inl h10)]
          have HF : Hid (R = none) := Lib.hid (by rw [HT.out.2, fail_text g _ _ hne h34 (hbL)]; rfl)
          clear h34 h34' hA hin hBL h10 hbL hS hne
          go_wp2
          go_ret3
          rw [HF.out]
          exact rtext_none _ _ (by rw [HB.out]; exact HW.out)
        · have e10 : ((s[a].toNat : Int) == 10) = false := by simp; omega
          cases hs : srcB s[a] with
          | false =>
            have hbL : byteL ((bl s).drop a) = (0, 0) := by
              rw [hBL, if_neg (by intro h; simp [srcB, h] at hs), if_pos (.inr hs)]
            rw [hs] at hS
            have HF : Hid (R = none) := Lib.hid (by rw [HT.out.2, fail_text g _ _ hne h34 (hbL)]; rfl)
            clear h34 h34' hA hin hBL h10 hbL hne hs
            go_wp2_with (go_at_call 31; refine hS.mono ?_; rintro e w' ⟨rfl, rfl⟩)
            go_ret3
            rw [HF.out]
            exact rtext_none _ _ (by rw [HB.out]; exact HW.out)
          | true =>
            rw [hs] at hS
            by_cases h92 : s[a].toNat = 92
            · have e92 : ((s[a].toNat : Int) == 92) = true := by simp [h92]
              rw [if_pos h92] at hBL
              have y1 := byteAt_any s (a + 1) wr
              have i1 := hin (a + 1)
              obtain ⟨d, hdd⟩ : ∃ d, hd ((bl s).drop (a + 1)) = d := ⟨_, rfl⟩
              rw [hdd] at y1 hBL i1
              by_cases d34 : d.toNat = 34
              · have f34 : ((d.toNat : Int) == 34) = true := by simp [d34]
                have hlt := i1 (by omega)
                have hix := hd_at s (a + 1) hlt
                rw [hdd] at hix
                rw [if_pos (.inl d34)] at hBL
                subst hix
                have HF : Hid (s.size - (a + 2) < g ∧ R = preT (out ++ [s[a + 1]]) (a + 2 - (at_ + 1)) (textGo g ((bl s).drop (a + 2)))) := Lib.hid ⟨by omega, by
                  rw [HT.out.2, step_text g _ _ 1 hne h34 (hBL), List.drop_drop, show a - (at_ + 1) + (1 + 1) = a + 2 - (at_ + 1) by omega]⟩
                clear h34 h34' hA hin hBL h10 hne hs h92 i1 hdd d34
                go_wp2_with (first | (go_at_call 31; refine hS.mono ?_; rintro e w' ⟨rfl, rfl⟩) | (go_at_call 32; (first | (rw [show ((a : Int) + 1) = ((a + 1 : Nat) : Int) from by omega]; with_reducible refine y1.mono ?_)); rintro e w' ⟨rfl, rfl⟩) | (at_builtin; refine wpList_append_own _ rfl _ _ 34 rfl B 5 i0 (.int .u8 0) 1 1 Tryz.underlying34 hi hz0 hz1 hz2 rfl (by decide) _ _ _ rfl (hown.alloc _) ⟨wr.heap.size, 0, none⟩ 1 1 [byt s[a + 1]] rfl rfl (cell_one_new _ _ _) (by simp [Value.oneCell']) b1 b2 (by simp; omega) ?_; intro v' w1 hown' hgrow _))
                have hBe : Below B w w1 := (HW.out.alloc (by omega) _).grown hgrow (by simp; omega) (fun g hg => by have := (hown.lt g hg).1; omega)
                exact ⟨⟨out ++ [s[a + 1]], a + 2, g, by go_num, by omega, by omega, by simp; omega, by simpa using hown', Lib.hid hBe, HF⟩, by simp [intOf]; omega⟩
              · have f34 : ((d.toNat : Int) == 34) = false := by simp; omega
                by_cases d92 : d.toNat = 92
                · have f92 : ((d.toNat : Int) == 92) = true := by simp [d92]
                  have hlt := i1 (by omega)
                  have hix := hd_at s (a + 1) hlt
                  rw [hdd] at hix
                  rw [if_pos (.inr d92)] at hBL
                  subst hix
                  have HF : Hid (s.size - (a + 2) < g ∧ R = preT (out ++ [s[a + 1]]) (a + 2 - (at_ + 1)) (textGo g ((bl s).drop (a + 2)))) := Lib.hid ⟨by omega, by
                    rw [HT.out.2, step_text g _ _ 1 hne h34 (hBL), List.drop_drop, show a - (at_ + 1) + (1 + 1) = a + 2 - (at_ + 1) by omega]⟩
                  clear h34 h34' hA hin hBL h10 hne hs h92 i1 hdd d34 d92
                  go_wp2_with (first | (go_at_call 31; refine hS.mono ?_; rintro e w' ⟨rfl, rfl⟩) | (go_at_call 32; (first | (rw [show ((a : Int) + 1) = ((a + 1 : Nat) : Int) from by omega]; with_reducible refine y1.mono ?_)); rintro e w' ⟨rfl, rfl⟩) | (at_builtin; refine wpList_append_own _ rfl _ _ 34 rfl B 5 i0 (.int .u8 0) 1 1 Tryz.underlying34 hi hz0 hz1 hz2 rfl (by decide) _ _ _ rfl (hown.alloc _) ⟨wr.heap.size, 0, none⟩ 1 1 [byt s[a + 1]] rfl rfl (cell_one_new _ _ _) (by simp [Value.oneCell']) b1 b2 (by simp; omega) ?_; intro v' w1 hown' hgrow _))
                  have hBe : Below B w w1 := (HW.out.alloc (by omega) _).grown hgrow (by simp; omega) (fun g hg => by have := (hown.lt g hg).1; omega)
                  exact ⟨⟨out ++ [s[a + 1]], a + 2, g, by go_num, by omega, by omega, by simp; omega, by simpa using hown', Lib.hid hBe, HF⟩, by simp [intOf]; omega⟩
                · have f92 : ((d.toNat : Int) == 92) = false := by simp; omega
                  rw [if_neg (by omega)] at hBL
                  by_cases d110 : d.toNat = 110
                  · have f110 : ((d.toNat : Int) == 110) = true := by simp [d110]
                    have hlt := i1 (by omega)
                    rw [if_pos d110] at hBL
                    have HF : Hid (s.size - (a + 2) < g ∧ R = preT (out ++ [10]) (a + 2 - (at_ + 1)) (textGo g ((bl s).drop (a + 2)))) := Lib.hid ⟨by omega, by
                      rw [HT.out.2, step_text g _ _ 1 hne h34 (hBL), List.drop_drop, show a - (at_ + 1) + (1 + 1) = a + 2 - (at_ + 1) by omega]⟩
                    clear h34 h34' hA hin hBL h10 hne hs h92 i1 hdd d34 d92 d110
                    go_wp2_with (first | (go_at_call 31; refine hS.mono ?_; rintro e w' ⟨rfl, rfl⟩) | (go_at_call 32; (first | (rw [show ((a : Int) + 1) = ((a + 1 : Nat) : Int) from by omega]; with_reducible refine y1.mono ?_)); rintro e w' ⟨rfl, rfl⟩) | (at_builtin; refine wpList_append_own _ rfl _ _ 34 rfl B 5 i0 (.int .u8 0) 1 1 Tryz.underlying34 hi hz0 hz1 hz2 rfl (by decide) _ _ _ rfl (hown.alloc _) ⟨wr.heap.size, 0, none⟩ 1 1 [.int .u8 10] rfl rfl (cell_one_new _ _ _) (by simp [Value.oneCell']) b1 b2 (by simp; omega) ?_; intro v' w1 hown' hgrow _))
                    have hBe : Below B w w1 := (HW.out.alloc (by omega) _).grown hgrow (by simp; omega) (fun g hg => by have := (hown.lt g hg).1; omega)
                    exact ⟨⟨out ++ [10], a + 2, g, by go_num, by omega, by omega, by simp; omega, by simpa [show byt 10 = Value.int .u8 10 from rfl] using hown', Lib.hid hBe, HF⟩, by simp [intOf]; omega⟩
                  · have f110 : ((d.toNat : Int) == 110) = false := by simp; omega
                    rw [if_neg d110] at hBL
                    by_cases d120 : d.toNat = 120
                    · have f120 : ((d.toNat : Int) == 120) = true := by simp [d120]
                      rw [if_pos d120] at hBL
                      have y2 := byteAt_any s (a + 2) wr
                      have y3 := byteAt_any s (a + 3) wr
                      have i3 := hin (a + 3)
                      generalize hd ((bl s).drop (a + 2)) = x at *
                      generalize hd ((bl s).drop (a + 3)) = y at *
                      have x2 := rhex_any x wr
                      have x3 := rhex_any y wr
                      cases hx : hexB x with
                      | false =>
                        rw [hexI_false hx] at x2
                        rw [hx] at hBL
                        simp only [Bool.false_and, Bool.false_eq_true, if_false] at hBL
                        obtain ⟨q, hq⟩ : ∃ q, hexI y = q := ⟨_, rfl⟩
                        rw [hq] at x3
                        clear hq
                        have HF : Hid (R = none) := Lib.hid (by rw [HT.out.2, fail_text g _ _ hne h34 (hBL)]; rfl)
                        clear h34 h34' hA hin hBL h10 hne hs h92 i1 i3 hdd d34 d92 d110 d120 hx
                        go_wp2_with (first | (go_at_call 31; refine hS.mono ?_; rintro e w' ⟨rfl, rfl⟩) | (go_at_call 32; (first | (rw [show ((a : Int) + 1) = ((a + 1 : Nat) : Int) from by omega]; with_reducible refine y1.mono ?_) | (rw [show ((a : Int) + 2) = ((a + 2 : Nat) : Int) from by omega]; with_reducible refine y2.mono ?_) | (rw [show ((a : Int) + 3) = ((a + 3 : Nat) : Int) from by omega]; with_reducible refine y3.mono ?_)); rintro e w' ⟨rfl, rfl⟩) | (go_at_call 58; (first | (with_reducible refine x2.mono ?_) | (with_reducible refine x3.mono ?_)); rintro e w' ⟨rfl, rfl⟩))
                        go_ret3
                        rw [HF.out]
                        exact rtext_none _ _ (by rw [HB.out]; exact HW.out)
                      | true =>
                        have vx := hexV16 hx
                        rw [hexI_true hx] at x2
                        obtain ⟨p, hp⟩ : ∃ p, hexV x = p := ⟨_, rfl⟩
                        have gx : decide ((p : Int) < 0) = false := decide_eq_false (by omega)
                        cases hy : hexB y with
                        | false =>
                          rw [hexI_false hy] at x3
                          rw [hx, hy] at hBL
                          simp only [Bool.and_false, Bool.false_eq_true, if_false] at hBL
                          rw [hp] at x2 vx
                          have HF : Hid (R = none) := Lib.hid (by rw [HT.out.2, fail_text g _ _ hne h34 (hBL)]; rfl)
                          clear h34 h34' hA hin hBL h10 hne hs h92 i1 i3 hdd d34 d92 d110 d120 hx hy hp
                          go_wp2_with (first | (go_at_call 31; refine hS.mono ?_; rintro e w' ⟨rfl, rfl⟩) | (go_at_call 32; (first | (rw [show ((a : Int) + 1) = ((a + 1 : Nat) : Int) from by omega]; with_reducible refine y1.mono ?_) | (rw [show ((a : Int) + 2) = ((a + 2 : Nat) : Int) from by omega]; with_reducible refine y2.mono ?_) | (rw [show ((a : Int) + 3) = ((a + 3 : Nat) : Int) from by omega]; with_reducible refine y3.mono ?_)); rintro e w' ⟨rfl, rfl⟩) | (go_at_call 58; (first | (with_reducible refine x2.mono ?_) | (with_reducible refine x3.mono ?_)); rintro e w' ⟨rfl, rfl⟩))
                          go_ret3
                          rw [HF.out]
                          exact rtext_none _ _ (by rw [HB.out]; exact HW.out)
                        | true =>
                          have vy := hexV16 hy
                          have hlt := i3 (by intro h; have : y = 0 := UInt8.toNat_inj.1 h; subst this; cases hy)
                          rw [hexI_true hy] at x3
                          rw [hx, hy] at hBL
                          simp only [Bool.and_self, if_true] at hBL
                          obtain ⟨q, hq⟩ : ∃ q, hexV y = q := ⟨_, rfl⟩
                          have gy : decide ((q : Int) < 0) = false := decide_eq_false (by omega)
                          rw [hp] at x2 vx hBL
                          rw [hq] at x3 vy hBL
                          have hw1 : IntKind.i64.wrap (16 * (p : Int)) = 16 * (p : Int) := by rw [IntKind.wrap_i64]; omega
                          have hw2 : IntKind.i64.wrap (16 * (p : Int) + (q : Int)) = 16 * (p : Int) + (q : Int) := by rw [IntKind.wrap_i64]; omega
                          have hw3 := u8_wrap_nat (16 * (p : Int) + (q : Int)) (by omega) (by omega)
                          have hcv : (16 * (p : Int) + (q : Int)) = ((UInt8.ofNat (p * 16 + q)).toNat : Int) := by simp; omega
                          clear hp hq
                          have HF : Hid (s.size - (a + 4) < g ∧ R = preT (out ++ [UInt8.ofNat (p * 16 + q)]) (a + 4 - (at_ + 1)) (textGo g ((bl s).drop (a + 4)))) := Lib.hid ⟨by omega, by
                            rw [HT.out.2, step_text g _ _ 3 hne h34 (hBL), List.drop_drop, show a - (at_ + 1) + (3 + 1) = a + 4 - (at_ + 1) by omega]⟩
                          clear h34 h34' hA hin hBL h10 hne hs h92 i1 i3 hdd d34 d92 d110 d120 hx hy
                          go_wp2_with (first | (go_at_call 31; refine hS.mono ?_; rintro e w' ⟨rfl, rfl⟩) | (go_at_call 32; (first | (rw [show ((a : Int) + 1) = ((a + 1 : Nat) : Int) from by omega]; with_reducible refine y1.mono ?_) | (rw [show ((a : Int) + 2) = ((a + 2 : Nat) : Int) from by omega]; with_reducible refine y2.mono ?_) | (rw [show ((a : Int) + 3) = ((a + 3 : Nat) : Int) from by omega]; with_reducible refine y3.mono ?_)); rintro e w' ⟨rfl, rfl⟩) | (go_at_call 58; (first | (with_reducible refine x2.mono ?_) | (with_reducible refine x3.mono ?_)); rintro e w' ⟨rfl, rfl⟩) | (at_builtin; refine wpList_append_own _ rfl _ _ 34 rfl B 5 i0 (.int .u8 0) 1 1 Tryz.underlying34 hi hz0 hz1 hz2 rfl (by decide) _ _ _ rfl (hown.alloc _) ⟨wr.heap.size, 0, none⟩ 1 1 [byt (UInt8.ofNat (p * 16 + q))] rfl rfl (cell_one_new _ _ _) (by simp [Value.oneCell']) b1 b2 (by simp; omega) ?_; intro v' w1 hown' hgrow _))
                          have hBe : Below B w w1 := (HW.out.alloc (by omega) _).grown hgrow (by simp; omega) (fun g hg => by have := (hown.lt g hg).1; omega)
                          exact ⟨⟨out ++ [UInt8.ofNat (p * 16 + q)], a + 4, g, by go_num, by omega, by omega, by simp; omega, by simpa using hown', Lib.hid hBe, HF⟩, by simp [intOf]; omega⟩
                    · have f120 : ((d.toNat : Int) == 120) = false := by simp; omega
                      rw [if_neg d120] at hBL
                      have HF : Hid (R = none) := Lib.hid (by rw [HT.out.2, fail_text g _ _ hne h34 (hBL)]; rfl)
                      clear h34 h34' hA hin hBL h10 hne hs h92 i1 hdd d34 d92 d110 d120
                      go_wp2_with (first | (go_at_call 31; refine hS.mono ?_; rintro e w' ⟨rfl, rfl⟩) | (go_at_call 32; (first | (rw [show ((a : Int) + 1) = ((a + 1 : Nat) : Int) from by omega]; with_reducible refine y1.mono ?_)); rintro e w' ⟨rfl, rfl⟩))
                      go_ret3
                      rw [HF.out]
                      exact rtext_none _ _ (by rw [HB.out]; exact HW.out)
            · have e92 : ((s[a].toNat : Int) == 92) = false := by simp; omega
              rw [if_neg h92, if_neg (by rw [hs]; simp; exact h10)] at hBL
              have HF : Hid (s.size - (a + 1) < g ∧ R = preT (out ++ [s[a]]) (a + 1 - (at_ + 1)) (textGo g ((bl s).drop (a + 1)))) := Lib.hid ⟨by omega, by
                rw [HT.out.2, step_text g _ _ 0 hne h34 (hBL), List.drop_drop, show a - (at_ + 1) + (0 + 1) = a + 1 - (at_ + 1) by omega]⟩
              clear h34 h34' hA hin hBL h10 hne hs h92
              go_wp2_with (first | (go_at_call 31; refine hS.mono ?_; rintro e w' ⟨rfl, rfl⟩) | (at_builtin; refine wpList_append_own _ rfl _ _ 34 rfl B 5 i0 (.int .u8 0) 1 1 Tryz.underlying34 hi hz0 hz1 hz2 rfl (by decide) _ _ _ rfl (hown.alloc _) ⟨wr.heap.size, 0, none⟩ 1 1 [byt s[a]] rfl rfl (cell_one_new _ _ _) (by simp [Value.oneCell']) b1 b2 (by simp; omega) ?_; intro v' w1 hown' hgrow _))
              have hBe : Below B w w1 := (HW.out.alloc (by omega) _).grown hgrow (by simp; omega) (fun g hg => by have := (hown.lt g hg).1; omega)
              exact ⟨⟨out ++ [s[a]], a + 1, g, by go_num, by omega, by omega, by simp; omega, by simpa using hown', Lib.hid hBe, HF⟩, by simp [intOf]; omega⟩
    · have HF : Hid (R = none) := Lib.hid (by
        rw [HT.out.2, List.drop_eq_nil_of_le (by rw [bl_len]; omega), nil_text]; rfl)
      obtain rfl : a = s.size := by omega
      have hcv := conv_own hown
      obtain ⟨A, cp, rfl, -⟩ := own_form hown
      clear hal
      go_wp2
      go_ret3
      rw [HF.out]
      have := rtext_none (at_ := at_) (s.size + 1) (⟨out.toArray⟩ : ByteArray) (show Below w.heap.size w wr by rw [HB.out]; exact HW.out)
      simpa using this
end Go.Proofs.YtnaopgajinbnmaaGreatDoor
