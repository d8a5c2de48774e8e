/- Text: the reference's. -/
import Derived.Test.YtnaopgajinbnmaaGreatDoorText
namespace Go.Proofs.YtnaopgajinbnmaaGreatDoor
open Go.RowKit

theorem lexR_cut (l : List UInt8) (h : l.length ≤ 6000) : lexR l = if (cutR l).2.2 = 0 ∧ 2000 < (cutR l).2.1 then ([], 0, 3) else cutR l := by
  unfold lexR cutR
  rw [if_neg (by omega)]
  cases hl : lexL l with
  | mk ts e =>
    cases e with
    | some p => simp
    | none => simp

set_option maxRecDepth 100000 in
set_option maxHeartbeats 4000000 in
theorem rlex_any (s : ByteArray) (hz : s.size ≤ 140737488355328) (w : World) : Calls Tryz.prog 16 #[.string s] w (LexPost (lexR (bl s)) w) := by
  by_cases h6 : 6000 < s.size
  · have hF : lexR (bl s) = ([], 0, 3) := by unfold lexR; rw [if_pos (by rw [bl_len]; exact h6)]
    rw [hF]
    have hd : decide (6000 < (s.size : Int)) = true := decide_eq_true (by omega)
    clear hF h6
    go_enter Tryz.func16, Tryz.ntmps16
    go_wp2
    go_ret3
    exact ⟨_, rfl, World.ownsRow_nil _ _ _ _, Below.refl _ _⟩
  · have hd : decide (6000 < (s.size : Int)) = false := decide_eq_false (by omega)
    have hF := lexR_cut (bl s) (by rw [bl_len]; omega)
    have hC := rcut_any s (by omega) w
    obtain ⟨⟨ts, n, e⟩, hX⟩ : ∃ X, cutR (bl s) = X := ⟨_, rfl⟩
    rw [hX] at hF hC
    simp only at hF
    have HF := Lib.hid hF
    clear hF hX h6
    go_enter Tryz.func16, Tryz.ntmps16
    go_wp2_with (go_at_call 25; refine hC.mono ?_)
    rintro e w1 ⟨v, rfl, hrow, hb⟩
    have HR := Lib.hid (And.intro hrow hb)
    obtain ⟨A, cp, rfl, -⟩ := own_form hrow
    clear hrow hb
    by_cases h0 : e = 0
    · subst h0
      by_cases h2 : 2000 < n
      · have hd2 : decide (2000 < (n : Int)) = true := decide_eq_true (by omega)
        rw [if_pos ⟨rfl, h2⟩] at HF
        clear h2
        go_wp2
        go_ret3
        rw [HF.out]
        exact ⟨_, rfl, World.ownsRow_nil _ _ _ _, HR.out.2⟩
      · have hd2 : decide (2000 < (n : Int)) = false := decide_eq_false (by omega)
        rw [if_neg (fun h => h2 h.2)] at HF
        clear h2
        go_wp2
        go_ret3
        rw [HF.out]
        exact ⟨_, rfl, HR.out.1, HR.out.2⟩
    · have e0 : ((e : Int) == 0) = false := by simp; omega
      rw [if_neg (fun h => h0 h.1)] at HF
      clear h0
      go_wp2
      go_ret3
      rw [HF.out]
      exact ⟨_, rfl, HR.out.1, HR.out.2⟩


theorem textR_big (ts : List ATk) (h : 6000 < (joinT ts).length) : textR ts = ([], 3) := by
  unfold textR lexR; rw [if_pos h]; rfl
theorem bl_cat (a b : ByteArray) : bl (a ++ b) = bl a ++ bl b := by unfold bl; simp

set_option maxRecDepth 100000 in
set_option maxHeartbeats 16000000 in
theorem rtext_any2 (ts : List ATk) (A : Option Addr) (c : Nat) (hl : ts.length ≤ 1048576) (hok : ∀ t ∈ ts, t.ok ∧ t.s.size ≤ 48000) {w : World} (hA : ATokAt w A ts) (hL : Laid w) :
    Calls Tryz.prog 7 #[.slice A ts.length c] w fun e w' => e = .returned (textV (textR ts)) ∧ Below w.heap.size w w' := by
  obtain ⟨n, hn⟩ : ∃ n, ts.length = n := ⟨_, rfl⟩
  have HN := Lib.hid hn
  have HOK := Lib.hid hok
  have HL := Lib.hid hL
  have HA := Lib.hid hA
  rw [hn] at hl ⊢
  clear hn hok hL hA
  go_enter Tryz.func7, Tryz.ntmps7
  go_wp2
  go_loopw [4, 5] (fun s i wr => ∃ (S : ByteArray) (k : Nat), s = .string S ∧ i = .int .i64 k ∧ k ≤ n ∧ S.size ≤ 6000 ∧ Hid (bl S = joinT (ts.take k) ∧ Below w.heap.size w wr)) (fun _ i _ => n - (intOf i).toNat)
  case atStart => exact ⟨⟨#[]⟩, 0, rfl, rfl, Nat.zero_le _, by decide, Lib.hid ⟨rfl, Below.refl _ _⟩⟩
  case round =>
    obtain ⟨S, k, rfl, rfl, hk, hS, HW⟩ := hrel
    by_cases hlt : k < n
    · have hkx : k < ts.length := by rw [HN.out]; exact hlt
      obtain ⟨b, o, rfl, hbl, hc⟩ := (HA.out.below HW.out.2) (by omega)
      obtain ⟨p0, p1, p2, p3⟩ := hc k hkx
      have hxo := HOK.out ts[k] (List.getElem_mem hkx)
      have hle := joinT_le ts (k + 1)
      have hd : decide ((k : Int) < (n : Int)) = true := decide_eq_true (by omega)
      have h3 : (k : Int) < (n : Int) := by omega
      have hLr : Laid wr := HL.out.below HW.out.2
      by_cases hk0 : 0 < k
      · have hJn := joinT_snoc ts k hkx hk0
        rw [← HW.out.1] at hJn
        generalize ts[k] = x at p0 p1 p2 p3 hxo hJn
        have hwz := wrS_size x hxo.1
        have hWr := rwritten_any x hxo.1 hxo.2 hLr
        obtain ⟨xk, xn, xa, xs⟩ := x
        simp only at p0 p1 p2 p3 hwz
        have hx48 : xs.size ≤ 48000 := hxo.2
        obtain ⟨X, hX⟩ : ∃ X, wrS ⟨xk, xn, xa, xs⟩ = X := ⟨_, rfl⟩
        rw [hX] at hWr hwz
        have hJn2 : joinT (ts.take (k + 1)) = bl (S ++ ⟨#[32]⟩ ++ X) := by rw [hJn, bl_cat, bl_cat, ← hX]; simp [wrL, bl]
        have hzz : (bl (S ++ ⟨#[32]⟩ ++ X)).length = S.size + 1 + X.size := by rw [bl_cat, bl_cat, List.length_append, List.length_append, bl_len, bl_len]; rfl
        rw [hJn2, hzz] at hle
        have HJ := Lib.hid hJn2
        have HLE := Lib.hid hle
        have hd0 : (0 : Int) < (k : Int) := by omega
        clear hc hxo hJn hJn2 hzz hle hX
        by_cases hbig : 6000 < S.size + 1 + X.size
        · have hdb : decide (6000 < (S.size : Int) + 1 + (X.size : Int)) = true := decide_eq_true (by omega)
          have HF : Hid (textR ts = ([], 3)) := Lib.hid (textR_big ts (by have := HLE.out; omega))
          go_wp2_with (go_at_call 15; refine hWr.mono ?_)
          rintro e w2 ⟨rfl, hb2⟩
          have hBB : Below w.heap.size w w2 := HW.out.2.trans (hb2.mono HW.out.2.size)
          go_wp2
          go_ret2
          refine ⟨?_, hBB⟩
          rw [HF.out]; rfl
        · have hdb : decide (6000 < (S.size : Int) + 1 + (X.size : Int)) = false := decide_eq_false (by omega)
          have hsm : (S ++ ⟨#[32]⟩ ++ X : ByteArray).size ≤ 6000 := by rw [← bl_len, bl_cat, bl_cat, List.length_append, List.length_append, bl_len, bl_len]; show S.size + 1 + X.size ≤ 6000; omega
          have HSM := Lib.hid hsm
          clear hbig hsm
          go_wp2_with (go_at_call 15; refine hWr.mono ?_)
          rintro e w2 ⟨rfl, hb2⟩
          have hBB : Below w.heap.size w w2 := HW.out.2.trans (hb2.mono HW.out.2.size)
          go_wp2
          exact ⟨⟨S ++ ⟨#[32]⟩ ++ X, k + 1, rfl, by go_num, by omega, HSM.out, Lib.hid ⟨HJ.out.symm, hBB⟩⟩, by simp [intOf]; omega⟩
      · obtain rfl : k = 0 := by omega
        have hJn := joinT_first ts hkx
        have hS0 : S = ⟨#[]⟩ := bl_ext (by rw [HW.out.1]; rfl)
        subst hS0
        generalize ts[0] = x at p0 p1 p2 p3 hxo hJn
        have hwz := wrS_size x hxo.1
        have hWr := rwritten_any x hxo.1 hxo.2 hLr
        obtain ⟨xk, xn, xa, xs⟩ := x
        simp only [Nat.zero_mul, Nat.add_zero] at p0 p1 p2 p3
        simp only at hwz
        have hx48 : xs.size ≤ 48000 := hxo.2
        obtain ⟨X, hX⟩ : ∃ X, wrS ⟨xk, xn, xa, xs⟩ = X := ⟨_, rfl⟩
        rw [hX] at hWr hwz
        have hJn2 : joinT (ts.take (0 + 1)) = bl (⟨#[]⟩ ++ X) := by rw [bl_cat, show bl (⟨#[]⟩ : ByteArray) = [] from rfl, List.nil_append, ← hX]; exact hJn
        have hzz : (bl (⟨#[]⟩ ++ X)).length = X.size := by rw [bl_cat, show bl (⟨#[]⟩ : ByteArray) = [] from rfl, List.nil_append, bl_len]
        rw [hJn2, hzz] at hle
        have HJ := Lib.hid hJn2
        have HLE := Lib.hid hle
        clear hc hxo hJn hJn2 hzz hle hX hk0
        by_cases hbig : 6000 < X.size
        · have hdb : decide (6000 < (X.size : Int)) = true := decide_eq_true (by omega)
          have HF : Hid (textR ts = ([], 3)) := Lib.hid (textR_big ts (by have := HLE.out; omega))
          go_wp2_with (go_at_call 15; refine hWr.mono ?_)
          rintro e w2 ⟨rfl, hb2⟩
          have hBB : Below w.heap.size w w2 := HW.out.2.trans (hb2.mono HW.out.2.size)
          go_wp2
          go_ret2
          refine ⟨?_, hBB⟩
          rw [HF.out]; rfl
        · have hdb : decide (6000 < (X.size : Int)) = false := decide_eq_false (by omega)
          have hsm : (⟨#[]⟩ ++ X : ByteArray).size ≤ 6000 := by rw [← bl_len, bl_cat, show bl (⟨#[]⟩ : ByteArray) = [] from rfl, List.nil_append, bl_len]; omega
          have HSM := Lib.hid hsm
          clear hbig hsm
          go_wp2_with (go_at_call 15; refine hWr.mono ?_)
          rintro e w2 ⟨rfl, hb2⟩
          have hBB : Below w.heap.size w w2 := HW.out.2.trans (hb2.mono HW.out.2.size)
          go_wp2
          exact ⟨⟨⟨#[]⟩ ++ X, 0 + 1, by simp, by go_num, by omega, HSM.out, Lib.hid ⟨HJ.out.symm, hBB⟩⟩, by simp [intOf]; omega⟩
    · obtain rfl : k = n := by omega
      have hT := HW.out.1
      rw [List.take_of_length_le (by rw [HN.out]; omega)] at hT
      have HF : Hid (textR ts = if (lexR (joinT ts)).2.2 = 0 then (if sameAL ((lexR (joinT ts)).1.map ofTok) ts then (joinT ts, 0) else ([], 1)) else ([], (lexR (joinT ts)).2.2)) := Lib.hid rfl
      rw [← hT] at HF
      have hlx := fun (w : World) => rlex_any S (by omega) w
      obtain ⟨⟨us, m, e0⟩, hR⟩ : ∃ R, lexR (bl S) = R := ⟨_, rfl⟩
      rw [hR] at hlx HF
      have hus : us.length ≤ 2000 := by
        rcases lexR_cases (bl S) with ⟨ts', _, _, h, e⟩ | ⟨n', e', h, _⟩
        · rw [hR] at e; cases e; exact h
        · rw [hR] at h; cases h; simp
      simp only at HF
      clear hlt hR hT
      go_wp2_with (go_at_call 16; refine (hlx _).mono ?_)
      rintro e w3 ⟨v, rfl, hrow, hb3⟩
      obtain ⟨A2, cp, rfl, -⟩ := own_form hrow
      have hT1 := aTok_of (tokAt_own hrow).1
      have hB3 : Below w.heap.size w w3 := HW.out.2.trans (hb3.mono HW.out.2.size)
      have HB3 := Lib.hid hB3
      clear hrow hB3
      by_cases he0 : e0 = 0
      · subst he0
        have hSm := rsame_any (us.map ofTok) ts A2 A cp c (by rw [List.length_map]; omega) (by rw [HN.out]; exact hl) hT1 (HA.out.below HB3.out)
        rw [List.length_map, HN.out] at hSm
        obtain ⟨sb, hsb⟩ : ∃ sb, sameAL (us.map ofTok) ts = sb := ⟨_, rfl⟩
        rw [hsb] at hSm HF
        clear hsb
        go_wp2_with (go_at_call 9; refine hSm.mono ?_)
        rintro e w4 ⟨rfl, hb4⟩
        cases sb with
        | true =>
          go_wp2
          go_ret2
          refine ⟨?_, HB3.out.trans (hb4.mono HB3.out.size)⟩
          rw [HF.out]
          show Ending.returned (.tuple #[.string S, .int .i64 0]) = Ending.returned (.tuple #[.string ⟨(bl S).toArray⟩, .int .i64 ((0 : Nat) : Int)])
          rw [show (⟨(bl S).toArray⟩ : ByteArray) = S from bl_ext (by simp [bl])]; rfl
        | false =>
          go_wp2
          go_ret2
          refine ⟨?_, HB3.out.trans (hb4.mono HB3.out.size)⟩
          rw [HF.out]
          rfl
      · have e1 : ((e0 : Int) == 0) = false := by simp; omega
        rw [if_neg he0] at HF
        clear he0
        go_wp2
        go_ret2
        refine ⟨?_, HB3.out⟩
        rw [HF.out]; rfl
end Go.Proofs.YtnaopgajinbnmaaGreatDoor
