/- escaped, byteOf: the bytes of texts. -/
import Derived.Test.YtnaopgajinbnmaaGreatDoorTok
namespace Go.Proofs.YtnaopgajinbnmaaGreatDoor
open Go.RowKit

abbrev byteV (r : UInt8 × Nat) : Value := .tuple #[.int .u8 (r.1.toNat : Nat), .int .i64 (r.2 : Nat)]

theorem hexV_lt (c : UInt8) (h : hexB c = true) : hexV c < 16 := by
  have key := all256 (fun c => !(hexB c) || decide (hexV c < 16)) (by decide +kernel) c
  simpa [h] using key
theorem valP_two (a b : UInt8) : valP 16 256 [a, b] = if (hexB a && hexB b) = true then some (hexV a * 16 + hexV b) else none := by
  unfold valP
  have e : valF 16 0 [a, b] = hexV a * 16 + hexV b := by simp [valF]
  rw [e]
  by_cases ha : hexB a = true
  · by_cases hb : hexB b = true
    · have h1 := hexV_lt a ha; have h2 := hexV_lt b hb
      rw [if_pos ⟨by simp, by simp [okDig_sixteen, ha, hb], by omega⟩, if_pos (by simp [ha, hb])]
    · rw [if_neg (fun h => hb (by have := h.2.1; simp [okDig_sixteen] at this; exact this.2)), if_neg (by simp [hb])]
  · rw [if_neg (fun h => ha (by have := h.2.1; simp [okDig_sixteen] at this; exact this.1)), if_neg (by simp [ha])]

theorem pre_two (c d : UInt8) (r : List UInt8) (x : UInt8) (hc : c.toNat = 92) : Lib.hasPrefix (c :: d :: r) [92, x] = (d.toNat == x.toNat) := by
  have : c = 92 := UInt8.toNat_inj.1 (by rw [hc]; rfl)
  subst this
  simp [Lib.hasPrefix, List.isPrefixOf]
  rw [Bool.eq_iff_iff, beq_iff_eq, beq_iff_eq]
  exact ⟨fun h => by rw [h], fun h => (UInt8.toNat_inj.1 h).symm⟩
theorem pre_one (c : UInt8) (x y : UInt8) : Lib.hasPrefix [c] [x, y] = false := by simp [Lib.hasPrefix, List.isPrefixOf]

theorem pre_call (s : ByteArray) (x : UInt8) (b : Bool) (h : Lib.hasPrefix (bl s) [92, x] = b) (w : World) :
    Calls Tryz.prog 35 #[.string s, .string ⟨#[92, x]⟩] w fun e w' => e = .returned (.bool b) ∧ w' = w := by
  have := Tryz.strings_HasPrefix s ⟨#[92, x]⟩ w
  rw [← h]; exact this

set_option maxRecDepth 100000 in
set_option maxHeartbeats 4000000 in
theorem escaped_any (s : ByteArray) (h0 : 0 < s.size) (h92 : s[0].toNat = 92) (hz : s.size ≤ 1048576) {w : World} (hL : Laid w) :
    Calls Tryz.prog 63 #[.string s] w fun e w' => e = .returned (byteV (byteL (bl s))) ∧ Below w.heap.size w w' := by
  have HL := Lib.hid hL
  have HA := bl_at s 0 h0
  rw [List.drop_zero] at HA
  clear hL
  by_cases h1 : s.size = 1
  · have hnil : (bl s).drop (0 + 1) = [] := List.drop_eq_nil_of_le (by rw [bl_len]; omega)
    rw [hnil] at HA
    have hF : byteL (bl s) = (0, 0) := by rw [HA]; unfold byteL; simp [h92]
    have p34 := pre_call s 34 false (by rw [HA]; exact pre_one _ _ _)
    have p92 := pre_call s 92 false (by rw [HA]; exact pre_one _ _ _)
    have p110 := pre_call s 110 false (by rw [HA]; exact pre_one _ _ _)
    have p120 := pre_call s 120 false (by rw [HA]; exact pre_one _ _ _)
    rw [hF]
    clear hF HA hnil h92
    go_enter Tryz.func63, Tryz.ntmps63
    go_wp2_with (first | (go_at_call 35; with_reducible refine (p34 _).mono ?_; rintro e w' ⟨rfl, hw⟩; rw [hw]; clear hw) | (go_at_call 35; with_reducible refine (p92 _).mono ?_; rintro e w' ⟨rfl, hw⟩; rw [hw]; clear hw) | (go_at_call 35; with_reducible refine (p110 _).mono ?_; rintro e w' ⟨rfl, hw⟩; rw [hw]; clear hw) | (go_at_call 35; with_reducible refine (p120 _).mono ?_; rintro e w' ⟨rfl, hw⟩; rw [hw]; clear hw))
    go_ret2
    exact ⟨rfl, Below.refl _ _⟩
  · have h2 : 1 < s.size := by omega
    have HB := bl_at s 1 h2
    rw [show (0 : Nat) + 1 = 1 from rfl, HB] at HA
    obtain ⟨d, hd⟩ : ∃ d, s[1] = d := ⟨_, rfl⟩
    rw [hd] at HA
    have P : ∀ x : UInt8, Lib.hasPrefix (bl s) [92, x] = (d.toNat == x.toNat) := fun x => by rw [HA]; exact pre_two _ _ _ _ h92
    have p34 := pre_call s 34 _ (P 34)
    have p92 := pre_call s 92 _ (P 92)
    have p110 := pre_call s 110 _ (P 110)
    have p120 := pre_call s 120 _ (P 120)
    rw [show (34 : UInt8).toNat = 34 from rfl] at p34
    rw [show (92 : UInt8).toNat = 92 from rfl] at p92
    rw [show (110 : UInt8).toNat = 110 from rfl] at p110
    rw [show (120 : UInt8).toNat = 120 from rfl] at p120
    have hd2 : (s[1].toNat : Int) = (d.toNat : Int) := by rw [hd]
    clear P
    have hbyte : byteL (bl s) = if d.toNat = 34 ∨ d.toNat = 92 then (d, 2) else if d.toNat = 110 then (10, 2) else if d.toNat = 120 then
          (match (bl s).drop 2 with | a :: b :: _ => if hexB a && hexB b then (UInt8.ofNat (hexV a * 16 + hexV b), 4) else (0, 0) | _ => (0, 0)) else (0, 0) := by
      conv => lhs; rw [HA]
      unfold byteL
      simp only [h92, if_true]
      rfl
    have HBY := Lib.hid hbyte
    clear hbyte
    by_cases e34 : d.toNat = 34
    · have e := e34
      have hF : byteL (bl s) = (d, 2) := by rw [HBY.out]; simp [e]
      rw [hF]
      rw [show (d.toNat == 34) = true from by rw [e]; rfl] at p34
      rw [show (d.toNat == 92) = false from by rw [e]; rfl] at p92
      rw [show (d.toNat == 110) = false from by rw [e]; rfl] at p110
      rw [show (d.toNat == 120) = false from by rw [e]; rfl] at p120
      clear hF HA HB h92 e e34
      go_enter Tryz.func63, Tryz.ntmps63
      go_wp2_with (first | (go_at_call 35; with_reducible refine (p34 _).mono ?_; rintro e w' ⟨rfl, hw⟩; rw [hw]; clear hw) | (go_at_call 35; with_reducible refine (p92 _).mono ?_; rintro e w' ⟨rfl, hw⟩; rw [hw]; clear hw) | (go_at_call 35; with_reducible refine (p110 _).mono ?_; rintro e w' ⟨rfl, hw⟩; rw [hw]; clear hw) | (go_at_call 35; with_reducible refine (p120 _).mono ?_; rintro e w' ⟨rfl, hw⟩; rw [hw]; clear hw))
      go_ret2
      exact ⟨by rfl, Below.refl _ _⟩
    by_cases e92 : d.toNat = 92
    · have e := e92
      have hF : byteL (bl s) = (d, 2) := by rw [HBY.out]; simp [e]
      rw [hF]
      rw [show (d.toNat == 34) = false from by rw [e]; rfl] at p34
      rw [show (d.toNat == 92) = true from by rw [e]; rfl] at p92
      rw [show (d.toNat == 110) = false from by rw [e]; rfl] at p110
      rw [show (d.toNat == 120) = false from by rw [e]; rfl] at p120
      clear hF HA HB h92 e e92
      go_enter Tryz.func63, Tryz.ntmps63
      go_wp2_with (first | (go_at_call 35; with_reducible refine (p34 _).mono ?_; rintro e w' ⟨rfl, hw⟩; rw [hw]; clear hw) | (go_at_call 35; with_reducible refine (p92 _).mono ?_; rintro e w' ⟨rfl, hw⟩; rw [hw]; clear hw) | (go_at_call 35; with_reducible refine (p110 _).mono ?_; rintro e w' ⟨rfl, hw⟩; rw [hw]; clear hw) | (go_at_call 35; with_reducible refine (p120 _).mono ?_; rintro e w' ⟨rfl, hw⟩; rw [hw]; clear hw))
      go_ret2
      exact ⟨by rfl, Below.refl _ _⟩
    by_cases e110 : d.toNat = 110
    · have e := e110
      have hF : byteL (bl s) = (10, 2) := by rw [HBY.out]; simp [e]
      rw [hF]
      rw [show (d.toNat == 34) = false from by rw [e]; rfl] at p34
      rw [show (d.toNat == 92) = false from by rw [e]; rfl] at p92
      rw [show (d.toNat == 110) = true from by rw [e]; rfl] at p110
      rw [show (d.toNat == 120) = false from by rw [e]; rfl] at p120
      clear hF HA HB h92 e e110
      go_enter Tryz.func63, Tryz.ntmps63
      go_wp2_with (first | (go_at_call 35; with_reducible refine (p34 _).mono ?_; rintro e w' ⟨rfl, hw⟩; rw [hw]; clear hw) | (go_at_call 35; with_reducible refine (p92 _).mono ?_; rintro e w' ⟨rfl, hw⟩; rw [hw]; clear hw) | (go_at_call 35; with_reducible refine (p110 _).mono ?_; rintro e w' ⟨rfl, hw⟩; rw [hw]; clear hw) | (go_at_call 35; with_reducible refine (p120 _).mono ?_; rintro e w' ⟨rfl, hw⟩; rw [hw]; clear hw))
      go_ret2
      exact ⟨rfl, Below.refl _ _⟩
    by_cases e120 : d.toNat = 120
    · have e := e120
      have hF : byteL (bl s) = (match (bl s).drop 2 with | a :: b :: _ => if hexB a && hexB b then (UInt8.ofNat (hexV a * 16 + hexV b), 4) else (0, 0) | _ => (0, 0)) := by rw [HBY.out]; simp [e]
      rw [show (d.toNat == 34) = false from by rw [e]; rfl] at p34
      rw [show (d.toNat == 92) = false from by rw [e]; rfl] at p92
      rw [show (d.toNat == 110) = false from by rw [e]; rfl] at p110
      rw [show (d.toNat == 120) = true from by rw [e]; rfl] at p120
      clear HBY HA HB h92 e e34 e92 e110 e120
      by_cases h4 : 4 ≤ s.size
      · have h4b : decide (4 ≤ (s.size : Int)) = true := decide_eq_true (by omega)
        have HC : (bl s).drop 2 = s[2] :: s[3] :: (bl s).drop 4 := by rw [bl_at s 2 (by omega), bl_at s 3 (by omega)]
        have hbt : bl (s.extract 2 4) = [s[2], s[3]] := by rw [bl_extract, HC]; rfl
        have hV := fun (w2 : World) (hL2 : Laid w2) => value_any (.inr (.inr (.inr ⟨rfl, rfl, rfl, rfl⟩))) (s.extract 2 4) (by simp; omega) hL2
        rw [hbt, valP_two] at hV
        rw [HC] at hF
        simp only at hF
        rw [hF]
        clear hF HC hbt
        cases hh : (hexB s[2] && hexB s[3]) with
        | true =>
          have ha := hexV_lt s[2] (by simp at hh; exact hh.1)
          have hb := hexV_lt s[3] (by simp at hh; exact hh.2)
          rw [hh] at hV
          simp only [if_true] at hV ⊢
          obtain ⟨v, hv⟩ : ∃ v, hexV s[2] * 16 + hexV s[3] = v := ⟨_, rfl⟩
          have hv2 : v < 256 := by omega
          rw [hv] at hV ⊢
          have hof : (UInt8.ofNat v).toNat = v := by simp; omega
          clear hv ha hb hh
          go_enter Tryz.func63, Tryz.ntmps63
          go_wp2_with (first | (go_at_call 35; with_reducible refine (p34 _).mono ?_; rintro e w' ⟨rfl, hw⟩; rw [hw]; clear hw) | (go_at_call 35; with_reducible refine (p92 _).mono ?_; rintro e w' ⟨rfl, hw⟩; rw [hw]; clear hw) | (go_at_call 35; with_reducible refine (p110 _).mono ?_; rintro e w' ⟨rfl, hw⟩; rw [hw]; clear hw) | (go_at_call 35; with_reducible refine (p120 _).mono ?_; rintro e w' ⟨rfl, hw⟩; rw [hw]; clear hw))
          go_wp2_with (go_at_call 52; refine (hV _ HL.out).mono ?_)
          rintro e w2 ⟨rfl, hb2⟩
          go_wp2
          go_ret2
          exact ⟨by show _ = Ending.returned (.tuple #[.int .u8 ((UInt8.ofNat v).toNat : Nat), _]); rw [hof]; rfl, hb2⟩
        | false =>
          rw [hh] at hV
          simp only [Bool.false_eq_true, if_false] at hV ⊢
          clear hh
          go_enter Tryz.func63, Tryz.ntmps63
          go_wp2_with (first | (go_at_call 35; with_reducible refine (p34 _).mono ?_; rintro e w' ⟨rfl, hw⟩; rw [hw]; clear hw) | (go_at_call 35; with_reducible refine (p92 _).mono ?_; rintro e w' ⟨rfl, hw⟩; rw [hw]; clear hw) | (go_at_call 35; with_reducible refine (p110 _).mono ?_; rintro e w' ⟨rfl, hw⟩; rw [hw]; clear hw) | (go_at_call 35; with_reducible refine (p120 _).mono ?_; rintro e w' ⟨rfl, hw⟩; rw [hw]; clear hw))
          go_wp2_with (go_at_call 52; refine (hV _ HL.out).mono ?_)
          rintro e w2 ⟨rfl, hb2⟩
          go_wp2
          go_ret2
          exact ⟨rfl, hb2⟩
      · have h4b : decide (4 ≤ (s.size : Int)) = false := decide_eq_false (by omega)
        have hF2 : byteL (bl s) = (0, 0) := by
          rw [hF]
          have hl : ((bl s).drop 2).length < 2 := by rw [List.length_drop, bl_len]; omega
          match hm : (bl s).drop 2 with
          | [] => rfl
          | [a] => rfl
          | a :: b :: r => rw [hm] at hl; simp only [List.length_cons] at hl; omega
        rw [hF2]
        clear hF hF2
        go_enter Tryz.func63, Tryz.ntmps63
        go_wp2_with (first | (go_at_call 35; with_reducible refine (p34 _).mono ?_; rintro e w' ⟨rfl, hw⟩; rw [hw]; clear hw) | (go_at_call 35; with_reducible refine (p92 _).mono ?_; rintro e w' ⟨rfl, hw⟩; rw [hw]; clear hw) | (go_at_call 35; with_reducible refine (p110 _).mono ?_; rintro e w' ⟨rfl, hw⟩; rw [hw]; clear hw) | (go_at_call 35; with_reducible refine (p120 _).mono ?_; rintro e w' ⟨rfl, hw⟩; rw [hw]; clear hw))
        go_ret2
        exact ⟨rfl, Below.refl _ _⟩
    · have hF : byteL (bl s) = (0, 0) := by rw [HBY.out]; simp [e34, e92, e110, e120]
      rw [hF]
      rw [show (d.toNat == 34) = false from by simpa using e34] at p34
      rw [show (d.toNat == 92) = false from by simpa using e92] at p92
      rw [show (d.toNat == 110) = false from by simpa using e110] at p110
      rw [show (d.toNat == 120) = false from by simpa using e120] at p120
      clear hF HA HB h92 e34 e92 e110 e120
      go_enter Tryz.func63, Tryz.ntmps63
      go_wp2_with (first | (go_at_call 35; with_reducible refine (p34 _).mono ?_; rintro e w' ⟨rfl, hw⟩; rw [hw]; clear hw) | (go_at_call 35; with_reducible refine (p92 _).mono ?_; rintro e w' ⟨rfl, hw⟩; rw [hw]; clear hw) | (go_at_call 35; with_reducible refine (p110 _).mono ?_; rintro e w' ⟨rfl, hw⟩; rw [hw]; clear hw) | (go_at_call 35; with_reducible refine (p120 _).mono ?_; rintro e w' ⟨rfl, hw⟩; rw [hw]; clear hw))
      go_ret2
      exact ⟨rfl, Below.refl _ _⟩

set_option maxRecDepth 100000 in
set_option maxHeartbeats 4000000 in
theorem byteOf_any (s : ByteArray) (h0 : 0 < s.size) (hz : s.size ≤ 1048576) {w : World} (hL : Laid w) :
    Calls Tryz.prog 55 #[.string s] w fun e w' => e = .returned (byteV (byteL (bl s))) ∧ Below w.heap.size w w' := by
  have HL := Lib.hid hL
  have HA := bl_at s 0 h0
  rw [List.drop_zero] at HA
  clear hL
  by_cases h92 : s[0].toNat = 92
  · have hE := escaped_any s h0 h92 hz HL.out
    have e92 : (s[0].toNat : Int) = 92 := by omega
    clear h92 HA
    go_enter Tryz.func55, Tryz.ntmps55
    go_wp2_with (go_at_call 63; refine hE.mono ?_)
    rintro e w2 ⟨rfl, hb2⟩
    go_wp2
    go_ret2
    exact ⟨rfl, hb2⟩
  · have e92 : ¬ (s[0].toNat : Int) = 92 := by omega
    by_cases h10 : s[0].toNat = 10
    · have hF : byteL (bl s) = (0, 0) := by rw [HA]; unfold byteL; simp [h10]
      have e10 : (s[0].toNat : Int) = 10 := by omega
      rw [hF]
      clear hF HA h92 h10 e92
      go_enter Tryz.func55, Tryz.ntmps55
      go_wp2
      go_ret2
      exact ⟨rfl, Below.refl _ _⟩
    · have e10 : ¬ (s[0].toNat : Int) = 10 := by omega
      have hS := is_any HL.out.tab s[0] 127 (by decide)
      rw [isB_src] at hS
      cases hs : srcB s[0] with
      | true =>
        have hF : byteL (bl s) = (s[0], 1) := by rw [HA]; unfold byteL; simp [h10, h92, hs]
        rw [hs] at hS
        rw [hF]
        clear hF HA h92 h10 hs
        go_enter Tryz.func55, Tryz.ntmps55
        go_wp2_with (go_at_call 37; refine hS.mono ?_; rintro e w' ⟨rfl, rfl⟩)
        go_ret2
        exact ⟨rfl, Below.refl _ _⟩
      | false =>
        have hF : byteL (bl s) = (0, 0) := by rw [HA]; unfold byteL; simp [h92, hs]
        rw [hs] at hS
        rw [hF]
        clear hF HA h92 h10 hs
        go_enter Tryz.func55, Tryz.ntmps55
        go_wp2_with (go_at_call 37; refine hS.mono ?_; rintro e w' ⟨rfl, rfl⟩)
        go_ret2
        exact ⟨rfl, Below.refl _ _⟩
end Go.Proofs.YtnaopgajinbnmaaGreatDoor
