/- decimal: the number of digits, or of an address. -/
import Derived.Test.YtnaopgajinbnmaaGreatDoorSign
namespace Go.Proofs.YtnaopgajinbnmaaGreatDoor
open Go.RowKit

theorem ofInt64 (a : Nat) (h : a < 9223372036854775808) : (BitVec.ofInt 64 (a : Int)).toNat = a := by
  rw [BitVec.toNat_ofInt]; omega
theorem or64_nat (a b : Nat) (ha : a < 9223372036854775808) (hb : b < 9223372036854775808) : bits .or .i64 (a : Int) (b : Int) = ((a ||| b : Nat) : Int) := by
  have hx : a ||| b < 2 ^ 63 := Nat.or_lt_two_pow (by omega) (by omega)
  show IntKind.i64.wrap ((BitVec.ofInt 64 (a : Int) ||| BitVec.ofInt 64 (b : Int)).toNat : Int) = _
  rw [BitVec.toNat_or, ofInt64 a ha, ofInt64 b hb, IntKind.wrap_i64]
  omega
theorem or_byte (a b : Nat) (ha : a < 4294967296) (hb : b < 256) : bits .or .i64 ((a : Int) * 256) (b : Int) = ((a * 256 + b : Nat) : Int) := by
  have h := or64_nat (a * 256) b (by omega) (by omega)
  have h2 : a * 256 ||| b = a * 256 + b := by
    have := Nat.two_pow_add_eq_or_of_lt (i := 8) hb a
    rw [show 2 ^ 8 = 256 from rfl] at this
    rw [Nat.mul_comm a 256]; exact this.symm
  rw [h2] at h
  rw [← h]; simp

/-- A row of texts at a block's begin. -/
def TxtRow (w : World) (B : Nat) (ps : List ByteArray) : Prop := ∀ j (h : j < ps.length), w.cell? ⟨B, j, none⟩ = some (.string ps[j])
theorem TxtRow.below {w w' : World} {B n : Nat} {ps : List ByteArray} (h : TxtRow w B ps) (hb : Below n w w') (hB : B < n) : TxtRow w' B ps :=
  fun j hj => (hb.cell (p := ⟨B, j, none⟩) hB).trans (h j hj)

theorem split_any (s : ByteArray) (hz : s.size ≤ 1048576) {w : World} (hL : Laid w) :
    Calls Tryz.prog 62 #[.string s, .string ⟨#[46]⟩] w fun e w' => ∃ ps : List ByteArray, ps.map bl = splitD (bl s) ∧ e = .returned (.slice (some ⟨w.heap.size, 0, none⟩) ps.length ps.length) ∧ TxtRow w' w.heap.size ps ∧ Below w.heap.size w w' ∧ w.heap.size < w'.heap.size := by
  obtain ⟨m, hm⟩ := hL.most
  refine (Tryz.strings_Split s ⟨#[46]⟩ m w (by omega) hm (by decide)).mono ?_
  rintro e w' ⟨rfl, rfl⟩
  have hlen := Lib.splitB_all ⟨#[46]⟩ (by decide) 0 _ s rfl
  refine ⟨Lib.splitB ⟨#[46]⟩ 0 (Lib.countB s ⟨#[46]⟩) s, ?_, by rw [hlen], ?_, (Below.refl _ w).alloc (Nat.le_refl _) _, by simp⟩
  · rw [← splitK_eq]
    exact Lib.splitB_data ⟨#[46]⟩ 0 _ s
  · intro j hj
    simp [World.cell?, World.alloc, -World.alloc_eq, hj]

theorem splitD_len (l : List UInt8) : (splitD l).length ≤ l.length + 1 ∧ 1 ≤ (splitD l).length := by
  induction l with
  | nil => simp [splitD]
  | cons c r ih =>
    rw [splitD]
    split
    · simp; omega
    · cases h : splitD r with
      | nil => simp
      | cons p q => rw [h] at ih; simp at ih ⊢; omega
theorem splitD_parts (l : List UInt8) : ∀ p ∈ splitD l, p.length ≤ l.length := by
  induction l with
  | nil => simp [splitD]
  | cons c r ih =>
    intro p hp
    rw [splitD] at hp
    split at hp
    · rcases List.mem_cons.1 hp with rfl | hp
      · simp
      · have := ih p hp; simp; omega
    · cases h : splitD r with
      | nil => rw [h] at hp; simp at hp; subst hp; simp
      | cons q t =>
        rw [h] at hp ih
        rcases List.mem_cons.1 hp with rfl | hp
        · have := ih q (List.mem_cons_self ..); simp; omega
        · have := ih p (List.mem_cons_of_mem _ hp); simp; omega
theorem splitD_one (l p : List UInt8) (h : splitD l = [p]) : l = p := by
  induction l generalizing p with
  | nil => simp [splitD] at h; exact h.symm
  | cons c r ih =>
    rw [splitD] at h
    split at h
    · have := splitD_len r
      cases hr : splitD r with
      | nil => rw [hr] at this; simp at this
      | cons a b => rw [hr] at h; simp at h
    · cases hr : splitD r with
      | nil => have := splitD_len r; rw [hr] at this; simp at this
      | cons a b =>
        rw [hr] at h
        simp at h
        obtain ⟨rfl, rfl⟩ := h
        rw [ih a hr]

set_option maxHeartbeats 4000000 in
theorem decimal_any (s : ByteArray) (hz : s.size ≤ 1048576) {w : World} (hL : Laid w) :
    Calls Tryz.prog 54 #[.string s] w fun e w' => e = .returned (optV (decimalL (bl s))) ∧ Below w.heap.size w w' := by
  have HL := Lib.hid hL
  clear hL
  obtain ⟨B, hB⟩ : ∃ B, w.heap.size = B := ⟨_, rfl⟩
  have HB := Lib.hid hB
  have hS := split_any s hz HL.out
  rw [hB] at hS ⊢
  go_enter Tryz.func54, Tryz.ntmps54
  go_wp2_with (go_at_call 62; refine hS.mono ?_)
  clear hS hB
  rintro e w1 ⟨ps, hps, rfl, hrow, hb1, hlt1⟩
  have HP := Lib.hid hps
  have HR := Lib.hid hrow
  have HB1 := Lib.hid hb1
  have hL1 : Laid w1 := HL.out.below (by rw [HB.out]; exact hb1)
  have HL1 := Lib.hid hL1
  have hn := splitD_len (bl s)
  rw [← hps, List.length_map, bl_len] at hn
  clear hrow hb1 hL1
  obtain ⟨n, hN⟩ : ∃ n, ps.length = n := ⟨_, rfl⟩
  have HN := Lib.hid hN
  rw [hN] at hn ⊢
  clear hN
  by_cases hn1 : n = 1
  · have hV := value_any (.inl ⟨rfl, rfl, rfl, rfl⟩) s hz HL1.out
    have HF : Hid (decimalL (bl s) = valP 10 281474976710656 (bl s)) := Lib.hid (by
      have h1 := HN.out; rw [hn1] at h1
      match ps, h1 with
      | [p], _ =>
        have h2 := HP.out
        simp at h2
        unfold decimalL
        rw [← h2]
        show valP _ _ (bl p) = _
        rw [splitD_one _ _ h2.symm])
    clear hps
    subst hn1
    go_wp2_with (go_at_call 52; refine hV.mono ?_; rintro e w2 ⟨rfl, hb2⟩)
    go_ret2
    refine ⟨by rw [HF.out]; rfl, HB1.out.trans (hb2.mono (by omega))⟩
  · by_cases hn4 : n = 4
    · have HF : Hid (decimalL (bl s) = joinV 0 (ps.map bl)) := Lib.hid (by
        have h1 := HN.out; rw [hn4] at h1
        match ps, h1 with
        | [a, b, c, d], _ =>
          unfold decimalL
          rw [← HP.out]
          rfl)
      have HZ : Hid (∀ p ∈ ps, p.size ≤ 1048576) := Lib.hid (fun p hp => by
        have := splitD_parts (bl s) (bl p) (by rw [← HP.out]; exact List.mem_map_of_mem hp)
        rw [bl_len, bl_len] at this; omega)
      clear hps hn1
      subst hn4
      go_wp2
      go_loopw [5, 24] (fun o i wr => ∃ k acc : Nat, o = .int .i64 acc ∧ i = .int .i64 k ∧ k ≤ 4 ∧ Hid (acc < 256 ^ k ∧ joinV 0 (ps.map bl) = joinV acc ((ps.map bl).drop k)) ∧ Hid (TxtRow wr B ps ∧ Below B w wr ∧ B < wr.heap.size)) (fun _ i _ => 4 - (intOf i).toNat)
      case atStart => exact ⟨0, 0, rfl, rfl, by omega, Lib.hid ⟨by decide, rfl⟩, Lib.hid ⟨HR.out, HB1.out, hlt1⟩⟩
      case round =>
        obtain ⟨k, acc, rfl, rfl, hk, HC, HW⟩ := hrel
        by_cases hlt : k < 4
        · have hpk := HW.out.1 k (by rw [HN.out]; exact hlt)
          have hkl : k < ps.length := by rw [HN.out]; exact hlt
          have hZk := HZ.out ps[k] (List.getElem_mem _)
          have hD : (ps.map bl).drop k = bl ps[k] :: (ps.map bl).drop (k + 1) := by
            rw [List.drop_eq_getElem_cons (by simpa using hkl)]; simp
          have HD := Lib.hid hD
          clear hD
          generalize ps[k] = pk at hpk hZk HD
          have hLr : Laid wr := HL.out.below (by rw [HB.out]; exact HW.out.2.1)
          have hV := value_any (.inr (.inl ⟨rfl, rfl, rfl, rfl⟩)) pk hZk hLr
          have hacc : acc < 4294967296 := by
            have h1 := HC.out.1
            have h2 : 256 ^ k ≤ 256 ^ 3 := Nat.pow_le_pow_right (by decide) (by omega)
            have h3 : (256 : Nat) ^ 3 = 16777216 := by decide
            omega
          cases hv : valP 10 256 (bl pk) with
          | none =>
            rw [hv] at hV
            have HF2 : Hid (decimalL (bl s) = none) := Lib.hid (by rw [HF.out, HC.out.2, HD.out, joinV, hv])
            clear hv
            go_wp2_with (go_at_call 52; refine hV.mono ?_; rintro e w2 ⟨rfl, hb2⟩)
            go_ret2
            exact ⟨by rw [HF2.out]; rfl, HW.out.2.1.trans (hb2.mono (by have := HW.out.2.2; omega))⟩
          | some v =>
            rw [hv] at hV
            have hv256 := valP_lt hv
            have hor := or_byte acc v hacc hv256
            have HC2 : Hid (acc * 256 + v < 256 ^ (k + 1) ∧ joinV 0 (ps.map bl) = joinV (acc * 256 + v) ((ps.map bl).drop (k + 1))) := Lib.hid ⟨by
                rw [Nat.pow_succ]; have := HC.out.1; omega, by rw [HC.out.2, HD.out, joinV, hv]⟩
            clear hv
            go_wp2_with (go_at_call 52; refine hV.mono ?_; rintro e w2 ⟨rfl, hb2⟩)
            exact ⟨⟨k + 1, acc * 256 + v, by go_num, by go_num, by omega, HC2, Lib.hid ⟨HW.out.1.below hb2 HW.out.2.2, HW.out.2.1.trans (hb2.mono (by have := HW.out.2.2; omega)), Nat.lt_of_lt_of_le HW.out.2.2 hb2.size⟩⟩, by simp [intOf]; omega⟩
        · have hk4 : k = 4 := by omega
          have HF2 : Hid (decimalL (bl s) = some acc) := Lib.hid (by rw [HF.out, HC.out.2, List.drop_eq_nil_of_le (by rw [List.length_map, HN.out]; omega)]; rfl)
          subst hk4
          go_wp2
          go_ret2
          exact ⟨by rw [HF2.out]; rfl, HW.out.2.1⟩
    · have HF : Hid (decimalL (bl s) = none) := Lib.hid (by
        have h1 := HN.out
        unfold decimalL
        rw [← HP.out]
        match ps, h1 with
        | [], h1 => simp at h1; omega
        | [p], h1 => exact absurd h1.symm (by simpa using hn1)
        | a :: b :: c, h1 =>
          show (if (List.map bl (a :: b :: c)).length = 4 then _ else none) = none
          rw [if_neg (by rw [List.length_map, h1]; exact hn4)])
      have d1 : ¬ (n : Int) = 1 := by omega
      have d4 : ¬ (n : Int) = 4 := by omega
      clear hps hn1 hn4
      go_wp2
      go_ret2
      exact ⟨by rw [HF.out]; rfl, HB1.out⟩
end Go.Proofs.YtnaopgajinbnmaaGreatDoor
