/- The reference's signs. -/
import Derived.Test.YtnaopgajinbnmaaGreatDoorRef
import Derived.StillTailTactics
namespace Go.Proofs.YtnaopgajinbnmaaGreatDoor
open Go.RowKit

def signsL : List (List UInt8) := [[60, 60], [62, 62], [61, 61], [33, 61], [60, 61], [62, 61], [38, 38], [124, 124], [46, 46],
  [123], [125], [40], [41], [91], [93], [44], [59], [58], [63], [43], [45], [42], [47], [37], [38], [124], [94], [126], [60], [62], [33], [61], [46], [35], [64]]
abbrev sgv (l : List UInt8) : Value := .string ⟨l.toArray⟩
def sgnC : Array Value := (signsL.map sgv).toArray
def sgn (i : Nat) : ByteArray := ⟨(signsL.getD i []).toArray⟩
theorem sgnC_at (i : Nat) (h : i < 35) : sgnC[i]? = some (.string (sgn i)) := by
  have hl : signsL.length = 35 := rfl
  unfold sgnC sgn
  rw [List.getElem?_toArray, List.getElem?_map, List.getElem?_eq_getElem (by rw [hl]; exact h), List.getD_eq_getElem?_getD, List.getElem?_eq_getElem (by rw [hl]; exact h)]
  rfl
theorem sgn_size (i : Nat) : (sgn i).size ≤ 2 := by
  by_cases h : i < 35
  · have : ∀ j : Fin 35, (signsL.getD j.1 []).length ≤ 2 := by decide
    exact this ⟨i, h⟩
  · unfold sgn; rw [List.getD_eq_getElem?_getD, List.getElem?_eq_none (show signsL.length ≤ i by show 35 ≤ i; omega)]; decide

set_option maxRecDepth 100000 in
set_option maxHeartbeats 4000000 in
theorem signs_any (w : World) : Calls Tryz.prog 59 #[] w fun e w' => e = .returned (.slice (some ⟨w.heap.size, 0, none⟩) 35 35) ∧ w' = w.alloc (.cells sgnC 9) := by
  go_enter Tryz.func59, Tryz.ntmps59
  go_wp2
  go_ret
  exact ⟨rfl, rfl⟩

/-- The first sign from the i-th on that stands at the begin. -/
def sgF (l : List UInt8) (i : Nat) : List UInt8 := ((signsL.drop i).find? (fun x => x.isPrefixOf l)).getD []
theorem sgF_step (l : List UInt8) (i : Nat) (h : i < 35) : sgF l i = if (bl (sgn i)).isPrefixOf l then bl (sgn i) else sgF l (i + 1) := by
  have hl : i < signsL.length := h
  have e : bl (sgn i) = signsL[i] := by
    unfold sgn bl; rw [List.getD_eq_getElem?_getD, List.getElem?_eq_getElem hl]; rfl
  unfold sgF
  rw [List.drop_eq_getElem_cons hl, List.find?_cons, e]
  cases h : signsL[i].isPrefixOf l <;> simp
theorem sgF_end (l : List UInt8) : sgF l 35 = [] := rfl
theorem prefix_take (x l : List UInt8) : x.isPrefixOf l = (decide (x.length ≤ l.length) && (l.take x.length == x)) := by
  induction x generalizing l with
  | nil => simp [List.isPrefixOf]
  | cons a x ih =>
    cases l with
    | nil => simp [List.isPrefixOf]
    | cons b l =>
      rw [List.isPrefixOf_cons_cons, ih, Bool.eq_iff_iff]
      simp
      constructor
      · rintro ⟨rfl, h1, h2⟩; exact ⟨h1, rfl, h2⟩
      · rintro ⟨h1, rfl, h2⟩; exact ⟨rfl, h1, h2⟩

theorem below_drewN {n : Nat} {w w' : World} (h : Below n w w') (k : Nat) : Below n w (w'.drewN k) := ⟨h.os, h.tape, h.output, h.size, h.block⟩

set_option maxRecDepth 100000 in
set_option maxHeartbeats 8000000 in
theorem rsign_any (s : ByteArray) (at_ : Nat) (hz : s.size ≤ 1048576) (ha : at_ ≤ s.size) (w : World) :
    Calls Tryz.prog 48 #[.string s, .int .i64 (at_ : Int)] w fun e w' => e = .returned (.string ⟨(sgF ((bl s).drop at_) 0).toArray⟩) ∧ Below w.heap.size w w' := by
  have hS := signs_any w
  obtain ⟨W1, hW1⟩ : ∃ W, w.alloc (.cells sgnC 9) = W := ⟨_, rfl⟩
  have hb1 : Below w.heap.size w W1 := hW1 ▸ (Below.refl _ w).alloc (Nat.le_refl _) _
  have hy : Blk W1 w.heap.size 9 sgnC := hW1 ▸ Blk.new _ _ _
  rw [hW1] at hS
  obtain ⟨B, hB⟩ : ∃ B, w.heap.size = B := ⟨_, rfl⟩
  rw [hB] at hS hb1 hy ⊢
  have hc : ∀ i, i < 35 → W1.cell? ⟨B, i, none⟩ = some (.string (sgn i)) := fun i hi => (hy.cell i).trans (sgnC_at i hi)
  have HC := Lib.hid hc
  have HB := Lib.hid hb1
  clear hW1 hB hb1 hy hc
  go_enter Tryz.func48, Tryz.ntmps48
  go_wp2_with (go_at_call 59; refine hS.mono ?_; rintro e w' ⟨rfl, rfl⟩)
  go_loopw [6] (fun i wr => ∃ k : Nat, k ≤ 35 ∧ i = .int .i64 k ∧ Hid (sgF ((bl s).drop at_) 0 = sgF ((bl s).drop at_) k) ∧ Hid ((∀ i, i < 35 → wr.cell? ⟨B, i, none⟩ = some (.string (sgn i))) ∧ Below B w wr)) (fun i _ => 35 - (intOf i).toNat)
  case atStart => exact ⟨0, by omega, rfl, Lib.hid rfl, Lib.hid ⟨HC.out, HB.out⟩⟩
  case round =>
    obtain ⟨k, hk, rfl, HR, HW⟩ := hrel
    clear HC HB
    by_cases hlt : k < 35
    · have c0 := HW.out.1 k hlt
      have h3 : (k : Int) < 35 := by omega
      have hz2 := sgn_size k
      have HS := Lib.hid (sgF_step ((bl s).drop at_) k hlt)
      generalize sgn k = S at c0 hz2 HS
      have hd : decide ((k : Int) < 35) = true := decide_eq_true (by omega)
      have hp := prefix_take (bl S) ((bl s).drop at_)
      rw [bl_len, List.length_drop, bl_len] at hp
      have hex : bl (s.extract at_ (at_ + S.size)) = ((bl s).drop at_).take S.size := by rw [bl_extract]; simp
      have hte : ((s.extract at_ (at_ + S.size)).toList == S.toList) = (((bl s).drop at_).take S.size == bl S) := by
        rw [Lib.toList_data, Lib.toList_data, ← hex]; rfl
      obtain ⟨z, hzz⟩ : ∃ z, at_ + S.size = z := ⟨_, rfl⟩
      have hzi : (at_ : Int) + (S.size : Int) = (z : Int) := by omega
      by_cases hle : at_ + S.size ≤ s.size
      · have hd2 : decide ((z : Int) ≤ (s.size : Int)) = true := decide_eq_true (by omega)
        have h1 : (at_ : Int) ≤ (z : Int) := by omega
        have h2 : (z : Int) ≤ (s.size : Int) := by omega
        rw [decide_eq_true (by omega), Bool.true_and, ← hte, hzz] at hp
        have HP := Lib.hid hp
        have HZ := Lib.hid hzi
        clear hex hte hp hzi hzz hle
        cases hb : ((s.extract at_ z).toList == S.toList) with
        | true =>
          have HF : Hid (S = ⟨(sgF ((bl s).drop at_) 0).toArray⟩) := Lib.hid (bl_ext (by
            rw [HR.out, HS.out, HP.out, hb]; simp [bl]))
          go_wp2
          rw [HZ.out]
          go_quiet (fail)
          go_wp2
          go_ret
          exact ⟨ret_str HF.out, below_drewN HW.out.2 _⟩
        | false =>
          have HN : Hid (sgF ((bl s).drop at_) 0 = sgF ((bl s).drop at_) (k + 1)) := Lib.hid (by rw [HR.out, HS.out, HP.out, hb]; simp)
          go_wp2
          rw [HZ.out]
          go_quiet (fail)
          go_wp2
          exact ⟨⟨k + 1, by omega, by go_num, HN, Lib.hid ⟨HW.out.1, below_drewN HW.out.2 _⟩⟩, by simp [intOf]; omega⟩
      · have hd2 : decide ((z : Int) ≤ (s.size : Int)) = false := decide_eq_false (by omega)
        have HD2 : Hid (¬ z ≤ s.size) := Lib.hid (by omega)
        rw [decide_eq_false (by omega), Bool.false_and] at hp
        have HN : Hid (sgF ((bl s).drop at_) 0 = sgF ((bl s).drop at_) (k + 1)) := Lib.hid (by rw [HR.out, HS.out, hp]; simp)
        have HZ := Lib.hid hzi
        clear hex hte hp hzi hzz hle
        go_wp2
        rw [HZ.out]
        refine wp_region_quiet_lit (by kernel_rfl) (by kernel_rfl) ?_
        iterate 5 (quiet_step (fail))
        iterate 9 (refine wpQuiet_step (fun K hK => ?_); go_simp; rw [if_neg HD2.out]; refine hK _ ?_; clear hK K)
        refine wpQuiet_step (fun K hK => ?_)
        go_simp
        rw [if_neg HD2.out]
        refine hK _ ?_
        clear hK K
        refine wpQuiet_nil ?_
        rintro _ ⟨nq, rfl⟩
        go_wp2
        exact ⟨⟨k + 1, by omega, by go_num, HN, Lib.hid ⟨HW.out.1, below_drewN HW.out.2 _⟩⟩, by simp [intOf]; omega⟩
    · have hk35 : k = 35 := by omega
      subst hk35
      have HF : Hid ((⟨#[]⟩ : ByteArray) = ⟨(sgF ((bl s).drop at_) 0).toArray⟩) := Lib.hid (by rw [HR.out, sgF_end])
      go_wp2
      go_ret
      exact ⟨ret_str HF.out, HW.out.2⟩

theorem beq_nat (c : UInt8) (n : Nat) (hn : n < 256) : (UInt8.ofNat n == c) = (c.toNat == n) := by
  rw [Bool.eq_iff_iff, beq_iff_eq, beq_iff_eq]
  constructor
  · intro h; rw [← h]; simp; omega
  · intro h; rw [← h]; simp
theorem single_tok : ∀ (c : UInt8), ((!(letterB c || digitB c || c.toNat == 34)) → True) := fun _ _ => trivial
/-- The signs of one byte. -/
def onesL : List UInt8 := [123, 125, 40, 41, 91, 93, 44, 59, 58, 63, 43, 45, 42, 47, 37, 38, 124, 94, 126, 60, 62, 33, 61, 46, 35, 64]
theorem ones_any (c : UInt8) : onesL.any (· == c) = isB 8 c := by
  have := all256 (fun c => onesL.any (· == c) == isB 8 c) (by decide +kernel) c; simpa using this
theorem find_ones (c : UInt8) (r : List UInt8) : ∀ (q : List UInt8), (((q.map fun x => [x]).find? (fun x => x.isPrefixOf (c :: r))).getD []) = if q.any (· == c) then [c] else []
  | [] => rfl
  | x :: q => by
    have ih := find_ones c r q
    rw [List.map_cons, List.find?_cons, List.any_cons]
    have e : [x].isPrefixOf (c :: r) = (x == c) := by simp [List.isPrefixOf]
    rw [e]
    cases hx : (x == c) with
    | true => rw [beq_iff_eq.1 hx]; simp
    | false => simpa using ih
def twosL : List (UInt8 × UInt8) := [(60, 60), (62, 62), (61, 61), (33, 61), (60, 61), (62, 61), (38, 38), (124, 124), (46, 46)]
theorem find_twos (c d : UInt8) (r : List UInt8) (Z : List (List UInt8)) : ∀ (q : List (UInt8 × UInt8)), ((((q.map fun x => [x.1, x.2]) ++ Z).find? (fun x => x.isPrefixOf (c :: d :: r))).getD []) =
      if q.any (fun x => x.1 == c && x.2 == d) then [c, d] else (Z.find? (fun x => x.isPrefixOf (c :: d :: r))).getD []
  | [] => rfl
  | x :: q => by
    have ih := find_twos c d r Z q
    rw [List.map_cons, List.cons_append, List.find?_cons, List.any_cons]
    have e : [x.1, x.2].isPrefixOf (c :: d :: r) = (x.1 == c && x.2 == d) := by simp [List.isPrefixOf]
    rw [e]
    cases hx : (x.1 == c && x.2 == d) with
    | true =>
      simp only [Bool.and_eq_true, beq_iff_eq] at hx
      rw [hx.1, hx.2]; simp
    | false => simpa using ih
theorem find_one_twos (c : UInt8) (Z : List (List UInt8)) : ∀ (q : List (UInt8 × UInt8)), ((((q.map fun x => [x.1, x.2]) ++ Z).find? (fun x => x.isPrefixOf [c])).getD []) = (Z.find? (fun x => x.isPrefixOf [c])).getD []
  | [] => rfl
  | x :: q => by
    have ih := find_one_twos c Z q
    rw [List.map_cons, List.cons_append, List.find?_cons]
    have e : [x.1, x.2].isPrefixOf [c] = false := by simp [List.isPrefixOf]
    rw [e]; exact ih
theorem signs_split : signsL = (twosL.map fun x => [x.1, x.2]) ++ onesL.map fun x => [x] := rfl
theorem two_twos (c d : UInt8) (r : List UInt8) : twosL.any (fun x => x.1 == c && x.2 == d) = two (c :: d :: r) := by
  have k := fun (c : UInt8) (n : Nat) (h : n < 256) => beq_nat c n h
  have a60 : ∀ c : UInt8, ((60 : UInt8) == c) = (c.toNat == 60) := fun c => k c 60 (by decide)
  have a62 : ∀ c : UInt8, ((62 : UInt8) == c) = (c.toNat == 62) := fun c => k c 62 (by decide)
  have a61 : ∀ c : UInt8, ((61 : UInt8) == c) = (c.toNat == 61) := fun c => k c 61 (by decide)
  have a33 : ∀ c : UInt8, ((33 : UInt8) == c) = (c.toNat == 33) := fun c => k c 33 (by decide)
  have a38 : ∀ c : UInt8, ((38 : UInt8) == c) = (c.toNat == 38) := fun c => k c 38 (by decide)
  have a124 : ∀ c : UInt8, ((124 : UInt8) == c) = (c.toNat == 124) := fun c => k c 124 (by decide)
  have a46 : ∀ c : UInt8, ((46 : UInt8) == c) = (c.toNat == 46) := fun c => k c 46 (by decide)
  unfold twosL two
  simp only [List.any_cons, List.any_nil, a60, a62, a61, a33, a38, a124, a46, Bool.or_false]
  simp only [Bool.or_assoc]
theorem two_class (c : UInt8) (r : List UInt8) (h : two (c :: r) = true) : isB 8 c = true := by
  match r with
  | [] => simp [two] at h
  | d :: r =>
    have k := all256 (fun c => !(c.toNat == 60 || c.toNat == 62 || c.toNat == 61 || c.toNat == 33 || c.toNat == 38 || c.toNat == 124 || c.toNat == 46) || isB 8 c) (by decide +kernel) c
    unfold two at h
    cases hb : isB 8 c with
    | true => rfl
    | false =>
      rw [hb] at k
      simp at h k
      omega
theorem sgF_tok (c : UInt8) (r : List UInt8) : sgF (c :: r) 0 = if isB 8 c then (c :: r).take (signL (c :: r)) else [] := by
  unfold sgF
  rw [List.drop_zero, signs_split]
  match r with
  | [] =>
    rw [find_one_twos, find_ones, ones_any]
    unfold signL
    simp [two]
  | d :: r =>
    rw [find_twos, find_ones, ones_any, two_twos c d r]
    unfold signL
    cases ht : two (c :: d :: r) with
    | true => rw [two_class _ _ ht]; simp
    | false => simp
end Go.Proofs.YtnaopgajinbnmaaGreatDoor
