/- Texts between quotes, as plain functions. -/
import Derived.Test.YtnaopgajinbnmaaGreatDoorRef
import Derived.Test.YtnaopgajinbnmaaGreatDoorLex
namespace Go.Proofs.YtnaopgajinbnmaaGreatDoor

def hexD (n : Nat) : UInt8 := [48, 49, 50, 51, 52, 53, 54, 55, 56, 57, 97, 98, 99, 100, 101, 102].getD n 0
def escL (c : UInt8) : List UInt8 :=
  if c.toNat = 34 ∨ c.toNat = 92 then [92, c] else if c.toNat = 10 then [92, 110]
  else if c.toNat < 32 ∨ 126 < c.toNat then [92, 120, hexD (c.toNat / 16), hexD (c.toNat % 16)] else [c]
def quoteL (l : List UInt8) : List UInt8 := 34 :: (l.flatMap escL ++ [34])
theorem escL_size (c : UInt8) : 1 ≤ (escL c).length ∧ (escL c).length ≤ 4 := by
  unfold escL; repeat' split
  all_goals simp
theorem flat_size : ∀ (l : List UInt8), (l.flatMap escL).length ≤ 4 * l.length
  | [] => by simp
  | c :: l => by
    have := flat_size l
    have := (escL_size c).2
    rw [List.flatMap_cons, List.length_append, List.length_cons]; omega
theorem hex_back (c : UInt8) : (hexB (hexD (c.toNat / 16)) && hexB (hexD (c.toNat % 16)) && UInt8.ofNat (hexV (hexD (c.toNat / 16)) * 16 + hexV (hexD (c.toNat % 16))) == c) = true :=
  all256 (fun c => hexB (hexD (c.toNat / 16)) && hexB (hexD (c.toNat % 16)) && UInt8.ofNat (hexV (hexD (c.toNat / 16)) * 16 + hexV (hexD (c.toNat % 16))) == c) (by decide +kernel) c
theorem esc_back (c : UInt8) (r : List UInt8) : byteL (escL c ++ r) = (c, (escL c).length) ∧ (hd (escL c ++ r)).toNat ≠ 34 := by
  unfold escL
  split
  · rename_i h
    refine ⟨?_, by show (92 : UInt8).toNat ≠ 34; decide⟩
    simp only [List.cons_append, List.nil_append, byteL]
    rw [if_pos (by decide), if_pos h]; rfl
  · rename_i h
    split
    · rename_i h10
      refine ⟨?_, by show (92 : UInt8).toNat ≠ 34; decide⟩
      have hc : c = 10 := UInt8.toNat_inj.1 h10
      subst hc; rfl
    · rename_i h10
      split
      · rename_i hx
        refine ⟨?_, by show (92 : UInt8).toNat ≠ 34; decide⟩
        have hb := hex_back c
        simp only [Bool.and_eq_true, beq_iff_eq] at hb
        simp only [List.cons_append, List.nil_append, byteL]
        rw [if_pos (by decide), if_neg (by decide), if_neg (by decide), if_pos (by decide), hb.1.1, hb.1.2]
        simp only [Bool.and_self, if_true]
        rw [hb.2]; rfl
      · rename_i hx
        refine ⟨?_, by show c.toNat ≠ 34; omega⟩
        have hs : srcB c = true := by unfold srcB; simp; omega
        simp only [List.cons_append, List.nil_append, byteL]
        rw [if_neg (by omega), if_neg (by rw [hs]; simp; omega)]; rfl
theorem quote_text : ∀ (l : List UInt8) (k : Nat), (l.flatMap escL).length + 1 < k + 1 → textGo k (l.flatMap escL ++ [34]) = some (l, (l.flatMap escL).length + 1)
  | [], k, hk => by
    obtain ⟨j, rfl⟩ : ∃ j, k = j + 1 := ⟨k - 1, by simp at hk; omega⟩
    rfl
  | c :: l, k, hk => by
    obtain ⟨h1, h2⟩ := escL_size c
    obtain ⟨hb, h34⟩ := esc_back c (l.flatMap escL ++ [34])
    rw [List.flatMap_cons, List.length_append] at hk
    obtain ⟨j, rfl⟩ : ∃ j, k = j + 1 := ⟨k - 1, by omega⟩
    have ih := quote_text l j (by omega)
    rw [List.flatMap_cons, List.append_assoc]
    have hdr : (escL c ++ (l.flatMap escL ++ [34])).drop (escL c).length = l.flatMap escL ++ [34] := List.drop_left
    obtain ⟨n, hn⟩ : ∃ n, (escL c).length = n + 1 := ⟨(escL c).length - 1, by omega⟩
    have hL : ∀ (x : List UInt8), x ≠ [] → (hd x).toNat ≠ 34 → byteL x = (c, n + 1) → x.drop (n + 1) = l.flatMap escL ++ [34] → textGo (j + 1) x = some (c :: l, (l.flatMap escL).length + 1 + n + 1) := fun x h0 h1 h2 h3 => by
      match x with
      | [] => exact absurd rfl h0
      | d :: r =>
        change d.toNat ≠ 34 at h1
        rw [textGo, if_neg h1, h2]
        simp only
        rw [h3, ih]
    rw [hL _ (by intro e; have := congrArg List.length e; simp at this) h34 (by rw [hb, hn]) (by rw [← hn]; exact hdr)]
    rw [List.length_append, hn]
    congr 2; omega
theorem quote_lex (l : List UInt8) (h : l.length ≤ 200) : lexR (quoteL l) = ([⟨2, 0, 0, l⟩], 1, 0) := by
  have hsz := flat_size l
  have hlen : (quoteL l).length = (l.flatMap escL).length + 2 := by unfold quoteL; simp
  have ht := quote_text l ((l.flatMap escL ++ [34]).length + 1) (by rw [List.length_append, List.length_singleton]; omega)
  have htok : tokL 0 (quoteL l) = some (⟨2, 0, 0, l⟩, (l.flatMap escL).length + 2) := by
    unfold quoteL
    rw [tokL, if_neg (by decide), if_neg (by decide), if_pos (by decide), ht]
    simp only
    rw [if_pos h]
  have hsk : skipM false (quoteL l) = 0 := by unfold quoteL; rw [skipM]; rfl
  have hl : lexL (quoteL l) = ([⟨2, 0, 0, l⟩], none) := by
    unfold lexL lexS
    have hd2 : ∀ j, (quoteL l).drop ((l.flatMap escL).length + 2 + j) = [] := fun j => List.drop_eq_nil_of_le (by rw [hlen]; omega)
    rw [hsk, List.drop_zero, Nat.add_zero, lexQ_tok _ _ _ _ _ htok, hd2, lexQ_nil]
  unfold lexR
  rw [if_neg (by rw [hlen]; omega), hl]
  rfl
/-- Which texts are words. -/
def wordR (l : List UInt8) : Bool := headIs letterB l && (decide (dotS wordB l = l.length) && decide (l.length ≤ 16))
end Go.Proofs.YtnaopgajinbnmaaGreatDoor
