/- What every statement of this layer asks besides: two captures merged, six bytes unpacked. -/
import Derived.Test.YtghdilmlfficlaaUnpack
namespace Go.Proofs.Ytghdilmlfficlaa
open Go.RowKit

def kF : Fac := ⟨⟨#[]⟩, 0, 0⟩
def kP (t : Int) : Pkt := ⟨t, 0, 0, [], ⟨#[]⟩⟩
def kC (a b : Int) : Cap := ⟨⟨#[]⟩, [kF], [], [], [kP a, kP b]⟩
theorem k_errL : errL [kC 1 3, kC 2 2] = 0 := by decide +kernel
theorem k_mov : movL [kC 1 3, kC 2 2] [0, 0] = [kC 1 3, kC 2 2] := by rfl
theorem k_tog (k : Nat) (hk : k ≤ 2) (h0 : 0 < k) : togA [kC 1 3, kC 2 2] k = ⟨⟨#[]⟩, [kF], [], [], []⟩ := by
  have h1 : addF [] [kF] = [kF] := by simp [addF]
  have h2 : addF [kF] [kF] = [kF] := by simp [addF, eqB_true]
  have e1 : togS noC (kC 1 3) = ⟨⟨#[]⟩, [kF], [], [], []⟩ := by
    unfold togS noC kC
    simp only [h1]
    rfl
  have e2 : togS ⟨⟨#[]⟩, [kF], [], [], []⟩ (kC 2 2) = ⟨⟨#[]⟩, [kF], [], [], []⟩ := by
    unfold togS kC
    simp only [h2]
    rfl
  rcases (by omega : k = 1 ∨ k = 2) with rfl | rfl
  · exact e1
  · show togS (togS noC (kC 1 3)) (kC 2 2) = _
    rw [e1, e2]
theorem k_times : (mergeQ (tot (quL [kC 1 3, kC 2 2] [0, 0]) + 1) (quL [kC 1 3, kC 2 2] [0, 0])).map Pkt.time = [1, 2, 2, 3] := by rfl
theorem k_uns : unpackR [6, 0, 97, 130, 0, 1] = ([97, 97, 97, 97, 97, 97], 0) := by
  have he : S1.Ends [6, 0, 97, 130, 0, 1] 0 := ⟨by decide, by decide, fun i h => absurd h (Nat.not_lt_zero i), by decide⟩
  have ho : S1.unsOk [6, 0, 97, 130, 0, 1] 0 := ⟨by decide, Or.inl rfl⟩
  have h1 : S1.uv [6, 0, 97, 130, 0, 1] (0 + 1) = 6 := by decide
  have h2 : runU ((List.drop (0 + 1) [6, 0, 97, 130, 0, 1]).length + 1) 6 [] (List.drop (0 + 1) [6, 0, 97, 130, 0, 1]) = some [97, 97, 97, 97, 97, 97] := by decide
  unfold unpackR
  rw [if_neg (by decide), unsV_some he ho, h1]
  simp only
  rw [if_neg (by decide)]
  rw [h2]
abbrev pk2 (a b : Int) : Array Value := #[.int .i64 a, .int .i64 0, .int .i64 0, .slice none 0 0, .string ⟨#[]⟩, .int .i64 b, .int .i64 0, .int .i64 0, .slice none 0 0, .string ⟨#[]⟩]
theorem k_cap {w : World} {gf gp B : Nat} {a b : Int} (hf : Blk w gf 79 (facW kF)) (hp : Blk w gp 50 (pk2 a b)) (h1 : gf < B) (h2 : gp < B) (ha : 0 ≤ a ∧ a ≤ 9) (hb : 0 ≤ b ∧ b ≤ 9) :
    CapM w B ⟨some ⟨gf, 0, none⟩, 1, none, 0, none, 0, some ⟨gp, 0, none⟩, 2⟩ (kC a b) := by
  have hz : ByteArray.size ⟨#[]⟩ ≤ 140737488355328 := by simp [ByteArray.size]
  refine ⟨hz, fun _ => ⟨gf, 0, rfl, h1, fun i hi => ?_⟩, els_nil, els_nil, fun _ => ⟨gp, 0, rfl, h2, fun i hi => ?_⟩, ⟨Nat.le_refl _, (by decide : 1 * 32 ≤ 140737488355328), fun h => by cases h⟩, ⟨Nat.le_refl _, (by decide : 0 * 40 ≤ 140737488355328), fun _ => rfl⟩, ⟨Nat.le_refl _, (by decide : 0 * 40 ≤ 140737488355328), fun _ => rfl⟩, ⟨Nat.le_refl _, (by decide : 2 * 64 ≤ 140737488355328), fun h => by cases h⟩⟩
  · have hi0 : i = 0 := by have : i < 1 := hi; omega
    subst hi0
    refine ⟨[.string ⟨#[]⟩, .int .i64 0, .int .i64 0], rfl, ⟨rfl, hz, ⟨by show (_:Int) ≤ 0; omega, by show (0:Int) ≤ _; omega⟩, ⟨by show (_:Int) ≤ 0; omega, by show (0:Int) ≤ _; omega⟩⟩, fun j v hj => ?_⟩
    rw [Nat.zero_mul, Nat.zero_add, Nat.zero_add, hf.cell, ← Array.getElem?_toList]
    exact hj
  · have hi2 : i < 2 := hi
    have hE : ∀ t : Int, 0 ≤ t ∧ t ≤ 9 → PktE (kP t) w B [.int .i64 t, .int .i64 0, .int .i64 0, .slice none 0 0, .string ⟨#[]⟩] := fun t ht =>
      ⟨none, 0, rfl, ⟨Byt.nil _ _ _, Nat.le_refl _, Nat.zero_le _, fun _ => rfl⟩, hz, ⟨by show _ ≤ t; omega, by show t ≤ _; omega⟩, ⟨by show (_:Int) ≤ 0; omega, by show (0:Int) ≤ _; omega⟩, ⟨by show (_:Int) ≤ 0; omega, by show (0:Int) ≤ _; omega⟩⟩
    rcases (by omega : i = 0 ∨ i = 1) with rfl | rfl
    · refine ⟨_, rfl, hE a ha, fun j v hj => ?_⟩
      rw [Nat.zero_mul, Nat.zero_add, Nat.zero_add, hp.cell, ← Array.getElem?_toList]
      have hj5 : j < 5 := by
        rcases Nat.lt_or_ge j 5 with h | h
        · exact h
        · rw [List.getElem?_eq_none (by simpa using h)] at hj; cases hj
      rw [← hj]
      rcases (by omega : j = 0 ∨ j = 1 ∨ j = 2 ∨ j = 3 ∨ j = 4) with e | e | e | e | e <;> subst e <;> rfl
    · refine ⟨_, rfl, hE b hb, fun j v hj => ?_⟩
      rw [hp.cell, ← Array.getElem?_toList]
      have hj5 : j < 5 := by
        rcases Nat.lt_or_ge j 5 with h | h
        · exact h
        · rw [List.getElem?_eq_none (by simpa using h)] at hj; cases hj
      rw [← hj]
      rcases (by omega : j = 0 ∨ j = 1 ∨ j = 2 ∨ j = 3 ∨ j = 4) with e | e | e | e | e <;> subst e <;> rfl
end Go.Proofs.Ytghdilmlfficlaa
