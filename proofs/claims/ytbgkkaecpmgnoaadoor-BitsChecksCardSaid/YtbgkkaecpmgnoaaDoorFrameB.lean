/- Opening the arguments of the laws: a slice of bytes, an array of three or four numbers. -/
import Derived.Test.YtbgkkaecpmgnoaaDoorFrame
import Derived.Lib.SmallJoins
namespace Go.Proofs.YtbgkkaecpmgnoaaDoor
open Go.ChangeShapes Go.WideShapes Go.ChangeAt Go.WideMaps Go.WideElems Go.RowKit

theorem block_of_cell {W : World} {b o : Nat} {v : Value} (h : W.cell? ⟨b, o, none⟩ = some v) : b < W.heap.size := by
  rcases Nat.lt_or_ge b W.heap.size with h0 | h0
  · exact h0
  · simp [World.cell?, Array.getElem?_eq_none h0] at h

theorem open_bytes {H : Type} {enc : TypeId × Value → H} {W : World} {r : Reach} {base : Nat} {v : Value} {d : DataW H} {p : List MemPlace}
    (hv : Value.okWide Tryd.prog W r base 22 v) (hd : DataW.Trod enc Tryd.prog W 0 (fun _ => true) true 22 v d p) :
    ∃ (A : Option Addr) (bs : List Nat) (c : Nat), v = .slice A bs.length c ∧ bs.length ≤ c ∧ c ≤ maxLen ∧ Byt W W.heap.size A bs := by
  obtain ⟨a0, len, cap, rfl⟩ := okWide_slice Tryd.underlying22 hv
  obtain ⟨fuel, hf⟩ := hd
  rcases open_ints Tryd.underlying22 Tryd.underlying5 (by kernel_rfl) hf with ⟨hcs, _⟩ | ⟨a, len', cap', zs, hcs, _, hl, hm, hz, _, hcell, hwz⟩
  · have e : (Value.slice a0 len cap) = .slice none 0 0 := by simpa [Value.cells] using hcs
    cases e
    exact ⟨none, [], 0, rfl, Nat.le_refl _, Nat.zero_le _, Byt.nil _ _ _⟩
  · have e : (Value.slice a0 len cap) = .slice (some a) len' cap' := by simpa [Value.cells] using hcs
    cases e
    have hzl : zs.length = cap := by simpa using hz
    have hbl : ((zs.take len).map Int.toNat).length = len := by simp; omega
    refine ⟨some a, (zs.take len).map Int.toNat, cap, by rw [hbl], by rw [hbl]; exact hl, hm, ?_, fun hn => ?_⟩
    · intro x hx
      obtain ⟨z, hz1, rfl⟩ := List.mem_map.1 hx
      have := bounds_u8 (hwz z (List.mem_of_mem_take hz1))
      omega
    · rw [hbl] at hn ⊢
      obtain ⟨b, o, rfl, hc⟩ := ints_at hcell (by omega)
      refine ⟨b, o, rfl, block_of_cell (hc 0 (by omega)), fun k hk => ?_⟩
      have hkz : k < zs.length := by omega
      have hb := bounds_u8 (hwz zs[k] (List.getElem_mem hkz))
      rw [hc k hkz]
      have e1 : zs.getD k 0 = zs[k] := by simp [List.getD, hkz]
      have e2 : at8 ((zs.take len).map Int.toNat) k = (zs[k]).toNat := by simp [at8, hk, hkz]
      rw [e1, e2, Int.toNat_of_nonneg hb.1]
end Go.Proofs.YtbgkkaecpmgnoaaDoor
