/- A copy of bytes: slices.Clone. -/
import Derived.Test.YtbgkkaecpmgnoaaDoorPutMath2
import Derived.Test.YtbgkkaecpmgnoaaDoorMended
import Derived.Lib.SliceRun
namespace Go.Proofs.YtbgkkaecpmgnoaaDoor
open Go.RowKit
variable {w : World} {B c : Nat} {A : Option Addr} {bs : List Nat}

/-- The cells of a slice of bytes that begins at an address. -/
theorem byt_src {a : Addr} (hm : Byt w B (some a) bs) : ∀ k v, (bs.map u8)[k]? = some v → w.cell? (a.add k) = some v := by
  intro k v hk
  have hkL : k < bs.length := by
    rcases Nat.lt_or_ge k bs.length with h | h
    · exact h
    · rw [List.getElem?_eq_none (by simpa using h)] at hk; cases hk
  obtain ⟨b, o, e, _, hc⟩ := hm.cells (by omega)
  obtain rfl := Option.some.inj e
  rw [Go.WideShapes.add_plain, hc k hkL, ← hk, List.getElem?_map, List.getElem?_eq_getElem hkL, at8_eq bs _ hkL]
  rfl
theorem bytes_one (bs : List Nat) : ∀ v ∈ bs.map u8, v.oneCell' = true := by intro v hv; obtain ⟨x, _, rfl⟩ := List.mem_map.1 hv; rfl
theorem empty_row (w : World) : (w.alloc (.cells #[] 5)).ownsRow w.heap.size 5 1 (.slice (some ⟨w.heap.size, 0, none⟩) 0 0) 0 [] :=
  ⟨rfl, Or.inr ⟨w.heap.size, 0, #[], rfl, Nat.le_refl _, World.alloc_heap_new w _, Nat.le_refl _, Nat.zero_le _, rfl, rfl⟩⟩

set_option maxHeartbeats 1000000 in
theorem clone_nil : Calls Tryd.prog 40 #[.slice none 0 0] w fun e w' => e = .returned (.slice none 0 0) ∧ w = w' := by
  have hz := fun (wx : World) (a : Option Addr) (l c : Nat) => Lib.run_eql_slice_nil (P := Tryd.prog) wx 22 5 a l c 0 0 Tryd.underlying22
  go_enter Tryd.func40, Tryd.ntmps40
  go_wp2
  go_ret
  exact ⟨rfl, rfl⟩

set_option maxHeartbeats 1000000 in
theorem clone_some {a : Addr} (hm : Byt w w.heap.size (some a) bs) (hL : bs.length ≤ 20000) :
    Calls Tryd.prog 40 #[.slice (some a) bs.length c] w fun e w' => ∃ v, e = .returned v ∧ w'.ownsRow w.heap.size 5 1 v bs.length (bs.map u8) ∧ Below w.heap.size w w' := by
  obtain ⟨i0, hi, hz0, hz1, hz2⟩ := info_parts info5
  have hz := fun (wx : World) (a : Option Addr) (l c : Nat) => Lib.run_eql_slice_nil (P := Tryd.prog) wx 22 5 a l c 0 0 Tryd.underlying22
  have hB0 : Below w.heap.size w (w.alloc (.cells #[] 5)) := (Below.refl _ _).alloc (Nat.le_refl _) _
  have HSRC := Lib.hid (byt_src ((hm.below hB0)))
  have HONE := Lib.hid (bytes_one bs)
  obtain ⟨L, hL0⟩ : ∃ L, bs.length = L := ⟨_, rfl⟩
  have hlen : (bs.map YtbgkkaecpmgnoaaDoor.u8).length = L * 1 := by simp [hL0]
  have HLEN := Lib.hid hlen
  have HB0 := Lib.hid hB0
  rw [hL0] at hL ⊢
  clear hL0 hlen hm hB0
  go_enter Tryd.func40, Tryd.ntmps40
  go_wp2_with (at_builtin; refine wpList_append_own _ rfl _ _ 22 rfl w.heap.size 5 i0 (.int .u8 0) 1 1 Tryd.underlying22 hi hz0 hz1 hz2 rfl (by decide) _ _ _ rfl (empty_row w) a L c (bs.map YtbgkkaecpmgnoaaDoor.u8) rfl HLEN.out HSRC.out HONE.out (by unfold maxLen; omega) (by omega) (by simp) ?_; intro v' w1 hown hgrow _; rw [Nat.zero_add, List.nil_append] at hown; have HOWN := Lib.hid hown; have HGR := Lib.hid hgrow; clear hown hgrow)
  go_ret
  exact ⟨_, rfl, HOWN.out, HB0.out.grown HGR.out (by simp) (fun k h => by cases h; exact Nat.le_refl _)⟩

/-- A copy by append to nothing, of whatever bytes. -/
theorem copy_append_nil (w : World) : w.ownsRow w.heap.size 5 1 (.slice none 0 0) 0 [] := World.ownsRow_nil _ _ _ _
end Go.Proofs.YtbgkkaecpmgnoaaDoor
