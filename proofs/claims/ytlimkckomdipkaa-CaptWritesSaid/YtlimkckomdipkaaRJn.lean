/- The reference's pieces, as a walk over a drawn region takes them; whether the old kind can have a capture. -/
import Derived.Test.YtlimkckomdipkaaROpt
import Derived.Test.YtlimkckomdipkaaP17
namespace Go.Proofs.Ytlimkckomdipkaa
open Go.RowKit

theorem rtwoG (X : World) (low : Bool) (v : Nat) : Calls Try.prog 35 #[.int .i64 v, .bool low] X (OwnG X X.heap.size (numB low 2 v)) :=
  (rtwo_any (w := X) low v).mono fun _ _ h => OwnG.of h (numB_lt low 2 v)
theorem rfourG (X : World) (low : Bool) (v : Nat) : Calls Try.prog 34 #[.int .i64 v, .bool low] X (OwnG X X.heap.size (numB low 4 v)) :=
  (rfour_any (w := X) low v).mono fun _ _ h => OwnG.of h (numB_lt low 4 v)
theorem numB_low (low : Bool) (v : Nat) : numB low 4 (v % 4294967296) = numB low 4 v := by
  have e : (List.range 4).map (byN (v % 4294967296)) = (List.range 4).map (byN v) := by
    apply List.map_congr_left
    intro j hj
    have hj4 : j < 4 := List.mem_range.1 hj
    unfold byN
    rcases (by omega : j = 0 ∨ j = 1 ∨ j = 2 ∨ j = 3) with rfl | rfl | rfl | rfl <;> omega
  unfold numB
  rw [e]
theorem and32 (t : Nat) (h : t < 9223372036854775808) : bits .and .i64 (t : Int) 4294967295 = ((t % 4294967296 : Nat) : Int) := by
  have ha : (BitVec.ofInt 64 (t : Int)).toNat = t := by
    rw [BitVec.ofInt_natCast, BitVec.toNat_ofNat]; exact Nat.mod_eq_of_lt (by omega)
  have hb : (BitVec.ofInt 64 (4294967295 : Int)).toNat = 2 ^ 32 - 1 := by decide
  show IntKind.i64.wrap ((BitVec.ofInt 64 (t : Int) &&& BitVec.ofInt 64 (4294967295 : Int)).toNat : Int) = _
  rw [BitVec.toNat_and, ha, hb, Nat.and_two_pow_sub_one_eq_mod, IntKind.wrap_i64]
  omega
/-- 'join(a, b, ..)': the slices of bytes lie in a new row. -/
theorem rjoinL {X : World} (rows : List (Option Addr × Nat × List Nat)) (hr : ∀ r ∈ rows, Byt X X.heap.size r.1 r.2.2 ∧ r.2.2.length ≤ 1000) (hn : rows.length ≤ 10) :
    Calls Try.prog 33 #[.slice (some ⟨X.heap.size, 0, none⟩) rows.length rows.length] (X.alloc (.cells (rows.map fun r => Value.slice r.1 r.2.2.length r.2.1).toArray 30)) (OwnG (X.alloc (.cells (rows.map fun r => Value.slice r.1 r.2.2.length r.2.1).toArray 30)) (X.alloc (.cells (rows.map fun r => Value.slice r.1 r.2.2.length r.2.1).toArray 30)).heap.size (rows.map fun r => r.2.2).flatten) := by
  have hb : Below X.heap.size X (X.alloc (.cells (rows.map fun r => Value.slice r.1 r.2.2.length r.2.1).toArray 30)) := (Below.refl _ X).alloc (Nat.le_refl _) _
  have hk := Blk.new X 30 (rows.map fun r => Value.slice r.1 r.2.2.length r.2.1).toArray
  have h := rjoin_any (w := X.alloc (.cells (rows.map fun r => Value.slice r.1 r.2.2.length r.2.1).toArray 30)) (b := X.heap.size) (c := rows.length) (rows.map fun r => r.2.2) (fun i hi => by
    have hi2 : i < rows.length := by simpa using hi
    refine ⟨rows[i].1, rows[i].2.1, ?_, ?_⟩
    · rw [hk.cell, List.getElem?_toArray, List.getElem?_map, List.getElem?_eq_getElem hi2, Option.map_some]
      simp
    · have := ((hr _ (List.getElem_mem hi2)).1.below hb).more hb.size
      simpa using this) (by simpa using hn) (fun x hx => by
    obtain ⟨r, h1, rfl⟩ := List.mem_map.1 hx
    exact (hr r h1).2) hk.lt
  rw [List.length_map] at h
  exact h

/-! ### What the old kind can have -/
theorem plain_parts {c : Cap} (h : c = plainC c) : c.faces.length = 1 ∧ (∀ f ∈ c.faces, f.name = noT) ∧ c.note = noT ∧ c.names = [] ∧ c.secs = [] ∧ ∀ p ∈ c.pkts, p.note = noT := by
  refine ⟨by rw [h]; rfl, fun f hf => ?_, by rw [h]; rfl, by rw [h]; rfl, by rw [h]; rfl, fun p hp => ?_⟩
  · rw [h] at hf
    obtain rfl := List.mem_singleton.1 hf
    rfl
  · rw [h] at hp
    obtain ⟨x, _, rfl⟩ := List.mem_map.1 hp
    rfl
theorem plain_of_parts {c : Cap} (he : errV c = 0) (h1 : c.faces.length = 1) (h2 : ∀ f ∈ c.faces, f.name = noT) (h3 : c.note = noT) (h4 : c.names = []) (h5 : c.secs = []) (h6 : ∀ p ∈ c.pkts, p.note = noT) : c = plainC c := by
  have hf : ∀ p ∈ c.pkts, p.face = 0 := by
    intro p hp
    obtain ⟨hc, _⟩ := errV_ok he
    simp only [capB, partsB, Bool.and_eq_true, List.all_eq_true] at hc
    have := hc.2.2.2.2 p hp
    simp only [pktB, Bool.and_eq_true, within_iff] at this
    omega
  obtain ⟨note, faces, names, secs, pkts⟩ := c
  obtain ⟨f, rfl⟩ : ∃ f, faces = [f] := by
    match faces, h1 with
    | [f], _ => exact ⟨f, rfl⟩
  have h2 := h2 f (List.mem_singleton.2 rfl)
  change note = noT at h3
  change names = [] at h4
  change secs = [] at h5
  obtain ⟨a, b, d⟩ := f
  change a = noT at h2
  subst h2; subst h3; subst h4; subst h5
  unfold plainC
  simp only [List.head?_cons, Option.map_some, Option.getD_some, Cap.mk.injEq, true_and]
  rw [List.filter_eq_self.2 (show ∀ p ∈ pkts, keepP p = true from fun p hp => decide_eq_true (hf p hp))]
  have e : pkts.map plainP = pkts.map id := List.map_congr_left fun p hp => by
    have h7 := hf p hp
    have h8 := h6 p hp
    obtain ⟨a, b, c, d, f⟩ := p
    change b = 0 at h7
    change f = noT at h8
    subst h7; subst h8; rfl
  rw [e, List.map_id]
theorem noT_iff {s : ByteArray} : s = noT ↔ s.size = 0 := by
  constructor
  · rintro rfl; rfl
  · intro h
    obtain ⟨⟨l⟩⟩ := s
    have : l = [] := List.eq_nil_of_length_eq_zero h
    subst this; rfl
theorem str_some {s : ByteArray} (h : ¬ s.size = 0) : (s.toList == []) = false ∧ s.toList.isEmpty = false := by
  have hne : ¬ s.toList = [] := fun e => h (by
    rw [ByteArray.toList_eq] at e
    have := congrArg List.length e
    rw [Array.length_toList] at this
    exact this)
  refine ⟨beq_eq_false_iff_ne.2 hne, ?_⟩
  cases hl : s.toList with
  | nil => exact absurd hl hne
  | cons a l => rfl
end Go.Proofs.Ytlimkckomdipkaa
