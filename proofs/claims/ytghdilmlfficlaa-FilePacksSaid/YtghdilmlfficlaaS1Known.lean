/- What every statement of this layer asks besides: the document's own four examples. -/
import Derived.Test.YtghdilmlfficlaaS1Get2


import Derived.Test.YtghdilmlfficlaaS1Sev
import Derived.Laws.BytesArg
import Derived.Lib.SmallJoins
import Derived.Lib.SlBytesConst
namespace Go.Proofs.Ytghdilmlfficlaa.S1
open Go.RowKit Go.Shelf


/-- Bytes as a string. -/
def strB (bs : List Nat) : ByteArray := strOfNums (bs.map Int.ofNat)
theorem conv_any {w : World} {B : Nat} {A : Option Addr} {bs : List Nat} (hm : Byt w B A bs) (c : Nat) :
    (convert 48 9 (.slice A bs.length c)).run Try.prog w = .ok (.string (strB bs)) w := by
  by_cases h0 : 0 < bs.length
  · obtain ⟨b, o, rfl, _, hc⟩ := hm.cells h0
    exact run_convert_bytes_arg w 48 5 Try.underlying48 Try.underlying5 b o bs.length c (bs.map Int.ofNat) (by simp) (fun i hi => by
      rw [hc i hi, at8_eq bs i hi]; simp [hi]) 9 Try.underlying9
  · have : bs = [] := List.length_eq_zero_iff.1 (by omega)
    subst this
    have e := run_convert_bytes_string (P := Try.prog) w 48 9 5 A 0 c Try.underlying48 Try.underlying5 Try.underlying9
    show (convert 48 9 (.slice A 0 c)).run Try.prog w = _
    rw [e]
    cases A with
    | none => simp [Conv.bytesToString]; rfl
    | some a =>
      have h := run_bytesToString (P := Try.prog) w a 0 c [] (by
        have := run_loadCells_list (P := Try.prog) w a [] (fun j v hj => by simp at hj)
        simpa using this)
      rw [h]; rfl

/-- What a slice of the call's own reads as. -/
theorem Byt.of_own {w : World} {base : Nat} {v : Value} {bs : List Nat} (hb : ∀ x ∈ bs, x < 256) (h : w.ownsRow base 5 1 v bs.length (bs.map u8)) :
    ∃ A c, v = .slice A bs.length c ∧ bs.length ≤ c ∧ Byt w w.heap.size A bs := by
  rcases h.2 with ⟨rfl, hn⟩ | ⟨g, cap, cur, rfl, _, hg, hcap, _, hsz, htake⟩
  · have : bs = [] := List.length_eq_zero_iff.1 hn
    subst this
    exact ⟨none, 0, rfl, Nat.le_refl _, Byt.nil _ _ _⟩
  · refine ⟨_, cap, rfl, hcap, hb, fun hn => ⟨g, 0, rfl, (Array.getElem?_eq_some_iff.1 hg).1, fun k hk => ?_⟩⟩
    rw [Nat.zero_add, cell_of_row w g k cur 5 (0, 0) hg]
    have e : (cur.toList.take (bs.length * 1))[k]? = (bs.map u8)[k]? := by rw [htake]
    rw [List.getElem?_take_of_lt (by omega), List.getElem?_map, List.getElem?_eq_getElem hk] at e
    rw [at8_eq bs k hk, ← Array.getElem?_toList, e]
    rfl

theorem byt_new (w : World) (cs : List Nat) (hb : ∀ x ∈ cs, x < 256) (fr : Nat × Nat := (0, 0)) (g : Nat := w.heap.size) (hg : g = w.heap.size := by rfl) : Byt (w.alloc (.cells (cs.map u8).toArray 5 fr)) (g + 1) (some ⟨g, 0, none⟩) cs := by
  subst hg
  refine ⟨hb, fun _ => ⟨w.heap.size, 0, rfl, by omega, fun k hk => ?_⟩⟩
  rw [Nat.zero_add, World.cell?_alloc_mark]
  simp [at8, hk]

end Go.Proofs.Ytghdilmlfficlaa.S1
