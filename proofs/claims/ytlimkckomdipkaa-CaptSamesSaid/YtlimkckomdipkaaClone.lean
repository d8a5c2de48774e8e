/- bytes.Clone. -/
import Derived.Test.YtlimkckomdipkaaOpt
import Derived.Lib.SliceRun
namespace Go.Proofs.Ytlimkckomdipkaa
open Go.RowKit

theorem empty_row (w : World) : (w.alloc (.cells #[] 5)).ownsRow w.heap.size 5 1 (.slice (some ⟨w.heap.size, 0, none⟩) 0 0) ([] : List Nat).length (([] : List Nat).map u8) :=
  ⟨rfl, Or.inr ⟨w.heap.size, 0, #[], rfl, Nat.le_refl _, heap_alloc_new w _, Nat.le_refl _, Nat.zero_le _, rfl, rfl⟩⟩

/-- 'append(v, l...)' of whatever length that memory bears. -/
theorem run_own_byt_big (w : World) (base : Nat) (v : Value) (hown : w.ownsRow base 5 1 v ([] : List Nat).length (([] : List Nat).map u8)) {B : Nat} {a : Addr} {l : List Nat} (c : Nat) (hb : Byt w B (some a) l) (hs : l.length ≤ 140737488355328) (hbase : base ≤ w.heap.size) :
    ∃ v' w', (Builtin.append_ #[30, 30] 30 #[v, .slice (some a) l.length c]).run Try.prog w = .ok v' w' ∧ w'.ownsRow base 5 1 v' l.length (l.map u8) ∧ w.grownBy w' v.ownBlock := by
  obtain ⟨i, hi, hz, hsize, hby⟩ := info_parts info5
  have ht := Try.underlying30
  have hsrc : ∀ (j : Nat) (u : Value), (l.map u8)[j]? = some u → w.cell? (a.add j) = some u := by
    intro j u hu
    have hj : j < l.length := by
      rcases Nat.lt_or_ge j l.length with h | h
      · exact h
      · rw [List.getElem?_eq_none (by simpa using h)] at hu; cases hu
    obtain ⟨b, o, e, _, hc⟩ := hb.cells (by omega)
    obtain rfl := Option.some.inj e
    rw [Go.WideShapes.add_plain, hc j hj, ← hu, List.getElem?_map, List.getElem?_eq_getElem hj, at8_eq l _ hj]
    rfl
  obtain ⟨v', w', hr, h2, h3, _, _⟩ := run_append_own_at (P := Try.prog) w base 30 30 5 i (.int .u8 0) 1 1 ht hi hz hsize hby rfl (by decide) v 0 [] hown a l.length c (l.map u8) (by simp) hsrc (u8_one l) (by unfold maxLen; omega) (by omega) hbase
  rw [Nat.zero_add, List.nil_append] at h2
  exact ⟨v', w', hr, h2, h3⟩

def ClonePost (w : World) (bs : List Nat) (e : Ending) (w' : World) : Prop :=
  ∃ A c, e = .returned (.slice A bs.length c) ∧ w'.ownsRow w.heap.size 5 1 (.slice A bs.length c) bs.length (bs.map u8) ∧ Below w.heap.size w w'

set_option maxHeartbeats 1000000 in
theorem bclone_any {w : World} {A : Option Addr} {c : Nat} {bs : List Nat} (hm : Byc w w.heap.size A bs c) : Calls Try.prog 54 #[.slice A bs.length c] w (ClonePost w bs) := by
  have hz := fun (wx : World) (a : Option Addr) (l c : Nat) => Lib.run_eql_slice_nil (P := Try.prog) wx 30 5 a l c 0 0 Try.underlying30
  cases A with
  | none =>
    have hc0 := hm.nil rfl
    have hl := hm.le
    have hb : bs = [] := List.length_eq_zero_iff.1 (by omega)
    subst hb
    subst hc0
    clear hm hl
    go_enter Try.func54, Try.ntmps54
    go_wp2
    go_ret
    exact ⟨none, 0, rfl, World.ownsRow_nil _ _ _ _, Below.refl _ _⟩
  | some a =>
    have hB0 : Below w.heap.size w (w.alloc (.cells #[] 5)) := (Below.refl _ _).alloc (Nat.le_refl _) _
    obtain ⟨v', w', hrun, hown, hgr⟩ := run_own_byt_big (w.alloc (.cells #[] 5)) w.heap.size _ (empty_row w) c (hm.byt.below hB0) hm.cap (by rw [alloc_size]; omega)
    have HOWN := Lib.hid hown
    have HB : Hid (Below w.heap.size w w') := Lib.hid (hB0.grown hgr (by rw [alloc_size]; omega) (fun k h => by cases h; exact Nat.le_refl _))
    obtain ⟨A2, c2, hv⟩ := own_form hown
    subst hv
    obtain ⟨L, hL⟩ : ∃ L, bs.length = L := ⟨_, rfl⟩
    have HL := Lib.hid hL
    rw [hL] at hrun ⊢
    clear hown hgr hL hm hB0
    go_enter Try.func54, Try.ntmps54
    go_wp2_with (at_builtin; refine Lib.wpList_append_run _ rfl _ _ _ _ rfl _ _ rfl rfl _ _ hrun ?_)
    go_ret
    refine ⟨A2, c2, by rw [HL.out]; rfl, HOWN.out, HB.out⟩
end Go.Proofs.Ytlimkckomdipkaa
