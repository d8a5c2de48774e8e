/- slices.SortFunc at pairs. -/
import Derived.Test.YtghdilmlfficlaaSeek
import Derived.Shelf.Lay
import Derived.Ground.SlsfProg
import Derived.Sort.LotA
namespace Go.Proofs
open Go.Shelf Go.RowKit Go.Lib Go.Sort
shelf_lay_g SlLaysF0.n6 Slsf 6 at Try 78 as Try.sortPr
end Go.Proofs
namespace Go.Proofs.Ytghdilmlfficlaa
open Go.Shelf Go.RowKit Go.Lib Go.Sort

def encP (x : Pr) : List Value := [.int .i64 x.1, .int .i64 x.2]
theorem ltOf_cmpP : ltOf cmpP = ltB := by funext x y; exact cmpP_lt x y
theorem swoP : SWO (ltOf cmpP) where
  irrefl x := by rw [ltOf_cmpP, ltB_false]; omega
  trans x y z h1 h2 := by rw [ltOf_cmpP] at *; rw [ltB_true] at *; omega
  ntrans x y z h1 h2 := by rw [ltOf_cmpP] at *; rw [ltB_false] at *; omega
theorem cmpLaysP (blk off size : Nat) (w : World) : CmpLays Try.prog 79 #[] encP 2 cmpP blk off size w := fun _ _ _ _ x y => compare_any _ x y

theorem below_sort {w : World} {B g n : Nat} {d : Array Pr} {os : Array Obj} (hB : B ≤ g) (hw : B ≤ w.heap.size) : Below B w (sortWorldK encP 2 w g 0 n d os) := by
  unfold sortWorldK putRowK putRow
  refine ⟨rfl, rfl, rfl, ?_, fun k hk => ?_⟩
  · show w.heap.size ≤ ((w.heap.modify g _) ++ os).size
    simp
  · show ((w.heap.modify g _) ++ os)[k]? = w.heap[k]?
    rw [Array.getElem?_append_left (by simp; omega), Array.getElem?_modify, if_neg (by omega)]
theorem holdsP_of {w : World} {g : Nat} {cs : Array Value} {d : Array Pr} (h : Blk w g 59 cs) (hc : ∀ i (hi : i < d.size), cs[i * 2]? = some (.int .i64 d[i].1) ∧ cs[i * 2 + 1]? = some (.int .i64 d[i].2)) : HoldsK encP 2 w g 0 d := by
  intro j hj
  rw [size_flatK] at hj
  have hq : j / 2 < d.size := by omega
  obtain ⟨a, b⟩ := hc (j / 2) hq
  refine ⟨?_, h.frozen _⟩
  rw [h.cell, Nat.zero_add, get_flatK _ _ _ _ hj, getElem!_pos d (j / 2) hq]
  obtain ⟨y, hy⟩ : ∃ y, d[j / 2]'hq = y := ⟨_, rfl⟩
  rw [hy] at a b ⊢
  clear hy
  rcases Nat.mod_two_eq_zero_or_one j with e | e
  · rw [e, show j = j / 2 * 2 by omega, a]
    simp [encP]
  · rw [e, show j = j / 2 * 2 + 1 by omega, b]
    simp [encP]
theorem els_of_holds {w : World} {g : Nat} {d : Array Pr} (h : HoldsK encP 2 w g 0 d) (hg : g < w.heap.size) : Els 2 PrE w w.heap.size (some ⟨g, 0, none⟩) d.toList := by
  intro hn
  refine ⟨g, 0, rfl, hg, fun i hi => ⟨encP d.toList[i], rfl, rfl, fun j v hv => ?_⟩⟩
  have hi' : i < d.size := by simpa using hi
  have hj : j < 2 := by
    rcases Nat.lt_or_ge j 2 with h | h
    · exact h
    · rw [List.getElem?_eq_none (by exact h)] at hv; cases hv
  have := (h (i * 2 + j) (by rw [size_flatK]; omega)).1
  rw [get_flatK _ _ _ _ (by omega), show (i * 2 + j) / 2 = i by omega, show (i * 2 + j) % 2 = j by omega, getElem!_pos d i hi'] at this
  rw [this]
  congr 1
  have e : d.toList[i] = d[i] := by simp
  rw [e] at hv
  have hj2 : j < (encP d[i]).length := hj
  rw [List.getElem?_eq_getElem hj2] at hv
  show id _ = v
  rw [getElem!_pos _ j hj2]
  exact Option.some.inj hv
theorem perm_of {d d' : Array Pr} (h : PermIn 0 d.size d d') : d'.toList.Perm d.toList := by
  have h3 := h.2.2
  have e := h.1
  rw [show d'.extract 0 d.size = d' by rw [← e]; simp, show d.extract 0 d.size = d by simp] at h3
  exact h3
theorem sorted_of {n : Nat} {d : Array Pr} (h : SortedIn (ltOf cmpP) 0 n d) (hn : n = d.size) : d.toList.Pairwise leP := by
  rw [List.pairwise_iff_getElem]
  intro i j hi hj hij
  have hi' : i < d.size := by simpa using hi
  have hj' : j < d.size := by simpa using hj
  have := h i j (Nat.zero_le _) hij (by omega)
  rw [ltOf_cmpP, getElem!_pos d i hi', getElem!_pos d j hj'] at this
  simpa [leP] using this

set_option maxHeartbeats 1000000 in
/-- The sort, where a row of pairs lies. -/
theorem sort_any {w : World} {g : Nat} {cs : Array Value} {d : Array Pr} {c : Nat} (h : Blk w g 59 cs) (hc : ∀ i (hi : i < d.size), cs[i * 2]? = some (.int .i64 d[i].1) ∧ cs[i * 2 + 1]? = some (.int .i64 d[i].2)) (hsz : d.size < 4611686018427387904) :
    Calls Try.prog 78 #[.slice (some ⟨g, 0, none⟩) d.size c, .func (.func 79) #[] #[]] w fun e w' => e = .returned (.tuple #[]) ∧ ∃ d' : List Pr, d'.length = d.size ∧ d'.Perm d.toList ∧ d'.Pairwise leP ∧ Els 2 PrE w' w'.heap.size (some ⟨g, 0, none⟩) d' ∧ ∀ B, B ≤ g → Below B w w' := by
  have eg : ∀ args w, (callFunc 79 args).run Try.prog w = .ok (.enter 79 args) w := enters_of Try.func79 (by kernel_rfl) rfl
  have hH := holdsP_of h hc
  have hcon := AnyQ.slices_SortFunc Try.sortPr 2 Try.isAgg59 Try.sizeOf59 encP (fun _ => rfl) (fun x v hv => by simp [encP] at hv; rcases hv with rfl | rfl <;> rfl) cmpP swoP 79 #[] g 0 c d w eg (cmpLaysP g 0 d.size w) hH h.lt hsz
  change Calls Try.prog 78 _ _ _ at hcon
  refine hcon.mono ?_
  rintro e w' ⟨rfl, d', n, os, hp, hs, rfl⟩
  have hb := fun B (hB : B ≤ g) => below_sort (w := w) (n := n) (d := d') (os := os) hB (by have := h.lt; omega)
  have hg : g < (sortWorldK encP 2 w g 0 n d' os).heap.size := by have := (hb g (Nat.le_refl _)).size; have := h.lt; omega
  exact ⟨rfl, d'.toList, by simpa using hp.1, perm_of hp, sorted_of hs hp.1.symm, els_of_holds (holdsK_sortWorldK_c encP 2 w g 0 d d' n os hH h.lt hp.1) hg, hb⟩
end Go.Proofs.Ytghdilmlfficlaa
