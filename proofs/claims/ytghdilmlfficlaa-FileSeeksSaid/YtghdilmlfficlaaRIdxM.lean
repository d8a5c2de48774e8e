/- Rows of pairs: flat lists, exchanges. -/
import Derived.Test.YtghdilmlfficlaaIndex
import Derived.Test.YtghdilmlfficlaaRVald
namespace Go.Proofs.Ytghdilmlfficlaa
open Go.RowKit

def rowP (cs : Array Value) (M : List Pr) : Prop := ∀ i y, M[i]? = some y → cs[i * 2]? = some (.int .i64 y.1) ∧ cs[i * 2 + 1]? = some (.int .i64 y.2)
theorem flat_at : ∀ (l : List Pr) (i j : Nat) (_ : j < 2), (l.flatMap encP)[i * 2 + j]? = (l[i]?).bind fun y => (encP y)[j]?
  | [], i, j, _ => by simp
  | a :: l, 0, j, hj => by
    rw [List.flatMap_cons, Nat.zero_mul, Nat.zero_add, List.getElem?_append_left (by simpa [encP] using hj)]; rfl
  | a :: l, i + 1, j, hj => by
    rw [List.flatMap_cons, List.getElem?_append_right (by simp [encP]; omega)]
    have e : (i + 1) * 2 + j - (encP a).length = i * 2 + j := by show (i + 1) * 2 + j - 2 = _; omega
    rw [e, flat_at l i j hj]; rfl
theorem flat_len : ∀ (l : List Pr), (l.flatMap encP).length = l.length * 2
  | [] => rfl
  | a :: l => by rw [List.flatMap_cons, List.length_append, flat_len l]; show 2 + _ = _; simp only [List.length_cons]; omega
theorem row_of_flat {cs : Array Value} {l : List Pr} {n : Nat} (h : cs.toList.take (n * 2) = l.flatMap encP) (hn : l.length = n) : rowP cs l := by
  intro i y hy
  have hi : i < l.length := (List.getElem?_eq_some_iff.1 hy).1
  have key : ∀ j, j < 2 → cs[i * 2 + j]? = (encP y)[j]? := fun j hj => by
    have : (cs.toList.take (n * 2))[i * 2 + j]? = (l.flatMap encP)[i * 2 + j]? := by rw [h]
    rw [List.getElem?_take_of_lt (by omega), flat_at l i j hj, hy] at this
    rw [← Array.getElem?_toList, this]; rfl
  exact ⟨key 0 (by omega), key 1 (by omega)⟩
theorem flat_of_row {cs : Array Value} {l : List Pr} {n : Nat} (h : rowP cs l) (hn : l.length = n) : cs.toList.take (n * 2) = l.flatMap encP := by
  apply List.ext_getElem?
  intro t
  by_cases ht : t < n * 2
  · have hq : t / 2 < l.length := by omega
    obtain ⟨y, hy⟩ : ∃ y, l[t / 2]? = some y := ⟨_, List.getElem?_eq_getElem hq⟩
    obtain ⟨a, b⟩ := h (t / 2) _ hy
    rw [List.getElem?_take_of_lt ht]
    have e := flat_at l (t / 2) (t % 2) (by omega)
    rw [show t / 2 * 2 + t % 2 = t by omega, hy] at e
    rw [e, Array.getElem?_toList]
    rcases Nat.mod_two_eq_zero_or_one t with m | m
    · rw [m, show t = t / 2 * 2 by omega, a]; rfl
    · rw [m, show t = t / 2 * 2 + 1 by omega, b]; rfl
  · rw [List.getElem?_eq_none (by rw [List.length_take]; omega), List.getElem?_eq_none (by rw [flat_len]; omega)]
theorem row_swap {cs : Array Value} {pre post : List Pr} {x y : Pr} {m : Nat} (h : rowP cs (pre ++ y :: x :: post)) (hm : pre.length = m) (hs : (m + 2) * 2 ≤ cs.size) :
    rowP ((((cs.setIfInBounds ((m + 1) * 2) (.int .i64 y.1)).setIfInBounds ((m + 1) * 2 + 1) (.int .i64 y.2)).setIfInBounds (m * 2) (.int .i64 x.1)).setIfInBounds (m * 2 + 1) (.int .i64 x.2)) (pre ++ x :: y :: post) := by
  intro i z hz
  rcases Nat.lt_trichotomy i m with hi | hi | hi
  · rw [List.getElem?_append_left (by omega)] at hz
    obtain ⟨a, b⟩ := h i z (by rw [List.getElem?_append_left (by omega)]; exact hz)
    refine ⟨?_, ?_⟩
    · rw [Array.getElem?_setIfInBounds, if_neg (by omega), Array.getElem?_setIfInBounds, if_neg (by omega), Array.getElem?_setIfInBounds, if_neg (by omega), Array.getElem?_setIfInBounds, if_neg (by omega)]; exact a
    · rw [Array.getElem?_setIfInBounds, if_neg (by omega), Array.getElem?_setIfInBounds, if_neg (by omega), Array.getElem?_setIfInBounds, if_neg (by omega), Array.getElem?_setIfInBounds, if_neg (by omega)]; exact b
  · subst hi
    rw [List.getElem?_append_right (by omega), show i - pre.length = 0 by omega] at hz
    have hz : x = z := Option.some.inj hz
    subst hz
    refine ⟨?_, ?_⟩
    · rw [Array.getElem?_setIfInBounds, if_neg (by omega), Array.getElem?_setIfInBounds, if_pos rfl, if_pos (by simp; omega)]
    · rw [Array.getElem?_setIfInBounds, if_pos rfl, if_pos (by simp; omega)]
  · by_cases hi2 : i = m + 1
    · subst hi2
      rw [List.getElem?_append_right (by omega), show m + 1 - pre.length = 1 by omega] at hz
      have hz : y = z := Option.some.inj hz
      subst hz
      refine ⟨?_, ?_⟩
      · rw [Array.getElem?_setIfInBounds, if_neg (by omega), Array.getElem?_setIfInBounds, if_neg (by omega), Array.getElem?_setIfInBounds, if_neg (by omega), Array.getElem?_setIfInBounds, if_pos rfl, if_pos (by omega)]
      · rw [Array.getElem?_setIfInBounds, if_neg (by omega), Array.getElem?_setIfInBounds, if_neg (by omega), Array.getElem?_setIfInBounds, if_pos rfl, if_pos (by simp; omega)]
    · obtain ⟨t, ht⟩ : ∃ t, i - pre.length = t + 2 := ⟨i - pre.length - 2, by omega⟩
      rw [List.getElem?_append_right (by omega), ht] at hz
      obtain ⟨a, b⟩ := h i z (by rw [List.getElem?_append_right (by omega), ht]; exact hz)
      refine ⟨?_, ?_⟩
      · rw [Array.getElem?_setIfInBounds, if_neg (by omega), Array.getElem?_setIfInBounds, if_neg (by omega), Array.getElem?_setIfInBounds, if_neg (by omega), Array.getElem?_setIfInBounds, if_neg (by omega)]; exact a
      · rw [Array.getElem?_setIfInBounds, if_neg (by omega), Array.getElem?_setIfInBounds, if_neg (by omega), Array.getElem?_setIfInBounds, if_neg (by omega), Array.getElem?_setIfInBounds, if_neg (by omega)]; exact b
theorem els_of_row {w : World} {g c : Nat} {cs : Array Value} {l : List Pr} (h : Blk w g 59 cs) (hr : rowP cs l) (_ : c = c) : Els 2 PrE w w.heap.size (some ⟨g, 0, none⟩) l := by
  intro hn
  refine ⟨g, 0, rfl, h.lt, fun i hi => ⟨encP l[i], rfl, rfl, fun j v hv => ?_⟩⟩
  obtain ⟨a, b⟩ := hr i _ (List.getElem?_eq_getElem hi)
  have hj : j < 2 := by
    rcases Nat.lt_or_ge j 2 with h | h
    · exact h
    · rw [List.getElem?_eq_none (by exact h)] at hv; cases hv
  rw [h.cell, Nat.zero_add]
  rcases (by omega : j = 0 ∨ j = 1) with rfl | rfl
  · rw [Nat.add_zero, a]; exact hv
  · rw [b]; exact hv
theorem own_pr {w : World} {b n : Nat} {v : Value} {l : List Pr} (h : w.ownsRow b 59 2 v n (l.flatMap encP)) (hn : l.length = n) (h0 : 0 < n) :
    ∃ g cap cs, v = .slice (some ⟨g, 0, none⟩) n cap ∧ b ≤ g ∧ Blk w g 59 cs ∧ n ≤ cap ∧ cap ≤ maxLen ∧ cs.size = cap * 2 ∧ rowP cs l := by
  rcases h.2 with ⟨_, h0'⟩ | ⟨g, cap, cur, e, e2, hg, hcap, hm, hsz, htake⟩
  · omega
  · exact ⟨g, cap, cur, e, e2, hg, hcap, hm, hsz, row_of_flat htake hn⟩
theorem pr_own {w : World} {b n g cap : Nat} {cs : Array Value} {l : List Pr} (hg : b ≤ g) (h : Blk w g 59 cs) (h1 : n ≤ cap) (h2 : cap ≤ maxLen) (h3 : cs.size = cap * 2) (hr : rowP cs l) (hn : l.length = n) : w.ownsRow b 59 2 (.slice (some ⟨g, 0, none⟩) n cap) n (l.flatMap encP) :=
  ⟨by rw [flat_len, hn], Or.inr ⟨g, cap, cs, rfl, hg, h, h1, h2, h3, flat_of_row hr hn⟩⟩
end Go.Proofs.Ytghdilmlfficlaa
