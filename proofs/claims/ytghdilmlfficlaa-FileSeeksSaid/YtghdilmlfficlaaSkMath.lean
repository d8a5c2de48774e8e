/- Lists of pairs in order. -/
namespace Go.Proofs.Ytghdilmlfficlaa

abbrev Pr := Int × Int
def ltB (x y : Pr) : Bool := decide (x.1 < y.1) || (decide (x.1 = y.1) && decide (x.2 < y.2))
def leP (x y : Pr) : Prop := ltB y x = false
theorem ltB_true {x y : Pr} : ltB x y = true ↔ (x.1 < y.1 ∨ (x.1 = y.1 ∧ x.2 < y.2)) := by simp [ltB]
theorem ltB_false {x y : Pr} : ltB x y = false ↔ ¬ (x.1 < y.1 ∨ (x.1 = y.1 ∧ x.2 < y.2)) := by rw [← ltB_true]; simp
theorem leP_iff {x y : Pr} : leP x y ↔ (x.1 < y.1 ∨ (x.1 = y.1 ∧ x.2 ≤ y.2)) := by unfold leP; rw [ltB_false]; omega
theorem leP_anti {x y : Pr} (h1 : leP x y) (h2 : leP y x) : x = y := by
  rw [leP_iff] at h1 h2
  have : x.1 = y.1 := by omega
  have : x.2 = y.2 := by omega
  exact Prod.ext (by assumption) (by assumption)
theorem leP_trans {x y z : Pr} (h1 : leP x y) (h2 : leP y z) : leP x z := by rw [leP_iff] at *; omega
theorem leP_of_lt {x y : Pr} (h : ltB x y = true) : leP x y := by rw [leP_iff]; rw [ltB_true] at h; omega
theorem sorted_eq {l k : List Pr} (h1 : l.Pairwise leP) (h2 : k.Pairwise leP) (h : l.Perm k) : l = k :=
  List.Perm.eq_of_pairwise (le := leP) (fun _ _ _ _ => leP_anti) h1 h2 h

/-- Two neighbours that do not ascend. -/
def badP : List Pr → Bool
  | [] => false
  | [_] => false
  | a :: b :: l => !ltB a b || badP (b :: l)
def findP (t : Int) : List Pr → Option Int
  | [] => none
  | a :: l => if t ≤ a.1 then some a.2 else findP t l
def seekA (x : List Pr) (t : Int) : Int × Bool × Int := if badP x then (0, false, 1) else match findP t x with | some v => (v, true, 0) | none => (0, false, 0)
theorem badP_two {x : List Pr} {i : Nat} (h : i + 1 < x.length) : badP (x.drop i) = (!ltB x[i] x[i + 1] || badP (x.drop (i + 1))) := by
  have e1 := List.drop_eq_getElem_cons (show i < x.length by omega)
  have e2 := List.drop_eq_getElem_cons h
  rw [e1, e2, badP]
theorem badP_end {x : List Pr} {i : Nat} (h : x.length ≤ i + 1) : badP (x.drop i) = false := by
  rcases Nat.lt_or_ge i x.length with h1 | h1
  · rw [List.drop_eq_getElem_cons h1, List.drop_eq_nil_of_le (by omega)]; rfl
  · rw [List.drop_eq_nil_of_le h1]; rfl
theorem findP_at {x : List Pr} {i : Nat} (t : Int) (h : i < x.length) : findP t (x.drop i) = if t ≤ x[i].1 then some x[i].2 else findP t (x.drop (i + 1)) := by
  rw [List.drop_eq_getElem_cons h, findP]
theorem findP_end {x : List Pr} {i : Nat} (t : Int) (h : x.length ≤ i) : findP t (x.drop i) = none := by
  rw [List.drop_eq_nil_of_le h]; rfl

/-- The pairs of times and numbers. -/
def prs (ts : List Int) : Nat → List Pr
  | 0 => []
  | k + 1 => prs ts k ++ [((ts[k]?).getD 0, (k : Int))]
theorem prs_len (ts : List Int) : ∀ k, (prs ts k).length = k
  | 0 => rfl
  | k + 1 => by rw [prs, List.length_append, prs_len ts k]; rfl

/-- The insertion of one more: what stands before and behind the place where it is. -/
structure Ins (l : List Pr) (x : Pr) (pre post : List Pr) : Prop where
  eq : l = pre ++ post
  hi : ∀ y ∈ post, leP x y
theorem Ins.start (l : List Pr) (x : Pr) : Ins l x l [] := ⟨by simp, by simp⟩
theorem Ins.step {l : List Pr} {x y : Pr} {pre post : List Pr} (h : Ins l x (pre ++ [y]) post) (hl : ltB x y = true) : Ins l x pre (y :: post) :=
  ⟨by rw [h.eq]; simp, fun z hz => by
    rcases List.mem_cons.1 hz with rfl | hz
    · exact leP_of_lt hl
    · exact h.hi z hz⟩
theorem Ins.done {l : List Pr} {x : Pr} {pre post : List Pr} (h : Ins l x pre post) (hs : l.Pairwise leP) (hp : ∀ y pre', pre = pre' ++ [y] → leP y x) : (pre ++ x :: post).Pairwise leP ∧ (pre ++ x :: post).Perm (l ++ [x]) := by
  have hs' := hs
  rw [h.eq] at hs'
  rw [List.pairwise_append] at hs'
  obtain ⟨a1, a2, a3⟩ := hs'
  have hpre : ∀ y ∈ pre, leP y x := by
    intro y hy
    rcases List.eq_nil_or_concat pre with e | ⟨pre', z, e⟩
    · rw [e] at hy; cases hy
    · rw [List.concat_eq_append] at e
      have hz := hp z pre' e
      rw [e, List.pairwise_append] at a1
      rw [e] at hy
      rcases List.mem_append.1 hy with hy | hy
      · exact leP_trans (a1.2.2 y hy z (by simp)) hz
      · rcases List.mem_singleton.1 hy with rfl; exact hz
  refine ⟨?_, ?_⟩
  · rw [List.pairwise_append]
    refine ⟨a1, ?_, ?_⟩
    · rw [List.pairwise_cons]; exact ⟨h.hi, a2⟩
    · intro y hy z hz
      rcases List.mem_cons.1 hz with rfl | hz
      · exact hpre y hy
      · exact a3 y hy z hz
  · rw [h.eq]
    refine List.perm_middle.trans ?_
    exact (List.perm_append_singleton x (pre ++ post)).symm
end Go.Proofs.Ytghdilmlfficlaa
