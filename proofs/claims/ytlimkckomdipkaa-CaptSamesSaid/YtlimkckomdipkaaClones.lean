/- slices.Clone of lists of structs. -/
import Derived.Test.YtlimkckomdipkaaOwn
namespace Go.Proofs.Ytlimkckomdipkaa
open Go.RowKit

theorem empty_rowT (w : World) (T K : Nat) : (w.alloc (.cells #[] T)).ownsRow w.heap.size T K (.slice (some ⟨w.heap.size, 0, none⟩) 0 0) 0 ([] : List Value) :=
  ⟨by simp, Or.inr ⟨w.heap.size, 0, #[], rfl, Nat.le_refl _, heap_alloc_new w _, Nat.le_refl _, Nat.zero_le _, by simp, by simp⟩⟩

/-- 'append(v, l...)' of structs, v an empty row of the call's own. -/
theorem run_own_rows (w : World) (base T t K bytes : Nat) (z : Value) (ht : Try.prog.underlying t = some (.slice T)) (hinf : (Try.prog.info? T).map (fun i => (i.zero, i.size, i.bytes)) = some (some z, K, bytes)) (hzs : z.cells.size = K) (hk : 0 < K)
    (v : Value) (hown : w.ownsRow base T K v 0 []) (a : Addr) (n c : Nat) (cs : List Value) (hcl : cs.length = n * K) (hsrc : ∀ j u, cs[j]? = some u → w.cell? (a.add j) = some u) (h1 : ∀ u ∈ cs, u.oneCell' = true) (hn : n ≤ maxLen) (hb : n * bytes ≤ 140737488355328) (hbase : base ≤ w.heap.size) :
    ∃ v' w', (Builtin.append_ #[t, t] t #[v, .slice (some a) n c]).run Try.prog w = .ok v' w' ∧ w'.ownsRow base T K v' n cs ∧ w.grownBy w' v.ownBlock := by
  obtain ⟨i, hi, hz, hsize, hby⟩ := info_parts hinf
  obtain ⟨v', w', hr, h2, h3, _, _⟩ := run_append_own_at (P := Try.prog) w base t t T i z K bytes ht hi hz hsize hby hzs hk v 0 [] hown a n c cs hcl hsrc h1 (by omega) (by rw [Nat.zero_add]; exact hb) hbase
  rw [Nat.zero_add, List.nil_append] at h2
  exact ⟨v', w', hr, h2, h3⟩

def ClonesPost {α : Type} (T K : Nat) (E : α → World → Nat → List Value → Prop) (w : World) (xs : List α) (e : Ending) (w' : World) : Prop :=
  ∃ A c rows, e = .returned (.slice A xs.length c) ∧ w'.ownsRow w.heap.size T K (.slice A xs.length c) xs.length (rows : List (List Value)).flatten ∧ rows.length = xs.length ∧
    (∀ i (hx : i < xs.length) (hr : i < rows.length), rows[i].length = K ∧ E xs[i] w w.heap.size rows[i]) ∧ Below w.heap.size w w'
theorem info54 : (Try.prog.info? 54).map (fun i => (i.zero, i.size, i.bytes)) = some (some (.agg #[.string ⟨#[]⟩, .int .i64 0, .int .i64 0]), 3, 32) := by kernel_rfl
theorem info49 : (Try.prog.info? 49).map (fun i => (i.zero, i.size, i.bytes)) = some (some (.agg #[.slice none 0 0, .string ⟨#[]⟩]), 2, 40) := by kernel_rfl
theorem info65 : (Try.prog.info? 65).map (fun i => (i.zero, i.size, i.bytes)) = some (some (.agg #[.string ⟨#[]⟩, .slice none 0 0]), 2, 40) := by kernel_rfl

/-- The cells that are cloned. -/
theorem clone_src {α : Type} {K : Nat} {E : α → World → Nat → List Value → Prop} {w : World} {A : Option Addr} {xs : List α} (h : Els K E w w.heap.size A xs) (h1 : ∀ x B vs, E x w B vs → ∀ u ∈ vs, u.oneCell' = true) (o : Obj) :
    ∃ rows : List (List Value), rows.length = xs.length ∧ (∀ i (hx : i < xs.length) (hr : i < rows.length), rows[i].length = K ∧ E xs[i] w w.heap.size rows[i]) ∧ rows.flatten.length = xs.length * K ∧
      (∀ u ∈ rows.flatten, u.oneCell' = true) ∧ ∀ a, A = some a → ∀ j u, rows.flatten[j]? = some u → (w.alloc o).cell? (a.add j) = some u := by
  obtain ⟨rows, hl, he, hc⟩ := els_rows h
  have hflat : ∀ (rs : List (List Value)), (∀ (q : Nat) (hq : q < rs.length), rs[q].length = K) → rs.flatten.length = rs.length * K := by
    intro rs
    induction rs with
    | nil => intro _; simp
    | cons r rs ih =>
      intro hr
      rw [List.flatten_cons, List.length_append, ih (fun q hq => hr (q + 1) (by simpa using hq)), List.length_cons, Nat.succ_mul]
      have : r.length = K := hr 0 (by simp)
      omega
  refine ⟨rows, hl, he, by rw [hflat rows (fun q hq => (he q (by rw [← hl]; exact hq) hq).1), hl], fun u hu => ?_, fun a ha j u hj => ?_⟩
  · obtain ⟨r, hr, hu⟩ := List.mem_flatten.1 hu
    obtain ⟨i, hi, rfl⟩ := List.mem_iff_getElem.1 hr
    exact h1 _ _ _ (he i (by rw [← hl]; exact hi) hi).2 u hu
  · have h2 := hc a ha j u hj
    rw [World.cell?_alloc_lt _ _ _ (World.block_lt_of_cell? w _ h2)]
    exact h2
theorem facOne : ∀ x w B vs, FacE x w B vs → ∀ u ∈ vs, u.oneCell' = true := by
  rintro x w B vs ⟨rfl, _⟩ u hu
  simp only [List.mem_cons, List.not_mem_nil, or_false] at hu
  rcases hu with rfl | rfl | rfl <;> rfl
theorem namOne : ∀ x w B vs, NamE x w B vs → ∀ u ∈ vs, u.oneCell' = true := by
  rintro x w B vs ⟨A, c, rfl, _⟩ u hu
  simp only [List.mem_cons, List.not_mem_nil, or_false] at hu
  rcases hu with rfl | rfl <;> rfl
theorem secOne : ∀ x w B vs, SecE x w B vs → ∀ u ∈ vs, u.oneCell' = true := by
  rintro x w B vs ⟨A, c, rfl, _⟩ u hu
  simp only [List.mem_cons, List.not_mem_nil, or_false] at hu
  rcases hu with rfl | rfl <;> rfl
theorem pktOne : ∀ x w B vs, PktE x w B vs → ∀ u ∈ vs, u.oneCell' = true := by
  rintro x w B vs ⟨A, c, rfl, _⟩ u hu
  simp only [List.mem_cons, List.not_mem_nil, or_false] at hu
  rcases hu with rfl | rfl | rfl | rfl | rfl <;> rfl

set_option maxHeartbeats 1000000 in
theorem fclone_any {E : Fac → World → Nat → List Value → Prop} (hE : ∀ x w B vs, E x w B vs → ∀ u ∈ vs, u.oneCell' = true) {w : World} {A : Option Addr} {c : Nat} {xs : List Fac} (hm : Els 3 E w w.heap.size A xs) (hb : xs.length ≤ c ∧ xs.length * 32 ≤ 140737488355328 ∧ (A = none → c = 0)) : Calls Try.prog 52 #[.slice A xs.length c] w (ClonesPost 54 3 E w xs) := by
  have hz := fun (wx : World) (a : Option Addr) (l c : Nat) => Lib.run_eql_slice_nil (P := Try.prog) wx 22 54 a l c 0 0 Try.underlying22
  cases A with
  | none =>
    have hc0 := hb.2.2 rfl
    have hxs : xs = [] := List.length_eq_zero_iff.1 (by omega)
    subst hxs
    subst hc0
    clear hm hb
    go_enter Try.func52, Try.ntmps52
    go_wp2
    go_ret
    exact ⟨none, 0, [], rfl, World.ownsRow_nil _ _ _ _, rfl, by simp, Below.refl _ _⟩
  | some a =>
    have hB0 : Below w.heap.size w (w.alloc (.cells #[] 54)) := (Below.refl _ _).alloc (Nat.le_refl _) _
    obtain ⟨rows, hl, he, hfl, h1, hsrc⟩ := clone_src hm (fun x B vs h => hE x w B vs h) (.cells #[] 54)
    obtain ⟨v', w', hrun, hown, hgr⟩ := run_own_rows (w.alloc (.cells #[] 54)) w.heap.size 54 22 3 32 _ Try.underlying22 info54 (by rfl) (by decide) _ (empty_rowT w 54 3) a xs.length c rows.flatten hfl (hsrc a rfl) h1 (by unfold maxLen; omega) hb.2.1 (by rw [alloc_size]; omega)
    have HOWN := Lib.hid hown
    have HB : Hid (Below w.heap.size w w') := Lib.hid (hB0.grown hgr (by rw [alloc_size]; omega) (fun k h => by cases h; exact Nat.le_refl _))
    have HE := Lib.hid he
    have HR := Lib.hid hl
    obtain ⟨A2, c2, hv, _, _⟩ := own_form2 hown
    subst hv
    obtain ⟨L, hL⟩ : ∃ L, xs.length = L := ⟨_, rfl⟩
    have HL := Lib.hid hL
    rw [hL] at hrun ⊢
    clear hown hgr hL hm hB0 hb he hl hfl h1 hsrc
    go_enter Try.func52, Try.ntmps52
    go_wp2_with (at_builtin; refine Lib.wpList_append_run _ rfl _ _ _ _ rfl _ _ rfl rfl _ _ hrun ?_)
    go_ret
    refine ⟨A2, c2, rows, by rw [HL.out]; rfl, HOWN.out, HR.out, HE.out, HB.out⟩

set_option maxHeartbeats 1000000 in
theorem nclone_any {E : Nam → World → Nat → List Value → Prop} (hE : ∀ x w B vs, E x w B vs → ∀ u ∈ vs, u.oneCell' = true) {w : World} {A : Option Addr} {c : Nat} {xs : List Nam} (hm : Els 2 E w w.heap.size A xs) (hb : xs.length ≤ c ∧ xs.length * 40 ≤ 140737488355328 ∧ (A = none → c = 0)) : Calls Try.prog 53 #[.slice A xs.length c] w (ClonesPost 49 2 E w xs) := by
  have hz := fun (wx : World) (a : Option Addr) (l c : Nat) => Lib.run_eql_slice_nil (P := Try.prog) wx 23 49 a l c 0 0 Try.underlying23
  cases A with
  | none =>
    have hc0 := hb.2.2 rfl
    have hxs : xs = [] := List.length_eq_zero_iff.1 (by omega)
    subst hxs
    subst hc0
    clear hm hb
    go_enter Try.func53, Try.ntmps53
    go_wp2
    go_ret
    exact ⟨none, 0, [], rfl, World.ownsRow_nil _ _ _ _, rfl, by simp, Below.refl _ _⟩
  | some a =>
    have hB0 : Below w.heap.size w (w.alloc (.cells #[] 49)) := (Below.refl _ _).alloc (Nat.le_refl _) _
    obtain ⟨rows, hl, he, hfl, h1, hsrc⟩ := clone_src hm (fun x B vs h => hE x w B vs h) (.cells #[] 49)
    obtain ⟨v', w', hrun, hown, hgr⟩ := run_own_rows (w.alloc (.cells #[] 49)) w.heap.size 49 23 2 40 _ Try.underlying23 info49 (by rfl) (by decide) _ (empty_rowT w 49 2) a xs.length c rows.flatten hfl (hsrc a rfl) h1 (by unfold maxLen; omega) hb.2.1 (by rw [alloc_size]; omega)
    have HOWN := Lib.hid hown
    have HB : Hid (Below w.heap.size w w') := Lib.hid (hB0.grown hgr (by rw [alloc_size]; omega) (fun k h => by cases h; exact Nat.le_refl _))
    have HE := Lib.hid he
    have HR := Lib.hid hl
    obtain ⟨A2, c2, hv, _, _⟩ := own_form2 hown
    subst hv
    obtain ⟨L, hL⟩ : ∃ L, xs.length = L := ⟨_, rfl⟩
    have HL := Lib.hid hL
    rw [hL] at hrun ⊢
    clear hown hgr hL hm hB0 hb he hl hfl h1 hsrc
    go_enter Try.func53, Try.ntmps53
    go_wp2_with (at_builtin; refine Lib.wpList_append_run _ rfl _ _ _ _ rfl _ _ rfl rfl _ _ hrun ?_)
    go_ret
    refine ⟨A2, c2, rows, by rw [HL.out]; rfl, HOWN.out, HR.out, HE.out, HB.out⟩

set_option maxHeartbeats 1000000 in
theorem sclone_any {E : Sec → World → Nat → List Value → Prop} (hE : ∀ x w B vs, E x w B vs → ∀ u ∈ vs, u.oneCell' = true) {w : World} {A : Option Addr} {c : Nat} {xs : List Sec} (hm : Els 2 E w w.heap.size A xs) (hb : xs.length ≤ c ∧ xs.length * 40 ≤ 140737488355328 ∧ (A = none → c = 0)) : Calls Try.prog 55 #[.slice A xs.length c] w (ClonesPost 65 2 E w xs) := by
  have hz := fun (wx : World) (a : Option Addr) (l c : Nat) => Lib.run_eql_slice_nil (P := Try.prog) wx 24 65 a l c 0 0 Try.underlying24
  cases A with
  | none =>
    have hc0 := hb.2.2 rfl
    have hxs : xs = [] := List.length_eq_zero_iff.1 (by omega)
    subst hxs
    subst hc0
    clear hm hb
    go_enter Try.func55, Try.ntmps55
    go_wp2
    go_ret
    exact ⟨none, 0, [], rfl, World.ownsRow_nil _ _ _ _, rfl, by simp, Below.refl _ _⟩
  | some a =>
    have hB0 : Below w.heap.size w (w.alloc (.cells #[] 65)) := (Below.refl _ _).alloc (Nat.le_refl _) _
    obtain ⟨rows, hl, he, hfl, h1, hsrc⟩ := clone_src hm (fun x B vs h => hE x w B vs h) (.cells #[] 65)
    obtain ⟨v', w', hrun, hown, hgr⟩ := run_own_rows (w.alloc (.cells #[] 65)) w.heap.size 65 24 2 40 _ Try.underlying24 info65 (by rfl) (by decide) _ (empty_rowT w 65 2) a xs.length c rows.flatten hfl (hsrc a rfl) h1 (by unfold maxLen; omega) hb.2.1 (by rw [alloc_size]; omega)
    have HOWN := Lib.hid hown
    have HB : Hid (Below w.heap.size w w') := Lib.hid (hB0.grown hgr (by rw [alloc_size]; omega) (fun k h => by cases h; exact Nat.le_refl _))
    have HE := Lib.hid he
    have HR := Lib.hid hl
    obtain ⟨A2, c2, hv, _, _⟩ := own_form2 hown
    subst hv
    obtain ⟨L, hL⟩ : ∃ L, xs.length = L := ⟨_, rfl⟩
    have HL := Lib.hid hL
    rw [hL] at hrun ⊢
    clear hown hgr hL hm hB0 hb he hl hfl h1 hsrc
    go_enter Try.func55, Try.ntmps55
    go_wp2_with (at_builtin; refine Lib.wpList_append_run _ rfl _ _ _ _ rfl _ _ rfl rfl _ _ hrun ?_)
    go_ret
    refine ⟨A2, c2, rows, by rw [HL.out]; rfl, HOWN.out, HR.out, HE.out, HB.out⟩

set_option maxHeartbeats 1000000 in
theorem pclone_any {E : Pkt → World → Nat → List Value → Prop} (hE : ∀ x w B vs, E x w B vs → ∀ u ∈ vs, u.oneCell' = true) {w : World} {A : Option Addr} {c : Nat} {xs : List Pkt} (hm : Els 5 E w w.heap.size A xs) (hb : xs.length ≤ c ∧ xs.length * 64 ≤ 140737488355328 ∧ (A = none → c = 0)) : Calls Try.prog 56 #[.slice A xs.length c] w (ClonesPost 47 5 E w xs) := by
  have hz := fun (wx : World) (a : Option Addr) (l c : Nat) => Lib.run_eql_slice_nil (P := Try.prog) wx 25 47 a l c 0 0 Try.underlying25
  cases A with
  | none =>
    have hc0 := hb.2.2 rfl
    have hxs : xs = [] := List.length_eq_zero_iff.1 (by omega)
    subst hxs
    subst hc0
    clear hm hb
    go_enter Try.func56, Try.ntmps56
    go_wp2
    go_ret
    exact ⟨none, 0, [], rfl, World.ownsRow_nil _ _ _ _, rfl, by simp, Below.refl _ _⟩
  | some a =>
    have hB0 : Below w.heap.size w (w.alloc (.cells #[] 47)) := (Below.refl _ _).alloc (Nat.le_refl _) _
    obtain ⟨rows, hl, he, hfl, h1, hsrc⟩ := clone_src hm (fun x B vs h => hE x w B vs h) (.cells #[] 47)
    obtain ⟨v', w', hrun, hown, hgr⟩ := run_own_rows (w.alloc (.cells #[] 47)) w.heap.size 47 25 5 64 _ Try.underlying25 info47 (by rfl) (by decide) _ (empty_rowT w 47 5) a xs.length c rows.flatten hfl (hsrc a rfl) h1 (by unfold maxLen; omega) hb.2.1 (by rw [alloc_size]; omega)
    have HOWN := Lib.hid hown
    have HB : Hid (Below w.heap.size w w') := Lib.hid (hB0.grown hgr (by rw [alloc_size]; omega) (fun k h => by cases h; exact Nat.le_refl _))
    have HE := Lib.hid he
    have HR := Lib.hid hl
    obtain ⟨A2, c2, hv, _, _⟩ := own_form2 hown
    subst hv
    obtain ⟨L, hL⟩ : ∃ L, xs.length = L := ⟨_, rfl⟩
    have HL := Lib.hid hL
    rw [hL] at hrun ⊢
    clear hown hgr hL hm hB0 hb he hl hfl h1 hsrc
    go_enter Try.func56, Try.ntmps56
    go_wp2_with (at_builtin; refine Lib.wpList_append_run _ rfl _ _ _ _ rfl _ _ rfl rfl _ _ hrun ?_)
    go_ret
    refine ⟨A2, c2, rows, by rw [HL.out]; rfl, HOWN.out, HR.out, HE.out, HB.out⟩
end Go.Proofs.Ytlimkckomdipkaa
