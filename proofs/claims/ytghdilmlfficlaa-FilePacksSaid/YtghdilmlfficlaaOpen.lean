/- What every law's row shares: the world behind the call, the shutting. -/
import Derived.Test.YtghdilmlfficlaaRows
import Derived.Test.YtghdilmlfficlaaMem
import Derived.ProofKit
import Derived.LaidMore
import Derived.OpenShut
import Derived.Stop.Joined
import Derived.Lib.LaidTab
import Derived.SevenTiedAt
import Derived.Deep.Slices
import Derived.Deep.Fields
import Derived.ChangeSame
import Derived.Lib.SmallJoins
import Derived.SizedLaws
namespace Go.Proofs.Ytghdilmlfficlaa
open Go.ChangeShapes Go.WideShapes Go.ChangeAt Go.WideMaps Go.WideElems Go.RowKit

theorem own : ownKnob Try.prog.godebug = none := by kernel_rfl
theorem laidOut : laidOutB Try.prog = true := by kernel_rfl
theorem trodAll_stays {H : Type} {enc : TypeId × Value → H} {P : Program} (hl : laidOutB P = true) {W W' : World} (hb : Below W.heap.size W W') :
    ∀ (ts : List TypeId) (vs : List Value) (ds : List (DataW H)) (ps : List MemPlace), (ts.all fun t => P.readableRec t && decide (t < P.types.size)) = true →
      DataW.TrodAll enc P W 0 (fun _ => true) true ts vs ds ps → (∀ x ∈ ps, x.block < W.heap.size) → DataW.TrodAll enc P W' 0 (fun b => decide (b < W.heap.size)) true ts vs ds ps := by
  intro ts
  induction ts with
  | nil =>
    intro vs ds ps _ h _
    match vs, ds, h with
    | [], [], h => exact h
  | cons t ts ih =>
    intro vs ds ps hr h hlt
    match vs, ds, h with
    | v :: vs, d :: ds, h =>
      obtain ⟨p, q, h1, h2, rfl⟩ := h
      rw [List.all_cons, Bool.and_eq_true, Bool.and_eq_true, decide_eq_true_eq] at hr
      exact ⟨p, q, Below.trod hl hr.1.1 hr.1.2 h1 hb (fun x hx => hlt x (List.mem_append.2 (Or.inl hx))), ih vs ds q hr.2 h2 (fun x hx => hlt x (List.mem_append.2 (Or.inr hx))), rfl⟩

/-- A law that returned true, and below the old heap's end has turned nothing: its row's post. -/
theorem law_post {H : Type} {enc : TypeId × Value → H} {f : Func} {s : ChangeSpec} {W W' : World} {args : Array Value} {ds gs : List (DataW H)} {before : List MemPlace}
    (hW : DataW.Whole enc Try.prog f.params.toList s.vars false W args.toList ds gs before) (hv : s.vars = []) (hg : gs = [])
    (hs : s.fn H ds = { results := [.lit (.bool true)], args := ds })
    (hr : (f.params.toList.all fun t => Try.prog.readableRec t && decide (t < Try.prog.types.size)) = true) (hres : f.resultTypes = #[4]) (hb : Below W.heap.size W W') :
    s.post enc Try.prog f false true false false W args (.bool true) W' := by
  subst hg
  have hlt : ∀ p ∈ before, p.block < W.heap.size := fun p hp => hW.lt p hp
  have hW' := hW
  obtain ⟨p, q, hA, hV, hpq, _, _⟩ := hW'
  rw [hv] at hV
  have hq : q = [] := (trodVars_none hV).2
  subst hq
  rw [List.append_nil] at hpq
  subst hpq
  have hres1 : DataW.TrodAll enc Try.prog W' W.heap.size (fun _ => false) false f.resultTypes.toList ((Value.bool true).resultList f.resultTypes.size) [.lit (.bool true)] [] := by
    rw [hres]; exact trodAll_mk1 (shut_bool Try.underlying4 true)
  refine ⟨ds, [], before, [], before, [], hW, ?_, ?_, ?_, World.keptBut_mono (fun p hp => ⟨hp, Or.inr (Or.inl hp)⟩) (hb.frame (· ∈ before)), fun h => by cases h⟩
  · rw [List.append_nil, hs]; exact hres1
  · rw [List.append_nil, hs]; exact trodAll_stays laidOut hb _ _ _ _ hr hA hlt
  · rw [List.append_nil, hs, hv]; exact rfl
end Go.Proofs.Ytghdilmlfficlaa
/- Opening a capture among the arguments of a law. -/
namespace Go.Proofs.Ytghdilmlfficlaa
open Go.Joins Go.ChangeShapes Go.WideShapes Go.ChangeAt Go.WideMaps Go.WideElems Go.RowKit Go.Deep

section
variable {H : Type} {enc : TypeId × Value → H} {P : Program} {w : World} {base : Nat} {spare : Nat → Bool} {held : Bool}
/-- A slice of structs of one-cell fields, opened row by row. -/
theorem open_slice_fields {t e : TypeId} {fs : Array Field} {fuel : Nat} {cs : List Value} {x : DataW H × List MemPlace} (ht : P.underlying t = some (.slice e)) (he : P.underlying e = some (.struct fs))
    (hone : oneCellFields P fs = true) (hC : P.cellsOf e = fs.size) (h : DataW.trod enc P w base spare held fuel t cs = some x) :
    (cs = [.slice none 0 0] ∧ x = (.nil, [])) ∨
    ∃ (a : Addr) (len cap m : Nat) (D : Nat → DataW H) (Pl : Nat → List MemPlace), cs = [.slice (some a) len cap] ∧ len ≤ cap ∧ m = (if spare a.block then cap else len) ∧
      x = (.slice ((List.range len).map D) ((List.range (m - len)).map fun j => D (len + j)), MemPlace.row a (m * fs.size) ++ (List.range m).flatMap Pl) ∧
      ∀ i, i < m → ∃ (ys : List (DataW H × List MemPlace)) (n : Nat), D i = .agg (ys.map (·.1)) ∧ ys.length = fs.size ∧
        ∀ (j : Nat) (f : Field), fs[j]? = some f → ∃ (v : Value) (y : DataW H × List MemPlace), w.cell? (a.add (i * fs.size + j)) = some v ∧ ys[j]? = some y ∧ DataW.trod enc P w base spare held n f.type [v] = some y := by
  rcases open_slice ht h with h0 | ⟨a, len, cap, m, n, D, Pl, hcs, _, hl, _, hmm, hx, hi⟩
  · exact .inl h0
  · refine .inr ⟨a, len, cap, m, D, Pl, hcs, hl, hmm, by rw [hC] at hx; exact hx, fun i him => ?_⟩
    obtain ⟨cs', hc, ht'⟩ := hi i him
    rw [hC] at hc
    obtain ⟨ys, n', _, hy, hlen, hyl, hf⟩ := DataW.trod_struct he ht'
    obtain ⟨_, hcl, hat⟩ := World.cells?_some hc
    simp only [Prod.mk.injEq] at hy
    refine ⟨ys, n', hy.1, hyl, fun j f hj => ?_⟩
    obtain ⟨ho, hk⟩ := hone_of hone j f hj
    have hjl : j < fs.size := (Array.getElem?_eq_some_iff.1 hj).1
    have hcell := hat j hjl
    have hv : cs'[j]? = some (cs'[j]'(by omega)) := List.getElem?_eq_getElem (by omega)
    have h1 := hf j f hj
    rw [ho, hk] at h1
    have hone' : (cs'.drop j).take 1 = [cs'[j]'(by omega)] := by
      rw [List.drop_eq_getElem_cons (by omega)]
      rfl
    rw [hone'] at h1
    have hys : ys[j]? = some (ys[j]'(by omega)) := List.getElem?_eq_getElem (by omega)
    refine ⟨_, _, ?_, hys, h1.trans hys⟩
    rw [← Go.Deep.add_add, hcell, hv]

theorem open_agg5 {r : Reach} {b0 : Nat} {t : TypeId} {f0 f1 f2 f3 f4 : Field} {v : Value} {d : DataW H} {p : List MemPlace} (hs : P.underlying t = some (.struct #[f0, f1, f2, f3, f4])) (hone : oneCellFields P #[f0, f1, f2, f3, f4] = true) (hC : P.cellsOf t = 5)
    (hv : Value.okWide P w r b0 t v) (h : DataW.Trod enc P w base spare held t v d p) :
    ∃ (v0 v1 v2 v3 v4 : Value) (y0 y1 y2 y3 y4 : DataW H × List MemPlace) (n : Nat), v = .agg #[v0, v1, v2, v3, v4] ∧ d = .agg [y0.1, y1.1, y2.1, y3.1, y4.1] ∧
      DataW.trod enc P w base spare held n f0.type [v0] = some y0 ∧ DataW.trod enc P w base spare held n f1.type [v1] = some y1 ∧ DataW.trod enc P w base spare held n f2.type [v2] = some y2 ∧ DataW.trod enc P w base spare held n f3.type [v3] = some y3 ∧ DataW.trod enc P w base spare held n f4.type [v4] = some y4 := by
  obtain ⟨cs, rfl, hsz⟩ := okWide_struct hs hv
  obtain ⟨l⟩ := cs
  match l, hsz.trans hC with
  | [c0, c1, c2, c3, c4], _ =>
    obtain ⟨fuel, hf⟩ := h
    obtain ⟨xs, n, _, hx, _, hlen, hg⟩ := DataW.trod_struct hs hf
    obtain ⟨o0, k0⟩ := hone_of hone 0 f0 rfl
    obtain ⟨o1, k1⟩ := hone_of hone 1 f1 rfl
    obtain ⟨o2, k2⟩ := hone_of hone 2 f2 rfl
    obtain ⟨o3, k3⟩ := hone_of hone 3 f3 rfl
    obtain ⟨o4, k4⟩ := hone_of hone 4 f4 rfl
    match xs, hlen with
    | [y0, y1, y2, y3, y4], _ =>
      simp only [Prod.mk.injEq] at hx
      exact ⟨c0, c1, c2, c3, c4, y0, y1, y2, y3, y4, n, rfl, by simpa using hx.1, by simpa [Value.cells, o0, k0] using hg 0 f0 rfl, by simpa [Value.cells, o1, k1] using hg 1 f1 rfl, by simpa [Value.cells, o2, k2] using hg 2 f2 rfl, by simpa [Value.cells, o3, k3] using hg 3 f3 rfl, by simpa [Value.cells, o4, k4] using hg 4 f4 rfl⟩

/-- Each string, slice and map that is met in reading d takes at most what memory bears. -/
def Lite (P : Program) (t : TypeId) (d : DataW H) : Prop := ∀ x ∈ DataW.weights P t d, x ≤ 140737488351232

theorem mem_weightsAll {e : TypeId} {x : Nat} {d : DataW H} (hx : x ∈ DataW.weights P e d) : ∀ {xs : List (DataW H)}, d ∈ xs → x ∈ DataW.weightsAll P e xs
  | y :: ys, h => by
    rw [DataW.weightsAll]
    rcases List.mem_cons.1 h with rfl | h
    · exact List.mem_append_left _ hx
    · exact List.mem_append_right _ (mem_weightsAll hx h)
theorem mem_weightsEach {t : TypeId} {x : Nat} {d : DataW H} (hx : x ∈ DataW.weights P t d) : ∀ {ts : List TypeId} {ds : List (DataW H)} {j : Nat}, ts[j]? = some t → ds[j]? = some d → x ∈ DataW.weightsEach P ts ds
  | u :: ts, y :: ds, 0, ht, hd => by
    simp only [List.getElem?_cons_zero, Option.some.injEq] at ht hd
    subst ht; subst hd
    rw [DataW.weightsEach]
    exact List.mem_append_left _ hx
  | u :: ts, y :: ds, j + 1, ht, hd => by
    rw [DataW.weightsEach]
    exact List.mem_append_right _ (mem_weightsEach hx (j := j) (by simpa using ht) (by simpa using hd))
  | [], _, _, ht, _ => by simp at ht
  | _ :: _, [], _, _, hd => by simp at hd
theorem lite_slice {t e : TypeId} {xs ys : List (DataW H)} (ht : P.underlying t = some (.slice e)) (h : Lite P t (.slice xs ys)) :
    (xs.length + ys.length) * P.bytesOf e ≤ 140737488351232 ∧ ∀ d ∈ xs, Lite P e d := by
  have hw : DataW.weights P t (.slice xs ys) = (xs.length + ys.length) * P.bytesOf e :: (DataW.weightsAll P e xs ++ DataW.weightsAll P e ys) := by
    rw [DataW.weights]; simp only [ht]
  unfold Lite at h
  rw [hw] at h
  exact ⟨h _ List.mem_cons_self, fun d hd x hx => h x (List.mem_cons_of_mem _ (List.mem_append_left _ (mem_weightsAll hx hd)))⟩
theorem lite_agg {t : TypeId} {fs : Array Field} {ds : List (DataW H)} (ht : P.underlying t = some (.struct fs)) (h : Lite P t (.agg ds)) (j : Nat) (f : Field) (d : DataW H) (hf : fs[j]? = some f) (hd : ds[j]? = some d) : Lite P f.type d := by
  have hw : DataW.weights P t (.agg ds) = DataW.weightsEach P (fs.toList.map (·.type)) ds := by
    rw [DataW.weights]; simp only [ht]
  unfold Lite at h
  rw [hw] at h
  exact fun x hx => h x (mem_weightsEach hx (by simp [hf]) hd)
theorem lite_str {t : TypeId} {l : List UInt8} (h : Lite P t (.lit (.string l) : DataW H)) : l.length ≤ 140737488351232 := by
  unfold Lite at h
  rw [DataW.weights] at h
  exact h _ (by simp)
end

section
variable {H : Type} {enc : TypeId × Value → H} {W : World}

theorem block_of_cell {W : World} {b o : Nat} {v : Value} (h : W.cell? ⟨b, o, none⟩ = some v) : b < W.heap.size := by
  rcases Nat.lt_or_ge b W.heap.size with h0 | h0
  · exact h0
  · simp [World.cell?, Array.getElem?_eq_none h0] at h

theorem read_str {n : Nat} {v : Value} {y : DataW H × List MemPlace} (h : DataW.trod enc Try.prog W 0 (fun _ => true) true n 9 [v] = some y) (hl : Lite Try.prog 9 y.1) :
    ∃ s : ByteArray, v = .string s ∧ s.size ≤ 140737488355328 := by
  obtain ⟨s, hc, rfl, _⟩ := DataW.trod_string Try.underlying9 h
  refine ⟨s, by simpa using hc, ?_⟩
  have h := lite_str hl
  have e : s.data.toList.length = s.size := by simp
  omega

theorem read_i64 {n : Nat} {v : Value} {y : DataW H × List MemPlace} (h : DataW.trod enc Try.prog W 0 (fun _ => true) true n 3 [v] = some y) :
    ∃ z : Int, v = .int .i64 z ∧ -9223372036854775808 ≤ z ∧ z ≤ 9223372036854775807 := by
  obtain ⟨z, hc, rfl, wz⟩ := DataW.trod_int Try.underlying3 h
  exact ⟨z, by simpa using hc, bounds_i64 wz⟩

theorem read_bytes {n : Nat} {v : Value} {y : DataW H × List MemPlace} (h : DataW.trod enc Try.prog W 0 (fun _ => true) true n 48 [v] = some y) (hl : Lite Try.prog 48 y.1) :
    ∃ A bs c, v = .slice A (bs : List Nat).length c ∧ Byc W W.heap.size A bs c := by
  rcases open_ints Try.underlying48 Try.underlying5 (by kernel_rfl) h with ⟨hcs, _⟩ | ⟨a, len, cap, zs, hcs, _, hle, hm, hz, hx, hcell, hwz⟩
  · exact ⟨none, [], 0, by simpa using hcs, Byt.nil _ _ _, Nat.le_refl _, Nat.zero_le _, fun _ => rfl⟩
  · have hzl : zs.length = cap := by simpa using hz
    have hbl : ((zs.take len).map Int.toNat).length = len := by simp; omega
    have hcap : cap ≤ 140737488355328 := by
      subst hx
      have := (lite_slice Try.underlying48 hl).1
      rw [show Try.prog.bytesOf 5 = 1 by kernel_rfl] at this
      simp [lits] at this
      have hz' : zs.length = (if true = true then cap else len) := hz
      simp at hz'
      omega
    refine ⟨some a, (zs.take len).map Int.toNat, cap, by rw [hbl]; simpa using hcs, ⟨?_, fun hn => ?_⟩, by rw [hbl]; exact hle, by rw [hbl]; omega, fun h => by cases h⟩
    · intro x hx
      obtain ⟨z, hz1, rfl⟩ := List.mem_map.1 hx
      have := bounds_u8 (hwz z (List.mem_of_mem_take hz1))
      omega
    · rw [hbl] at hn ⊢
      obtain ⟨b, o, rfl, hc⟩ := ints_at hcell (by omega)
      refine ⟨b, o, rfl, block_of_cell (hc 0 (by omega)), fun k hk => ?_⟩
      have hkz : k < zs.length := by omega
      have hb := bounds_u8 (hwz zs[k] (List.getElem_mem hkz))
      rw [hc k hkz]
      have e1 : zs.getD k 0 = zs[k] := by simp [List.getD, hkz]
      have e2 : at8 ((zs.take len).map Int.toNat) k = (zs[k]).toNat := by simp [at8, hk, hkz]
      rw [e1, e2, Int.toNat_of_nonneg hb.1]

/-- A slice of structs, read as a list by E. -/
theorem read_list {α : Type} {k : Nat} {E : α → World → Nat → List Value → Prop} {t e bytes : Nat} {fs : Array Field} (ht : Try.prog.underlying t = some (.slice e)) (he : Try.prog.underlying e = some (.struct fs)) (hone : oneCellFields Try.prog fs = true)
    (hC : Try.prog.cellsOf e = fs.size) (hk : fs.size = k) (hk0 : 0 < k) (hby : Try.prog.bytesOf e = bytes)
    (hE : ∀ (vs : List Value) (m : Nat), vs.length = k → (∀ (j : Nat) (f : Field), fs[j]? = some f → ∃ (v : Value) (y : DataW H × List MemPlace), vs[j]? = some v ∧ DataW.trod enc Try.prog W 0 (fun _ => true) true m f.type [v] = some y ∧ Lite Try.prog f.type y.1) → ∃ x, E x W W.heap.size vs)
    {n : Nat} {v : Value} {y : DataW H × List MemPlace} (h : DataW.trod enc Try.prog W 0 (fun _ => true) true n t [v] = some y) (hl : Lite Try.prog t y.1) :
    ∃ (A : Option Addr) (xs : List α) (c : Nat), v = .slice A xs.length c ∧ Els k E W W.heap.size A xs ∧ (xs.length ≤ c ∧ xs.length * bytes ≤ 140737488355328 ∧ (A = none → c = 0)) := by
  rcases open_slice_fields ht he hone hC h with ⟨hcs, _⟩ | ⟨a, len, cap, m, D, Pl, hcs, hle, hm, rfl, hi⟩
  · exact ⟨none, [], 0, by simpa using hcs, Els.nil _ _ _ _ _, Nat.le_refl _, by simp, fun _ => rfl⟩
  · have hmc : m = cap := by simpa using hm
    subst hmc
    obtain ⟨hw, hw2⟩ := lite_slice ht hl
    rw [hby] at hw
    simp only [List.length_map, List.length_range] at hw
    rw [show len + (m - len) = m by omega] at hw
    have hbl : len * bytes ≤ m * bytes := Nat.mul_le_mul_right _ hle
    rw [hk] at hi
    have hrow : ∀ i, i < len → ∃ x, E x W W.heap.size ((List.range k).map fun j => (W.cell? (a.add (i * k + j))).getD (.bool false)) := by
      intro i hil
      obtain ⟨ys, n', hD, hyl, hf⟩ := hi i (by omega)
      refine hE _ n' (by simp) fun j f hj => ?_
      obtain ⟨v, y, hc, hy, htr⟩ := hf j f hj
      have hjk : j < k := by rw [← hk]; exact (Array.getElem?_eq_some_iff.1 hj).1
      refine ⟨v, y, by simp [hjk, hc], htr, ?_⟩
      have hd := hw2 (D i) (List.mem_map.2 ⟨i, by simpa using hil, rfl⟩)
      rw [hD] at hd
      exact lite_agg he hd j f y.1 hj (by simp [hy])
    refine ⟨some a, List.ofFn fun i : Fin len => Classical.choose (hrow i i.2), m, by simpa using hcs, ?_, by simpa using hle, by simp; omega, fun h => by cases h⟩
    intro hn
    rw [List.length_ofFn] at hn
    have hcell : ∀ i j, i < len → j < k → ∃ v, W.cell? (a.add (i * k + j)) = some v := by
      intro i j hil hj
      obtain ⟨ys, n', _, _, hf⟩ := hi i (by omega)
      obtain ⟨v, _, hc, _⟩ := hf j (fs[j]'(by omega)) (by simp)
      exact ⟨v, hc⟩
    obtain ⟨b, o, spot⟩ := a
    obtain ⟨v0, h0⟩ := hcell 0 0 hn hk0
    have hspot : spot = none := by simpa [Addr.add] using World.cell?_spot h0
    subst hspot
    rw [Go.WideShapes.add_plain] at h0
    refine ⟨b, o, rfl, block_of_cell h0, fun i hi => ?_⟩
    rw [List.length_ofFn] at hi
    refine ⟨(List.range k).map fun j => (W.cell? ((⟨b, o, none⟩ : Addr).add (i * k + j))).getD (.bool false), by simp, by rw [List.getElem_ofFn]; exact Classical.choose_spec (hrow i hi), fun j v hj => ?_⟩
    have hjk : j < k := by
      rcases Nat.lt_or_ge j k with h | h
      · exact h
      · rw [List.getElem?_eq_none (by simpa using h)] at hj; cases hj
    obtain ⟨u, hu⟩ := hcell i j hi hjk
    have : v = u := by simpa [hjk, hu] using hj.symm
    rw [this, ← Go.WideShapes.add_plain]
    exact hu
theorem read_faces {n : Nat} {v : Value} {y : DataW H × List MemPlace} (h : DataW.trod enc Try.prog W 0 (fun _ => true) true n 26 [v] = some y) (hl : Lite Try.prog 26 y.1) :
    ∃ (A : Option Addr) (xs : List Fac) (c : Nat), v = .slice A xs.length c ∧ Els 3 FacE W W.heap.size A xs ∧ (xs.length ≤ c ∧ xs.length * 32 ≤ 140737488355328 ∧ (A = none → c = 0)) := by
  refine read_list Try.underlying26 Try.underlying79 (by kernel_rfl) (by kernel_rfl) rfl (by decide) (by kernel_rfl) (fun vs m hvl hf => ?_) h hl
  obtain ⟨v0, y0, e0, t0, l0⟩ := hf 0 _ rfl
  obtain ⟨v1, y1, e1, t1, _⟩ := hf 1 _ rfl
  obtain ⟨v2, y2, e2, t2, _⟩ := hf 2 _ rfl
  obtain ⟨s, rfl, hs⟩ := read_str t0 l0
  obtain ⟨a, rfl, ha⟩ := read_i64 t1
  obtain ⟨b, rfl, hb⟩ := read_i64 t2
  match vs, hvl with
  | [u0, u1, u2], _ =>
    simp only [List.getElem?_cons_zero, List.getElem?_cons_succ, Option.some.injEq] at e0 e1 e2
    subst e0; subst e1; subst e2
    exact ⟨⟨s, a, b⟩, rfl, hs, ha, hb⟩
theorem read_names {n : Nat} {v : Value} {y : DataW H × List MemPlace} (h : DataW.trod enc Try.prog W 0 (fun _ => true) true n 27 [v] = some y) (hl : Lite Try.prog 27 y.1) :
    ∃ (A : Option Addr) (xs : List Nam) (c : Nat), v = .slice A xs.length c ∧ Els 2 NamE W W.heap.size A xs ∧ (xs.length ≤ c ∧ xs.length * 40 ≤ 140737488355328 ∧ (A = none → c = 0)) := by
  refine read_list Try.underlying27 Try.underlying92 (by kernel_rfl) (by kernel_rfl) rfl (by decide) (by kernel_rfl) (fun vs m hvl hf => ?_) h hl
  obtain ⟨v0, y0, e0, t0, l0⟩ := hf 0 _ rfl
  obtain ⟨v1, y1, e1, t1, l1⟩ := hf 1 _ rfl
  obtain ⟨A, bs, c, rfl, hb⟩ := read_bytes t0 l0
  obtain ⟨s, rfl, hs⟩ := read_str t1 l1
  match vs, hvl with
  | [u0, u1], _ =>
    simp only [List.getElem?_cons_zero, List.getElem?_cons_succ, Option.some.injEq] at e0 e1
    subst e0; subst e1
    exact ⟨⟨bs, s⟩, A, c, rfl, hb, hs⟩
theorem read_secs {n : Nat} {v : Value} {y : DataW H × List MemPlace} (h : DataW.trod enc Try.prog W 0 (fun _ => true) true n 28 [v] = some y) (hl : Lite Try.prog 28 y.1) :
    ∃ (A : Option Addr) (xs : List Sec) (c : Nat), v = .slice A xs.length c ∧ Els 2 SecE W W.heap.size A xs ∧ (xs.length ≤ c ∧ xs.length * 40 ≤ 140737488355328 ∧ (A = none → c = 0)) := by
  refine read_list Try.underlying28 Try.underlying95 (by kernel_rfl) (by kernel_rfl) rfl (by decide) (by kernel_rfl) (fun vs m hvl hf => ?_) h hl
  obtain ⟨v0, y0, e0, t0, l0⟩ := hf 0 _ rfl
  obtain ⟨v1, y1, e1, t1, l1⟩ := hf 1 _ rfl
  obtain ⟨s, rfl, hs⟩ := read_str t0 l0
  obtain ⟨A, bs, c, rfl, hb⟩ := read_bytes t1 l1
  match vs, hvl with
  | [u0, u1], _ =>
    simp only [List.getElem?_cons_zero, List.getElem?_cons_succ, Option.some.injEq] at e0 e1
    subst e0; subst e1
    exact ⟨⟨s, bs⟩, A, c, rfl, hb, hs⟩
theorem read_pkts {n : Nat} {v : Value} {y : DataW H × List MemPlace} (h : DataW.trod enc Try.prog W 0 (fun _ => true) true n 29 [v] = some y) (hl : Lite Try.prog 29 y.1) :
    ∃ (A : Option Addr) (xs : List Pkt) (c : Nat), v = .slice A xs.length c ∧ Els 5 PktE W W.heap.size A xs ∧ (xs.length ≤ c ∧ xs.length * 64 ≤ 140737488355328 ∧ (A = none → c = 0)) := by
  refine read_list Try.underlying29 Try.underlying50 (by kernel_rfl) (by kernel_rfl) rfl (by decide) (by kernel_rfl) (fun vs m hvl hf => ?_) h hl
  obtain ⟨v0, y0, e0, t0, _⟩ := hf 0 _ rfl
  obtain ⟨v1, y1, e1, t1, _⟩ := hf 1 _ rfl
  obtain ⟨v2, y2, e2, t2, _⟩ := hf 2 _ rfl
  obtain ⟨v3, y3, e3, t3, l3⟩ := hf 3 _ rfl
  obtain ⟨v4, y4, e4, t4, l4⟩ := hf 4 _ rfl
  obtain ⟨a, rfl, ha⟩ := read_i64 t0
  obtain ⟨b, rfl, hb⟩ := read_i64 t1
  obtain ⟨c, rfl, hc⟩ := read_i64 t2
  obtain ⟨A, bs, k, rfl, hbs⟩ := read_bytes t3 l3
  obtain ⟨s, rfl, hs⟩ := read_str t4 l4
  match vs, hvl with
  | [u0, u1, u2, u3, u4], _ =>
    simp only [List.getElem?_cons_zero, List.getElem?_cons_succ, Option.some.injEq] at e0 e1 e2 e3 e4
    subst e0; subst e1; subst e2; subst e3; subst e4
    exact ⟨⟨a, b, c, bs, s⟩, A, k, rfl, hbs, hs, ha, hb, hc⟩

set_option maxRecDepth 100000 in
theorem open_cap {r : Reach} {b0 : Nat} {v : Value} {d : DataW H} {p : List MemPlace} (hv : Value.okWide Try.prog W r b0 31 v) (h : DataW.Trod enc Try.prog W 0 (fun _ => true) true 31 v d p) (hl : Lite Try.prog 31 d) :
    ∃ q c, v = capV q c ∧ CapM W W.heap.size q c := by
  obtain ⟨v0, v1, v2, v3, v4, y0, y1, y2, y3, y4, n, rfl, rfl, t0, t1, t2, t3, t4⟩ := open_agg5 Try.underlying31 (by kernel_rfl) (by kernel_rfl) hv h
  obtain ⟨s, rfl, hs⟩ := read_str t0 (lite_agg Try.underlying31 hl 0 _ _ rfl rfl)
  obtain ⟨pf, fs, cf, rfl, mf, lf⟩ := read_faces t1 (lite_agg Try.underlying31 hl 1 _ _ rfl rfl)
  obtain ⟨pn, ns, cn, rfl, mn, ln⟩ := read_names t2 (lite_agg Try.underlying31 hl 2 _ _ rfl rfl)
  obtain ⟨ps, ss, cs, rfl, ms, ls⟩ := read_secs t3 (lite_agg Try.underlying31 hl 3 _ _ rfl rfl)
  obtain ⟨pp, qs, cp, rfl, mp, lp⟩ := read_pkts t4 (lite_agg Try.underlying31 hl 4 _ _ rfl rfl)
  exact ⟨⟨pf, cf, pn, cn, ps, cs, pp, cp⟩, ⟨s, fs, ns, ss, qs⟩, rfl, hs, mf, mn, ms, mp, lf, ln, ls, lp⟩
theorem lite_of {ts : List TypeId} {ds : List (DataW H)} (h : (DataW.weightsEach Try.prog ts ds).all (fun x => decide (x ≤ reachBytes)) = true) (j : Nat) {t : TypeId} {d : DataW H} (ht : ts[j]? = some t) (hd : ds[j]? = some d) : Lite Try.prog t d := by
  intro x hx
  have h2 : x ≤ reachBytes := of_decide_eq_true (List.all_eq_true.1 h x (mem_weightsEach hx ht hd))
  exact h2
end
end Go.Proofs.Ytghdilmlfficlaa
