/- Opening tokens among the arguments of the law. -/
import Derived.Test.YtnaopgajinbnmaaGreatDoorRows
import Derived.Test.YtnaopgajinbnmaaGreatDoorWritten
import Derived.Deep.Slices
import Derived.Deep.Fields
import Derived.ChangeSame
import Derived.Lib.SmallJoins
import Derived.SizedLaws
namespace Go.Proofs.YtnaopgajinbnmaaGreatDoor
open Go.Joins Go.ChangeShapes Go.WideShapes Go.ChangeAt Go.WideMaps Go.WideElems Go.RowKit Go.Deep

section
variable {H : Type} {enc : TypeId × Value → H} {P : Program} {w : World} {base : Nat} {spare : Nat → Bool} {held : Bool}
/-- A slice of structs of one-cell fields, opened row by row. -/
theorem open_slice_fields {t e : TypeId} {fs : Array Field} {fuel : Nat} {cs : List Value} {x : DataW H × List MemPlace} (ht : P.underlying t = some (.slice e)) (he : P.underlying e = some (.struct fs))
    (hone : oneCellFields P fs = true) (hC : P.cellsOf e = fs.size) (h : DataW.trod enc P w base spare held fuel t cs = some x) :
    (cs = [.slice none 0 0] ∧ x = (.nil, [])) ∨
    ∃ (a : Addr) (len cap m : Nat) (D : Nat → DataW H) (Pl : Nat → List MemPlace), cs = [.slice (some a) len cap] ∧ len ≤ cap ∧ m = (if spare a.block then cap else len) ∧
      x = (.slice ((List.range len).map D) ((List.range (m - len)).map fun j => D (len + j)), MemPlace.row a (m * fs.size) ++ (List.range m).flatMap Pl) ∧
      ∀ i, i < m → ∃ (ys : List (DataW H × List MemPlace)) (n : Nat), D i = .agg (ys.map (·.1)) ∧ ys.length = fs.size ∧
        ∀ (j : Nat) (f : Field), fs[j]? = some f → ∃ (v : Value) (y : DataW H × List MemPlace), w.cell? (a.add (i * fs.size + j)) = some v ∧ ys[j]? = some y ∧ DataW.trod enc P w base spare held n f.type [v] = some y := by
  rcases open_slice ht h with h0 | ⟨a, len, cap, m, n, D, Pl, hcs, _, hl, _, hmm, hx, hi⟩
  · exact .inl h0
  · refine .inr ⟨a, len, cap, m, D, Pl, hcs, hl, hmm, by rw [hC] at hx; exact hx, fun i him => ?_⟩
    obtain ⟨cs', hc, ht'⟩ := hi i him
    rw [hC] at hc
    obtain ⟨ys, n', _, hy, hlen, hyl, hf⟩ := DataW.trod_struct he ht'
    obtain ⟨_, hcl, hat⟩ := World.cells?_some hc
    simp only [Prod.mk.injEq] at hy
    refine ⟨ys, n', hy.1, hyl, fun j f hj => ?_⟩
    obtain ⟨ho, hk⟩ := hone_of hone j f hj
    have hjl : j < fs.size := (Array.getElem?_eq_some_iff.1 hj).1
    have hcell := hat j hjl
    have hv : cs'[j]? = some (cs'[j]'(by omega)) := List.getElem?_eq_getElem (by omega)
    have h1 := hf j f hj
    rw [ho, hk] at h1
    have hone' : (cs'.drop j).take 1 = [cs'[j]'(by omega)] := by
      rw [List.drop_eq_getElem_cons (by omega)]
      rfl
    rw [hone'] at h1
    have hys : ys[j]? = some (ys[j]'(by omega)) := List.getElem?_eq_getElem (by omega)
    refine ⟨_, _, ?_, hys, h1.trans hys⟩
    rw [← Go.Deep.add_add, hcell, hv]
end

section
variable {H : Type} {enc : TypeId × Value → H} {W : World}
theorem block_of_cell {W : World} {b o : Nat} {v : Value} (h : W.cell? ⟨b, o, none⟩ = some v) : b < W.heap.size := by
  rcases Nat.lt_or_ge b W.heap.size with h0 | h0
  · exact h0
  · simp [World.cell?, Array.getElem?_eq_none h0] at h
theorem read_str {n : Nat} {v : Value} {y : DataW H × List MemPlace} (h : DataW.trod enc Tryz.prog W 0 (fun _ => true) true n 9 [v] = some y) :
    ∃ s : ByteArray, v = .string s ∧ y.1 = .lit (.string s.data.toList) := by
  obtain ⟨s, hc, rfl, _⟩ := DataW.trod_string Tryz.underlying9 h
  exact ⟨s, by simpa using hc, rfl⟩
theorem read_i64 {n : Nat} {v : Value} {y : DataW H × List MemPlace} (h : DataW.trod enc Tryz.prog W 0 (fun _ => true) true n 3 [v] = some y) :
    ∃ z : Int, v = .int .i64 z ∧ -9223372036854775808 ≤ z ∧ z ≤ 9223372036854775807 := by
  obtain ⟨z, hc, rfl, wz⟩ := DataW.trod_int Tryz.underlying3 h
  exact ⟨z, by simpa using hc, by simpa [Lit.wf, IntKind.min, IntKind.max, IntKind.signed, IntKind.bits] using wz⟩

theorem bulk_tok (d0 d1 d2 : DataW H) (s : List UInt8) : s.length + 1 ≤ Rows.uptoBulk (.agg [d0, d1, d2, .lit (.string s)] : DataW H) := by
  simp only [Rows.uptoBulk, Rows.uptoBulkAll]; omega
theorem bulk_list (D : Nat → DataW H) (f : Nat → ATk) : ∀ (l : List Nat), (∀ i ∈ l, (f i).s.size + 1 ≤ Rows.uptoBulk (D i)) → sumS (l.map f) + l.length ≤ Rows.uptoBulkAll (l.map D)
  | [], _ => by simp [sumS, Rows.uptoBulkAll]
  | i :: l, h => by
    have h1 := bulk_list D f l fun j hj => h j (by simp [hj])
    have h2 := h i (by simp)
    rw [List.map_cons, List.map_cons, sumS_cons, List.length_cons, Rows.uptoBulkAll]
    omega

set_option maxRecDepth 100000 in
theorem open_toks {r : Reach} {b0 : Nat} {v : Value} {d : DataW H} {p : List MemPlace} (hv : Value.okWide Tryz.prog W r b0 22 v) (h : DataW.Trod enc Tryz.prog W 0 (fun _ => true) true 22 v d p) (hb : Rows.uptoBulk d ≤ 1048576) :
    ∃ (A : Option Addr) (ts : List ATk) (c : Nat), v = .slice A ts.length c ∧ ATokAt W A ts ∧ (∀ t ∈ ts, t.ok) ∧ ts.length ≤ 1048576 ∧ sumS ts ≤ 1048576 := by
  obtain ⟨a0, len0, cap0, rfl⟩ := okWide_slice Tryz.underlying22 hv
  obtain ⟨fuel, hf⟩ := h
  rcases open_slice_fields Tryz.underlying22 Tryz.underlying32 (by kernel_rfl) (by kernel_rfl) hf with ⟨hcs, _⟩ | ⟨a, len, cap, m, D, Pl, hcs, hle, hm, hx, hi⟩
  · have e : (Value.slice a0 len0 cap0) = .slice none 0 0 := by simpa [Value.cells] using hcs
    exact ⟨none, [], 0, e, (fun h => absurd h (by simp)), (fun t ht => by cases ht), by simp, by simp [sumS]⟩
  · have e : (Value.slice a0 len0 cap0) = .slice (some a) len cap := by simpa [Value.cells] using hcs
    have hmc : m = cap := by simpa using hm
    subst hmc
    have hd : d = .slice ((List.range len).map D) ((List.range (m - len)).map fun j => D (len + j)) := congrArg Prod.fst hx
    subst hd
    have hrow : ∀ i, i < len → ∃ x : ATk, W.cell? (a.add (i * 4 + 0)) = some (.int .i64 x.k) ∧ W.cell? (a.add (i * 4 + 1)) = some (.int .i64 x.n) ∧ W.cell? (a.add (i * 4 + 2)) = some (.int .i64 x.a) ∧ W.cell? (a.add (i * 4 + 3)) = some (.string x.s) ∧ x.ok ∧ x.s.size + 1 ≤ Rows.uptoBulk (D i) := by
      intro i hil
      obtain ⟨ys, n', hD, hyl, hfi⟩ := hi i (by omega)
      obtain ⟨v0, y0, e0, q0, t0⟩ := hfi 0 _ rfl
      obtain ⟨v1, y1, e1, q1, t1⟩ := hfi 1 _ rfl
      obtain ⟨v2, y2, e2, q2, t2⟩ := hfi 2 _ rfl
      obtain ⟨v3, y3, e3, q3, t3⟩ := hfi 3 _ rfl
      obtain ⟨k, rfl, hk⟩ := read_i64 t0
      obtain ⟨z, rfl, hz⟩ := read_i64 t1
      obtain ⟨x, rfl, hx⟩ := read_i64 t2
      obtain ⟨s, rfl, hs⟩ := read_str t3
      match ys, hyl with
      | [u0, u1, u2, u3], _ =>
        simp only [List.getElem?_cons_zero, List.getElem?_cons_succ, Option.some.injEq] at q0 q1 q2 q3
        subst q0; subst q1; subst q2; subst q3
        refine ⟨⟨k, z, x, s⟩, e0, e1, e2, e3, hz, ?_⟩
        rw [hD]
        simp only [List.map_cons, List.map_nil]
        rw [hs]
        have := bulk_tok u0.1 u1.1 u2.1 s.data.toList
        have e : s.data.toList.length = s.size := by simp
        rw [e] at this
        exact this
    obtain ⟨f, hfx⟩ : ∃ f : Nat → ATk, ∀ i, i < len → W.cell? (a.add (i * 4 + 0)) = some (.int .i64 (f i).k) ∧ W.cell? (a.add (i * 4 + 1)) = some (.int .i64 (f i).n) ∧ W.cell? (a.add (i * 4 + 2)) = some (.int .i64 (f i).a) ∧ W.cell? (a.add (i * 4 + 3)) = some (.string (f i).s) ∧ (f i).ok ∧ (f i).s.size + 1 ≤ Rows.uptoBulk (D i) := by
      refine ⟨fun i => if h : i < len then Classical.choose (hrow i h) else ⟨0, 0, 0, ⟨#[]⟩⟩, fun i hil => ?_⟩
      simp only [hil, dif_pos]
      exact Classical.choose_spec (hrow i hil)
    have hbl := bulk_list D f (List.range len) fun i hi => (hfx i (List.mem_range.1 hi)).2.2.2.2.2
    simp only [Rows.uptoBulk] at hb
    rw [List.length_range] at hbl
    refine ⟨some a, (List.range len).map f, m, by rw [e]; simp, fun hn => ?_, fun t ht => ?_, by simp; omega, by omega⟩
    · simp only [List.length_map, List.length_range] at hn
      obtain ⟨b, o, spot⟩ := a
      have h0 := (hfx 0 hn).1
      have hspot : spot = none := by simpa [Addr.add] using World.cell?_spot h0
      subst hspot
      rw [Go.WideShapes.add_plain] at h0
      refine ⟨b, o, rfl, block_of_cell h0, fun i hi => ?_⟩
      simp only [List.length_map, List.length_range] at hi
      have h1 := hfx i hi
      simp only [Go.WideShapes.add_plain] at h1
      rw [List.getElem_map, List.getElem_range]
      refine ⟨?_, ?_, ?_, ?_⟩
      · have := h1.1; rwa [Nat.add_zero] at this
      · rw [Nat.add_assoc]; exact h1.2.1
      · rw [Nat.add_assoc]; exact h1.2.2.1
      · rw [Nat.add_assoc]; exact h1.2.2.2.1
    · obtain ⟨i, hi, rfl⟩ := List.mem_map.1 ht
      exact (hfx i (List.mem_range.1 hi)).2.2.2.2.1
end
end Go.Proofs.YtnaopgajinbnmaaGreatDoor
