/- The reference's Copy: its appends' runs, and what a round leaves. -/
import Derived.Test.YtlimkckomdipkaaCopyM
import Derived.Test.YtlimkckomdipkaaC43
namespace Go.Proofs.Ytlimkckomdipkaa
open Go.RowKit

theorem run_app_nil22 (w : World) : (Builtin.append_ #[22, 22] 22 #[.slice none 0 0, .slice none 0 0]).run Try.prog w = .ok (.slice none 0 0) w := by
  simp [Builtin.append_, go_sem]
/-- 'append([]T(nil), l...)'. -/
theorem run_app_rows {α : Type} {E : α → World → Nat → List Value → Prop} (w : World) (base T t K bytes : Nat) (z : Value) (hnil : ∀ w : World, (Builtin.append_ #[t, t] t #[.slice none 0 0, .slice none 0 0]).run Try.prog w = .ok (.slice none 0 0) w) (ht : Try.prog.underlying t = some (.slice T)) (hinf : (Try.prog.info? T).map (fun i => (i.zero, i.size, i.bytes)) = some (some z, K, bytes)) (hzs : z.cells.size = K) (hk : 0 < K)
    (hE : ∀ x w B vs, E x w B vs → ∀ u ∈ vs, u.oneCell' = true) {A : Option Addr} {c : Nat} {xs : List α} (hm : Els K E w w.heap.size A xs) (hb : xs.length ≤ c ∧ xs.length * bytes ≤ 140737488355328 ∧ (A = none → c = 0)) (hy : 0 < bytes) (hbase : base ≤ w.heap.size) :
    ∃ A' c' w' rows, (Builtin.append_ #[t, t] t #[.slice none 0 0, .slice A xs.length c]).run Try.prog w = .ok (.slice A' xs.length c') w' ∧ w'.ownsRow base T K (.slice A' xs.length c') xs.length (rows : List (List Value)).flatten ∧ rows.length = xs.length ∧
      (∀ i (hx : i < xs.length) (hr : i < rows.length), rows[i].length = K ∧ E xs[i] w w.heap.size rows[i]) ∧ w.grownBy w' none := by
  cases A with
  | none =>
    have hc0 := hb.2.2 rfl
    have hxs : xs = [] := List.length_eq_zero_iff.1 (by omega)
    subst hxs
    subst hc0
    exact ⟨none, 0, w, [], hnil w, World.ownsRow_nil _ _ _ _, rfl, by simp, World.grownBy.refl _ _⟩
  | some a =>
    obtain ⟨rows, hl, he, hc⟩ := els_rows hm
    have hflat : ∀ (rs : List (List Value)), (∀ (q : Nat) (hq : q < rs.length), rs[q].length = K) → rs.flatten.length = rs.length * K := by
      intro rs
      induction rs with
      | nil => intro _; simp
      | cons r rs ih =>
        intro hr
        rw [List.flatten_cons, List.length_append, ih (fun q hq => hr (q + 1) (by simpa using hq)), List.length_cons, Nat.succ_mul]
        have : r.length = K := hr 0 (by simp)
        omega
    have h63 : xs.length ≤ maxLen := by
      have : xs.length * 1 ≤ xs.length * bytes := Nat.mul_le_mul_left _ hy
      unfold maxLen; omega
    obtain ⟨v', w', hrun, hown, hgr⟩ := run_own_rows w base T t K bytes z ht hinf hzs hk (.slice none 0 0) (World.ownsRow_nil _ _ _ _) a xs.length c rows.flatten
      (by rw [hflat rows (fun q hq => (he q (by rw [← hl]; exact hq) hq).1), hl]) (hc a rfl) (fun u hu => by
        obtain ⟨r, hr, hu⟩ := List.mem_flatten.1 hu
        obtain ⟨i, hi, rfl⟩ := List.mem_iff_getElem.1 hr
        exact hE _ _ _ _ (he i (by rw [← hl]; exact hi) hi).2 u hu) h63 hb.2.1 hbase
    obtain ⟨A2, c2, hv, _, _⟩ := own_form2 hown
    subst hv
    exact ⟨A2, c2, w', rows, hrun, hown, hl, he, hgr⟩

/-- One struct more at the end of a row of the call's own. -/
theorem OwnM.snoc {α : Type} {κ : Kind α} {w0 w w7 : World} {base : Nat} {v v7 : Value} {xs : List α} {rows : List (List Value)} {x : α} {r : List Value} (hκ : κ.Right) (h : OwnM κ w0 w base v xs rows xs.length)
    (ho : w7.ownsRow base κ.T κ.K v7 (xs.length + 1) (rows.flatten ++ r)) (hg : w.grownBy w7 v.ownBlock) (hE : KO κ base x w r) : OwnM κ w0 w7 base v7 (xs ++ [x]) (rows ++ [r]) (xs ++ [x]).length := by
  have hoth := other_own h.own (fun e => hκ.t5 e.symm)
  have hk : ∀ y q, KO κ base y w q → KO κ base y w7 q := fun y q ⟨A, c, e, h1, r⟩ => ⟨A, c, e, own5_keep h1 hg hoth, r⟩
  refine ⟨by simpa using ho, by simp [h.len], fun j h1' h2' _ => ?_, fun j h1' _ hj => absurd h1' (by omega)⟩
  by_cases hj : j < xs.length
  · have hjr : j < rows.length := by rw [h.len]; exact hj
    rw [List.getElem_append_left hj, List.getElem_append_left hjr]
    exact hk _ _ (h.done j hj hjr hj)
  · have hje : j = xs.length := by rw [List.length_append] at h1'; simp at h1'; omega
    subst hje
    rw [List.getElem_append_right (Nat.le_refl _), List.getElem_append_right (by rw [h.len]; exact Nat.le_refl _)]
    simp only [h.len, Nat.sub_self, List.getElem_cons_zero]
    exact hk _ _ hE
theorem OwnM.nil {α : Type} (κ : Kind α) (w0 w : World) (base : Nat) : OwnM κ w0 w base (.slice none 0 0) ([] : List α) [] 0 :=
  ⟨World.ownsRow_nil w base κ.T κ.K, rfl, by simp, by simp⟩

/-- w' is w as far as blocks go that hold neither captures nor t. -/
def Alike2 (t : Nat) (w w' : World) : Prop := w.heap.size ≤ w'.heap.size ∧ ∀ g s cs, s ≠ 27 → s ≠ t → Blk w g s cs → Blk w' g s cs
theorem Alike2.refl (t : Nat) (w : World) : Alike2 t w w := ⟨Nat.le_refl _, fun _ _ _ _ _ h => h⟩
theorem own_alike2 {t : Nat} {w w' : World} {base e size n : Nat} {v : Value} {xs : List Value} (h : w.ownsRow base e size v n xs) (ha : Alike2 t w w') (h27 : e ≠ 27) (he : e ≠ t) : w'.ownsRow base e size v n xs := by
  obtain ⟨h1, h | ⟨g, cap, cur, e1, e2, e3, e4⟩⟩ := h
  · exact ⟨h1, Or.inl h⟩
  · exact ⟨h1, Or.inr ⟨g, cap, cur, e1, e2, ha.2 g e cur h27 he e3, e4⟩⟩
theorem facL_alike2 {t : Nat} {w w' : World} {b : Nat} {v : Value} {xs : List Fac} {rows : List (List Value)} (h : OwnL w b 54 3 FacE v xs rows) (ha : Alike2 t w w') (ht : t ≠ 54) : OwnL w' b 54 3 FacE v xs rows :=
  ⟨own_alike2 h.own ha (by decide) (fun e => ht e.symm), h.len, fun i h1 h2 => h.each i h1 h2, h.one⟩
theorem OwnM.alike2 {α : Type} {κ : Kind α} {t : Nat} {w0 w w' : World} {base k : Nat} {v : Value} {xs : List α} {rows : List (List Value)} (h : OwnM κ w0 w base v xs rows k) (ha : Alike2 t w w') (h5 : t ≠ 5) (hT : t ≠ κ.T) (h27 : κ.T ≠ 27) : OwnM κ w0 w' base v xs rows k :=
  ⟨own_alike2 h.own ha h27 (fun e => hT e.symm), h.len, fun i h1 h2 hk => by
    obtain ⟨A, c, e, ho, r⟩ := h.done i h1 h2 hk
    exact ⟨A, c, e, own_alike2 ho ha (by decide) (fun e => h5 e.symm), r⟩, h.rest⟩

/-- A round of the reference's copying, behind the copy of the bytes. -/
theorem rcopy_step {α : Type} {κ : Kind α} (hκ : κ.Right) {t bytes : Nat} {z : Value} (ht : Try.prog.underlying t = some (.slice κ.T)) (hinf : (Try.prog.info? κ.T).map (fun i => (i.zero, i.size, i.bytes)) = some (some z, κ.K, bytes)) (hzs : z.cells.size = κ.K) (h27 : κ.T ≠ 27) (hy : 0 < bytes)
    {w V wr w5 : World} {B G f L c5 : Nat} {v : Value} {xs : List α} {rows : List (List Value)} {x : α} {OC ZC CC : Array Value} {A5 : Option Addr}
    (hL : (κ.dat x).length = L) (HL : OwnM κ w wr (B + 2) v xs rows xs.length) (HO : Blk wr G 27 OC) (HZ : Blk wr (B + 1) 27 ZC) (HW : Blk wr B 27 CC ∧ Below B w wr) (HA : Alike2 κ.T V wr) (hG : B + 2 ≤ G)
    (ho5 : w5.ownsRow (B + 2) 5 1 (.slice A5 L c5) L ((κ.dat x).map u8)) (hg5 : wr.grownBy w5 none) (hlt : ∀ y ∈ κ.dat x, y < 256) (hcap : (κ.dat x).length ≤ 140737488355328) (hok : κ.ok x) (hx : (xs.length + 1) * bytes ≤ 140737488355328) :
    ∃ A7 n7 c7 w7, (Builtin.append_ #[t, t] t #[v, .slice (some ⟨w5.heap.size, 0, none⟩) 1 1]).run Try.prog (w5.alloc (.cells (κ.row x (.slice A5 L c5)).toArray κ.T)) = .ok (.slice A7 n7 c7) w7 ∧
      (Blk w5 G 27 OC ∧ Blk w5 B 27 CC ∧ Below B wr w5) ∧ (Blk (w5.alloc (.cells (κ.row x (.slice A5 L c5)).toArray κ.T)) G 27 OC ∧ Blk (w5.alloc (.cells (κ.row x (.slice A5 L c5)).toArray κ.T)) B 27 CC ∧ Below B wr (w5.alloc (.cells (κ.row x (.slice A5 L c5)).toArray κ.T))) ∧
      (Blk w7 G 27 OC ∧ Blk w7 B 27 CC ∧ Below B wr w7) ∧
      (Blk (w7.setCell ⟨G, f, none⟩ (.slice A7 n7 c7)) B 27 CC ∧ Below B wr (w7.setCell ⟨G, f, none⟩ (.slice A7 n7 c7))) ∧
      ∃ rows', OwnM κ w (w7.setCell ⟨G, f, none⟩ (.slice A7 n7 c7)) (B + 2) (.slice A7 n7 c7) (xs ++ [x]) rows' (xs ++ [x]).length ∧ Blk (w7.setCell ⟨G, f, none⟩ (.slice A7 n7 c7)) G 27 (OC.setIfInBounds f (.slice A7 n7 c7)) ∧
        Blk (w7.setCell ⟨G, f, none⟩ (.slice A7 n7 c7)) (B + 1) 27 ZC ∧ Below B w (w7.setCell ⟨G, f, none⟩ (.slice A7 n7 c7)) ∧ Alike2 κ.T V (w7.setCell ⟨G, f, none⟩ (.slice A7 n7 c7)) := by
  subst hL
  have hb5 : Below wr.heap.size wr w5 := ⟨hg5.os, hg5.tape, hg5.output, hg5.size, fun k hk => hg5.block k hk (by simp)⟩
  have hB1 := HW.1.lt
  have hB2 := HZ.lt
  have HL5 := HL.below hb5
  have hsz := hg5.size
  have h63 : xs.length + 1 ≤ maxLen := by
    have : (xs.length + 1) * 1 ≤ (xs.length + 1) * bytes := Nat.mul_le_mul_left _ hy
    unfold maxLen; omega
  have hK0 : 0 < κ.K := Nat.lt_of_le_of_lt (Nat.zero_le _) hκ.lt
  obtain ⟨v7, w7, hrun, ho7, hg7, _⟩ := run_own_struct w5 (B + 2) κ.T κ.K bytes t z ht hinf hzs hK0 v _ _ HL5.own (κ.row x (.slice A5 (κ.dat x).length c5)) (hκ.len _ _) (hκ.one _ _ _ _) h63 hx (by omega)
  obtain ⟨A7, n7, c7, rfl⟩ : ∃ A n c, v7 = .slice A n c := by
    rcases ho7.2 with ⟨e, _⟩ | ⟨g, cap, _, e, _⟩
    · exact ⟨_, _, _, e⟩
    · exact ⟨_, _, _, e⟩
  refine ⟨A7, n7, c7, w7, hrun, ⟨HO.below hb5 HO.lt, HW.1.below hb5 hB1, hb5.mono (Nat.le_of_lt hB1)⟩, ⟨(HO.below hb5 HO.lt).alloc _, (HW.1.below hb5 hB1).alloc _, (hb5.mono (Nat.le_of_lt hB1)).alloc (by omega) _⟩, ?_⟩
  have hb6 := hb5.alloc hsz (.cells (κ.row x (.slice A5 (κ.dat x).length c5)).toArray κ.T)
  have HL6 := HL.below hb6
  have hne : ∀ (k s : Nat) (cs : Array Value), Blk wr k s cs → s ≠ κ.T → Blk w7 k s cs := fun k s cs h hk =>
    (h.below hb6 h.lt).grown hg7 (fun e => own_blk_ne HL.own h (fun e => hk e.symm) e.symm)
  have h7 : Below B wr w7 := (hb6.mono (by omega)).grown hg7 (by rw [alloc_size]; omega) (fun k hk => by have := (HL.own.lt _ hk).1; omega)
  have hO7 := hne G 27 _ HO (fun e => h27 e.symm)
  have hC7 := hne B 27 _ HW.1 (fun e => h27 e.symm)
  have hZ7 := hne (B + 1) 27 _ HZ (fun e => h27 e.symm)
  have hGB : B ≠ (⟨G, f, none⟩ : Addr).block := by show B ≠ G; omega
  have hGZ : B + 1 ≠ (⟨G, f, none⟩ : Addr).block := by show B + 1 ≠ G; omega
  have hset : Below B wr (w7.setCell ⟨G, f, none⟩ (.slice A7 n7 c7)) := h7.setCell (p := ⟨G, f, none⟩) (by show B ≤ G; omega) _
  refine ⟨⟨hO7, hC7, h7⟩, ⟨hC7.far hGB _, hset⟩, ?_⟩
  have HL7 : OwnM κ w w7 (B + 2) (.slice A7 n7 c7) (xs ++ [x]) (rows ++ [κ.row x (.slice A5 (κ.dat x).length c5)]) (xs ++ [x]).length :=
    OwnM.snoc hκ HL6 ho7 hg7 ⟨A5, c5, rfl, ho5.alloc _, hlt, hcap, hok⟩
  have ha : AlikeT 27 w7 (w7.setCell ⟨G, f, none⟩ (.slice A7 n7 c7)) := AlikeT.set hO7 _
  refine ⟨_, HL7.alike ha (by decide) (fun e => h27 e.symm), hO7.set_ f _, hZ7.far hGZ _, HW.2.trans hset, Nat.le_trans HA.1 (Nat.le_trans (Nat.le_trans hsz (by
    have := hg7.size; rw [alloc_size] at this; omega)) ha.1), fun g s cs hs1 hs2 hb => ha.2 g s cs hs1 (hne g s cs (HA.2 g s cs hs1 hs2 hb) hs2)⟩
end Go.Proofs.Ytlimkckomdipkaa
