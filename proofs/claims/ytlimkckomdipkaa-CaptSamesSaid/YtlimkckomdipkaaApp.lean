/- Appending zeros, a text or bytes to bytes that the call owns; what a chain of such appends leaves. -/
import Derived.Test.YtlimkckomdipkaaText
import Derived.Lib.AppendZerosOnto
import Derived.Lib.AppendStr
import Derived.Maps.AppendAt
import Derived.OwnWalk
import Derived.ChangeSame
import Derived.OpenShut
namespace Go.Proofs.Ytlimkckomdipkaa
open Go.RowKit

theorem info5 : (Try.prog.info? 5).map (fun i => (i.zero, i.size, i.bytes)) = some (some (.int .u8 0), 1, 1) := by kernel_rfl

theorem zeroCells_u8 (n : Nat) : Builtin.zeroCells (Value.int IntKind.u8 0).cells n = ((List.replicate n 0).map u8).toArray := by
  apply Array.ext'
  simp only [Builtin.zeroCells, Value.cells, List.map_replicate]
  rw [Array.toList_map, Array.toList_range]
  simp only [List.size_toArray, List.length_singleton, Nat.mul_one]
  apply List.ext_getElem
  · simp
  · intro i h1 h2
    simp [Nat.mod_one, u8]

theorem u8_one (bs : List Nat) : ∀ v ∈ bs.map u8, v.oneCell' = true := by intro v hv; obtain ⟨x, _, rfl⟩ := List.mem_map.1 hv; rfl

/-- The row of v' is that of v, or new since w. -/
def Ext (w : World) (v v' : Value) : Prop := v'.ownBlock = v.ownBlock ∨ ∃ g, v'.ownBlock = some g ∧ w.heap.size ≤ g
/-- v' holds what v held, and the new bytes behind it; nothing has turned but v's own row. -/
structure App (w : World) (base : Nat) (v : Value) (bs new : List Nat) (v' : Value) (w' : World) : Prop where
  own : w'.ownsRow base 5 1 v' (bs ++ new).length ((bs ++ new).map u8)
  grown : w.grownBy w' v.ownBlock
  ext : Ext w v v'
theorem App.trans {w w1 w2 : World} {base : Nat} {v v1 v2 : Value} {bs n1 n2 : List Nat} (h1 : App w base v bs n1 v1 w1) (h2 : App w1 base v1 (bs ++ n1) n2 v2 w2) : App w base v bs (n1 ++ n2) v2 w2 := by
  have hs := h1.grown.size
  refine ⟨by rw [← List.append_assoc]; exact h2.own, ⟨h2.grown.os.trans h1.grown.os, h2.grown.tape.trans h1.grown.tape, h2.grown.output.trans h1.grown.output, Nat.le_trans hs h2.grown.size, fun k hk hne => ?_⟩, ?_⟩
  · refine (h2.grown.block k (by omega) ?_).trans (h1.grown.block k hk hne)
    rcases h1.ext with e | ⟨g, e, hg⟩
    · rw [e]; exact hne
    · rw [e]; intro h; injection h with h; omega
  · rcases h2.ext with e | ⟨g, e, hg⟩
    · rcases h1.ext with e1 | ⟨g, e1, hg⟩
      · exact .inl (e.trans e1)
      · exact .inr ⟨g, e.trans e1, hg⟩
    · exact .inr ⟨g, e, by omega⟩
theorem App.below {w w' a : World} {B base : Nat} {v v' : Value} {bs new : List Nat} (h : App w base v bs new v' w') (hb : Below B a w) (hB : B ≤ w.heap.size) (hv : ∀ g, v.ownBlock = some g → B ≤ g) : Below B a w' :=
  hb.grown h.grown hB hv
/-- Worlds that are one but for new blocks, ahead of an append. -/
theorem App.pre {w0 w w' : World} {base : Nat} {v v' : Value} {bs new : List Nat} (hg : w0.grownBy w none) (h : App w base v bs new v' w') : App w0 base v bs new v' w' := by
  refine ⟨h.own, ⟨h.grown.os.trans hg.os, h.grown.tape.trans hg.tape, h.grown.output.trans hg.output, Nat.le_trans hg.size h.grown.size, fun k hk hne => ?_⟩, ?_⟩
  · exact (h.grown.block k (Nat.lt_of_lt_of_le hk hg.size) hne).trans (hg.block k hk (by simp))
  · rcases h.ext with e | ⟨g, e, hg'⟩
    · exact .inl e
    · exact .inr ⟨g, e, Nat.le_trans hg.size hg'⟩
theorem grown_of_below {w w' : World} (h : Below w.heap.size w w') : w.grownBy w' none := ⟨h.os, h.tape, h.output, h.size, fun k hk _ => h.block k hk⟩

theorem grown_row (w : World) (base n k old : Nat) (xs news : List Value) (hxl : xs.length = n) (hnl : news.length = k) (h63 : n + k ≤ maxLen) (hbase : base ≤ w.heap.size) (row : Option Nat) :
    (w.drew.alloc (.cells (xs.toArray ++ news.toArray ++ Builtin.zeroCells (Value.int .u8 0).cells (grownCap w (n + k) old 5 - (n + k))) 5)).ownsRow base 5 1 (.slice (some ⟨w.heap.size, 0, none⟩) (n + k) (grownCap w (n + k) old 5)) (n + k) (xs ++ news) ∧
    w.grownBy (w.drew.alloc (.cells (xs.toArray ++ news.toArray ++ Builtin.zeroCells (Value.int .u8 0).cells (grownCap w (n + k) old 5 - (n + k))) 5)) row := by
  have hge := grownCap_ge w (n + k) old 5
  have hcm : grownCap w (n + k) old 5 ≤ maxLen := grownCap_le_maxLen w (n + k) old 5 h63
  have hlen : (xs ++ news).length = (n + k) * 1 := by rw [List.length_append, hxl, hnl, Nat.mul_one]
  refine ⟨⟨hlen, .inr ⟨w.heap.size, _, _, rfl, hbase, heap_alloc_new w.drew _, hge, hcm, ?_, ?_⟩⟩, ⟨rfl, rfl, rfl, by simp, fun q hk _ => heap_alloc_old w.drew _ hk⟩⟩
  · have hz1 : (Value.int IntKind.u8 0).cells.size = 1 := rfl
    simp only [Array.size_append, List.size_toArray, size_zeroCells, hz1, hxl, hnl]
    omega
  · simp only [Array.toList_append, List.append_assoc]
    rw [← List.append_assoc, ← hlen]
    exact List.take_left

/-- 'append(v, make([]byte, k)...)'. -/
theorem run_own_zeros (w : World) (base : Nat) (v : Value) (bs : List Nat) (hown : w.ownsRow base 5 1 v bs.length (bs.map u8)) (k : Nat) (hk : k ≤ 1000) (hl : bs.length ≤ 1000000000) (hbase : base ≤ w.heap.size) :
    ∃ v' w', (Builtin.append_ #[30, 3] 30 #[v, .int .i64 k]).run Try.prog w = .ok v' w' ∧ App w base v bs (List.replicate k 0) v' w' := by
  obtain ⟨i, hi, hz, hsize, hby⟩ := info_parts info5
  have ht := Try.underlying30
  have htn := Try.underlying3
  have hrl : ((List.replicate k 0).map u8).length = k := by simp
  have hxl : (bs.map u8).length = bs.length := by simp
  have hw : IntKind.i64.wrap (k : Int) = k := by rw [IntKind.wrap_i64]; omega
  have hneg : ¬ ((k : Int) < 0) := by omega
  have hml : bs.length + k ≤ maxLen := by unfold maxLen; omega
  have hlen : (bs ++ List.replicate k 0).length = bs.length + k := by simp
  have hmap : (bs ++ List.replicate k 0).map u8 = bs.map u8 ++ (List.replicate k 0).map u8 := by rw [List.map_append]
  have h48i : ¬ (281474976710656 < (k : Int)) := by omega
  rcases hown.2 with ⟨rfl, h0⟩ | ⟨g, cap, cur, rfl, hbg, hg, hnc, hcm, hcs, htake⟩
  · have hb0 : bs = [] := List.eq_nil_of_length_eq_zero h0
    subst hb0
    by_cases hk0 : k = 0
    · subst hk0
      refine ⟨.slice none 0 0, w, ?_, ⟨by simpa using World.ownsRow_nil w base 5 1, ⟨rfl, rfl, rfl, Nat.le_refl _, fun _ _ _ => rfl⟩, .inl rfl⟩⟩
      simp [Builtin.append_, run_underlying ht, run_underlying htn, sizeOf, typeInfo, hi, asInt, asIntOf, hby, IntKind.wrap_i64]
    · have hr := Lib.run_append_nil_zeros (P := Try.prog) w 30 3 30 5 i (.int .u8 0) .i64 .i64 ht htn hi hz k (by omega) (by omega) (by omega) (by rw [hby]; omega)
      have hgr := grown_row w base 0 k 0 [] ((List.replicate k 0).map u8) rfl hrl (by simpa using hml) hbase none
      rw [zeroCells_u8 k] at hr
      simp only [Nat.zero_add, List.nil_append, Array.empty_append] at hgr
      refine ⟨_, _, hr, ⟨?_, hgr.2, .inr ⟨w.heap.size, rfl, Nat.le_refl _⟩⟩⟩
      simp only [List.nil_append, List.length_replicate]
      exact hgr.1
  · by_cases hroom : bs.length + k ≤ cap
    · have hcs' : cur.size = cap := by simpa using hcs
      have hst := run_storeCells_at Try.prog g bs.length 5 ((List.replicate k 0).map u8) 0 cur w hg (by rw [hrl]; omega) (u8_one _)
      simp only [Nat.add_zero, hrl] at hst
      have hz' : (Builtin.zeroCells (Value.int IntKind.u8 0).cells k).toList = (List.replicate k 0).map u8 := by rw [zeroCells_u8]
      have hr : (Builtin.append_ #[30, 3] 30 #[.slice (some ⟨g, 0, none⟩) bs.length cap, .int .i64 k]).run Try.prog w = .ok (.slice (some ⟨g, 0, none⟩) (bs.length + k) cap) (w.setRow g (cur.toList.take bs.length ++ (List.replicate k 0).map u8 ++ cur.toList.drop (bs.length + k)).toArray) := by
        by_cases hk0 : k = 0
        · subst hk0
          simp only [List.replicate_zero, List.map_nil, List.append_nil, Nat.add_zero, List.take_append_drop] at hst ⊢
          simp [Builtin.append_, run_underlying ht, run_underlying htn, sizeOf, typeInfo, hi, hsize, hby, asInt, asIntOf, hnc, Addr.add_lit, hst, IntKind.wrap_i64]
        · have hns : ¬ (k = 0) := hk0
          have hst2 := hst
          simp only [List.map_replicate, List.append_assoc] at hst2
          simp [Builtin.append_, run_underlying ht, run_underlying htn, sizeOf, typeInfo, zeroValue, hi, hz, hsize, hby, asInt, asIntOf, hw, hneg, hns, h48i, hroom, Addr.add_lit, hz', hst2]
      refine ⟨_, _, hr, ⟨⟨by simp, .inr ⟨g, cap, _, by rw [hlen], hbg, setRow_heap w g cur _ 5 _ hg, by rw [hlen]; exact hroom, hcm, ?_, ?_⟩⟩, ⟨rfl, rfl, rfl, by simp, fun k _ hk => setRow_other w g k _ (fun e => hk (by simp [Value.ownBlock, e]))⟩, .inl rfl⟩⟩
      · simp only [List.size_toArray, List.length_append, List.length_take, List.length_drop, Array.length_toList, hrl]
        omega
      · have ht' : cur.toList.take bs.length = bs.map u8 := by simpa using htake
        rw [ht', hmap]
        simp only [Nat.mul_one, hlen]
        have : bs.length + k = (bs.map u8 ++ (List.replicate k 0).map u8).length := by simp
        rw [this]
        exact List.take_left
    · have holds : ∀ j u, (bs.map u8)[j]? = some u → w.cell? ((⟨g, 0, none⟩ : Addr).add j) = some u := hown.cells (g := g) rfl
      have hfo := run_firstCells_some (P := Try.prog) w.drew i.size bs.length ⟨g, 0, none⟩ bs.length cap (bs.map u8) (by rw [hsize]; simp) (by simpa using holds)
      have hr := Lib.run_append_grow_zeros (P := Try.prog) w 30 3 30 5 i (.int .u8 0) .i64 .i64 ht htn hi hz (some ⟨g, 0, none⟩) bs.length cap (bs.map u8) hfo k (by omega) (by omega) (by omega) (by omega) (by rw [hby]; omega) (by rw [hby]; exact growslice_fits (by omega) (by omega))
      have hgr := grown_row w base bs.length k cap (bs.map u8) ((List.replicate k 0).map u8) hxl hrl hml hbase (some g)
      rw [zeroCells_u8 k] at hr
      refine ⟨_, _, hr, ⟨?_, hgr.2, .inr ⟨w.heap.size, rfl, Nat.le_refl _⟩⟩⟩
      rw [hlen, hmap]
      exact hgr.1

/-- 'append(v, s...)', s a text. -/
theorem run_own_str (w : World) (base : Nat) (v : Value) (bs : List Nat) (hown : w.ownsRow base 5 1 v bs.length (bs.map u8)) (s : ByteArray) (hs : s.size ≤ 1000) (hl : bs.length ≤ 1000000000) (hbase : base ≤ w.heap.size) :
    ∃ v' w', (Builtin.append_ #[30, 9] 30 #[v, .string s]).run Try.prog w = .ok v' w' ∧ App w base v bs (strL s) v' w' := by
  obtain ⟨i, hi, hz, hsize, hby⟩ := info_parts info5
  have ht := Try.underlying30
  have hu := Try.underlying9
  have hcs1 : Lib.strCells s = (strL s).map u8 := by
    unfold Lib.strCells strL; rw [List.map_map]; rfl
  have hsl := strL_len s
  have hml : bs.length + s.size ≤ maxLen := by unfold maxLen; omega
  have hlen : (bs ++ strL s).length = bs.length + s.size := by rw [List.length_append, hsl]
  have hmap : (bs ++ strL s).map u8 = bs.map u8 ++ Lib.strCells s := by rw [List.map_append, hcs1]
  rcases hown.2 with ⟨rfl, h0⟩ | ⟨g, cap, cur, rfl, hbg, hg, hnc, hcm, hcs, htake⟩
  · obtain ⟨v', w', hr, h2, h3, _⟩ := Lib.run_append_own_string (P := Try.prog) w w.heap.size 30 9 30 5 i ht hu hi hz hsize hby (.slice none 0 0) bs.length (bs.map u8) (by rw [h0]; rw [List.eq_nil_of_length_eq_zero h0]; exact World.ownsRow_nil _ _ _ _) s hml (by omega) (Nat.le_refl _)
    have hv : v'.ownBlock = none ∨ ∃ g, v'.ownBlock = some g ∧ w.heap.size ≤ g := by
      cases hb : v'.ownBlock with
      | none => exact .inl rfl
      | some g => exact .inr ⟨g, rfl, (h2.lt g hb).1⟩
    refine ⟨v', w', hr, ⟨?_, h3, ?_⟩⟩
    · rw [hlen, hmap]
      refine ⟨h2.1, ?_⟩
      rcases h2.2 with h | ⟨g, cap, cur, e1, e2, e3⟩
      · exact .inl h
      · exact .inr ⟨g, cap, cur, e1, by omega, e3⟩
    · rcases hv with e | ⟨g, e, hg⟩
      · exact .inl e
      · exact .inr ⟨g, e, hg⟩
  · by_cases hroom : bs.length + s.size ≤ cap
    · have hcs' : cur.size = cap := by simpa using hcs
      have hr := Lib.run_append_room_string (P := Try.prog) w 30 9 30 5 i ht hu hi hsize g bs.length cap cur hg s hroom (by omega)
      refine ⟨_, _, hr, ⟨⟨by simp, .inr ⟨g, cap, _, by rw [hlen], hbg, setRow_heap w g cur _ 5 _ hg, by rw [hlen]; exact hroom, hcm, ?_, ?_⟩⟩, ⟨rfl, rfl, rfl, by simp, fun q _ hk => setRow_other w g q _ (fun e => hk (by simp [Value.ownBlock, e]))⟩, .inl rfl⟩⟩
      · simp only [List.size_toArray, List.length_append, List.length_take, List.length_drop, Array.length_toList, Lib.strCells_length]
        omega
      · have ht' : cur.toList.take bs.length = bs.map u8 := by simpa using htake
        rw [ht', hmap]
        simp only [Nat.mul_one, hlen]
        have : bs.length + s.size = (bs.map u8 ++ Lib.strCells s).length := by rw [List.length_append, Lib.strCells_length, List.length_map]
        rw [this]
        exact List.take_left
    · have holds : ∀ j u, (bs.map u8)[j]? = some u → w.cell? ((⟨g, 0, none⟩ : Addr).add j) = some u := hown.cells (g := g) rfl
      have hr := Lib.run_append_grow_string (P := Try.prog) w 30 9 30 5 i (.int .u8 0) ht hu hi hz ⟨g, 0, none⟩ bs.length cap (bs.map u8) (by rw [hsize]; simp) holds s (by omega) (by omega) (by rw [hby]; exact growslice_fits (by omega) (by omega))
      have hgr := grown_row w base bs.length s.size cap (bs.map u8) (Lib.strCells s) (by simp) (Lib.strCells_length s) hml hbase (some g)
      refine ⟨_, _, hr, ⟨?_, hgr.2, .inr ⟨w.heap.size, rfl, Nat.le_refl _⟩⟩⟩
      rw [hlen, hmap]
      exact hgr.1

/-- 'append(v, l...)', l bytes that lie anywhere. -/
theorem run_own_byt (w : World) (base : Nat) (v : Value) (bs : List Nat) (hown : w.ownsRow base 5 1 v bs.length (bs.map u8)) {B : Nat} {A : Option Addr} {l : List Nat} (c : Nat) (hb : Byt w B A l) (hs : l.length ≤ 1000000000) (hl : bs.length ≤ 1000000000) (hbase : base ≤ w.heap.size) :
    ∃ v' w', (Builtin.append_ #[30, 30] 30 #[v, .slice A l.length c]).run Try.prog w = .ok v' w' ∧ App w base v bs l v' w' := by
  obtain ⟨i, hi, hz, hsize, hby⟩ := info_parts info5
  have ht := Try.underlying30
  have hml : bs.length + l.length ≤ maxLen := by unfold maxLen; omega
  by_cases h0 : l.length = 0
  · have hl0 : l = [] := List.eq_nil_of_length_eq_zero h0
    subst hl0
    have hnil : App w base v bs [] v w := ⟨by simpa using hown, ⟨rfl, rfl, rfl, Nat.le_refl _, fun _ _ _ => rfl⟩, .inl rfl⟩
    cases A with
    | none =>
      refine ⟨v, w, ?_, hnil⟩
      rcases hown.2 with ⟨rfl, e⟩ | ⟨g, cap, cur, rfl, _, _, hnc, _⟩
      · have hb0 : bs = [] := List.eq_nil_of_length_eq_zero e
        subst hb0
        simp [Builtin.append_, run_underlying ht, sizeOf, typeInfo, hi, Builtin.lenOf, Builtin.firstCells]
      · simp [Builtin.append_, run_underlying ht, sizeOf, typeInfo, hi, Builtin.lenOf, Builtin.firstCells, hnc, storeCells]
    | some a =>
      obtain ⟨v', w', hr, h2, h3, _, h5⟩ := run_append_own_at (P := Try.prog) w base 30 30 5 i (.int .u8 0) 1 1 ht hi hz hsize hby rfl (by decide) v bs.length (bs.map u8) hown a 0 c [] rfl (by simp) (by simp) (by simpa using hml) (by omega) hbase
      refine ⟨v', w', hr, ⟨by simpa using h2, h3, ?_⟩⟩
      rcases h5 with e | e
      · exact .inl e
      · exact .inr ⟨_, e, Nat.le_refl _⟩
  · obtain ⟨b, o, rfl, hlt, hc⟩ := hb.cells (by omega)
    obtain ⟨v', w', hr, h2, h3, _, h5⟩ := run_append_own_at (P := Try.prog) w base 30 30 5 i (.int .u8 0) 1 1 ht hi hz hsize hby rfl (by decide) v bs.length (bs.map u8) hown ⟨b, o, none⟩ l.length c (l.map u8) (by simp) (by
      intro j u hu
      have hj : j < l.length := by
        rcases Nat.lt_or_ge j l.length with h | h
        · exact h
        · rw [List.getElem?_eq_none (by simpa using h)] at hu; cases hu
      rw [Go.WideShapes.add_plain, hc j hj, ← hu, List.getElem?_map, List.getElem?_eq_getElem hj, at8_eq l _ hj]
      rfl) (u8_one l) hml (by omega) hbase
    refine ⟨v', w', hr, ⟨by rw [List.length_append, List.map_append]; exact h2, h3, ?_⟩⟩
    rcases h5 with e | e
    · exact .inl e
    · exact .inr ⟨_, e, Nat.le_refl _⟩
end Go.Proofs.Ytlimkckomdipkaa
