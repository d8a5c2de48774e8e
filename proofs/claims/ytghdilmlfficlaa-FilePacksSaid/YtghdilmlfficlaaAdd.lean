/- within, isText, IsText. -/
import Derived.Test.YtghdilmlfficlaaMem
import Derived.Laws.IdiomStrings
import Derived.Lib.AppendZerosOnto
import Derived.Lib.AppendStr
import Derived.Maps.AppendAt
import Derived.OwnWalk
import Derived.ChangeSame
import Derived.OpenShut
import Derived.StillTailTactics
namespace Go.Proofs.Ytghdilmlfficlaa
open Go.RowKit

theorem within_true {n a b : Int} (h : a ≤ n) (h2 : n ≤ b) : within n a b = true := by simp [within]; omega
theorem within_false {n a b : Int} (h : n < a ∨ b < n) : within n a b = false := by simp [within]; omega

set_option maxHeartbeats 400000 in
theorem within_any (n a b : Int) (w : World) :
    Calls Try.prog 138 #[.int .i64 n, .int .i64 a, .int .i64 b] w fun e w' => e = .returned (.bool (within n a b)) ∧ w = w' := by
  by_cases h : a ≤ n
  · go_enter Try.func138, Try.ntmps138
    go_wp2
    go_ret
    exact ⟨ret_bool (by simp [within]; omega), rfl⟩
  · go_enter Try.func138, Try.ntmps138
    go_wp2
    go_ret
    exact ⟨ret_bool (by simp [within]; omega), rfl⟩

theorem take_snoc (s : ByteArray) (k : Nat) (h : k < s.size) : s.data.toList.take (k + 1) = s.data.toList.take k ++ [s[k]] := by
  rw [List.take_succ_eq_append_getElem (by simpa using h)]; rfl
theorem chars_snoc (s : ByteArray) (k : Nat) (h : k < s.size) : (s.data.toList.take (k + 1)).all charB = ((s.data.toList.take k).all charB && charB s[k]) := by
  rw [take_snoc s k h, List.all_append]; simp
theorem chars_no (s : ByteArray) (k : Nat) (h : k < s.size) (hc : charB s[k] = false) : s.data.toList.all charB = false := by
  have h1 := chars_snoc s k h
  rw [hc, Bool.and_false] at h1
  rw [List.all_eq_false] at h1 ⊢
  obtain ⟨x, hx, hp⟩ := h1
  exact ⟨x, List.mem_of_mem_take hx, hp⟩

set_option maxHeartbeats 1000000 in
theorem rtext_any (s : ByteArray) (w : World) (hs : s.size ≤ 140737488355328) :
    Calls Try.prog 135 #[.string s] w fun e w' => e = .returned (.bool (textB s)) ∧ w = w' := by
  go_enter Try.func135, Try.ntmps135
  go_wp2
  go_loop [3] (fun i => ∃ k : Nat, k ≤ s.size ∧ i = .int .i64 k ∧ Hid ((s.data.toList.take k).all charB = true)) (fun i => s.size - (intOf i).toNat)
  case atStart => exact ⟨0, Nat.zero_le _, rfl, Lib.hid (by simp)⟩
  case round =>
    obtain ⟨k, hk, rfl, HC⟩ := hrel
    by_cases hlt : k < s.size
    · have HS := Lib.hid (chars_snoc s k hlt)
      have HN := Lib.hid (chars_no s k hlt)
      by_cases h1 : (s[k].toNat : Int) < 32
      · have HF : Hid (textB s = false) := Lib.hid (by unfold textB; rw [HN.out (by simp [charB]; omega), Bool.and_false])
        go_wp2
        go_ret
        exact ⟨ret_bool HF.out.symm, rfl⟩
      · by_cases h2 : (126 : Int) < (s[k].toNat : Int)
        · have HF : Hid (textB s = false) := Lib.hid (by unfold textB; rw [HN.out (by simp [charB]; omega), Bool.and_false])
          go_wp2
          go_ret
          exact ⟨ret_bool HF.out.symm, rfl⟩
        · have HG : Hid ((s.data.toList.take (k + 1)).all charB = true) := Lib.hid (by rw [HS.out, HC.out]; simp [charB]; omega)
          go_wp2
          go_round
          case rel => exact ⟨k + 1, by omega, by go_num, HG⟩
          case measure => simp [intOf]; omega
    · have hkn : k = s.size := by omega
      have HF : Hid (textB s = decide (s.size ≤ 200)) := Lib.hid (by
        have := HC.out
        rw [List.take_of_length_le (by simp; omega)] at this
        unfold textB; rw [this, Bool.and_true])
      go_wp2
      go_ret
      exact ⟨ret_bool (by rw [HF.out]; simp; omega), rfl⟩

/-- The bytes of a text, as numbers. -/
def strL (s : ByteArray) : List Nat := s.data.toList.map UInt8.toNat
theorem strL_len (s : ByteArray) : (strL s).length = s.size := by simp [strL]
theorem strL_lt (s : ByteArray) : ∀ x ∈ strL s, x < 256 := by
  intro x hx; obtain ⟨b, _, rfl⟩ := List.mem_map.1 hx; exact b.toNat_lt
theorem strL_at (s : ByteArray) (k : Nat) (h : k < s.size) : at8 (strL s) k = s[k].toNat := by
  rw [at8_eq _ _ (by rw [strL_len]; exact h)]; simp [strL]; rfl

theorem bytesRow_at (s : ByteArray) (cap k : Nat) (h : k < s.size) : (bytesRow s cap)[k]? = some (.int .u8 (s[k].toNat : Int)) := by
  have hk : k < s.data.size := h
  rw [bytesRow, Array.getElem?_append_left (by simpa using hk), Array.getElem?_map, Array.getElem?_eq_getElem hk]
  rfl

/-- '[]byte(s)': new bytes, in a block of their own. -/
theorem run_str_bytes (w : World) (s : ByteArray) :
    ∃ b c w1, b = w.heap.size ∧ Sem.run Try.prog (convert 9 48 (.string s)) w = .ok (.slice (some ⟨b, 0, none⟩) s.size c) w1 ∧ Below w.heap.size w w1 ∧ w1.heap.size = w.heap.size + 1 ∧ Byt w1 w1.heap.size (some ⟨b, 0, none⟩) (strL s) := by
  refine ⟨_, _, _, rfl, run_bytes_of_string w 9 48 5 s Try.underlying9 Try.underlying48 Try.underlying5, ?_, ?_, ?_⟩
  · exact ((Below.refl _ _).drew).alloc (Nat.le_refl _) _
  · show (w.heap.push _).size = _
    rw [Array.size_push]
  · refine ⟨strL_lt s, fun _ => ⟨_, 0, rfl, by show _ < (w.heap.push _).size; rw [Array.size_push]; omega, fun k hk => ?_⟩⟩
    rw [strL_len] at hk
    rw [strL_at s k hk, Nat.zero_add]
    have h := heap_alloc_new w.drew (.cells (bytesRow s (grownCap w s.size 0 5)) 5 ((bytesRow s (grownCap w s.size 0 5)).size, (bytesRow s (grownCap w s.size 0 5)).size + 1))
    show World.cell? _ ⟨w.drew.heap.size, k, none⟩ = _
    unfold World.cell?
    rw [h]
    exact bytesRow_at s _ k hk

set_option maxRecDepth 100000 in
set_option maxHeartbeats 1000000 in
theorem text_any (s : ByteArray) (w : World) :
    Calls Try.prog 137 #[.string s] w fun e w' => e = .returned (.bool (textB s)) ∧ Below w.heap.size w w' := by
  by_cases hb : s.size ≤ 200
  · obtain ⟨b, c, w1, hb0, hrun, hB, _, hm⟩ := run_str_bytes w s
    have HB := Lib.hid hB
    have HM := Lib.hid hm
    clear hb0 hB hm
    go_enter Try.func137, Try.ntmps137
    go_wp2
    go_loop [4, 11] (fun _ i => ∃ k : Nat, k ≤ s.size ∧ i = .int .i64 k ∧ Hid ((s.data.toList.take k).all charB = true)) (fun _ i => s.size - (intOf i).toNat)
    case atStart => exact ⟨0, Nat.zero_le _, rfl, Lib.hid (by simp)⟩
    case round =>
      obtain ⟨k, hk, rfl, HC⟩ := hrel
      by_cases hlt : k < s.size
      · have HS := Lib.hid (chars_snoc s k hlt)
        have HN := Lib.hid (chars_no s k hlt)
        obtain ⟨b', o', e', _, hc'⟩ := HM.out.cells (by rw [strL_len]; omega)
        injection e' with e'
        injection e' with e1 e2
        subst e1; subst e2
        have hck := hc' k (by rw [strL_len]; exact hlt)
        rw [strL_at s k hlt, Nat.zero_add] at hck
        clear hc'
        by_cases h1 : (s[k].toNat : Int) < 32
        · have HF : Hid (textB s = false) := Lib.hid (by unfold textB; rw [HN.out (by simp [charB]; omega), Bool.and_false])
          go_wp2
          go_ret
          exact ⟨ret_bool HF.out.symm, HB.out⟩
        · by_cases h2 : (126 : Int) < (s[k].toNat : Int)
          · have HF : Hid (textB s = false) := Lib.hid (by unfold textB; rw [HN.out (by simp [charB]; omega), Bool.and_false])
            go_wp2
            go_ret
            exact ⟨ret_bool HF.out.symm, HB.out⟩
          · have HG : Hid ((s.data.toList.take (k + 1)).all charB = true) := Lib.hid (by rw [HS.out, HC.out]; simp [charB]; omega)
            go_wp2
            go_round
            case rel => exact ⟨k + 1, by omega, by go_num, HG⟩
            case measure => simp [intOf]; omega
      · have hkn : k = s.size := by omega
        have HF : Hid (textB s = true) := Lib.hid (by
          have := HC.out
          rw [List.take_of_length_le (by simp; omega)] at this
          unfold textB; rw [this, Bool.and_true]; simpa using hb)
        go_wp2
        go_ret
        exact ⟨ret_bool HF.out.symm, HB.out⟩
  · have HF : Hid (textB s = false) := Lib.hid (by unfold textB; simp [hb])
    go_enter Try.func137, Try.ntmps137
    go_wp2
    go_ret
    exact ⟨ret_bool HF.out.symm, Below.refl _ _⟩
end Go.Proofs.Ytghdilmlfficlaa
/- Appending zeros, a text or bytes to bytes that the call owns; what a chain of such appends leaves. -/
namespace Go.Proofs.Ytghdilmlfficlaa
open Go.RowKit

theorem info5 : (Try.prog.info? 5).map (fun i => (i.zero, i.size, i.bytes)) = some (some (.int .u8 0), 1, 1) := by kernel_rfl

theorem zeroCells_u8 (n : Nat) : Builtin.zeroCells (Value.int IntKind.u8 0).cells n = ((List.replicate n 0).map u8).toArray := by
  apply Array.ext'
  simp only [Builtin.zeroCells, Value.cells, List.map_replicate]
  rw [Array.toList_map, Array.toList_range]
  simp only [List.size_toArray, List.length_singleton, Nat.mul_one]
  apply List.ext_getElem
  · simp
  · intro i h1 h2
    simp [Nat.mod_one, u8]

theorem u8_one (bs : List Nat) : ∀ v ∈ bs.map u8, v.oneCell' = true := by intro v hv; obtain ⟨x, _, rfl⟩ := List.mem_map.1 hv; rfl

/-- The row of v' is that of v, or new since w. -/
def Ext (w : World) (v v' : Value) : Prop := v'.ownBlock = v.ownBlock ∨ ∃ g, v'.ownBlock = some g ∧ w.heap.size ≤ g
/-- v' holds what v held, and the new bytes behind it; nothing has turned but v's own row. -/
structure App (w : World) (base : Nat) (v : Value) (bs new : List Nat) (v' : Value) (w' : World) : Prop where
  own : w'.ownsRow base 5 1 v' (bs ++ new).length ((bs ++ new).map u8)
  grown : w.grownBy w' v.ownBlock
  ext : Ext w v v'
theorem App.trans {w w1 w2 : World} {base : Nat} {v v1 v2 : Value} {bs n1 n2 : List Nat} (h1 : App w base v bs n1 v1 w1) (h2 : App w1 base v1 (bs ++ n1) n2 v2 w2) : App w base v bs (n1 ++ n2) v2 w2 := by
  have hs := h1.grown.size
  refine ⟨by rw [← List.append_assoc]; exact h2.own, ⟨h2.grown.os.trans h1.grown.os, h2.grown.tape.trans h1.grown.tape, h2.grown.output.trans h1.grown.output, Nat.le_trans hs h2.grown.size, fun k hk hne => ?_⟩, ?_⟩
  · refine (h2.grown.block k (by omega) ?_).trans (h1.grown.block k hk hne)
    rcases h1.ext with e | ⟨g, e, hg⟩
    · rw [e]; exact hne
    · rw [e]; intro h; injection h with h; omega
  · rcases h2.ext with e | ⟨g, e, hg⟩
    · rcases h1.ext with e1 | ⟨g, e1, hg⟩
      · exact .inl (e.trans e1)
      · exact .inr ⟨g, e.trans e1, hg⟩
    · exact .inr ⟨g, e, by omega⟩
theorem App.below {w w' a : World} {B base : Nat} {v v' : Value} {bs new : List Nat} (h : App w base v bs new v' w') (hb : Below B a w) (hB : B ≤ w.heap.size) (hv : ∀ g, v.ownBlock = some g → B ≤ g) : Below B a w' :=
  hb.grown h.grown hB hv
/-- Worlds that are one but for new blocks, ahead of an append. -/
theorem App.pre {w0 w w' : World} {base : Nat} {v v' : Value} {bs new : List Nat} (hg : w0.grownBy w none) (h : App w base v bs new v' w') : App w0 base v bs new v' w' := by
  refine ⟨h.own, ⟨h.grown.os.trans hg.os, h.grown.tape.trans hg.tape, h.grown.output.trans hg.output, Nat.le_trans hg.size h.grown.size, fun k hk hne => ?_⟩, ?_⟩
  · exact (h.grown.block k (Nat.lt_of_lt_of_le hk hg.size) hne).trans (hg.block k hk (by simp))
  · rcases h.ext with e | ⟨g, e, hg'⟩
    · exact .inl e
    · exact .inr ⟨g, e, Nat.le_trans hg.size hg'⟩
theorem grown_of_below {w w' : World} (h : Below w.heap.size w w') : w.grownBy w' none := ⟨h.os, h.tape, h.output, h.size, fun k hk _ => h.block k hk⟩

theorem grown_row (w : World) (base n k old : Nat) (xs news : List Value) (hxl : xs.length = n) (hnl : news.length = k) (h63 : n + k ≤ maxLen) (hbase : base ≤ w.heap.size) (row : Option Nat) :
    (w.drew.alloc (.cells (xs.toArray ++ news.toArray ++ Builtin.zeroCells (Value.int .u8 0).cells (grownCap w (n + k) old 5 - (n + k))) 5)).ownsRow base 5 1 (.slice (some ⟨w.heap.size, 0, none⟩) (n + k) (grownCap w (n + k) old 5)) (n + k) (xs ++ news) ∧
    w.grownBy (w.drew.alloc (.cells (xs.toArray ++ news.toArray ++ Builtin.zeroCells (Value.int .u8 0).cells (grownCap w (n + k) old 5 - (n + k))) 5)) row := by
  have hge := grownCap_ge w (n + k) old 5
  have hcm : grownCap w (n + k) old 5 ≤ maxLen := grownCap_le_maxLen w (n + k) old 5 h63
  have hlen : (xs ++ news).length = (n + k) * 1 := by rw [List.length_append, hxl, hnl, Nat.mul_one]
  refine ⟨⟨hlen, .inr ⟨w.heap.size, _, _, rfl, hbase, heap_alloc_new w.drew _, hge, hcm, ?_, ?_⟩⟩, ⟨rfl, rfl, rfl, by simp, fun q hk _ => heap_alloc_old w.drew _ hk⟩⟩
  · have hz1 : (Value.int IntKind.u8 0).cells.size = 1 := rfl
    simp only [Array.size_append, List.size_toArray, size_zeroCells, hz1, hxl, hnl]
    omega
  · simp only [Array.toList_append, List.append_assoc]
    rw [← List.append_assoc, ← hlen]
    exact List.take_left

/-- 'append(v, make([]byte, k)...)'. -/
theorem run_own_zeros (w : World) (base : Nat) (v : Value) (bs : List Nat) (hown : w.ownsRow base 5 1 v bs.length (bs.map u8)) (k : Nat) (hk : k ≤ 1000) (hl : bs.length ≤ 1000000000) (hbase : base ≤ w.heap.size) :
    ∃ v' w', (Builtin.append_ #[48, 3] 48 #[v, .int .i64 k]).run Try.prog w = .ok v' w' ∧ App w base v bs (List.replicate k 0) v' w' := by
  obtain ⟨i, hi, hz, hsize, hby⟩ := info_parts info5
  have ht := Try.underlying48
  have htn := Try.underlying3
  have hrl : ((List.replicate k 0).map u8).length = k := by simp
  have hxl : (bs.map u8).length = bs.length := by simp
  have hw : IntKind.i64.wrap (k : Int) = k := by rw [IntKind.wrap_i64]; omega
  have hneg : ¬ ((k : Int) < 0) := by omega
  have hml : bs.length + k ≤ maxLen := by unfold maxLen; omega
  have hlen : (bs ++ List.replicate k 0).length = bs.length + k := by simp
  have hmap : (bs ++ List.replicate k 0).map u8 = bs.map u8 ++ (List.replicate k 0).map u8 := by rw [List.map_append]
  have h48i : ¬ (281474976710656 < (k : Int)) := by omega
  rcases hown.2 with ⟨rfl, h0⟩ | ⟨g, cap, cur, rfl, hbg, hg, hnc, hcm, hcs, htake⟩
  · have hb0 : bs = [] := List.eq_nil_of_length_eq_zero h0
    subst hb0
    by_cases hk0 : k = 0
    · subst hk0
      refine ⟨.slice none 0 0, w, ?_, ⟨by simpa using World.ownsRow_nil w base 5 1, ⟨rfl, rfl, rfl, Nat.le_refl _, fun _ _ _ => rfl⟩, .inl rfl⟩⟩
      simp [Builtin.append_, run_underlying ht, run_underlying htn, sizeOf, typeInfo, hi, asInt, asIntOf, hby, IntKind.wrap_i64]
    · have hr := Lib.run_append_nil_zeros (P := Try.prog) w 48 3 48 5 i (.int .u8 0) .i64 .i64 ht htn hi hz k (by omega) (by omega) (by omega) (by rw [hby]; omega)
      have hgr := grown_row w base 0 k 0 [] ((List.replicate k 0).map u8) rfl hrl (by simpa using hml) hbase none
      rw [zeroCells_u8 k] at hr
      simp only [Nat.zero_add, List.nil_append, Array.empty_append] at hgr
      refine ⟨_, _, hr, ⟨?_, hgr.2, .inr ⟨w.heap.size, rfl, Nat.le_refl _⟩⟩⟩
      simp only [List.nil_append, List.length_replicate]
      exact hgr.1
  · by_cases hroom : bs.length + k ≤ cap
    · have hcs' : cur.size = cap := by simpa using hcs
      have hst := run_storeCells_at Try.prog g bs.length 5 ((List.replicate k 0).map u8) 0 cur w hg (by rw [hrl]; omega) (u8_one _)
      simp only [Nat.add_zero, hrl] at hst
      have hz' : (Builtin.zeroCells (Value.int IntKind.u8 0).cells k).toList = (List.replicate k 0).map u8 := by rw [zeroCells_u8]
      have hr : (Builtin.append_ #[48, 3] 48 #[.slice (some ⟨g, 0, none⟩) bs.length cap, .int .i64 k]).run Try.prog w = .ok (.slice (some ⟨g, 0, none⟩) (bs.length + k) cap) (w.setRow g (cur.toList.take bs.length ++ (List.replicate k 0).map u8 ++ cur.toList.drop (bs.length + k)).toArray) := by
        by_cases hk0 : k = 0
        · subst hk0
          simp only [List.replicate_zero, List.map_nil, List.append_nil, Nat.add_zero, List.take_append_drop] at hst ⊢
          simp [Builtin.append_, run_underlying ht, run_underlying htn, sizeOf, typeInfo, hi, hsize, hby, asInt, asIntOf, hnc, Addr.add_lit, hst, IntKind.wrap_i64]
        · have hns : ¬ (k = 0) := hk0
          have hst2 := hst
          simp only [List.map_replicate, List.append_assoc] at hst2
          simp [Builtin.append_, run_underlying ht, run_underlying htn, sizeOf, typeInfo, zeroValue, hi, hz, hsize, hby, asInt, asIntOf, hw, hneg, hns, h48i, hroom, Addr.add_lit, hz', hst2]
      refine ⟨_, _, hr, ⟨⟨by simp, .inr ⟨g, cap, _, by rw [hlen], hbg, setRow_heap w g cur _ 5 _ hg, by rw [hlen]; exact hroom, hcm, ?_, ?_⟩⟩, ⟨rfl, rfl, rfl, by simp, fun k _ hk => setRow_other w g k _ (fun e => hk (by simp [Value.ownBlock, e]))⟩, .inl rfl⟩⟩
      · simp only [List.size_toArray, List.length_append, List.length_take, List.length_drop, Array.length_toList, hrl]
        omega
      · have ht' : cur.toList.take bs.length = bs.map u8 := by simpa using htake
        rw [ht', hmap]
        simp only [Nat.mul_one, hlen]
        have : bs.length + k = (bs.map u8 ++ (List.replicate k 0).map u8).length := by simp
        rw [this]
        exact List.take_left
    · have holds : ∀ j u, (bs.map u8)[j]? = some u → w.cell? ((⟨g, 0, none⟩ : Addr).add j) = some u := hown.cells (g := g) rfl
      have hfo := run_firstCells_some (P := Try.prog) w.drew i.size bs.length ⟨g, 0, none⟩ bs.length cap (bs.map u8) (by rw [hsize]; simp) (by simpa using holds)
      have hr := Lib.run_append_grow_zeros (P := Try.prog) w 48 3 48 5 i (.int .u8 0) .i64 .i64 ht htn hi hz (some ⟨g, 0, none⟩) bs.length cap (bs.map u8) hfo k (by omega) (by omega) (by omega) (by omega) (by rw [hby]; omega) (by rw [hby]; exact growslice_fits (by omega) (by omega))
      have hgr := grown_row w base bs.length k cap (bs.map u8) ((List.replicate k 0).map u8) hxl hrl hml hbase (some g)
      rw [zeroCells_u8 k] at hr
      refine ⟨_, _, hr, ⟨?_, hgr.2, .inr ⟨w.heap.size, rfl, Nat.le_refl _⟩⟩⟩
      rw [hlen, hmap]
      exact hgr.1

/-- 'append(v, s...)', s a text. -/
theorem run_own_str (w : World) (base : Nat) (v : Value) (bs : List Nat) (hown : w.ownsRow base 5 1 v bs.length (bs.map u8)) (s : ByteArray) (hs : s.size ≤ 1000) (hl : bs.length ≤ 1000000000) (hbase : base ≤ w.heap.size) :
    ∃ v' w', (Builtin.append_ #[48, 9] 48 #[v, .string s]).run Try.prog w = .ok v' w' ∧ App w base v bs (strL s) v' w' := by
  obtain ⟨i, hi, hz, hsize, hby⟩ := info_parts info5
  have ht := Try.underlying48
  have hu := Try.underlying9
  have hcs1 : Lib.strCells s = (strL s).map u8 := by
    unfold Lib.strCells strL; rw [List.map_map]; rfl
  have hsl := strL_len s
  have hml : bs.length + s.size ≤ maxLen := by unfold maxLen; omega
  have hlen : (bs ++ strL s).length = bs.length + s.size := by rw [List.length_append, hsl]
  have hmap : (bs ++ strL s).map u8 = bs.map u8 ++ Lib.strCells s := by rw [List.map_append, hcs1]
  rcases hown.2 with ⟨rfl, h0⟩ | ⟨g, cap, cur, rfl, hbg, hg, hnc, hcm, hcs, htake⟩
  · obtain ⟨v', w', hr, h2, h3, _⟩ := Lib.run_append_own_string (P := Try.prog) w w.heap.size 48 9 48 5 i ht hu hi hz hsize hby (.slice none 0 0) bs.length (bs.map u8) (by rw [h0]; rw [List.eq_nil_of_length_eq_zero h0]; exact World.ownsRow_nil _ _ _ _) s hml (by omega) (Nat.le_refl _)
    have hv : v'.ownBlock = none ∨ ∃ g, v'.ownBlock = some g ∧ w.heap.size ≤ g := by
      cases hb : v'.ownBlock with
      | none => exact .inl rfl
      | some g => exact .inr ⟨g, rfl, (h2.lt g hb).1⟩
    refine ⟨v', w', hr, ⟨?_, h3, ?_⟩⟩
    · rw [hlen, hmap]
      refine ⟨h2.1, ?_⟩
      rcases h2.2 with h | ⟨g, cap, cur, e1, e2, e3⟩
      · exact .inl h
      · exact .inr ⟨g, cap, cur, e1, by omega, e3⟩
    · rcases hv with e | ⟨g, e, hg⟩
      · exact .inl e
      · exact .inr ⟨g, e, hg⟩
  · by_cases hroom : bs.length + s.size ≤ cap
    · have hcs' : cur.size = cap := by simpa using hcs
      have hr := Lib.run_append_room_string (P := Try.prog) w 48 9 48 5 i ht hu hi hsize g bs.length cap cur hg s hroom (by omega)
      refine ⟨_, _, hr, ⟨⟨by simp, .inr ⟨g, cap, _, by rw [hlen], hbg, setRow_heap w g cur _ 5 _ hg, by rw [hlen]; exact hroom, hcm, ?_, ?_⟩⟩, ⟨rfl, rfl, rfl, by simp, fun q _ hk => setRow_other w g q _ (fun e => hk (by simp [Value.ownBlock, e]))⟩, .inl rfl⟩⟩
      · simp only [List.size_toArray, List.length_append, List.length_take, List.length_drop, Array.length_toList, Lib.strCells_length]
        omega
      · have ht' : cur.toList.take bs.length = bs.map u8 := by simpa using htake
        rw [ht', hmap]
        simp only [Nat.mul_one, hlen]
        have : bs.length + s.size = (bs.map u8 ++ Lib.strCells s).length := by rw [List.length_append, Lib.strCells_length, List.length_map]
        rw [this]
        exact List.take_left
    · have holds : ∀ j u, (bs.map u8)[j]? = some u → w.cell? ((⟨g, 0, none⟩ : Addr).add j) = some u := hown.cells (g := g) rfl
      have hr := Lib.run_append_grow_string (P := Try.prog) w 48 9 48 5 i (.int .u8 0) ht hu hi hz ⟨g, 0, none⟩ bs.length cap (bs.map u8) (by rw [hsize]; simp) holds s (by omega) (by omega) (by rw [hby]; exact growslice_fits (by omega) (by omega))
      have hgr := grown_row w base bs.length s.size cap (bs.map u8) (Lib.strCells s) (by simp) (Lib.strCells_length s) hml hbase (some g)
      refine ⟨_, _, hr, ⟨?_, hgr.2, .inr ⟨w.heap.size, rfl, Nat.le_refl _⟩⟩⟩
      rw [hlen, hmap]
      exact hgr.1

/-- 'append(v, l...)', l bytes that lie anywhere. -/
theorem run_own_byt (w : World) (base : Nat) (v : Value) (bs : List Nat) (hown : w.ownsRow base 5 1 v bs.length (bs.map u8)) {B : Nat} {A : Option Addr} {l : List Nat} (c : Nat) (hb : Byt w B A l) (hs : l.length ≤ 1000000000) (hl : bs.length ≤ 1000000000) (hbase : base ≤ w.heap.size) :
    ∃ v' w', (Builtin.append_ #[48, 48] 48 #[v, .slice A l.length c]).run Try.prog w = .ok v' w' ∧ App w base v bs l v' w' := by
  obtain ⟨i, hi, hz, hsize, hby⟩ := info_parts info5
  have ht := Try.underlying48
  have hml : bs.length + l.length ≤ maxLen := by unfold maxLen; omega
  by_cases h0 : l.length = 0
  · have hl0 : l = [] := List.eq_nil_of_length_eq_zero h0
    subst hl0
    have hnil : App w base v bs [] v w := ⟨by simpa using hown, ⟨rfl, rfl, rfl, Nat.le_refl _, fun _ _ _ => rfl⟩, .inl rfl⟩
    cases A with
    | none =>
      refine ⟨v, w, ?_, hnil⟩
      rcases hown.2 with ⟨rfl, e⟩ | ⟨g, cap, cur, rfl, _, _, hnc, _⟩
      · have hb0 : bs = [] := List.eq_nil_of_length_eq_zero e
        subst hb0
        simp [Builtin.append_, run_underlying ht, sizeOf, typeInfo, hi, Builtin.lenOf, Builtin.firstCells]
      · simp [Builtin.append_, run_underlying ht, sizeOf, typeInfo, hi, Builtin.lenOf, Builtin.firstCells, hnc, storeCells]
    | some a =>
      obtain ⟨v', w', hr, h2, h3, _, h5⟩ := run_append_own_at (P := Try.prog) w base 48 48 5 i (.int .u8 0) 1 1 ht hi hz hsize hby rfl (by decide) v bs.length (bs.map u8) hown a 0 c [] rfl (by simp) (by simp) (by simpa using hml) (by omega) hbase
      refine ⟨v', w', hr, ⟨by simpa using h2, h3, ?_⟩⟩
      rcases h5 with e | e
      · exact .inl e
      · exact .inr ⟨_, e, Nat.le_refl _⟩
  · obtain ⟨b, o, rfl, hlt, hc⟩ := hb.cells (by omega)
    obtain ⟨v', w', hr, h2, h3, _, h5⟩ := run_append_own_at (P := Try.prog) w base 48 48 5 i (.int .u8 0) 1 1 ht hi hz hsize hby rfl (by decide) v bs.length (bs.map u8) hown ⟨b, o, none⟩ l.length c (l.map u8) (by simp) (by
      intro j u hu
      have hj : j < l.length := by
        rcases Nat.lt_or_ge j l.length with h | h
        · exact h
        · rw [List.getElem?_eq_none (by simpa using h)] at hu; cases hu
      rw [Go.WideShapes.add_plain, hc j hj, ← hu, List.getElem?_map, List.getElem?_eq_getElem hj, at8_eq l _ hj]
      rfl) (u8_one l) hml (by omega) hbase
    refine ⟨v', w', hr, ⟨by rw [List.length_append, List.map_append]; exact h2, h3, ?_⟩⟩
    rcases h5 with e | e
    · exact .inl e
    · exact .inr ⟨_, e, Nat.le_refl _⟩
end Go.Proofs.Ytghdilmlfficlaa
/- The orders of bytes: put. -/
namespace Go.Proofs.Ytghdilmlfficlaa
open Go.RowKit

/-- The byte number j of a number. -/
def byN (v j : Nat) : Nat := v / 256 ^ j % 256
/-- A number in n bytes. -/
def numB (low : Bool) (n v : Nat) : List Nat := if low then (List.range n).map (byN v) else ((List.range n).map (byN v)).reverse
theorem numB_len (low : Bool) (n v : Nat) : (numB low n v).length = n := by unfold numB; split <;> simp
theorem numB_lt (low : Bool) (n v : Nat) : ∀ x ∈ numB low n v, x < 256 := by
  intro x hx
  unfold numB at hx
  split at hx
  · obtain ⟨j, _, rfl⟩ := List.mem_map.1 hx; exact Nat.mod_lt _ (by decide)
  · rw [List.mem_reverse] at hx; obtain ⟨j, _, rfl⟩ := List.mem_map.1 hx; exact Nat.mod_lt _ (by decide)

/-- What the first k stores have made of n bytes. -/
def putF (low : Bool) (n v : Nat) : Nat → List Nat
  | 0 => List.replicate n 0
  | k + 1 => (putF low n v k).set (if low then k else n - 1 - k) (byN v k)
theorem putF_len (low : Bool) (n v k : Nat) : (putF low n v k).length = n := by
  induction k with
  | zero => simp [putF]
  | succ k ih => simp [putF, ih]
theorem putF_all (low : Bool) (n v : Nat) (hn : n = 2 ∨ n = 4) : putF low n v n = numB low n v := by
  rcases hn with rfl | rfl <;> cases low <;> rfl

theorem row_set (pre mid post : List Value) (j : Nat) (y : Value) (h : j < mid.length) : (pre ++ mid ++ post).set (pre.length + j) y = pre ++ mid.set j y ++ post := by
  rw [List.append_assoc, List.append_assoc, List.set_append_right _ _ (by omega), Nat.add_sub_cancel_left, List.set_append_left _ _ h]

theorem shr_byte (v j : Nat) : IntKind.u8.wrap ((v : Int) / 2 ^ (8 * j)) = ((byN v j : Nat) : Int) := by
  rw [IntKind.wrap_u8']
  unfold byN
  have e : (256 : Nat) ^ j = 2 ^ (8 * j) := by rw [Nat.pow_mul]
  rw [e]
  simp

end Go.Proofs.Ytghdilmlfficlaa
/- add. -/
namespace Go.Proofs.Ytghdilmlfficlaa
open Go.RowKit

/-- The order with the lowest byte first or last, as a value. -/
abbrev ordV (low : Bool) : Value := if low then .iface 96 (.agg #[]) else .iface 97 (.agg #[])
def numsB (low : Bool) (n : Nat) (vs : List Nat) : List Nat := vs.flatMap (numB low n)
theorem numsB_len (low : Bool) (n : Nat) (vs : List Nat) : (numsB low n vs).length = n * vs.length := by
  induction vs with
  | nil => rfl
  | cons v vs ih => simp only [numsB, List.flatMap_cons, List.length_append, numB_len, List.length_cons] at ih ⊢; rw [ih, Nat.mul_succ]; omega
theorem numsB_snoc (low : Bool) (n : Nat) (vs : List Nat) (k : Nat) (h : k < vs.length) : numsB low n (vs.take (k + 1)) = numsB low n (vs.take k) ++ numB low n vs[k] := by
  unfold numsB
  rw [List.take_succ_eq_append_getElem h, List.flatMap_append, List.flatMap_cons, List.flatMap_nil, List.append_nil]

/-- A row of bytes and its block. -/
theorem own_blk {w : World} {base N : Nat} {v : Value} {xs : List Value} (h : w.ownsRow base 5 1 v N xs) (hN : 0 < N) :
    ∃ g cap post, v = .slice (some ⟨g, 0, none⟩) N cap ∧ base ≤ g ∧ Blk w g 5 (xs ++ post).toArray ∧ N ≤ cap ∧ cap ≤ maxLen ∧ xs.length + post.length = cap := by
  rcases h.2 with ⟨_, h0⟩ | ⟨g, cap, cur, hv, hb, hg, hn, hm, hs, ht⟩
  · omega
  · refine ⟨g, cap, cur.toList.drop N, hv, hb, ?_, hn, hm, ?_⟩
    · rw [Nat.mul_one] at ht
      rw [← ht, List.take_append_drop]
      exact hg
    · rw [h.1, List.length_drop, Array.length_toList, hs]; omega
theorem blk_own {w : World} {base g N cap : Nat} {xs post : List Value} (hb : base ≤ g) (hx : xs.length = N) (h : Blk w g 5 (xs ++ post).toArray) (hn : N ≤ cap) (hm : cap ≤ maxLen) (hl : xs.length + post.length = cap) :
    w.ownsRow base 5 1 (.slice (some ⟨g, 0, none⟩) N cap) N xs := by
  refine ⟨by omega, .inr ⟨g, cap, _, rfl, hb, h, hn, hm, by simp; omega, ?_⟩⟩
  rw [Nat.mul_one, ← hx]
  exact List.take_left

theorem add_step {w wr w2 w1 : World} {base g L n cap : Nat} {v v1 : Value} {bs pre nb : List Nat} {post : List Value} (hA : App w base v bs pre v1 wr) (hA2 : App wr base v1 (bs ++ pre) (List.replicate n 0) (.slice (some ⟨g, 0, none⟩) (L + n) cap) w2)
    (hL : (bs ++ pre).length = L) (hblk : Blk w1 g 5 ((bs ++ pre).map u8 ++ nb.map u8 ++ post).toArray) (hg : w2.drew.grownBy w1 (some g)) (hnb : nb.length = n) (hcap : L + n ≤ cap) (hmax : cap ≤ maxLen) (hpl : L + n + post.length = cap) (hbg : base ≤ g) :
    App w base v bs (pre ++ nb) (.slice (some ⟨g, 0, none⟩) (L + n) cap) w1 := by
  refine hA.trans ⟨?_, ⟨hg.os.trans hA2.grown.os, hg.tape.trans hA2.grown.tape, hg.output.trans hA2.grown.output, Nat.le_trans hA2.grown.size hg.size, fun k hk hne => ?_⟩, ?_⟩
  · have hl2 : (bs ++ pre ++ nb).length = L + n := by rw [List.length_append, hL, hnb]
    rw [hl2, List.map_append]
    exact blk_own hbg (by rw [List.length_append, List.length_map, List.length_map, hL, hnb]) hblk hcap hmax (by rw [List.length_append, List.length_map, List.length_map, hL, hnb]; exact hpl)
  · refine (hg.block k (Nat.lt_of_lt_of_le hk hA2.grown.size) ?_).trans (hA2.grown.block k hk hne)
    rcases hA2.ext with e | ⟨g', e, hg'⟩
    · have e' : some g = v1.ownBlock := e
      rw [e']; exact hne
    · have e' : some g = some g' := e
      injection e' with e'
      intro h; injection h with h; omega
  · exact hA2.ext

def AppPost (w : World) (base : Nat) (v : Value) (bs new : List Nat) (e : Ending) (w' : World) : Prop := ∃ v', e = .returned v' ∧ App w base v bs new v' w'

end Go.Proofs.Ytghdilmlfficlaa
