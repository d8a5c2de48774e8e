/- addBlock. -/
import Derived.Test.YtlimkckomdipkaaSet
import Derived.Test.YtlimkckomdipkaaAdd
import Derived.Laws.CopyOwn
import Derived.Deep.RegionLaw
import Derived.Deep.RegionHeld3
namespace Go.Proofs.Ytlimkckomdipkaa
open Go.RowKit

theorem ext_ne {w : World} {base : Nat} {v vb vb1 : Value} {bs : List Nat} (hown : w.ownsRow base 5 1 v bs.length (bs.map u8)) (hd : ∀ g, v.ownBlock = some g → vb.ownBlock ≠ some g) (hx : Ext w vb vb1) : ∀ g, v.ownBlock = some g → vb1.ownBlock ≠ some g := by
  intro g hg
  rcases hx with e | ⟨g', e, hg'⟩
  · rw [e]; exact hd g hg
  · rw [e]
    have := (hown.lt g hg).2
    intro h; injection h with h; omega

set_option maxRecDepth 100000 in
set_option maxHeartbeats 4000000 in
theorem block_any {w : World} {base : Nat} {v vb : Value} {bs bb : List Nat} (low : Bool) (kind : Nat) (hown : w.ownsRow base 5 1 v bs.length (bs.map u8)) (hbody : w.ownsRow base 5 1 vb bb.length (bb.map u8)) (hlt : ∀ x ∈ bb, x < 256)
    (hd : ∀ g, v.ownBlock = some g → vb.ownBlock ≠ some g) (hbase : base ≤ w.heap.size) (hl : bs.length ≤ 900000000) (hbl : bb.length ≤ 1000000) :
    Calls Try.prog 57 #[v, ordV low, .int .i64 kind, vb] w (OwnPost w base (bs ++ blkB low kind bb)) := by
  obtain ⟨O, hO⟩ : ∃ O, ordV low = O := ⟨_, rfl⟩
  have HADD := Lib.hid (fun (w0 : World) (v0 : Value) (b0 : List Nat) (vs : List Nat) (cs : Array Value) hcs hown0 hb0 hl0 hm0 => add_new (w := w0) (base := base) (v := v0) (bs := b0) low 4 vs (.inr rfl) hown0 hb0 hl0 hm0 cs hcs)
  have HOWN := Lib.hid hown
  have HD := Lib.hid hd
  have HVB := Lib.hid (fun g hg => (hbody.lt g hg).1)
  have HF := Lib.hid (fill_any hbody hbase (by omega))
  rw [hO] at HADD ⊢
  clear hO hown hd hbody
  go_enter Try.func57, Try.ntmps57
  go_wp2_with fail
  refine HF.out.mono ?_
  rintro e w1 ⟨vb1, rfl, hA1⟩
  obtain ⟨A1, c1, hv1⟩ := own_form hA1.own
  have hz1 := hA1.grown.size
  have HOWN1 : Hid (w1.ownsRow base 5 1 v bs.length (bs.map u8)) := Lib.hid (HOWN.out.kept hA1.grown (by
    cases hb : v.ownBlock with
    | none => exact .inl rfl
    | some g => exact .inr (fun e => HD.out g hb e.symm)))
  have HNE := Lib.hid (ext_ne HOWN.out HD.out hA1.ext)
  have hpl := padN_le bb.length
  have hbl1 : (bb ++ padB bb.length).length ≤ bb.length + 3 := by rw [List.length_append, padB_len]; omega
  have hlt1 : ∀ x ∈ bb ++ padB bb.length, x < 256 := by
    intro x hx
    rcases List.mem_append.1 hx with h | h
    · exact hlt x h
    · unfold padB at h; have := List.eq_of_mem_replicate h; omega
  obtain ⟨b1, hb1⟩ : ∃ b1, bb ++ padB bb.length = b1 := ⟨_, rfl⟩
  have HB1 := Lib.hid hb1
  have HA1 := Lib.hid hA1.own
  rw [hb1] at HA1 hv1 hbl1 hlt1
  obtain ⟨L1, hL1⟩ : ∃ L1, b1.length = L1 := ⟨_, rfl⟩
  have HL1 := Lib.hid hL1
  have HLT1 := Lib.hid hlt1
  have HG1 := Lib.hid hA1.grown
  clear hA1 hb1 hlt1
  subst hv1
  rw [hL1] at hbl1 HA1 HNE
  rw [hL1]
  clear hL1
  go_wp2_with fail
  refine (HADD.out w1 v bs [kind, 12 + L1] _ (by simp) HOWN1.out (by omega) (by simp; omega) (by simp)).mono ?_
  rintro e w2 ⟨v2, rfl, hA2⟩
  have hz2 := hA2.grown.size
  have hbyt : Byt w2 w2.heap.size A1 b1 := by
    have h := HA1.out
    rw [← HL1.out] at h
    refine byt_keeps HLT1.out h hA2.grown ?_
    rw [HL1.out]
    cases hb : (Value.slice A1 L1 c1).ownBlock with
    | none => exact .inl rfl
    | some g => exact .inr (fun e => HNE.out g e.symm hb)
  obtain ⟨v3, w3, hrun, hA3⟩ := run_own_byt w2 base v2 _ hA2.own c1 hbyt (by rw [HL1.out]; omega) (by rw [List.length_append, numsB_len]; simp; omega) (by omega)
  rw [HL1.out] at hrun
  have HA3 := Lib.hid (hA2.trans hA3)
  have hz3 : w1.heap.size ≤ w3.heap.size := HA3.out.grown.size
  clear hA2 hA3 hbyt
  go_wp2_with (at_builtin; refine Lib.wpList_append_run _ rfl _ _ _ _ rfl _ _ rfl rfl _ _ hrun ?_)
  refine (HADD.out w3 v3 _ [12 + L1] _ (by simp) HA3.out.own (by omega) (by rw [List.length_append, List.length_append, numsB_len, HL1.out]; simp; omega) (by simp)).mono ?_
  rintro e w4 ⟨v4, rfl, hA4⟩
  have HA4 := Lib.hid (HA3.out.trans hA4)
  clear hA4
  go_wp2
  go_ret
  refine ⟨v4, rfl, ?_, ?_⟩
  · have h := HA4.out.own
    unfold blkB
    rw [HB1.out, HL1.out]
    simpa only [List.append_assoc] using h
  · exact HA4.out.below (((Below.refl base w)).grown HG1.out hbase HVB.out) (by omega) (fun g hg => (HOWN.out.lt g hg).1)
end Go.Proofs.Ytlimkckomdipkaa
/- slices.Repeat of one byte, eight times. -/
namespace Go.Proofs.Ytlimkckomdipkaa
open Go.RowKit

set_option maxRecDepth 100000 in
set_option maxHeartbeats 2000000 in
theorem mul64_18 (w : World) : Calls Try.prog 85 #[.int .u64 1, .int .u64 8] w fun e w' => e = .returned (.tuple #[.int .u64 0, .int .u64 8]) ∧ w = w' := by
  have h1 : bits .and .u64 1 4294967295 = 1 := by decide
  have h8 : bits .and .u64 8 4294967295 = 8 := by decide
  have h0 : bits .and .u64 0 4294967295 = 0 := by decide
  have w8 : IntKind.u64.wrap 8 = 8 := by decide
  have w0 : IntKind.u64.wrap 0 = 0 := by decide
  go_enter Try.func85, Try.ntmps85
  go_wp2
  go_ret2
  exact ⟨rfl, rfl⟩

set_option maxRecDepth 100000 in
set_option maxHeartbeats 2000000 in
theorem mul_18 (w : World) : Calls Try.prog 79 #[.int .u64 1, .int .u64 8] w fun e w' => e = .returned (.tuple #[.int .u64 0, .int .u64 8]) ∧ w = w' := by
  go_enter Try.func79, Try.ntmps79
  go_wp2_with fail
  refine (mul64_18 _).mono ?_
  rintro e w' ⟨rfl, rfl⟩
  go_wp2
  go_ret2
  exact ⟨rfl, rfl⟩

theorem size5 : (Try.prog.info? 5).map (·.size) = some 1 := by kernel_rfl
def ffs (k : Nat) : List Value := (List.replicate k 255 ++ List.replicate (8 - k) 0).map u8
theorem toList_madeCells : (madeCells (Value.int IntKind.u8 0).cells (8 * 1)).toList = List.replicate 8 (.int .u8 0) := toList_madeCells_one _ 8
theorem splice_0 : splice (ffs 0) 0 [u8 255] = ffs 1 := rfl
theorem splice_1 : splice (ffs 1) 1 (List.replicate 1 (u8 255)) = ffs 2 := rfl
theorem take_1 : (ffs 1).take 1 = List.replicate 1 (u8 255) := rfl
theorem splice_2 : splice (ffs 2) 2 (List.replicate 2 (u8 255)) = ffs 4 := rfl
theorem take_2 : (ffs 2).take 2 = List.replicate 2 (u8 255) := rfl
theorem splice_4 : splice (ffs 4) 4 (List.replicate 4 (u8 255)) = ffs 8 := rfl
theorem take_4 : (ffs 4).take 4 = List.replicate 4 (u8 255) := rfl

theorem made8 {w w1 : World} (hown : w1.ownsRow w.heap.size 5 1 (Value.slice (some ⟨w.heap.size, 0, none⟩) 8 8) 8 (madeCells (Value.int IntKind.u8 0).cells (8 * 1)).toList) (hgrow : w.grownBy w1 none) :
    Hid (w1.heap[w.heap.size]? = some (.cells (ffs 0).toArray 5 (0, 0))) ∧ Hid (Below w.heap.size w w1) := by
  refine ⟨Lib.hid ?_, Lib.hid ((Below.refl w.heap.size w).grown hgrow (Nat.le_refl _) (fun k h => by cases h))⟩
  rcases hown.2 with ⟨e, _⟩ | ⟨g, cap, cur, e, _, hg, hc, hm, hs, ht⟩
  · cases e
  · injection e with e1 e2 e3
    injection e1 with e1
    injection e1 with e1
    subst e1; subst e3
    have e5 : cur.toList = ffs 0 := by
      rw [← List.take_of_length_le (l := cur.toList) (i := 8 * 1) (by rw [Array.length_toList, hs]; exact Nat.le_refl _), ht, toList_madeCells]
      rfl
    rw [← e5]
    exact hg

/-- The first k bytes of a row, as what a copy reads. -/
theorem row_src {w : World} {g k : Nat} (h : w.heap[g]? = some (.cells (ffs k).toArray 5 (0, 0))) : ∀ (j : Nat) (v : Value), ((ffs k).take k)[j]? = some v → w.cell? ((⟨g, 0, none⟩ : Addr).add j) = some v := by
  intro j v hj
  rw [Go.WideShapes.add_plain, Nat.zero_add, cell_of_row w g j _ 5 (0, 0) h, List.getElem?_toArray]
  rw [List.getElem?_take] at hj
  split at hj
  · exact hj
  · cases hj

set_option maxRecDepth 100000 in
set_option maxHeartbeats 1000000 in
theorem repeat_any {w : World} {b : Nat} (hb : Blk w b 5 #[.int .u8 255]) :
    Calls Try.prog 74 #[.slice (some ⟨b, 0, none⟩) 1 1, .int .i64 8] w fun e w' => e = .returned (.slice (some ⟨w.heap.size, 0, none⟩) 8 8) ∧ Blk w' w.heap.size 5 ((List.replicate 8 255).map u8).toArray ∧ Below w.heap.size w w' := by
  obtain ⟨i0, hi, hz0, hz1, hz2⟩ := info_parts info5
  have HSRC0 : Hid (∀ w1, Below w.heap.size w w1 → ∀ (j : Nat) (v : Value), [u8 255][j]? = some v → w1.cell? ((⟨b, 0, none⟩ : Addr).add j) = some v) := Lib.hid (by
    intro w1 hB1 j v hj
    have hj0 : j = 0 := by
      rcases Nat.eq_zero_or_pos j with h | h
      · exact h
      · rw [List.getElem?_eq_none (by simp; omega)] at hj; cases hj
    subst hj0
    rw [Go.WideShapes.add_plain, (hb.below hB1 hb.lt).cell]
    exact hj)
  have HN0 : Hid ([u8 255].length = Nat.min 1 8) := Lib.hid (by decide)
  have HF0 : Hid (0 + [u8 255].length ≤ (ffs 0).length) := Lib.hid (by decide)
  have HO0 : Hid (∀ v ∈ [u8 255], v.oneCell' = true) := Lib.hid (u8_one [255])
  have w1 : IntKind.u64.wrap 1 = 1 := by decide
  have w8 : IntKind.u64.wrap 8 = 8 := by decide
  have v8 : IntKind.i64.wrap 8 = 8 := by decide
  clear hb
  go_enter Try.func74, Try.ntmps74
  go_wp2_with fail
  refine (mul_18 _).mono ?_
  rintro e w' ⟨rfl, rfl⟩
  go_wp2_with (first | (at_make; refine wpList_make_full _ rfl _ _ 30 rfl w.heap.size 5 i0 (.int .u8 0) 1 Try.underlying30 hi hz0 hz1 .i64 .i64 (8 : Int) (8 : Int) 8 rfl rfl rfl rfl (by rw [hz2]; omega) (by unfold maxLen; omega) (Nat.le_refl _) ?_; intro w1 hown hgrow; obtain ⟨HR, HB1⟩ := made8 hown hgrow; clear hown hgrow) | (with_reducible refine wpList_copy_splice (o := ⟨some 33, _, _, _, _, _⟩) rfl _ _ 30 30 rfl 5 Try.underlying30 size5 _ _ 8 8 1 1 rfl rfl w.heap.size 0 (ffs 0) 5 HR.out [u8 255] HN0.out (fun _ => ⟨rfl, _, rfl, HSRC0.out w1 HB1.out⟩) HF0.out HO0.out w.heap.size w HB1.out (Nat.le_refl _) ?_; intro w2 HG2 hB2; have HB2 := Lib.hid hB2; clear hB2))
  have HR2 : Hid (w2.heap[w.heap.size]? = some (.cells (ffs 1).toArray 5 (0, 0))) := by rw [← splice_0]; exact HG2
  clear HG2 HR
  go_loopw [8] (fun i wr => ∃ k : Nat, (k = 1 ∧ i = .int .i64 1 ∨ k = 2 ∧ i = .int .i64 2 ∨ k = 4 ∧ i = .int .i64 4 ∨ k = 8 ∧ i = .int .i64 8) ∧ Hid (wr.heap[w.heap.size]? = some (.cells (ffs k).toArray 5 (0, 0))) ∧ Hid (Below w.heap.size w wr)) (fun i _ => 8 - (intOf i).toNat)
  case atStart => exact ⟨1, .inl ⟨rfl, rfl⟩, HR2, HB2⟩
  case round =>
    obtain ⟨k, hk, HRk, HBk⟩ := hrel
    rcases hk with ⟨rfl, rfl⟩ | ⟨rfl, rfl⟩ | ⟨rfl, rfl⟩ | ⟨rfl, rfl⟩
    · have HS := Lib.hid (row_src (w := wr.drew) HRk.out)
      rw [take_1] at HS
      have HN1 : Hid ((List.replicate 1 (u8 255)).length = Nat.min 1 7) := Lib.hid (by decide)
      have HF1 : Hid (1 + (List.replicate 1 (u8 255)).length ≤ (ffs 1).length) := Lib.hid (by decide)
      have HO1 : Hid (∀ v ∈ List.replicate 1 (u8 255), v.oneCell' = true) := Lib.hid (fun v hv => by rw [List.eq_of_mem_replicate hv]; rfl)
      have HBd := Lib.hid HBk.out.drew
      have hwr : IntKind.i64.wrap 2 = 2 := by decide
      go_wp2
      go_region_held3 (fun w' => Below w.heap.size w w') (first | exact HBk.out | exact HBd.out | exact hb4) ((refine step_copy_splice rfl (.tmp 41) (.tmp 44) 30 30 rfl 5 Try.underlying30 size5 (some ⟨w.heap.size, 1, none⟩) (some ⟨w.heap.size, 0, none⟩) 7 7 1 8 (by rfl) (by rfl) w.heap.size 1 (ffs 1) 5 HRk.out (List.replicate 1 (u8 255)) HN1.out (fun _ => ⟨rfl, ⟨w.heap.size, 0, none⟩, rfl, HS.out⟩) HF1.out HO1.out w.heap.size w HBd.out (Nat.le_refl _) ?_; intro w4 hg4 hb4))
      have HR4 : Hid (w4.heap[w.heap.size]? = some (.cells (ffs 2).toArray 5 (0, 0))) := by rw [← splice_1]; exact hg4
      have HB4 := Lib.hid hb4
      clear hg4 hb4
      go_wp2
      go_roundw
      case rel => exact ⟨2, by simp, HR4, HB4⟩
      case measure => simp [intOf]
    · have HS := Lib.hid (row_src (w := wr.drew) HRk.out)
      rw [take_2] at HS
      have HN1 : Hid ((List.replicate 2 (u8 255)).length = Nat.min 2 6) := Lib.hid (by decide)
      have HF1 : Hid (2 + (List.replicate 2 (u8 255)).length ≤ (ffs 2).length) := Lib.hid (by decide)
      have HO1 : Hid (∀ v ∈ List.replicate 2 (u8 255), v.oneCell' = true) := Lib.hid (fun v hv => by rw [List.eq_of_mem_replicate hv]; rfl)
      have HBd := Lib.hid HBk.out.drew
      have hwr : IntKind.i64.wrap 4 = 4 := by decide
      go_wp2
      go_region_held3 (fun w' => Below w.heap.size w w') (first | exact HBk.out | exact HBd.out | exact hb4) ((refine step_copy_splice rfl (.tmp 41) (.tmp 44) 30 30 rfl 5 Try.underlying30 size5 (some ⟨w.heap.size, 2, none⟩) (some ⟨w.heap.size, 0, none⟩) 6 6 2 8 (by rfl) (by rfl) w.heap.size 2 (ffs 2) 5 HRk.out (List.replicate 2 (u8 255)) HN1.out (fun _ => ⟨rfl, ⟨w.heap.size, 0, none⟩, rfl, HS.out⟩) HF1.out HO1.out w.heap.size w HBd.out (Nat.le_refl _) ?_; intro w4 hg4 hb4))
      have HR4 : Hid (w4.heap[w.heap.size]? = some (.cells (ffs 4).toArray 5 (0, 0))) := by rw [← splice_2]; exact hg4
      have HB4 := Lib.hid hb4
      clear hg4 hb4
      go_wp2
      go_roundw
      case rel => exact ⟨4, by simp, HR4, HB4⟩
      case measure => simp [intOf]
    · have HS := Lib.hid (row_src (w := wr.drew) HRk.out)
      rw [take_4] at HS
      have HN1 : Hid ((List.replicate 4 (u8 255)).length = Nat.min 4 4) := Lib.hid (by decide)
      have HF1 : Hid (4 + (List.replicate 4 (u8 255)).length ≤ (ffs 4).length) := Lib.hid (by decide)
      have HO1 : Hid (∀ v ∈ List.replicate 4 (u8 255), v.oneCell' = true) := Lib.hid (fun v hv => by rw [List.eq_of_mem_replicate hv]; rfl)
      have HBd := Lib.hid HBk.out.drew
      have hwr : IntKind.i64.wrap 8 = 8 := by decide
      go_wp2
      go_region_held3 (fun w' => Below w.heap.size w w') (first | exact HBk.out | exact HBd.out | exact hb4) ((refine step_copy_splice rfl (.tmp 41) (.tmp 44) 30 30 rfl 5 Try.underlying30 size5 (some ⟨w.heap.size, 4, none⟩) (some ⟨w.heap.size, 0, none⟩) 4 4 4 8 (by rfl) (by rfl) w.heap.size 4 (ffs 4) 5 HRk.out (List.replicate 4 (u8 255)) HN1.out (fun _ => ⟨rfl, ⟨w.heap.size, 0, none⟩, rfl, HS.out⟩) HF1.out HO1.out w.heap.size w HBd.out (Nat.le_refl _) ?_; intro w4 hg4 hb4))
      have HR4 : Hid (w4.heap[w.heap.size]? = some (.cells (ffs 8).toArray 5 (0, 0))) := by rw [← splice_4]; exact hg4
      have HB4 := Lib.hid hb4
      clear hg4 hb4
      go_wp2
      go_roundw
      case rel => exact ⟨8, by simp, HR4, HB4⟩
      case measure => simp [intOf]
    · go_wp2
      go_ret
      exact ⟨rfl, HRk.out, HBk.out⟩
end Go.Proofs.Ytlimkckomdipkaa
/- The bytes with which files begin; the bodies of blocks. -/
namespace Go.Proofs.Ytlimkckomdipkaa
open Go.RowKit

theorem own_mono {w : World} {base base' n : Nat} {v : Value} {xs : List Value} (h : w.ownsRow base 5 1 v n xs) (hb : base' ≤ base) : w.ownsRow base' 5 1 v n xs := by
  refine ⟨h.1, ?_⟩
  rcases h.2 with h | ⟨g, cap, cur, e1, e2, e3⟩
  · exact .inl h
  · exact .inr ⟨g, cap, cur, e1, by omega, e3⟩
theorem app_below {w w' : World} {base : Nat} {v' : Value} {bs new : List Nat} (h : App w base (.slice none 0 0) bs new v' w') : Below w.heap.size w w' :=
  (Below.refl _ _).grown h.grown (Nat.le_refl _) (by simp [Value.ownBlock])
theorem nil_own (w : World) (base : Nat) : w.ownsRow base 5 1 (.slice none 0 0) ([] : List Nat).length (([] : List Nat).map u8) := World.ownsRow_nil w base 5 1
theorem len2 (low : Bool) (a b : Nat) : (numsB low 2 [a, b]).length = 4 := by rw [numsB_len]; rfl
theorem len4 (low : Bool) (a : Nat) : (numsB low 4 [a]).length = 4 := by rw [numsB_len]; rfl
theorem len42 (low : Bool) (a b : Nat) : (numsB low 4 [a, b]).length = 8 := by rw [numsB_len]; rfl
theorem len44 (low : Bool) (a b c d : Nat) : (numsB low 4 [a, b, c, d]).length = 16 := by rw [numsB_len]; rfl
theorem len45 (low : Bool) (a b c d e : Nat) : (numsB low 4 [a, b, c, d, e]).length = 20 := by rw [numsB_len]; rfl

def oldB (low : Bool) : List Nat := numsB low 4 [2712847316] ++ (numsB low 2 [2, 4] ++ numsB low 4 [0, 0])
def secH (low : Bool) : List Nat := numsB low 4 [439041101] ++ (numsB low 2 [1, 0] ++ List.replicate 8 255)
/-- The body of an interface. -/
def facBy (low : Bool) (lk sn : Nat) (name : ByteArray) : List Nat := numsB low 2 [lk, 0] ++ (numsB low 4 [sn] ++ optB low 2 8 name)
/-- The body of a name or a secret. -/
def pairB (low : Bool) (a b : List Nat) : List Nat := numsB low 2 [a.length, b.length] ++ (a ++ b)
/-- The body of a packet. -/
def pktBy (low : Bool) (fc t rl : Nat) (data : List Nat) (note : ByteArray) : List Nat :=
  numsB low 4 [fc, t / 4294967296, t, data.length, rl] ++ (data ++ (padB (20 + data.length) ++ optB low 1 (20 + data.length + padN (20 + data.length)) note))

set_option maxRecDepth 100000 in
set_option maxHeartbeats 2000000 in
theorem oldbegin_any {w : World} (low : Bool) : Calls Try.prog 64 #[ordV low] w (OwnPost w w.heap.size (oldB low)) := by
  obtain ⟨O, hO⟩ : ∃ O, ordV low = O := ⟨_, rfl⟩
  have HADD := Lib.hid (fun (base : Nat) (w0 : World) (v0 : Value) (b0 : List Nat) (n : Nat) (vs : List Nat) (cs : Array Value) hn hcs hown0 hb0 hl0 hm0 => add_new (w := w0) (base := base) (v := v0) (bs := b0) low n vs hn hown0 hb0 hl0 hm0 cs hcs)
  have HOPT := Lib.hid (fun (base : Nat) (w0 : World) (v0 : Value) (b0 : List Nat) (code : Nat) (s : ByteArray) hown0 hb0 hl0 hs0 => option_any (w := w0) (base := base) (v := v0) (bs := b0) low code s hown0 hb0 hl0 hs0)
  rw [hO] at HADD HOPT ⊢
  clear hO
  obtain ⟨B, hB⟩ : ∃ B, w.heap.size = B := ⟨_, rfl⟩
  have HB := Lib.hid hB
  have hBw : B ≤ w.heap.size := by omega
  rw [hB]
  clear hB
  go_enter Try.func64, Try.ntmps64
  go_wp2_with fail
  refine (HADD.out B w (.slice none 0 0) [] 4 [2712847316] _ (.inr rfl) rfl (nil_own _ _) (by omega) (by simp) (by simp)).mono ?_
  rintro e w1 ⟨v1, rfl, hA1⟩
  have HA1 := Lib.hid (hA1)
  clear hA1

  go_wp2_with fail
  refine (HADD.out B w1 v1 _ 2 [2, 4] _ (.inl rfl) rfl HA1.out.own (by have := HA1.out.grown.size; omega) (by simp [len4]) (by simp)).mono ?_
  rintro e w2 ⟨v2, rfl, hA2⟩
  have HA2 := Lib.hid (HA1.out.trans hA2)
  clear hA2

  go_wp2_with fail
  refine (HADD.out B w2 v2 _ 4 [0, 0] _ (.inr rfl) rfl HA2.out.own (by have := HA2.out.grown.size; omega) (by simp [len4, len2]) (by simp)).mono ?_
  rintro e w3 ⟨v3, rfl, hA3⟩
  have HA3 := Lib.hid (HA2.out.trans hA3)
  clear hA3

  go_wp2
  go_ret
  refine ⟨v3, rfl, ?_, HA3.out.below (Below.refl _ _) hBw (by simp [Value.ownBlock])⟩
  have h := HA3.out.own
  simpa only [List.nil_append, List.append_assoc, oldB] using h

set_option maxRecDepth 100000 in
set_option maxHeartbeats 2000000 in
theorem secbegin_any {w : World} (low : Bool) : Calls Try.prog 59 #[ordV low] w (OwnPost w w.heap.size (secH low)) := by
  obtain ⟨O, hO⟩ : ∃ O, ordV low = O := ⟨_, rfl⟩
  have HADD := Lib.hid (fun (base : Nat) (w0 : World) (v0 : Value) (b0 : List Nat) (n : Nat) (vs : List Nat) (cs : Array Value) hn hcs hown0 hb0 hl0 hm0 => add_new (w := w0) (base := base) (v := v0) (bs := b0) low n vs hn hown0 hb0 hl0 hm0 cs hcs)
  have HOPT := Lib.hid (fun (base : Nat) (w0 : World) (v0 : Value) (b0 : List Nat) (code : Nat) (s : ByteArray) hown0 hb0 hl0 hs0 => option_any (w := w0) (base := base) (v := v0) (bs := b0) low code s hown0 hb0 hl0 hs0)
  rw [hO] at HADD HOPT ⊢
  clear hO
  obtain ⟨B, hB⟩ : ∃ B, w.heap.size = B := ⟨_, rfl⟩
  have HB := Lib.hid hB
  have hBw : B ≤ w.heap.size := by omega
  rw [hB]
  clear hB
  go_enter Try.func59, Try.ntmps59
  go_wp2_with fail
  refine (HADD.out B w (.slice none 0 0) [] 4 [439041101] _ (.inr rfl) rfl (nil_own _ _) (by omega) (by simp) (by simp)).mono ?_
  rintro e w1 ⟨v1, rfl, hA1⟩
  have HA1 := Lib.hid (hA1)
  clear hA1

  go_wp2_with fail
  refine (HADD.out B w1 v1 _ 2 [1, 0] _ (.inl rfl) rfl HA1.out.own (by have := HA1.out.grown.size; omega) (by simp [len4]) (by simp)).mono ?_
  rintro e w2 ⟨v2, rfl, hA2⟩
  have HA2 := Lib.hid (HA1.out.trans hA2)
  clear hA2

  go_wp2_with fail
  have hw2 : B ≤ w2.heap.size := by have := HA2.out.grown.size; omega
  refine (repeat_any (Blk.new w2 5 #[.int .u8 255])).mono ?_
  rintro e w3 ⟨rfl, hbk, hB3⟩
  rw [alloc_size] at hbk hB3
  have hb23 : Below w2.heap.size w2 w3 := ((Below.refl _ w2).alloc (Nat.le_refl _) _).trans (hB3.mono (by omega))
  have hown3 := HA2.out.own.kept (grown_of_below hb23) (by
    cases hb : v2.ownBlock with
    | none => exact .inl rfl
    | some g => exact .inr (by simp))
  have hbyt : Byt w3 w3.heap.size (some ⟨w2.heap.size + 1, 0, none⟩) (List.replicate 8 255) := byt_own (base := 0) (c := 8) (by intro x hx; rw [List.eq_of_mem_replicate hx]; decide) (blk_own (post := []) (by omega) (by simp) (by rw [List.append_nil]; exact hbk) (by simp) (by unfold maxLen; omega) (by simp))
  obtain ⟨v4, w4, hrun, hA4⟩ := run_own_byt w3 B v2 _ hown3 8 hbyt (by simp) (by simp [len4, len2]) (by have := hb23.size; omega)
  have hlen8 : (List.replicate 8 255).length = 8 := by simp
  rw [hlen8] at hrun
  rw [alloc_size]
  have HA4 := Lib.hid (HA2.out.trans (App.pre (grown_of_below hb23) hA4))
  clear hA4 hbyt hown3 hbk hB3 hb23
  go_wp2_with (at_builtin; refine Lib.wpList_append_run _ rfl _ _ _ _ rfl _ _ rfl rfl _ _ hrun ?_)
  go_ret
  refine ⟨v4, rfl, ?_, HA4.out.below (Below.refl _ _) hBw (by simp [Value.ownBlock])⟩
  have h := HA4.out.own
  simpa only [List.nil_append, List.append_assoc, secH] using h

set_option maxRecDepth 100000 in
set_option maxHeartbeats 2000000 in
theorem facebody_any {w : World} (low : Bool) (lk sn : Nat) (name : ByteArray) (hn : name.size ≤ 1000) : Calls Try.prog 60 #[.agg #[.string name, .int .i64 lk, .int .i64 sn], ordV low] w (OwnPost w w.heap.size (facBy low lk sn name)) := by
  obtain ⟨O, hO⟩ : ∃ O, ordV low = O := ⟨_, rfl⟩
  have HADD := Lib.hid (fun (base : Nat) (w0 : World) (v0 : Value) (b0 : List Nat) (n : Nat) (vs : List Nat) (cs : Array Value) hn hcs hown0 hb0 hl0 hm0 => add_new (w := w0) (base := base) (v := v0) (bs := b0) low n vs hn hown0 hb0 hl0 hm0 cs hcs)
  have HOPT := Lib.hid (fun (base : Nat) (w0 : World) (v0 : Value) (b0 : List Nat) (code : Nat) (s : ByteArray) hown0 hb0 hl0 hs0 => option_any (w := w0) (base := base) (v := v0) (bs := b0) low code s hown0 hb0 hl0 hs0)
  rw [hO] at HADD HOPT ⊢
  clear hO

  obtain ⟨W0, hW0⟩ : ∃ W0, w.alloc (.cells #[.string name, .int .i64 lk, .int .i64 sn] 54) = W0 := ⟨_, rfl⟩
  have HB0 : Hid (Below w.heap.size w W0) := Lib.hid (by rw [← hW0]; exact (Below.refl _ w).alloc (Nat.le_refl _) _)
  have k0 : Blk W0 w.heap.size 54 #[.string name, .int .i64 lk, .int .i64 sn] := by rw [← hW0]; exact Blk.new _ _ _
  have hlt0 : w.heap.size < W0.heap.size := k0.lt
  have d0 := k0.cell 0
  have d1 := k0.cell 1
  have d2 := k0.cell 2
  clear k0
  go_enter Try.func60, Try.ntmps60
  go_wp2_with fail
  refine (HADD.out W0.heap.size W0 (.slice none 0 0) [] 2 [lk, 0] _ (.inl rfl) rfl (nil_own _ _) (Nat.le_refl _) (by simp) (by simp)).mono ?_
  rintro e w1 ⟨v1, rfl, hA1⟩
  have HA1 := Lib.hid (hA1)
  obtain ⟨hc1, hf1⟩ := bcell (app_below HA1.out)
  have hz1 : W0.heap.size ≤ w1.heap.size := HA1.out.grown.size
  clear hA1

  go_wp2_with fail
  refine (HADD.out W0.heap.size w1 v1 _ 4 [sn] _ (.inr rfl) rfl HA1.out.own hz1 (by simp [len2]) (by simp)).mono ?_
  rintro e w2 ⟨v2, rfl, hA2⟩
  have HA2 := Lib.hid (HA1.out.trans hA2)
  clear hc1 hf1
  obtain ⟨hc2, hf2⟩ := bcell (app_below HA2.out)
  have hz2 : W0.heap.size ≤ w2.heap.size := HA2.out.grown.size
  clear hA2

  go_wp2_with fail
  refine (HOPT.out W0.heap.size w2 v2 _ 2 name HA2.out.own hz2 (by simp [len2, len4]) hn).mono ?_
  rintro e w3 ⟨v3, rfl, hA3⟩
  have HA3 := Lib.hid (HA2.out.trans hA3)
  clear hc2 hf2
  obtain ⟨hc3, hf3⟩ := bcell (app_below HA3.out)
  have hz3 : W0.heap.size ≤ w3.heap.size := HA3.out.grown.size
  clear hA3

  have hl8 : ([] ++ (numsB low 2 [lk, 0] ++ numsB low 4 [sn])).length = 8 := by simp [len2, len4]
  rw [hl8] at HA3
  go_wp2
  go_ret
  refine ⟨v3, rfl, ?_, HB0.out.trans ((app_below HA3.out).mono HB0.out.size)⟩
  have h := own_mono HA3.out.own HB0.out.size
  simpa only [List.nil_append, List.append_assoc, facBy] using h


set_option maxRecDepth 100000 in
set_option maxHeartbeats 2000000 in
theorem pktbody_any {w : World} {A : Option Addr} {c : Nat} (low : Bool) (t fc rl : Nat) (data : List Nat) (note : ByteArray) (hd : Byt w w.heap.size A data) (hdl : data.length ≤ 1000) (hn : note.size ≤ 1000) :
    Calls Try.prog 62 #[.agg #[.int .i64 t, .int .i64 fc, .int .i64 rl, .slice A data.length c, .string note], ordV low] w (OwnPost w w.heap.size (pktBy low fc t rl data note)) := by
  obtain ⟨O, hO⟩ : ∃ O, ordV low = O := ⟨_, rfl⟩
  have HADD := Lib.hid (fun (base : Nat) (w0 : World) (v0 : Value) (b0 : List Nat) (n : Nat) (vs : List Nat) (cs : Array Value) hn hcs hown0 hb0 hl0 hm0 => add_new (w := w0) (base := base) (v := v0) (bs := b0) low n vs hn hown0 hb0 hl0 hm0 cs hcs)
  have HOPT := Lib.hid (fun (base : Nat) (w0 : World) (v0 : Value) (b0 : List Nat) (code : Nat) (s : ByteArray) hown0 hb0 hl0 hs0 => option_any (w := w0) (base := base) (v := v0) (bs := b0) low code s hown0 hb0 hl0 hs0)
  rw [hO] at HADD HOPT ⊢
  clear hO

  obtain ⟨t32, ht32⟩ : ∃ q : Nat, t / 4294967296 = q := ⟨_, rfl⟩
  have hti : (t : Int) / 4294967296 = (t32 : Int) := by omega
  have HT := Lib.hid ht32
  have HD := Lib.hid hd
  obtain ⟨L, hL⟩ : ∃ L, data.length = L := ⟨_, rfl⟩
  have HL := Lib.hid hL
  rw [hL] at hdl ⊢
  clear ht32 hd hL
  obtain ⟨W0, hW0⟩ : ∃ W0, w.alloc (.cells #[.int .i64 t, .int .i64 fc, .int .i64 rl, .slice A L c, .string note] 47) = W0 := ⟨_, rfl⟩
  have HB0 : Hid (Below w.heap.size w W0) := Lib.hid (by rw [← hW0]; exact (Below.refl _ w).alloc (Nat.le_refl _) _)
  have k0 : Blk W0 w.heap.size 47 #[.int .i64 t, .int .i64 fc, .int .i64 rl, .slice A L c, .string note] := by rw [← hW0]; exact Blk.new _ _ _
  have hlt0 : w.heap.size < W0.heap.size := k0.lt
  have d0 := k0.cell 0
  have d1 := k0.cell 1
  have d2 := k0.cell 2
  have d3 := k0.cell 3
  have d4 := k0.cell 4
  clear k0
  go_enter Try.func62, Try.ntmps62
  go_wp2_with fail
  refine (HADD.out W0.heap.size W0 (.slice none 0 0) [] 4 [fc, t32, t, L, rl] _ (.inr rfl) rfl (nil_own _ _) (Nat.le_refl _) (by simp) (by simp)).mono ?_
  rintro e w1 ⟨v1, rfl, hA1⟩
  have HA1 := Lib.hid (hA1)
  obtain ⟨hc1, hf1⟩ := bcell (app_below HA1.out)
  have hz1 : W0.heap.size ≤ w1.heap.size := HA1.out.grown.size
  clear hA1

  have hbyt : Byt w1 w.heap.size A data := (HD.out.below HB0.out).below ((app_below HA1.out).mono HB0.out.size)
  obtain ⟨v2, w2, hrun, hA2⟩ := run_own_byt w1 W0.heap.size v1 _ HA1.out.own c hbyt (by rw [HL.out]; omega) (by simp [len45]) hz1
  rw [HL.out] at hrun
  have HA2 := Lib.hid (HA1.out.trans hA2)
  obtain ⟨hc2, hf2⟩ := bcell (app_below HA2.out)
  have hz2 : W0.heap.size ≤ w2.heap.size := HA2.out.grown.size
  have hl20 : ([] ++ (numsB low 4 [fc, t32, t, L, rl] ++ data)).length = 20 + L := by simp [len45, HL.out]
  have HF := Lib.hid (fill_any HA2.out.own hz2 (by rw [hl20]; omega))
  rw [hl20] at HF
  clear hA2 hbyt
  go_wp2_with (at_builtin; refine Lib.wpList_append_run _ rfl _ _ _ _ rfl _ _ rfl rfl _ _ hrun ?_)
  clear hc1 hf1 hc2 hf2
  refine HF.out.mono ?_
  rintro e w3 ⟨v3, rfl, hA3⟩
  have HA3 := Lib.hid (HA2.out.trans hA3)
  obtain ⟨hc3, hf3⟩ := bcell (app_below HA3.out)
  have hz3 : W0.heap.size ≤ w3.heap.size := HA3.out.grown.size
  have hl3 : ([] ++ (numsB low 4 [fc, t32, t, L, rl] ++ data ++ padB (20 + L))).length = 20 + L + padN (20 + L) := by simp only [List.nil_append, List.length_append, len45, padB_len, HL.out]
  have hpp := padN_le (20 + L)
  clear hA3 HF
  go_wp2_with fail
  refine (HOPT.out W0.heap.size w3 v3 _ 1 note HA3.out.own hz3 (by rw [hl3]; omega) hn).mono ?_
  rintro e w4 ⟨v4, rfl, hA4⟩
  have HA4 := Lib.hid (HA3.out.trans hA4)
  clear hc3 hf3
  obtain ⟨hc4, hf4⟩ := bcell (app_below HA4.out)
  have hz4 : W0.heap.size ≤ w4.heap.size := HA4.out.grown.size
  clear hA4

  rw [hl3] at HA4
  go_wp2
  go_ret
  refine ⟨v4, rfl, ?_, HB0.out.trans ((app_below HA4.out).mono HB0.out.size)⟩
  have h := own_mono HA4.out.own HB0.out.size
  simpa only [List.nil_append, List.append_assoc, pktBy, HT.out, HL.out] using h


set_option maxRecDepth 100000 in
set_option maxHeartbeats 2000000 in
theorem pairbody_any {w : World} {B1 B2 c1 c2 : Nat} {A1 A2 : Option Addr} {l1 l2 : List Nat} (low : Bool) (h1 : Byt w B1 A1 l1) (h2 : Byt w B2 A2 l2) (hb1 : B1 ≤ w.heap.size) (hb2 : B2 ≤ w.heap.size) (hl1 : l1.length ≤ 1000) (hl2 : l2.length ≤ 1000) :
    Calls Try.prog 61 #[.slice A1 l1.length c1, .slice A2 l2.length c2, ordV low] w (OwnPost w w.heap.size (pairB low l1 l2)) := by
  obtain ⟨O, hO⟩ : ∃ O, ordV low = O := ⟨_, rfl⟩
  have HADD := Lib.hid (fun (base : Nat) (w0 : World) (v0 : Value) (b0 : List Nat) (n : Nat) (vs : List Nat) (cs : Array Value) hn hcs hown0 hb0 hl0 hm0 => add_new (w := w0) (base := base) (v := v0) (bs := b0) low n vs hn hown0 hb0 hl0 hm0 cs hcs)
  have HOPT := Lib.hid (fun (base : Nat) (w0 : World) (v0 : Value) (b0 : List Nat) (code : Nat) (s : ByteArray) hown0 hb0 hl0 hs0 => option_any (w := w0) (base := base) (v := v0) (bs := b0) low code s hown0 hb0 hl0 hs0)
  rw [hO] at HADD HOPT ⊢
  clear hO

  clear HOPT
  have HD1 := Lib.hid h1
  have HD2 := Lib.hid h2
  obtain ⟨L1, hL1⟩ : ∃ L, l1.length = L := ⟨_, rfl⟩
  have HL1 := Lib.hid hL1
  obtain ⟨L2, hL2⟩ : ∃ L, l2.length = L := ⟨_, rfl⟩
  have HL2 := Lib.hid hL2
  rw [hL1] at hl1 ⊢
  rw [hL2] at hl2 ⊢
  clear hL1 hL2 h1 h2
  go_enter Try.func61, Try.ntmps61
  go_wp2_with fail
  refine (HADD.out w.heap.size w (.slice none 0 0) [] 2 [L1, L2] _ (.inl rfl) rfl (nil_own _ _) (Nat.le_refl _) (by simp) (by simp)).mono ?_
  rintro e w1 ⟨v1, rfl, hA1⟩
  have hz1 := hA1.grown.size
  obtain ⟨v2, w2, hrun, hA2⟩ := run_own_byt w1 w.heap.size v1 _ hA1.own c1 (HD1.out.below ((app_below hA1).mono hb1)) (by rw [HL1.out]; omega) (by simp [len2]) hz1
  rw [HL1.out] at hrun
  have hA2' := hA1.trans hA2
  have hz2 := hA2'.grown.size
  obtain ⟨v3, w3, hrun3, hA3⟩ := run_own_byt w2 w.heap.size v2 _ hA2'.own c2 (HD2.out.below ((app_below hA2').mono hb2)) (by rw [HL2.out]; omega) (by simp [len2, HL1.out]; omega) hz2
  rw [HL2.out] at hrun3
  have HA3 := Lib.hid (hA2'.trans hA3)
  clear hA1 hA2 hA2' hA3 hz1 hz2
  go_wp2_with (first | (at_builtin; refine Lib.wpList_append_run _ rfl _ _ _ _ rfl _ _ rfl rfl _ _ hrun ?_) | (at_builtin; refine Lib.wpList_append_run _ rfl _ _ _ _ rfl _ _ rfl rfl _ _ hrun3 ?_))
  go_ret
  refine ⟨v3, rfl, ?_, app_below HA3.out⟩
  have h := HA3.out.own
  simpa only [List.nil_append, List.append_assoc, pairB, HL1.out, HL2.out] using h
end Go.Proofs.Ytlimkckomdipkaa
