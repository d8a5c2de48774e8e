/- slices.Repeat of one byte, eight times. -/
import Derived.Test.YtlimkckomdipkaaApp
import Derived.Laws.CopyOwn
import Derived.Deep.RegionLaw
import Derived.Deep.RegionHeld3
namespace Go.Proofs.Ytlimkckomdipkaa
open Go.RowKit

set_option maxRecDepth 100000 in
set_option maxHeartbeats 2000000 in
theorem mul64_18 (w : World) : Calls Try.prog 85 #[.int .u64 1, .int .u64 8] w fun e w' => e = .returned (.tuple #[.int .u64 0, .int .u64 8]) ∧ w = w' := by
  have h1 : bits .and .u64 1 4294967295 = 1 := by decide
  have h8 : bits .and .u64 8 4294967295 = 8 := by decide
  have h0 : bits .and .u64 0 4294967295 = 0 := by decide
  have w8 : IntKind.u64.wrap 8 = 8 := by decide
  have w0 : IntKind.u64.wrap 0 = 0 := by decide
  go_enter Try.func85, Try.ntmps85
  go_wp2
  go_ret2
  exact ⟨rfl, rfl⟩

set_option maxRecDepth 100000 in
set_option maxHeartbeats 2000000 in
theorem mul_18 (w : World) : Calls Try.prog 79 #[.int .u64 1, .int .u64 8] w fun e w' => e = .returned (.tuple #[.int .u64 0, .int .u64 8]) ∧ w = w' := by
  go_enter Try.func79, Try.ntmps79
  go_wp2_with fail
  refine (mul64_18 _).mono ?_
  rintro e w' ⟨rfl, rfl⟩
  go_wp2
  go_ret2
  exact ⟨rfl, rfl⟩

theorem size5 : (Try.prog.info? 5).map (·.size) = some 1 := by kernel_rfl
def ffs (k : Nat) : List Value := (List.replicate k 255 ++ List.replicate (8 - k) 0).map u8
theorem toList_madeCells : (madeCells (Value.int IntKind.u8 0).cells (8 * 1)).toList = List.replicate 8 (.int .u8 0) := toList_madeCells_one _ 8
theorem splice_0 : splice (ffs 0) 0 [u8 255] = ffs 1 := rfl
theorem splice_1 : splice (ffs 1) 1 (List.replicate 1 (u8 255)) = ffs 2 := rfl
theorem take_1 : (ffs 1).take 1 = List.replicate 1 (u8 255) := rfl
theorem splice_2 : splice (ffs 2) 2 (List.replicate 2 (u8 255)) = ffs 4 := rfl
theorem take_2 : (ffs 2).take 2 = List.replicate 2 (u8 255) := rfl
theorem splice_4 : splice (ffs 4) 4 (List.replicate 4 (u8 255)) = ffs 8 := rfl
theorem take_4 : (ffs 4).take 4 = List.replicate 4 (u8 255) := rfl

theorem made8 {w w1 : World} (hown : w1.ownsRow w.heap.size 5 1 (Value.slice (some ⟨w.heap.size, 0, none⟩) 8 8) 8 (madeCells (Value.int IntKind.u8 0).cells (8 * 1)).toList) (hgrow : w.grownBy w1 none) :
    Hid (w1.heap[w.heap.size]? = some (.cells (ffs 0).toArray 5 (0, 0))) ∧ Hid (Below w.heap.size w w1) := by
  refine ⟨Lib.hid ?_, Lib.hid ((Below.refl w.heap.size w).grown hgrow (Nat.le_refl _) (fun k h => by cases h))⟩
  rcases hown.2 with ⟨e, _⟩ | ⟨g, cap, cur, e, _, hg, hc, hm, hs, ht⟩
  · cases e
  · injection e with e1 e2 e3
    injection e1 with e1
    injection e1 with e1
    subst e1; subst e3
    have e5 : cur.toList = ffs 0 := by
      rw [← List.take_of_length_le (l := cur.toList) (i := 8 * 1) (by rw [Array.length_toList, hs]; exact Nat.le_refl _), ht, toList_madeCells]
      rfl
    rw [← e5]
    exact hg

/-- The first k bytes of a row, as what a copy reads. -/
theorem row_src {w : World} {g k : Nat} (h : w.heap[g]? = some (.cells (ffs k).toArray 5 (0, 0))) : ∀ (j : Nat) (v : Value), ((ffs k).take k)[j]? = some v → w.cell? ((⟨g, 0, none⟩ : Addr).add j) = some v := by
  intro j v hj
  rw [Go.WideShapes.add_plain, Nat.zero_add, cell_of_row w g j _ 5 (0, 0) h, List.getElem?_toArray]
  rw [List.getElem?_take] at hj
  split at hj
  · exact hj
  · cases hj

set_option maxRecDepth 100000 in
set_option maxHeartbeats 1000000 in
theorem repeat_any {w : World} {b : Nat} (hb : Blk w b 5 #[.int .u8 255]) :
    Calls Try.prog 74 #[.slice (some ⟨b, 0, none⟩) 1 1, .int .i64 8] w fun e w' => e = .returned (.slice (some ⟨w.heap.size, 0, none⟩) 8 8) ∧ Blk w' w.heap.size 5 ((List.replicate 8 255).map u8).toArray ∧ Below w.heap.size w w' := by
  obtain ⟨i0, hi, hz0, hz1, hz2⟩ := info_parts info5
  have HSRC0 : Hid (∀ w1, Below w.heap.size w w1 → ∀ (j : Nat) (v : Value), [u8 255][j]? = some v → w1.cell? ((⟨b, 0, none⟩ : Addr).add j) = some v) := Lib.hid (by
    intro w1 hB1 j v hj
    have hj0 : j = 0 := by
      rcases Nat.eq_zero_or_pos j with h | h
      · exact h
      · rw [List.getElem?_eq_none (by simp; omega)] at hj; cases hj
    subst hj0
    rw [Go.WideShapes.add_plain, (hb.below hB1 hb.lt).cell]
    exact hj)
  have HN0 : Hid ([u8 255].length = Nat.min 1 8) := Lib.hid (by decide)
  have HF0 : Hid (0 + [u8 255].length ≤ (ffs 0).length) := Lib.hid (by decide)
  have HO0 : Hid (∀ v ∈ [u8 255], v.oneCell' = true) := Lib.hid (u8_one [255])
  have w1 : IntKind.u64.wrap 1 = 1 := by decide
  have w8 : IntKind.u64.wrap 8 = 8 := by decide
  have v8 : IntKind.i64.wrap 8 = 8 := by decide
  clear hb
  go_enter Try.func74, Try.ntmps74
  go_wp2_with fail
  refine (mul_18 _).mono ?_
  rintro e w' ⟨rfl, rfl⟩
  go_wp2_with (first | (at_make; refine wpList_make_full _ rfl _ _ 30 rfl w.heap.size 5 i0 (.int .u8 0) 1 Try.underlying30 hi hz0 hz1 .i64 .i64 (8 : Int) (8 : Int) 8 rfl rfl rfl rfl (by rw [hz2]; omega) (by unfold maxLen; omega) (Nat.le_refl _) ?_; intro w1 hown hgrow; obtain ⟨HR, HB1⟩ := made8 hown hgrow; clear hown hgrow) | (with_reducible refine wpList_copy_splice (o := ⟨some 33, _, _, _, _, _⟩) rfl _ _ 30 30 rfl 5 Try.underlying30 size5 _ _ 8 8 1 1 rfl rfl w.heap.size 0 (ffs 0) 5 HR.out [u8 255] HN0.out (fun _ => ⟨rfl, _, rfl, HSRC0.out w1 HB1.out⟩) HF0.out HO0.out w.heap.size w HB1.out (Nat.le_refl _) ?_; intro w2 HG2 hB2; have HB2 := Lib.hid hB2; clear hB2))
  have HR2 : Hid (w2.heap[w.heap.size]? = some (.cells (ffs 1).toArray 5 (0, 0))) := by rw [← splice_0]; exact HG2
  clear HG2 HR
  go_loopw [8] (fun i wr => ∃ k : Nat, (k = 1 ∧ i = .int .i64 1 ∨ k = 2 ∧ i = .int .i64 2 ∨ k = 4 ∧ i = .int .i64 4 ∨ k = 8 ∧ i = .int .i64 8) ∧ Hid (wr.heap[w.heap.size]? = some (.cells (ffs k).toArray 5 (0, 0))) ∧ Hid (Below w.heap.size w wr)) (fun i _ => 8 - (intOf i).toNat)
  case atStart => exact ⟨1, .inl ⟨rfl, rfl⟩, HR2, HB2⟩
  case round =>
    obtain ⟨k, hk, HRk, HBk⟩ := hrel
    rcases hk with ⟨rfl, rfl⟩ | ⟨rfl, rfl⟩ | ⟨rfl, rfl⟩ | ⟨rfl, rfl⟩
    · have HS := Lib.hid (row_src (w := wr.drew) HRk.out)
      rw [take_1] at HS
      have HN1 : Hid ((List.replicate 1 (u8 255)).length = Nat.min 1 7) := Lib.hid (by decide)
      have HF1 : Hid (1 + (List.replicate 1 (u8 255)).length ≤ (ffs 1).length) := Lib.hid (by decide)
      have HO1 : Hid (∀ v ∈ List.replicate 1 (u8 255), v.oneCell' = true) := Lib.hid (fun v hv => by rw [List.eq_of_mem_replicate hv]; rfl)
      have HBd := Lib.hid HBk.out.drew
      have hwr : IntKind.i64.wrap 2 = 2 := by decide
      go_wp2
      go_region_held3 (fun w' => Below w.heap.size w w') (first | exact HBk.out | exact HBd.out | exact hb4) ((refine step_copy_splice rfl (.tmp 41) (.tmp 44) 30 30 rfl 5 Try.underlying30 size5 (some ⟨w.heap.size, 1, none⟩) (some ⟨w.heap.size, 0, none⟩) 7 7 1 8 (by rfl) (by rfl) w.heap.size 1 (ffs 1) 5 HRk.out (List.replicate 1 (u8 255)) HN1.out (fun _ => ⟨rfl, ⟨w.heap.size, 0, none⟩, rfl, HS.out⟩) HF1.out HO1.out w.heap.size w HBd.out (Nat.le_refl _) ?_; intro w4 hg4 hb4))
      have HR4 : Hid (w4.heap[w.heap.size]? = some (.cells (ffs 2).toArray 5 (0, 0))) := by rw [← splice_1]; exact hg4
      have HB4 := Lib.hid hb4
      clear hg4 hb4
      go_wp2
      go_roundw
      case rel => exact ⟨2, by simp, HR4, HB4⟩
      case measure => simp [intOf]
    · have HS := Lib.hid (row_src (w := wr.drew) HRk.out)
      rw [take_2] at HS
      have HN1 : Hid ((List.replicate 2 (u8 255)).length = Nat.min 2 6) := Lib.hid (by decide)
      have HF1 : Hid (2 + (List.replicate 2 (u8 255)).length ≤ (ffs 2).length) := Lib.hid (by decide)
      have HO1 : Hid (∀ v ∈ List.replicate 2 (u8 255), v.oneCell' = true) := Lib.hid (fun v hv => by rw [List.eq_of_mem_replicate hv]; rfl)
      have HBd := Lib.hid HBk.out.drew
      have hwr : IntKind.i64.wrap 4 = 4 := by decide
      go_wp2
      go_region_held3 (fun w' => Below w.heap.size w w') (first | exact HBk.out | exact HBd.out | exact hb4) ((refine step_copy_splice rfl (.tmp 41) (.tmp 44) 30 30 rfl 5 Try.underlying30 size5 (some ⟨w.heap.size, 2, none⟩) (some ⟨w.heap.size, 0, none⟩) 6 6 2 8 (by rfl) (by rfl) w.heap.size 2 (ffs 2) 5 HRk.out (List.replicate 2 (u8 255)) HN1.out (fun _ => ⟨rfl, ⟨w.heap.size, 0, none⟩, rfl, HS.out⟩) HF1.out HO1.out w.heap.size w HBd.out (Nat.le_refl _) ?_; intro w4 hg4 hb4))
      have HR4 : Hid (w4.heap[w.heap.size]? = some (.cells (ffs 4).toArray 5 (0, 0))) := by rw [← splice_2]; exact hg4
      have HB4 := Lib.hid hb4
      clear hg4 hb4
      go_wp2
      go_roundw
      case rel => exact ⟨4, by simp, HR4, HB4⟩
      case measure => simp [intOf]
    · have HS := Lib.hid (row_src (w := wr.drew) HRk.out)
      rw [take_4] at HS
      have HN1 : Hid ((List.replicate 4 (u8 255)).length = Nat.min 4 4) := Lib.hid (by decide)
      have HF1 : Hid (4 + (List.replicate 4 (u8 255)).length ≤ (ffs 4).length) := Lib.hid (by decide)
      have HO1 : Hid (∀ v ∈ List.replicate 4 (u8 255), v.oneCell' = true) := Lib.hid (fun v hv => by rw [List.eq_of_mem_replicate hv]; rfl)
      have HBd := Lib.hid HBk.out.drew
      have hwr : IntKind.i64.wrap 8 = 8 := by decide
      go_wp2
      go_region_held3 (fun w' => Below w.heap.size w w') (first | exact HBk.out | exact HBd.out | exact hb4) ((refine step_copy_splice rfl (.tmp 41) (.tmp 44) 30 30 rfl 5 Try.underlying30 size5 (some ⟨w.heap.size, 4, none⟩) (some ⟨w.heap.size, 0, none⟩) 4 4 4 8 (by rfl) (by rfl) w.heap.size 4 (ffs 4) 5 HRk.out (List.replicate 4 (u8 255)) HN1.out (fun _ => ⟨rfl, ⟨w.heap.size, 0, none⟩, rfl, HS.out⟩) HF1.out HO1.out w.heap.size w HBd.out (Nat.le_refl _) ?_; intro w4 hg4 hb4))
      have HR4 : Hid (w4.heap[w.heap.size]? = some (.cells (ffs 8).toArray 5 (0, 0))) := by rw [← splice_4]; exact hg4
      have HB4 := Lib.hid hb4
      clear hg4 hb4
      go_wp2
      go_roundw
      case rel => exact ⟨8, by simp, HR4, HB4⟩
      case measure => simp [intOf]
    · go_wp2
      go_ret
      exact ⟨rfl, HRk.out, HBk.out⟩
end Go.Proofs.Ytlimkckomdipkaa
