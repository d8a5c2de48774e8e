/- known: writing is there. -/
import Derived.Test.YtlimkckomdipkaaW10
namespace Go.Proofs.Ytlimkckomdipkaa
open Go.RowKit

def cap1 : Cap := ⟨⟨#[]⟩, [⟨⟨#[]⟩, 1, 0⟩], [], [], []⟩
theorem err1 : errV cap1 = 0 := by decide +kernel
theorem plain1 : plainC cap1 = cap1 := rfl
theorem old1 : (oldFileB false cap1).length = 24 := by decide +kernel
theorem blocks1 : (blocksB true cap1).length = 48 := by decide +kernel
theorem wr1 : writeR true false cap1 = (oldFileB false cap1, 0) := by
  unfold writeR; rw [if_pos err1, eqB_true plain1.symm]; rfl
theorem wr2 : writeR false true cap1 = (blocksB true cap1, 0) := by
  unfold writeR; rw [if_pos err1]; rfl
theorem capM_one {w : World} {g : Nat} (h : Blk w g 54 #[.string ⟨#[]⟩, .int .i64 1, .int .i64 0]) : CapM w w.heap.size ⟨some ⟨g, 0, none⟩, 1, none, 0, none, 0, none, 0⟩ cap1 :=
  ⟨by show ByteArray.size ⟨#[]⟩ ≤ _; simp [ByteArray.size], els_one_fac h h.lt ⟨by decide, by decide⟩ ⟨by decide, by decide⟩, els_nil, els_nil, els_nil, ⟨Nat.le_refl _, (by decide : 1 * 32 ≤ 140737488355328), fun h => by cases h⟩, ⟨Nat.le_refl _, (by decide : 0 * 40 ≤ 140737488355328), fun _ => rfl⟩, ⟨Nat.le_refl _, (by decide : 0 * 40 ≤ 140737488355328), fun _ => rfl⟩, ⟨Nat.le_refl _, (by decide : 0 * 64 ≤ 140737488355328), fun _ => rfl⟩⟩

set_option maxRecDepth 100000 in
set_option maxHeartbeats 4000000 in
theorem known_any (w : World) : Calls Try.prog 9 #[] w fun e w' => e = .returned (.bool true) ∧ Below w.heap.size w w' := by
  obtain ⟨B, hB⟩ : ∃ B, w.heap.size = B := ⟨_, rfl⟩
  obtain ⟨W0, hW0⟩ : ∃ W0, (w.alloc (.cells #[.string ⟨#[]⟩, .int .i64 1, .int .i64 0] 54)).alloc (.cells #[.string ⟨#[]⟩, .slice none 0 0, .slice none 0 0, .slice none 0 0, .slice none 0 0] 27) = W0 := ⟨_, rfl⟩
  have HF0 : Hid (Blk W0 B 54 #[.string ⟨#[]⟩, .int .i64 1, .int .i64 0] ∧ Below B w W0) := Lib.hid (by rw [← hW0, ← hB]; exact ⟨(Blk.new _ _ _).alloc _, ((Below.refl _ w).alloc (Nat.le_refl _) _).alloc (by rw [alloc_size]; omega) _⟩)
  have HC0 : Hid (Blk W0 (B + 1) 27 #[.string ⟨#[]⟩, .slice none 0 0, .slice none 0 0, .slice none 0 0, .slice none 0 0]) := Lib.hid (by
    have h := Blk.new (w.alloc (.cells #[.string ⟨#[]⟩, .int .i64 1, .int .i64 0] 54)) 27 #[.string ⟨#[]⟩, .slice none 0 0, .slice none 0 0, .slice none 0 0, .slice none 0 0]
    rw [alloc_size, hB] at h
    rw [← hW0]; exact h)
  have HS := Lib.hid (five_set (.string ⟨#[]⟩) (.slice (some ⟨B, 0, none⟩) 1 1) (.slice none 0 0) (.slice none 0 0) (.slice none 0 0) HC0.out HF0.out.2 (Nat.le_succ B))
  have HF9 := Lib.hid (HS.out.2.2.2 B 54 _ (by decide) HF0.out.1)
  have q0 : W0.cell? ⟨B + 1, 0, none⟩ = some (.string ⟨#[]⟩) := HC0.out.cell 0
  have qf0 : W0.frozen? ⟨B + 1, 0, none⟩ = false := HC0.out.frozen 0
  have q1 : W0.cell? ⟨B + 1, 1, none⟩ = some (.slice none 0 0) := HC0.out.cell 1
  have qf1 : W0.frozen? ⟨B + 1, 1, none⟩ = false := HC0.out.frozen 1
  have q2 : W0.cell? ⟨B + 1, 2, none⟩ = some (.slice none 0 0) := HC0.out.cell 2
  have qf2 : W0.frozen? ⟨B + 1, 2, none⟩ = false := HC0.out.frozen 2
  have q3 : W0.cell? ⟨B + 1, 3, none⟩ = some (.slice none 0 0) := HC0.out.cell 3
  have qf3 : W0.frozen? ⟨B + 1, 3, none⟩ = false := HC0.out.frozen 3
  have q4 : W0.cell? ⟨B + 1, 4, none⟩ = some (.slice none 0 0) := HC0.out.cell 4
  have qf4 : W0.frozen? ⟨B + 1, 4, none⟩ = false := HC0.out.frozen 4
  have H1 := Lib.hid (write_any true false (capM_one HF9.out))
  rw [hB]
  go_enter Try.func9, Try.ntmps9
  go_wp2_with fail
  clear hW0
  generalize hW9 : ((((W0.setCell ⟨B + 1, 0, none⟩ (.string ⟨#[]⟩)).setCell ⟨B + 1, 1, none⟩ (.slice (some ⟨B, 0, none⟩) 1 1)).setCell ⟨B + 1, 2, none⟩ (.slice none 0 0)).setCell ⟨B + 1, 3, none⟩ (.slice none 0 0)).setCell ⟨B + 1, 4, none⟩ (.slice none 0 0) = W9 at HS HF9 H1 ⊢
  refine H1.out.mono ?_
  rintro e w1 ⟨v1, rfl, ho1, hb1⟩
  rw [wr1] at ho1 ⊢
  dsimp only at ho1 ⊢
  rw [old1] at ho1
  obtain ⟨A1, c1, rfl, _, _⟩ := own_form2 ho1
  have HF1 : Hid (Blk w1 B 54 #[.string ⟨#[]⟩, .int .i64 1, .int .i64 0] ∧ Below B w w1) := Lib.hid ⟨HF9.out.below hb1 HF9.out.lt, HS.out.2.1.trans (hb1.mono (Nat.le_of_lt HF9.out.lt))⟩
  have HC1 := Lib.hid (HS.out.1.below hb1 HS.out.1.lt)
  have r0 : w1.cell? ⟨B + 1, 0, none⟩ = some (.string ⟨#[]⟩) := HC1.out.cell 0
  have r1 : w1.cell? ⟨B + 1, 1, none⟩ = some (.slice (some ⟨B, 0, none⟩) 1 1) := HC1.out.cell 1
  have r2 : w1.cell? ⟨B + 1, 2, none⟩ = some (.slice none 0 0) := HC1.out.cell 2
  have r3 : w1.cell? ⟨B + 1, 3, none⟩ = some (.slice none 0 0) := HC1.out.cell 3
  have r4 : w1.cell? ⟨B + 1, 4, none⟩ = some (.slice none 0 0) := HC1.out.cell 4
  have H2 := Lib.hid (write_any false true (capM_one HF1.out.1))
  clear q0 q1 q2 q3 q4 qf0 qf1 qf2 qf3 qf4 ho1 hb1
  go_wp2_with fail
  refine H2.out.mono ?_
  rintro e w2 ⟨v2, rfl, ho2, hb2⟩
  rw [wr2] at ho2 ⊢
  dsimp only at ho2 ⊢
  rw [blocks1] at ho2
  obtain ⟨A2, c2, rfl, _, _⟩ := own_form2 ho2
  have HF2 : Hid (Below B w w2) := Lib.hid (HF1.out.2.trans (hb2.mono (Nat.le_of_lt HF1.out.1.lt)))
  clear r0 r1 r2 r3 r4 ho2 hb2
  go_wp2
  go_ret
  exact ⟨rfl, HF2.out⟩
end Go.Proofs.Ytlimkckomdipkaa
