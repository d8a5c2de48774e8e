/- Two rows of the same numbers. -/
import Derived.Test.YtghdilmlfficlaaDbl3
namespace Go.Proofs.Ytghdilmlfficlaa
open Go.RowKit

theorem ints_cells {w : World} {base n c : Nat} {A : Option Addr} {l : List Int} (h : w.ownsRow base 3 1 (.slice A n c) n (l.map i64)) (hl : l.length = n) (h0 : 0 < n) :
    ∃ g, A = some ⟨g, 0, none⟩ ∧ g < w.heap.size ∧ ∀ i (h : i < l.length), w.cell? ⟨g, i, none⟩ = some (.int .i64 l[i]) := by
  rcases h.2 with ⟨e, hn⟩ | ⟨g, cap, cur, e, _, hg, hcap, _, hsz, htake⟩
  · omega
  · injection e with e1 e2 e3
    refine ⟨g, e1, (Array.getElem?_eq_some_iff.1 hg).1, fun i hi => ?_⟩
    rw [cell_of_row w g i cur 3 (0, 0) hg]
    have e : (cur.toList.take (n * 1))[i]? = (l.map i64)[i]? := by rw [htake]
    rw [List.getElem?_take_of_lt (by omega), List.getElem?_map, List.getElem?_eq_getElem hi] at e
    rw [← Array.getElem?_toList, e]
    rfl

set_option maxRecDepth 100000 in
set_option maxHeartbeats 4000000 in
theorem sameInts_any {w : World} {b1 b2 c1 c2 : Nat} {A1 A2 : Option Addr} {l : List Int} {n : Nat} (hl : l.length = n) (h1 : w.ownsRow b1 3 1 (.slice A1 n c1) n (l.map i64)) (h2 : w.ownsRow b2 3 1 (.slice A2 n c2) n (l.map i64)) (hn : n ≤ 140737488355328) :
    Calls Try.prog 32 #[.slice A1 n c1, .slice A2 n c2] w fun e w' => e = .returned (.bool true) ∧ Below w.heap.size w w' := by
  have HL := Lib.hid hl
  have H1 := Lib.hid h1
  have H2 := Lib.hid h2
  obtain ⟨B, hB⟩ : ∃ B, w.heap.size = B := ⟨_, rfl⟩
  have HB := Lib.hid hB
  rw [hB]
  have hne : ((n : Int) != (n : Int)) = false := by simp
  clear hl h1 h2 hB
  go_enter Try.func32, Try.ntmps32
  go_wp2
  go_loopw [5] (fun i wr => ∃ k : Nat, i = .int .i64 k ∧ k ≤ n ∧ Hid (Below B w wr)) (fun i _ => n - (intOf i).toNat)
  case atStart => exact ⟨0, rfl, Nat.zero_le _, Lib.hid (Below.refl _ _)⟩
  case round =>
    obtain ⟨k, rfl, hk, HW⟩ := hrel
    by_cases hlt : k < n
    · obtain ⟨g1, rfl, hg1, hc1⟩ := ints_cells H1.out HL.out (by omega)
      obtain ⟨g2, rfl, hg2, hc2⟩ := ints_cells H2.out HL.out (by omega)
      have hkl : k < l.length := by rw [HL.out]; exact hlt
      obtain ⟨z, hz⟩ : ∃ z, l[k] = z := ⟨_, rfl⟩
      have d1 : wr.cell? ⟨g1, k, none⟩ = some (.int .i64 z) := by rw [← hz]; exact (HW.out.cell (p := ⟨g1, k, none⟩) (by rw [← HB.out]; exact hg1)).trans (hc1 k hkl)
      have d2 : wr.cell? ⟨g2, k, none⟩ = some (.int .i64 z) := by rw [← hz]; exact (HW.out.cell (p := ⟨g2, k, none⟩) (by rw [← HB.out]; exact hg2)).trans (hc2 k hkl)
      clear hz hc1 hc2 hg1 hg2
      have hzz : (z != z) = false := by simp
      go_wp2
      go_quiet (fail)
      go_wp2
      go_roundw
      case rel => exact ⟨k + 1, by go_num, by omega, Lib.hid (below_drewN HW.out _)⟩
      case measure => simp [intOf]; omega
    · have hke : k = n := by omega
      subst hke
      go_wp2
      go_ret
      exact ⟨rfl, HW.out⟩
end Go.Proofs.Ytghdilmlfficlaa
