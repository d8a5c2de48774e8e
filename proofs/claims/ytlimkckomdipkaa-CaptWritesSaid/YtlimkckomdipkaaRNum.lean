/- The reference's numbers, and bytes filled up, joined, in options and blocks. -/
import Derived.Test.YtlimkckomdipkaaWB
namespace Go.Proofs.Ytlimkckomdipkaa
open Go.RowKit

/-- A row just made, all of it. -/
theorem made_blk {w w1 : World} {n : Nat} (hown : w1.ownsRow w.heap.size 5 1 (Value.slice (some ⟨w.heap.size, 0, none⟩) n n) n (madeCells (Value.int IntKind.u8 0).cells (n * 1)).toList) : Blk w1 w.heap.size 5 ((List.replicate n 0).map u8).toArray := by
  have e0 : (madeCells (Value.int IntKind.u8 0).cells (n * 1)).toList = (List.replicate n 0).map u8 := by
    rw [Nat.mul_one, show (Value.int IntKind.u8 0).cells = #[.int .u8 0] from rfl]
    have := toList_madeCells_one (Value.int IntKind.u8 0) n
    rw [List.map_replicate]
    exact this
  rcases hown.2 with ⟨e, _⟩ | ⟨g, cap, cur, e, _, hg, hc, hm, hs, ht⟩
  · cases e
  · injection e with e1 e2 e3
    injection e1 with e1
    injection e1 with e1
    subst e1; subst e3
    have e5 : cur.toList = (List.replicate n 0).map u8 := by
      rw [← List.take_of_length_le (l := cur.toList) (i := n * 1) (by rw [Array.length_toList, hs]; omega), ht, e0]
    unfold Blk
    rw [← e5]
    exact hg
set_option maxRecDepth 100000 in
set_option maxHeartbeats 4000000 in
theorem rnumber_any {w : World} (low : Bool) (n v : Nat) (hn : n = 2 ∨ n = 4) :
    Calls Try.prog 65 #[.int .i64 v, .int .i64 n, .bool low] w (OwnPost w w.heap.size (numB low n v)) := by
  obtain ⟨i0, hi, hz0, hz1, hz2⟩ := info_parts info5
  have HN := Lib.hid (putF_all low n v hn)
  have hn4 : n ≤ 4 := by omega
  have hn1 : 1 ≤ n := by omega
  obtain ⟨g, hg⟩ : ∃ g, w.heap.size = g := ⟨_, rfl⟩
  clear hn
  rw [hg]
  go_enter Try.func65, Try.ntmps65
  go_wp2_with (at_make; refine wpList_make_full _ rfl _ _ 30 rfl w.heap.size 5 i0 (.int .u8 0) 1 Try.underlying30 hi hz0 hz1 .i64 .i64 (n : Int) (n : Int) n rfl rfl rfl rfl (by rw [hz2]; omega) (by unfold maxLen; omega) (Nat.le_refl _) ?_; intro w1 hown hgrow; have HR : Hid (Blk w1 g 5 ((List.replicate n 0).map u8).toArray ∧ w.grownBy w1 none) := Lib.hid ⟨by rw [← hg]; exact made_blk hown, hgrow⟩; rw [hg]; clear hown hgrow)
  go_loopw [8, 9] (fun i _ wr => ∃ k : Nat, i = .int .i64 k ∧ k ≤ n ∧ Hid (Blk wr g 5 ((putF low n v k).map u8).toArray ∧ Below g w wr)) (fun i _ _ => n - (intOf i).toNat)
  case atStart => exact ⟨0, rfl, Nat.zero_le _, Lib.hid ⟨HR.out.1, (Below.refl g w).grown HR.out.2 (by omega) (fun k h => by cases h)⟩⟩
  case round =>
    obtain ⟨k, rfl, hk, HW⟩ := hrel
    by_cases hlt : k < n
    · obtain ⟨q0, hq0⟩ : ∃ q0, (if low then k else n - 1 - k) = q0 := ⟨_, rfl⟩
      have HQ := Lib.hid hq0
      have hqn : q0 < n := by rw [← hq0]; split <;> omega
      have hfz := HW.out.1.frozen q0
      have hcl := HW.out.1.cell q0
      have hin : q0 < ((putF low n v k).map u8).length := by rw [List.length_map, putF_len]; exact hqn
      obtain ⟨old, hold⟩ : ∃ old, ((putF low n v k).map u8).toArray[q0]? = some old := ⟨_, by rw [List.getElem?_toArray]; exact List.getElem?_eq_getElem hin⟩
      rw [hold] at hcl
      have hsb := shr_byte v k
      obtain ⟨y, hy⟩ : ∃ y, byN v k = y := ⟨_, rfl⟩
      rw [hy] at hsb
      have HS : Hid (Blk (wr.setCell ⟨g, q0, none⟩ (.int .u8 (y : Int))) g 5 ((putF low n v (k + 1)).map u8).toArray) := Lib.hid (by
        have h := HW.out.1.set_ q0 (.int .u8 (y : Int))
        rw [List.setIfInBounds_toArray] at h
        rw [putF, hy, HQ.out, List.map_set]
        exact h)
      have HG : Hid (Below g w (wr.setCell ⟨g, q0, none⟩ (.int .u8 (y : Int)))) := Lib.hid (HW.out.2.setCell (p := ⟨g, q0, none⟩) (Nat.le_refl g) _)
      clear hold hin hy
      cases low with
      | true =>
        have hqk : q0 = k := by rw [← hq0]; rfl
        subst hqk
        clear hq0
        go_wp2
        go_roundw
        case rel => exact ⟨q0 + 1, by go_num, by omega, Lib.hid ⟨HS.out, HG.out⟩⟩
        case measure => simp [intOf]; omega
      | false =>
        have hq1 : n - 1 - k = q0 := hq0
        have hqi : (n : Int) - 1 - (k : Int) = (q0 : Int) := by omega
        clear hq0 hq1
        go_wp2
        go_roundw
        case rel => exact ⟨k + 1, by go_num, by omega, Lib.hid ⟨HS.out, HG.out⟩⟩
        case measure => simp [intOf]; omega
    · have hkn : k = n := by omega
      subst hkn
      go_wp2
      go_ret
      have h1 := HW.out.1
      rw [HN.out] at h1
      refine ⟨_, rfl, ?_, HW.out.2⟩
      have hl : (numB low k v).length = k := numB_len low k v
      rw [hl]
      exact blk_own (post := []) (Nat.le_refl g) (by simp [hl]) (by simpa using h1) (Nat.le_refl _) (by unfold maxLen; omega) (by simp [hl])
theorem rfour_any {w : World} (low : Bool) (v : Nat) : Calls Try.prog 34 #[.int .i64 v, .bool low] w (OwnPost w w.heap.size (numB low 4 v)) := by
  have H := Lib.hid (rnumber_any (w := w) low 4 v (.inr rfl))
  go_enter Try.func34, Try.ntmps34
  go_wp2_with fail
  refine H.out.mono ?_
  rintro e w1 ⟨v1, rfl, h1⟩
  have H1 := Lib.hid h1
  clear h1
  go_wp2
  go_ret
  exact ⟨_, rfl, H1.out⟩
theorem rtwo_any {w : World} (low : Bool) (v : Nat) : Calls Try.prog 35 #[.int .i64 v, .bool low] w (OwnPost w w.heap.size (numB low 2 v)) := by
  have H := Lib.hid (rnumber_any (w := w) low 2 v (.inl rfl))
  go_enter Try.func35, Try.ntmps35
  go_wp2_with fail
  refine H.out.mono ?_
  rintro e w1 ⟨v1, rfl, h1⟩
  have H1 := Lib.hid h1
  clear h1
  go_wp2
  go_ret
  exact ⟨_, rfl, H1.out⟩
end Go.Proofs.Ytlimkckomdipkaa
