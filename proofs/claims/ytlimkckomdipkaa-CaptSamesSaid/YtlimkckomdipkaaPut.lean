/- The orders of bytes: put. -/
import Derived.Test.YtlimkckomdipkaaApp
namespace Go.Proofs.Ytlimkckomdipkaa
open Go.RowKit

/-- The byte number j of a number. -/
def byN (v j : Nat) : Nat := v / 256 ^ j % 256
/-- A number in n bytes. -/
def numB (low : Bool) (n v : Nat) : List Nat := if low then (List.range n).map (byN v) else ((List.range n).map (byN v)).reverse
theorem numB_len (low : Bool) (n v : Nat) : (numB low n v).length = n := by unfold numB; split <;> simp
theorem numB_lt (low : Bool) (n v : Nat) : ∀ x ∈ numB low n v, x < 256 := by
  intro x hx
  unfold numB at hx
  split at hx
  · obtain ⟨j, _, rfl⟩ := List.mem_map.1 hx; exact Nat.mod_lt _ (by decide)
  · rw [List.mem_reverse] at hx; obtain ⟨j, _, rfl⟩ := List.mem_map.1 hx; exact Nat.mod_lt _ (by decide)

/-- What the first k stores have made of n bytes. -/
def putF (low : Bool) (n v : Nat) : Nat → List Nat
  | 0 => List.replicate n 0
  | k + 1 => (putF low n v k).set (if low then k else n - 1 - k) (byN v k)
theorem putF_len (low : Bool) (n v k : Nat) : (putF low n v k).length = n := by
  induction k with
  | zero => simp [putF]
  | succ k ih => simp [putF, ih]
theorem putF_all (low : Bool) (n v : Nat) (hn : n = 2 ∨ n = 4) : putF low n v n = numB low n v := by
  rcases hn with rfl | rfl <;> cases low <;> rfl

theorem row_set (pre mid post : List Value) (j : Nat) (y : Value) (h : j < mid.length) : (pre ++ mid ++ post).set (pre.length + j) y = pre ++ mid.set j y ++ post := by
  rw [List.append_assoc, List.append_assoc, List.set_append_right _ _ (by omega), Nat.add_sub_cancel_left, List.set_append_left _ _ h]

theorem shr_byte (v j : Nat) : IntKind.u8.wrap ((v : Int) / 2 ^ (8 * j)) = ((byN v j : Nat) : Int) := by
  rw [IntKind.wrap_u8']
  unfold byN
  have e : (256 : Nat) ^ j = 2 ^ (8 * j) := by rw [Nat.pow_mul]
  rw [e]
  simp

set_option maxRecDepth 100000 in
set_option maxHeartbeats 4000000 in
theorem putlow_any {w : World} {g c : Nat} (n v : Nat) (pre post : List Value) (hn : n = 2 ∨ n = 4)
    (hb : Blk w g 5 (pre ++ (List.replicate n 0).map u8 ++ post).toArray) :
    Calls Try.prog 115 #[.agg #[], .slice (some ⟨g, pre.length, none⟩) n c, .int .i64 v] w fun e w' => e = .returned (.tuple #[]) ∧ Blk w' g 5 (pre ++ (numB true n v).map u8 ++ post).toArray ∧ w.grownBy w' (some g) := by
  have hglt := hb.lt
  have HB := Lib.hid hb
  have HN := Lib.hid (putF_all true n v hn)
  have hn4 : n ≤ 4 := by omega
  obtain ⟨o, ho⟩ : ∃ o, pre.length = o := ⟨_, rfl⟩
  have HO := Lib.hid ho
  rw [ho]
  clear hb ho hn
  go_enter Try.func115, Try.ntmps115
  go_wp2
  go_loopw [6, 9] (fun _ i wr => ∃ k : Nat, i = .int .i64 k ∧ k ≤ n ∧ Hid (Blk wr g 5 (pre ++ (putF true n v k).map u8 ++ post).toArray ∧ w.grownBy wr (some g))) (fun _ i _ => n - (intOf i).toNat)
  case atStart => exact ⟨0, rfl, Nat.zero_le _, Lib.hid ⟨HB.out.alloc _, World.grownBy_alloc _ _ _⟩⟩
  case round =>
    obtain ⟨k, rfl, hk, HW⟩ := hrel
    by_cases hlt : k < n
    · have hfz := HW.out.1.frozen (o + k)
      have hcl := HW.out.1.cell (o + k)
      have hin : o + k < (pre ++ (putF true n v k).map u8 ++ post).length := by rw [List.length_append, List.length_append, List.length_map, putF_len, HO.out]; omega
      obtain ⟨old, hold⟩ : ∃ old, (pre ++ (putF true n v k).map u8 ++ post).toArray[o + k]? = some old := ⟨_, by rw [List.getElem?_toArray]; exact List.getElem?_eq_getElem hin⟩
      rw [hold] at hcl
      have hsb := shr_byte v k
      obtain ⟨y, hy⟩ : ∃ y, byN v k = y := ⟨_, rfl⟩
      rw [hy] at hsb
      have HS : Hid (Blk (wr.setCell ⟨g, o + k, none⟩ (.int .u8 (y : Int))) g 5 (pre ++ (putF true n v (k + 1)).map u8 ++ post).toArray) := Lib.hid (by
        have h := HW.out.1.set_ (o + k) (.int .u8 (y : Int))
        rw [List.setIfInBounds_toArray, ← HO.out, row_set _ _ _ _ _ (by rw [List.length_map, putF_len]; exact hlt)] at h
        rw [putF, hy]
        simp only [if_true, List.map_set]
        rw [← HO.out]
        exact h)
      have HG : Hid (w.grownBy (wr.setCell ⟨g, o + k, none⟩ (.int .u8 (y : Int))) (some g)) := Lib.hid (by
        have h := HW.out.2
        refine ⟨h.os, h.tape, h.output, by rw [show (wr.setCell ⟨g, o + k, none⟩ (.int .u8 (y : Int))).heap.size = wr.heap.size by simp [World.setCell]]; exact h.size, fun q hq hne => ?_⟩
        exact (Below.heap_setCell wr ⟨g, o + k, none⟩ _ q (fun e => hne (by rw [e]))).trans (h.block q hq hne))
      clear hold hin hy
      go_wp2
      go_roundw
      case rel => exact ⟨k + 1, by go_num, by omega, Lib.hid ⟨HS.out, HG.out⟩⟩
      case measure => simp [intOf]; omega
    · have hkn : k = n := by omega
      subst hkn
      go_wp2
      go_end0
      refine ⟨rfl, ?_, HW.out.2⟩
      have := HW.out.1
      rw [HN.out] at this
      exact this
set_option maxRecDepth 100000 in
set_option maxHeartbeats 4000000 in
theorem puthigh_any {w : World} {g c : Nat} (n v : Nat) (pre post : List Value) (hn : n = 2 ∨ n = 4)
    (hb : Blk w g 5 (pre ++ (List.replicate n 0).map u8 ++ post).toArray) :
    Calls Try.prog 117 #[.agg #[], .slice (some ⟨g, pre.length, none⟩) n c, .int .i64 v] w fun e w' => e = .returned (.tuple #[]) ∧ Blk w' g 5 (pre ++ (numB false n v).map u8 ++ post).toArray ∧ w.grownBy w' (some g) := by
  have hglt := hb.lt
  have HB := Lib.hid hb
  have HN := Lib.hid (putF_all false n v hn)
  have hn4 : n ≤ 4 := by omega
  obtain ⟨o, ho⟩ : ∃ o, pre.length = o := ⟨_, rfl⟩
  have HO := Lib.hid ho
  rw [ho]
  clear hb ho hn
  go_enter Try.func117, Try.ntmps117
  go_wp2
  go_loopw [7, 13] (fun _ i wr => ∃ k : Nat, i = .int .i64 k ∧ k ≤ n ∧ Hid (Blk wr g 5 (pre ++ (putF false n v k).map u8 ++ post).toArray ∧ w.grownBy wr (some g))) (fun _ i _ => n - (intOf i).toNat)
  case atStart => exact ⟨0, rfl, Nat.zero_le _, Lib.hid ⟨HB.out.alloc _, World.grownBy_alloc _ _ _⟩⟩
  case round =>
    obtain ⟨k, rfl, hk, HW⟩ := hrel
    by_cases hlt : k < n
    · obtain ⟨q0, hq0⟩ : ∃ q0, n - 1 - k = q0 := ⟨_, rfl⟩
      have HQ := Lib.hid hq0
      have hqi : (n : Int) - 1 - (k : Int) = (q0 : Int) := by omega
      have hqn : q0 < n := by omega
      have hfz := HW.out.1.frozen (o + q0)
      have hcl := HW.out.1.cell (o + q0)
      have hin : o + q0 < (pre ++ (putF false n v k).map u8 ++ post).length := by rw [List.length_append, List.length_append, List.length_map, putF_len, HO.out]; omega
      obtain ⟨old, hold⟩ : ∃ old, (pre ++ (putF false n v k).map u8 ++ post).toArray[o + q0]? = some old := ⟨_, by rw [List.getElem?_toArray]; exact List.getElem?_eq_getElem hin⟩
      rw [hold] at hcl
      have hsb := shr_byte v k
      obtain ⟨y, hy⟩ : ∃ y, byN v k = y := ⟨_, rfl⟩
      rw [hy] at hsb
      have HS : Hid (Blk (wr.setCell ⟨g, o + q0, none⟩ (.int .u8 (y : Int))) g 5 (pre ++ (putF false n v (k + 1)).map u8 ++ post).toArray) := Lib.hid (by
        have h := HW.out.1.set_ (o + q0) (.int .u8 (y : Int))
        rw [List.setIfInBounds_toArray, ← HO.out, row_set _ _ _ _ _ (by rw [List.length_map, putF_len]; exact hqn)] at h
        rw [putF, hy]
        simp only [Bool.false_eq_true, if_false, List.map_set, HQ.out]
        rw [← HO.out]
        exact h)
      have HG : Hid (w.grownBy (wr.setCell ⟨g, o + q0, none⟩ (.int .u8 (y : Int))) (some g)) := Lib.hid (by
        have h := HW.out.2
        refine ⟨h.os, h.tape, h.output, by rw [show (wr.setCell ⟨g, o + q0, none⟩ (.int .u8 (y : Int))).heap.size = wr.heap.size by simp [World.setCell]]; exact h.size, fun q hq hne => ?_⟩
        exact (Below.heap_setCell wr ⟨g, o + q0, none⟩ _ q (fun e => hne (by rw [e]))).trans (h.block q hq hne))
      clear hold hin hy hq0
      go_wp2
      go_roundw
      case rel => exact ⟨k + 1, by go_num, by omega, Lib.hid ⟨HS.out, HG.out⟩⟩
      case measure => simp [intOf]; omega
    · have hkn : k = n := by omega
      subst hkn
      go_wp2
      go_end0
      refine ⟨rfl, ?_, HW.out.2⟩
      have := HW.out.1
      rw [HN.out] at this
      exact this
end Go.Proofs.Ytlimkckomdipkaa
