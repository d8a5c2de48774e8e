/- Whether a part is full: the program's isFull, the reference's begins. -/
import Derived.Test.YtghdilmlfficlaaWith
namespace Go.Proofs.Ytghdilmlfficlaa
open Go.RowKit

def dsum (l : List Pkt) : Nat := (l.map fun p => p.data.length).sum
theorem dsum_take (l : List Pkt) (k : Nat) (h : k < l.length) : dsum (l.take (k + 1)) = dsum (l.take k) + l[k].data.length := by
  unfold dsum; rw [List.take_succ_eq_append_getElem h, List.map_append, List.sum_append]; rfl
abbrev pV (x : Pkt) (A : Option Addr) (c : Nat) : Value := .agg #[.int .i64 x.time, .int .i64 x.face, .int .i64 x.real, .slice A x.data.length c, .string x.note]
theorem ndiv_pos {t n : Int} (h0 : 0 ≤ t) (h1 : t ≤ 1000000000000000) (hn : 1 ≤ n) : -9223372036854775808 ≤ t.tdiv n ∧ t.tdiv n ≤ 9223372036854775807 := by
  have a := Int.tdiv_nonneg h0 (by omega : (0 : Int) ≤ n)
  rw [Int.tdiv_eq_ediv_of_nonneg h0] at *
  have b := Int.ediv_le_self n h0
  omega

set_option maxRecDepth 100000 in
set_option maxHeartbeats 4000000 in
theorem isFull_0 {w : World} {A Ax : Option Addr} {c cx : Nat} {x : Pkt} {m : Nat} {n : Int} :
    Calls Try.prog 71 #[.slice A m c, pV x Ax cx, .int .i64 0, .int .i64 n] w fun e w' => e = .returned (.bool ((m : Int) == n)) ∧ Below w.heap.size w w' := by
  unfold pV
  obtain ⟨w0, e0, _, _, b0, _⟩ := w_box (rfl : w.heap.size = w.heap.size) #[.int .i64 x.time, .int .i64 x.face, .int .i64 x.real, .slice Ax x.data.length cx, .string x.note] 50
  have HE0 := Lib.hid e0
  have HB0 := Lib.hid b0
  clear e0 b0
  go_enter Try.func71, Try.ntmps71
  go_wp2_with fail
  rw [HE0.out]
  go_ret
  exact ⟨rfl, HB0.out⟩

set_option maxRecDepth 100000 in
set_option maxHeartbeats 4000000 in
theorem isFull_1 {w : World} {A Ax : Option Addr} {c cx : Nat} {x : Pkt} {part : List Pkt} {n : Int} (hp : Els 5 PktE w w.heap.size A part) (h1 : part.length ≤ 100) (hd : ∀ p ∈ part, p.data.length ≤ 400) (hx : x.data.length ≤ 400) :
    Calls Try.prog 71 #[.slice A part.length c, pV x Ax cx, .int .i64 1, .int .i64 n] w fun e w' => e = .returned (.bool (decide (n < ((x.data.length + dsum part : Nat) : Int)))) ∧ Below w.heap.size w w' := by
  unfold pV
  obtain ⟨B, hB⟩ : ∃ B, w.heap.size = B := ⟨_, rfl⟩
  obtain ⟨w0, e0, s0, _, b0, _⟩ := w_box hB #[.int .i64 x.time, .int .i64 x.face, .int .i64 x.real, .slice Ax x.data.length cx, .string x.note] 50
  have HE0 := Lib.hid e0
  have HB0 : Hid (Below B w w0 ∧ B ≤ w0.heap.size) := Lib.hid ⟨b0, by omega⟩
  have HP := Lib.hid hp
  rw [hB] at HP ⊢
  clear e0 b0 hp s0 hB
  go_enter Try.func71, Try.ntmps71
  go_wp2_with fail
  rw [HE0.out]
  go_loopw [9, 11, 40] (fun s _ i wr => ∃ k d : Nat, i = .int .i64 k ∧ k ≤ part.length ∧ s = .int .i64 d ∧ Hid (d = x.data.length + dsum (part.take k) ∧ d ≤ 400 + k * 400) ∧ Hid (Below B w wr ∧ B ≤ wr.heap.size)) (fun _ _ i _ => part.length - (intOf i).toNat)
  case atStart => exact ⟨0, x.data.length, rfl, Nat.zero_le _, rfl, Lib.hid ⟨by simp [dsum], by omega⟩, HB0⟩
  case round =>
    obtain ⟨k, d, rfl, hk, rfl, HD, HW⟩ := hrel
    by_cases hlt : k < part.length
    · obtain ⟨b, o, hA, hb, vs, hvl, ⟨D, dc, rfl, hby, _, _, _, _⟩, hcell⟩ := (HP.out.keep pktK HW.out.1 (Nat.le_refl _)).row k hlt
      subst hA
      have c0 : wr.cell? ⟨b, o + k * 5, none⟩ = _ := hcell 0 _ rfl
      have c1 := hcell 1 _ rfl
      have c2 := hcell 2 _ rfl
      have c3 := hcell 3 _ rfl
      have c4 := hcell 4 _ rfl
      have hds := dsum_take part k hlt
      have hle := hd _ (List.getElem_mem hlt)
      obtain ⟨y, hy⟩ : ∃ y, part[k] = y := ⟨_, rfl⟩
      rw [hy] at c0 c1 c2 c3 c4 hds hle
      have HD2 : Hid (d + y.data.length = x.data.length + dsum (part.take (k + 1)) ∧ d + y.data.length ≤ 400 + (k + 1) * 400) := Lib.hid ⟨by rw [HD.out.1, hds]; omega, by have := HD.out.2; omega⟩
      have hdb : d ≤ 100000 := by have := HD.out.2; omega
      obtain ⟨L, hL⟩ : ∃ L, y.data.length = L := ⟨_, rfl⟩
      rw [hL] at c3 HD2 hle
      have hadd : IntKind.i64.wrap ((d : Int) + (L : Int)) = ((d + L : Nat) : Int) := by rw [IntKind.wrap_i64]; omega
      clear hcell hds hy hL hvl hby
      have HB1 : Hid (Below B w (wr.alloc (.cells #[.int .i64 y.time, .int .i64 y.face, .int .i64 y.real, .slice D L dc, .string y.note] 50)) ∧ B ≤ (wr.alloc (.cells #[.int .i64 y.time, .int .i64 y.face, .int .i64 y.real, .slice D L dc, .string y.note] 50)).heap.size) := Lib.hid ⟨HW.out.1.alloc HW.out.2 _, by rw [alloc_size]; have := HW.out.2; omega⟩
      go_wp2
      go_roundw
      case rel => exact ⟨k + 1, d + L, by go_num, by omega, by go_num, HD2, HB1⟩
      case measure => simp [intOf]; omega
    · have hke : k = part.length := by omega
      have HR : Hid (d = x.data.length + dsum part) := Lib.hid (by have := HD.out.1; rw [List.take_of_length_le (by omega)] at this; exact this)
      clear hke
      go_wp2
      go_ret
      exact ⟨ret_bool (a := decide (n < (d : Int))) (by rw [HR.out]), HW.out.1⟩

set_option maxRecDepth 100000 in
set_option maxHeartbeats 4000000 in
theorem isFull_2 {w : World} {A Ax : Option Addr} {c cx : Nat} {x y : Pkt} {part : List Pkt} {n : Int} (hp : Els 5 PktE w w.heap.size A part) (h1 : part.length ≤ 100) (hd : part.getLast? = some y) (hn : 1 ≤ n) (hx : 0 ≤ x.time ∧ x.time ≤ 1000000000000000) (hy : 0 ≤ y.time ∧ y.time ≤ 1000000000000000) :
    Calls Try.prog 71 #[.slice A part.length c, pV x Ax cx, .int .i64 2, .int .i64 n] w fun e w' => e = .returned (.bool (y.time.tdiv n != x.time.tdiv n)) ∧ Below w.heap.size w w' := by
  unfold pV
  obtain ⟨B, hB⟩ : ∃ B, w.heap.size = B := ⟨_, rfl⟩
  obtain ⟨w0, e0, s0, g0, b0, _⟩ := w_box hB #[.int .i64 x.time, .int .i64 x.face, .int .i64 x.real, .slice Ax x.data.length cx, .string x.note] 50
  have HE0 := Lib.hid e0
  have HB0 : Hid (Below B w w0) := Lib.hid b0
  have x0 : w0.cell? ⟨B, 0, none⟩ = some (.int .i64 x.time) := g0.cell 0
  obtain ⟨m, hm⟩ : ∃ m, part.length = m + 1 := ⟨part.length - 1, by cases part with | nil => simp at hd | cons a l => simp⟩
  have hlast : part[m]'(by omega) = y := by
    rw [List.getLast?_eq_getElem?, hm, Nat.add_sub_cancel, List.getElem?_eq_getElem (by omega)] at hd
    exact Option.some.inj hd
  obtain ⟨b, o, hA, hb, vs, hvl, ⟨D, dc, rfl, hby, _, _, _, _⟩, hcell⟩ := hp.row m (by omega)
  subst hA
  have c0 : w0.cell? ⟨b, o + m * 5, none⟩ = some (.int .i64 y.time) := by
    rw [← hlast]; exact (b0.cell (p := ⟨b, o + m * 5, none⟩) (by show b < B; omega)).trans (hcell 0 _ rfl)
  have hsub : IntKind.i64.wrap (((m + 1 : Nat) : Int) - 1) = (m : Int) := by rw [IntKind.wrap_i64]; omega
  have q1 := ndiv_pos hx.1 hx.2 hn
  have q2 := ndiv_pos hy.1 hy.2 hn
  have hw1 : IntKind.i64.wrap (x.time.tdiv n) = x.time.tdiv n := by rw [IntKind.wrap_i64]; omega
  have hw2 : IntKind.i64.wrap (y.time.tdiv n) = y.time.tdiv n := by rw [IntKind.wrap_i64]; omega
  have hn0 : (n == 0) = false := by simp; omega
  rw [hm, hB]
  clear e0 b0 hp s0 g0 hlast hcell hd q1 q2 hvl hby
  go_enter Try.func71, Try.ntmps71
  go_wp2_with fail
  rw [HE0.out]
  go_quiet (fail)
  go_wp2
  go_ret
  exact ⟨rfl, below_drewN HB0.out _⟩

set_option maxRecDepth 100000 in
set_option maxHeartbeats 4000000 in
theorem begins_0 {w : World} {A Ax : Option Addr} {c cx : Nat} {x : Pkt} {m : Nat} {n : Int} :
    Calls Try.prog 73 #[.slice A m c, pV x Ax cx, .int .i64 0, .int .i64 n] w fun e w' => e = .returned (.bool (decide (n ≤ (m : Int)))) ∧ Below w.heap.size w w' := by
  unfold pV
  obtain ⟨w0, e0, _, _, b0, _⟩ := w_box (rfl : w.heap.size = w.heap.size) #[.int .i64 x.time, .int .i64 x.face, .int .i64 x.real, .slice Ax x.data.length cx, .string x.note] 50
  have HE0 := Lib.hid e0
  have HB0 := Lib.hid b0
  clear e0 b0
  go_enter Try.func73, Try.ntmps73
  go_wp2_with fail
  rw [HE0.out]
  go_ret
  exact ⟨rfl, HB0.out⟩

set_option maxRecDepth 100000 in
set_option maxHeartbeats 4000000 in
theorem begins_1 {w : World} {A Ax : Option Addr} {c cx : Nat} {x : Pkt} {part : List Pkt} {n : Int} (hp : Els 5 PktE w w.heap.size A part) (h1 : part.length ≤ 100) (hd : ∀ p ∈ part, p.data.length ≤ 400) (hx : x.data.length ≤ 400) :
    Calls Try.prog 73 #[.slice A part.length c, pV x Ax cx, .int .i64 1, .int .i64 n] w fun e w' => e = .returned (.bool (decide (n < ((x.data.length + dsum part : Nat) : Int)))) ∧ Below w.heap.size w w' := by
  unfold pV
  obtain ⟨B, hB⟩ : ∃ B, w.heap.size = B := ⟨_, rfl⟩
  obtain ⟨w0, e0, s0, _, b0, _⟩ := w_box hB #[.int .i64 x.time, .int .i64 x.face, .int .i64 x.real, .slice Ax x.data.length cx, .string x.note] 50
  have HE0 := Lib.hid e0
  have HB0 : Hid (Below B w w0 ∧ B ≤ w0.heap.size) := Lib.hid ⟨b0, by omega⟩
  have HP := Lib.hid hp
  rw [hB] at HP ⊢
  clear e0 b0 hp s0 hB
  go_enter Try.func73, Try.ntmps73
  go_wp2_with fail
  rw [HE0.out]
  go_loopw [9, 10] (fun s i wr => ∃ k d : Nat, i = .int .i64 k ∧ k ≤ part.length ∧ s = .int .i64 d ∧ Hid (d = x.data.length + dsum (part.take k) ∧ d ≤ 400 + k * 400) ∧ Hid (Below B w wr ∧ B ≤ wr.heap.size)) (fun _ i _ => part.length - (intOf i).toNat)
  case atStart => exact ⟨0, x.data.length, rfl, Nat.zero_le _, rfl, Lib.hid ⟨by simp [dsum], by omega⟩, HB0⟩
  case round =>
    obtain ⟨k, d, rfl, hk, rfl, HD, HW⟩ := hrel
    by_cases hlt : k < part.length
    · obtain ⟨b, o, hA, hb, vs, hvl, ⟨D, dc, rfl, hby, _, _, _, _⟩, hcell⟩ := (HP.out.keep pktK HW.out.1 (Nat.le_refl _)).row k hlt
      subst hA
      have c0 : wr.cell? ⟨b, o + k * 5, none⟩ = _ := hcell 0 _ rfl
      have c1 := hcell 1 _ rfl
      have c2 := hcell 2 _ rfl
      have c3 := hcell 3 _ rfl
      have c4 := hcell 4 _ rfl
      have hds := dsum_take part k hlt
      have hle := hd _ (List.getElem_mem hlt)
      obtain ⟨y, hy⟩ : ∃ y, part[k] = y := ⟨_, rfl⟩
      rw [hy] at c0 c1 c2 c3 c4 hds hle
      have HD2 : Hid (d + y.data.length = x.data.length + dsum (part.take (k + 1)) ∧ d + y.data.length ≤ 400 + (k + 1) * 400) := Lib.hid ⟨by rw [HD.out.1, hds]; omega, by have := HD.out.2; omega⟩
      have hdb : d ≤ 100000 := by have := HD.out.2; omega
      obtain ⟨L, hL⟩ : ∃ L, y.data.length = L := ⟨_, rfl⟩
      rw [hL] at c3 HD2 hle
      have hadd : IntKind.i64.wrap ((d : Int) + (L : Int)) = ((d + L : Nat) : Int) := by rw [IntKind.wrap_i64]; omega
      clear hcell hds hy hL hvl hby
      have HB1 := HW
      go_wp2
      go_roundw
      case rel => exact ⟨k + 1, d + L, by go_num, by omega, by go_num, HD2, HB1⟩
      case measure => simp [intOf]; omega
    · have hke : k = part.length := by omega
      have HR : Hid (d = x.data.length + dsum part) := Lib.hid (by have := HD.out.1; rw [List.take_of_length_le (by omega)] at this; exact this)
      clear hke
      go_wp2
      go_ret
      exact ⟨ret_bool (a := decide (n < (d : Int))) (by rw [HR.out]), HW.out.1⟩

set_option maxRecDepth 100000 in
set_option maxHeartbeats 4000000 in
theorem begins_2 {w : World} {A Ax : Option Addr} {c cx : Nat} {x y : Pkt} {part : List Pkt} {n : Int} (hp : Els 5 PktE w w.heap.size A part) (h1 : part.length ≤ 100) (hd : part.getLast? = some y) (hn : 1 ≤ n) (hx : 0 ≤ x.time ∧ x.time ≤ 1000000000000000) (hy : 0 ≤ y.time ∧ y.time ≤ 1000000000000000) :
    Calls Try.prog 73 #[.slice A part.length c, pV x Ax cx, .int .i64 2, .int .i64 n] w fun e w' => e = .returned (.bool (y.time.tdiv n != x.time.tdiv n)) ∧ Below w.heap.size w w' := by
  unfold pV
  obtain ⟨B, hB⟩ : ∃ B, w.heap.size = B := ⟨_, rfl⟩
  obtain ⟨w0, e0, s0, g0, b0, _⟩ := w_box hB #[.int .i64 x.time, .int .i64 x.face, .int .i64 x.real, .slice Ax x.data.length cx, .string x.note] 50
  have HE0 := Lib.hid e0
  have HB0 : Hid (Below B w w0) := Lib.hid b0
  have x0 : w0.cell? ⟨B, 0, none⟩ = some (.int .i64 x.time) := g0.cell 0
  obtain ⟨m, hm⟩ : ∃ m, part.length = m + 1 := ⟨part.length - 1, by cases part with | nil => simp at hd | cons a l => simp⟩
  have hlast : part[m]'(by omega) = y := by
    rw [List.getLast?_eq_getElem?, hm, Nat.add_sub_cancel, List.getElem?_eq_getElem (by omega)] at hd
    exact Option.some.inj hd
  obtain ⟨b, o, hA, hb, vs, hvl, ⟨D, dc, rfl, hby, _, _, _, _⟩, hcell⟩ := hp.row m (by omega)
  subst hA
  have c0 : w0.cell? ⟨b, o + m * 5, none⟩ = some (.int .i64 y.time) := by
    rw [← hlast]; exact (b0.cell (p := ⟨b, o + m * 5, none⟩) (by show b < B; omega)).trans (hcell 0 _ rfl)
  have hsub : IntKind.i64.wrap (((m + 1 : Nat) : Int) - 1) = (m : Int) := by rw [IntKind.wrap_i64]; omega
  have q1 := ndiv_pos hx.1 hx.2 hn
  have q2 := ndiv_pos hy.1 hy.2 hn
  have hw1 : IntKind.i64.wrap (x.time.tdiv n) = x.time.tdiv n := by rw [IntKind.wrap_i64]; omega
  have hw2 : IntKind.i64.wrap (y.time.tdiv n) = y.time.tdiv n := by rw [IntKind.wrap_i64]; omega
  have hn0 : (n == 0) = false := by simp; omega
  rw [hm, hB]
  clear e0 b0 hp s0 g0 hlast hcell hd q1 q2 hvl hby
  go_enter Try.func73, Try.ntmps73
  go_wp2_with fail
  rw [HE0.out]
  go_quiet (fail)
  go_wp2
  go_ret
  exact ⟨rfl, below_drewN HB0.out _⟩
end Go.Proofs.Ytghdilmlfficlaa
