/- Unseven: the iterator over the bytes of a number by sevens; Seven's error; the reference's Seven. -/
import Derived.Test.YtbgkkaecpmgnoaaDoorUnsMath
import Derived.Test.YtbgkkaecpmgnoaaDoorKnown
import Derived.Sort.QuietIn
namespace Go.Proofs.YtbgkkaecpmgnoaaDoor
open Go.RowKit Go.Shelf

attribute [local go_sem] Oper.semAt_some

theorem and128 (x : Nat) (h : x < 256) : bits .and .u8 (x : Int) 128 = if 128 ≤ x then 128 else 0 := by
  have e := u8_and_nat x 128 h (by decide)
  rw [show (128 : Int) = ((128 : Nat) : Int) from rfl, e, show (128 : Nat) = 2 ^ 7 from rfl, nat_bit 7 x]
  split <;> simp <;> omega
theorem and127 (x : Nat) (h : x < 256) : bits .and .u8 (x : Int) 127 = ((part x true).1.1 : Int) := by
  have e := u8_and_nat x 127 h (by decide)
  rw [show (127 : Int) = ((127 : Nat) : Int) from rfl, e, nat_mask7]

set_option maxRecDepth 100000 in
set_option maxHeartbeats 1000000 in
theorem partsIn1_in (n : Nat) (hn : 1 ≤ n) (l Bn n₀ c : Nat) (A : Option Addr) (bs : List Nat) (hL : bs.length ≤ 7) (J Jx : List Part → World → Prop)
    (hY : ∀ pre x W, J pre W → pre.length < (pin bs).length → YieldAt Fence.wide (n - 1) Tryd.prog l (encP x) W fun e W' =>
      (e = .returned (.bool true) ∧ J (pre ++ [x]) W' ∧ Below n₀ W W') ∨ (e = .returned (.bool false) ∧ Jx (pre ++ [x]) W'))
    (W : World) (hBn : W.cell? ⟨Bn, 0, none⟩ = some (.slice A bs.length c)) (hm : Byt W n₀ A bs) (h0 : J [] W) :
    CallsIn Fence.wide n Tryd.prog 50 #[.func (.yield l) #[] #[], .pointer (some ⟨Bn, 0, none⟩)] W fun e W' => (∃ v, e = .returned v) ∧
      ((∃ ys, ys = pin bs ∧ J ys W') ∨ (∃ pre, pre <+: pin bs ∧ Jx pre W')) := by
  obtain ⟨L, hLL⟩ : ∃ L, bs.length = L := ⟨_, rfl⟩
  have HL := Lib.hid hLL
  rw [hLL] at hL hBn
  clear hLL
  refine callsIn_of_wp Tryd.func50 rfl trivial ?_ rfl
  simp only [Tryd.ntmps50, List.size_toArray, List.length_cons, List.length_nil, Nat.reduceAdd, Nat.reduceSub, Array.replicate_succ, Array.replicate_zero, List.push_toArray, List.append_toArray, List.nil_append, List.cons_append]
  gi_wp2
  gi_loopw [8] (fun i wr => ∃ (pre : List Part) (k : Nat), i = .int .i64 k ∧ k ≤ L ∧ J pre wr ∧ Hid (pre ++ pin (bs.drop k) = pin bs) ∧ Hid (Byt wr n₀ A bs))
    (fun i _ => L - (intOf i).toNat)
  case atStart =>
    exact ⟨[], 0, rfl, Nat.zero_le _, h0, Lib.hid rfl, Lib.hid hm⟩
  case round =>
    obtain ⟨pre, k, rfl, hk, hJs, HE, HM⟩ := hrel
    by_cases hlt : k < L
    · obtain ⟨b, o, rfl, hb, hcell⟩ := HM.out.cells (by rw [HL.out]; omega)
      have hck := hcell k (by rw [HL.out]; exact hlt)
      have hx := at8_lt HM.out.lt k
      have hdr : bs.drop k = at8 bs k :: bs.drop (k + 1) := by rw [List.drop_eq_getElem_cons (by rw [HL.out]; exact hlt), at8_eq bs k (by rw [HL.out]; exact hlt)]
      obtain ⟨x, hX⟩ : ∃ x, at8 bs k = x := ⟨_, rfl⟩
      rw [hX] at hck hx hdr
      rw [hdr] at HE
      have h127 := and127 x hx
      have h128 := and128 x hx
      obtain ⟨p, hp⟩ : ∃ p : Nat, (part x true).1.1 = p := ⟨_, rfl⟩
      have hp' : (part x false).1.1 = p := hp
      have hp2 : p < 128 := by rw [← hp]; exact (part x true).2
      rw [hp] at h127
      clear hX hcell hdr
      by_cases hmore : 128 ≤ x
      · rw [if_pos hmore] at h128
        have HE2 : Hid (pre ++ part x true :: pin (bs.drop (k + 1)) = pin bs) := Lib.hid (by rw [← pin_more x _ hmore]; exact HE.out)
        have hlen : pre.length < (pin bs).length := by rw [← HE2.out, List.length_append]; simp
        clear HE
        obtain ⟨fn, tmps, assign, body, hy, hR⟩ := hY pre (part x true) wr hJs hlen
        have hy2 : ∀ q : Nat, q = (part x true).1.1 → (Instr.yield l #[.int .i64 q, .bool true]).run Tryd.prog wr = _ := fun q e => by subst e; exact hy
        have hy3 := hy2 p hp.symm
        clear hy hy2
        gi_wp2
        refine hR.mono ?_
        rintro e W3 (⟨rfl, hJ3, hk3⟩ | ⟨rfl, hJx3⟩)
        · gi_wp2
          go_roundw
          case rel => exact ⟨pre ++ [part x true], k + 1, by go_num, by omega, hJ3, Lib.hid (by rw [← HE2.out]; simp), Lib.hid (HM.out.below hk3)⟩
          case measure => simp [intOf]; omega
        · gi_wp2
          refine bodyPost_ret (results_none rfl _ _ _) rfl ?_
          exact ⟨⟨_, rfl⟩, .inr ⟨pre ++ [part x true], ⟨pin (bs.drop (k + 1)), by rw [← HE2.out]; simp⟩, hJx3⟩⟩
      · rw [if_neg hmore] at h128
        have HE2 : Hid (pre ++ [part x false] = pin bs) := Lib.hid (by rw [← pin_last x _ hmore]; exact HE.out)
        have hlen : pre.length < (pin bs).length := by rw [← HE2.out, List.length_append]; simp
        clear HE
        obtain ⟨fn, tmps, assign, body, hy, hR⟩ := hY pre (part x false) wr hJs hlen
        have hy2 : ∀ q : Nat, q = (part x false).1.1 → (Instr.yield l #[.int .i64 q, .bool false]).run Tryd.prog wr = _ := fun q e => by subst e; exact hy
        have hy3 := hy2 p hp'.symm
        clear hy hy2
        gi_wp2
        refine hR.mono ?_
        rintro e W3 (⟨rfl, hJ3, hk3⟩ | ⟨rfl, hJx3⟩)
        · gi_wp2
          refine bodyPost_ret (results_none rfl _ _ _) rfl ?_
          exact ⟨⟨_, rfl⟩, .inl ⟨pre ++ [part x false], HE2.out, hJ3⟩⟩
        · gi_wp2
          refine bodyPost_ret (results_none rfl _ _ _) rfl ?_
          exact ⟨⟨_, rfl⟩, .inr ⟨pre ++ [part x false], ⟨[], by rw [← HE2.out]; simp⟩, hJx3⟩⟩
    · have hkL : k = L := by omega
      have HE2 : Hid (pre = pin bs) := Lib.hid (by rw [← HE.out, List.drop_eq_nil_of_le (by rw [HL.out]; omega)]; simp [pin])
      clear HE hkL
      gi_wp2
      go_end0
      exact ⟨⟨_, rfl⟩, .inl ⟨pre, HE2.out, hJs⟩⟩

set_option maxHeartbeats 1000000 in
theorem partsIn_in (n : Nat) (A : Option Addr) (L c : Nat) (w : World) :
    CallsIn Fence.wide n Tryd.prog 47 #[.slice A L c] w fun e w' => e = .returned (.func (.func 50) #[] #[.pointer (some ⟨w.heap.size, 0, none⟩)]) ∧ w.alloc (.cells #[.slice A L c] 22) = w' := by
  refine callsIn_of_wp Tryd.func47 rfl trivial ?_ rfl
  simp only [Tryd.ntmps47, List.size_toArray, List.length_cons, List.length_nil, Nat.reduceAdd, Nat.reduceSub, Array.replicate_succ, Array.replicate_zero, List.push_toArray, List.append_toArray, List.nil_append, List.cons_append]
  gi_wp2
  go_ret
  exact ⟨rfl, rfl⟩

theorem partsIn_stops (n : Nat) (hn : 1 ≤ n) (Bn n₀ c : Nat) (A : Option Addr) (bs : List Nat) (hL : bs.length ≤ 7) (w : World) (hBn : Bn < w.heap.size) (hn₀ : n₀ ≤ w.heap.size)
    (hc : w.cell? ⟨Bn, 0, none⟩ = some (.slice A bs.length c)) (hm : Byt w n₀ A bs) :
    SeqStopsK Fence.wide n Tryd.prog 50 #[.pointer (some ⟨Bn, 0, none⟩)] encP (Below n₀) (fun ys => ys = pin bs) (fun pre => pre <+: pin bs) (pin bs).length w := fun l J Jx W hW _ _ hY h0 =>
  partsIn1_in n hn l Bn n₀ c A bs hL J Jx hY W ((hW.cell (p := ⟨Bn, 0, none⟩) hBn).trans hc) (hm.below (hW.mono hn₀)) h0

set_option maxHeartbeats 1000000 in
theorem seven_err (N : Int) (h : N < 0 ∨ 281474976710656 ≤ N) (w : World) :
    Calls Tryd.prog 30 #[.int .i64 N] w fun e w' => e = .returned (.tuple #[.slice none 0 0, .int .i64 1]) ∧ w = w' := by
  rcases h with h | h
  · go_enter Tryd.func30, Tryd.ntmps30
    go_wp2
    go_ret2
    exact ⟨rfl, rfl⟩
  · have h2 : ¬ N < 0 := by omega
    go_enter Tryd.func30, Tryd.ntmps30
    go_wp2
    go_ret2
    exact ⟨rfl, rfl⟩

set_option maxHeartbeats 1000000 in
theorem rseven_err (N : Int) (h : N < 0 ∨ 281474976710656 ≤ N) (w : World) :
    Calls Tryd.prog 31 #[.int .i64 N] w fun e w' => e = .returned (.tuple #[.slice none 0 0, .int .i64 1]) ∧ w = w' := by
  rcases h with h | h
  · go_enter Tryd.func31, Tryd.ntmps31
    go_wp2
    go_ret2
    exact ⟨rfl, rfl⟩
  · have h2 : ¬ N < 0 := by omega
    go_enter Tryd.func31, Tryd.ntmps31
    go_wp2
    go_ret2
    exact ⟨rfl, rfl⟩

set_option maxRecDepth 100000 in
set_option maxHeartbeats 2000000 in
theorem rseven_ok (N : Nat) (hN : N < 281474976710656) (w : World) :
    Calls Tryd.prog 31 #[.int .i64 N] w fun e w' => ∃ v, e = .returned (.tuple #[v, .int .i64 0]) ∧ w'.ownsRow w.heap.size 5 1 v (svB N).length ((svB N).map u8) ∧ Below w.heap.size w w' := by
  obtain ⟨i0, hi, hz0, hz1, hz2⟩ := info_parts info5
  have hb1 : decide ((N : Int) < 0) = false := decide_eq_false (by omega)
  have hb2 : decide (281474976710656 ≤ (N : Int)) = false := decide_eq_false (by omega)
  have hlen7 := svB_len N hN
  go_enter Tryd.func31, Tryd.ntmps31
  go_wp2
  go_loopw [0, 4] (fun m v wr => ∃ (pre : List Nat) (M : Nat), m = .int .i64 M ∧ M < 281474976710656 ∧ pre.length ≤ 7 ∧ Hid (pre ++ svB M = svB N) ∧ wr.ownsRow w.heap.size 5 1 v pre.length (pre.map YtbgkkaecpmgnoaaDoor.u8) ∧ Below w.heap.size w wr) (fun m _ _ => (intOf m).toNat)
  case atStart => exact ⟨[], N, rfl, hN, Nat.zero_le _, Lib.hid rfl, World.ownsRow_nil _ _ _ _, Below.refl _ _⟩
  case round =>
    obtain ⟨pre, M, rfl, hM, hpl, HE, hown, hB⟩ := hrel
    have b1 : pre.length + 1 ≤ maxLen := by unfold maxLen; omega
    have b2 : (pre.length + 1) * 1 ≤ 140737488355328 := by omega
    have hsz := hB.size
    have HBW := Lib.hid hB
    clear hB
    by_cases hm : 128 ≤ M
    · have HE2 : Hid ((pre ++ [M % 128 + 128]) ++ svB (M / 128) = svB N) := Lib.hid (by
        rw [← HE.out]; unfold svB; rw [prt_more M (by omega)]; simp [byteOf])
      clear HE
      go_wp2_with (at_builtin; refine wpList_append_own _ rfl _ _ 22 rfl w.heap.size 5 i0 (.int .u8 0) 1 1 Tryd.underlying22 hi hz0 hz1 hz2 rfl (by decide) _ _ _ rfl (hown.alloc _) ⟨wr.heap.size, 0, none⟩ 1 1 [.int .u8 (128 + (M : Int) % 128)] rfl rfl (cell_one_new _ _ _) (by simp [Value.oneCell']) b1 b2 (by simp; omega) ?_; intro v' w1 hown' hgrow _)
      have hBw1 := ((HBW.out).alloc hsz (.cells #[.int .u8 (128 + (M : Int) % 128)] 5)).grown hgrow (by simp; omega) (fun g hg => (hown.lt g hg).1)
      go_roundw
      case rel =>
        refine ⟨pre ++ [M % 128 + 128], M / 128, by go_num, by omega, ?_, HE2, ?_, hBw1⟩
        · have := congrArg List.length HE2.out
          simp at this ⊢
          omega
        · rw [List.length_append, List.map_append]
          have e : [M % 128 + 128].map YtbgkkaecpmgnoaaDoor.u8 = [.int .u8 (128 + (M : Int) % 128)] := by simp [YtbgkkaecpmgnoaaDoor.u8]; omega
          rw [e]
          exact hown'
      case measure => simp [intOf]; omega
    · have HE2 : Hid (pre ++ [M] = svB N) := Lib.hid (by
        rw [← HE.out]; unfold svB; rw [prt_last M (by omega)]; simp [byteOf]; omega)
      clear HE
      go_wp2_with (at_builtin; refine wpList_append_own _ rfl _ _ 22 rfl w.heap.size 5 i0 (.int .u8 0) 1 1 Tryd.underlying22 hi hz0 hz1 hz2 rfl (by decide) _ _ _ rfl (hown.alloc _) ⟨wr.heap.size, 0, none⟩ 1 1 [.int .u8 (M : Int)] rfl rfl (cell_one_new _ _ _) (by simp [Value.oneCell']) b1 b2 (by simp; omega) ?_; intro v' w1 hown' hgrow _)
      have hBw1 := ((HBW.out).alloc hsz (.cells #[.int .u8 (M : Int)] 5)).grown hgrow (by simp; omega) (fun g hg => (hown.lt g hg).1)
      go_ret2
      refine ⟨_, rfl, ?_, hBw1⟩
      rw [← HE2.out, List.length_append, List.map_append]
      exact hown'
end Go.Proofs.YtbgkkaecpmgnoaaDoor
