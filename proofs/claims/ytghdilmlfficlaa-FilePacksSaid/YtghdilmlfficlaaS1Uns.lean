/- Unseven: the iterator over the bytes of a number by sevens; Seven's error; the reference's Seven. -/
import Derived.Test.YtghdilmlfficlaaS1UnsMath
import Derived.Test.YtghdilmlfficlaaS1Known
import Derived.Sort.QuietIn
namespace Go.Proofs.Ytghdilmlfficlaa.S1
open Go.RowKit Go.Shelf

attribute [local go_sem] Oper.semAt_some

theorem and128 (x : Nat) (h : x < 256) : bits .and .u8 (x : Int) 128 = if 128 ≤ x then 128 else 0 := by
  have e := u8_and_nat x 128 h (by decide)
  rw [show (128 : Int) = ((128 : Nat) : Int) from rfl, e, show (128 : Nat) = 2 ^ 7 from rfl, nat_bit 7 x]
  split <;> simp <;> omega
theorem and127 (x : Nat) (h : x < 256) : bits .and .u8 (x : Int) 127 = ((part x true).1.1 : Int) := by
  have e := u8_and_nat x 127 h (by decide)
  rw [show (127 : Int) = ((127 : Nat) : Int) from rfl, e, nat_mask7]

set_option maxRecDepth 100000 in
set_option maxHeartbeats 1000000 in
theorem partsIn1_in (n : Nat) (hn : 1 ≤ n) (l Bn n₀ c : Nat) (A : Option Addr) (bs : List Nat) (hL : bs.length ≤ 7) (J Jx : List Part → World → Prop)
    (hY : ∀ pre x W, J pre W → pre.length < (pin bs).length → YieldAt Fence.wide (n - 1) Try.prog l (encP x) W fun e W' =>
      (e = .returned (.bool true) ∧ J (pre ++ [x]) W' ∧ Below n₀ W W') ∨ (e = .returned (.bool false) ∧ Jx (pre ++ [x]) W'))
    (W : World) (hBn : W.cell? ⟨Bn, 0, none⟩ = some (.slice A bs.length c)) (hm : Byt W n₀ A bs) (h0 : J [] W) :
    CallsIn Fence.wide n Try.prog 156 #[.func (.yield l) #[] #[], .pointer (some ⟨Bn, 0, none⟩)] W fun e W' => (∃ v, e = .returned v) ∧
      ((∃ ys, ys = pin bs ∧ J ys W') ∨ (∃ pre, pre <+: pin bs ∧ Jx pre W')) := by
  obtain ⟨L, hLL⟩ : ∃ L, bs.length = L := ⟨_, rfl⟩
  have HL := Lib.hid hLL
  rw [hLL] at hL hBn
  clear hLL
  refine callsIn_of_wp Try.func156 rfl trivial ?_ rfl
  simp only [Try.ntmps156, List.size_toArray, List.length_cons, List.length_nil, Nat.reduceAdd, Nat.reduceSub, Array.replicate_succ, Array.replicate_zero, List.push_toArray, List.append_toArray, List.nil_append, List.cons_append]
  gi_wp2
  gi_loopw [8] (fun i wr => ∃ (pre : List Part) (k : Nat), i = .int .i64 k ∧ k ≤ L ∧ J pre wr ∧ Hid (pre ++ pin (bs.drop k) = pin bs) ∧ Hid (Byt wr n₀ A bs))
    (fun i _ => L - (intOf i).toNat)
  case atStart =>
    exact ⟨[], 0, rfl, Nat.zero_le _, h0, Lib.hid rfl, Lib.hid hm⟩
  case round =>
    obtain ⟨pre, k, rfl, hk, hJs, HE, HM⟩ := hrel
    by_cases hlt : k < L
    · obtain ⟨b, o, rfl, hb, hcell⟩ := HM.out.cells (by rw [HL.out]; omega)
      have hck := hcell k (by rw [HL.out]; exact hlt)
      have hx := at8_lt HM.out.lt k
      have hdr : bs.drop k = at8 bs k :: bs.drop (k + 1) := by rw [List.drop_eq_getElem_cons (by rw [HL.out]; exact hlt), at8_eq bs k (by rw [HL.out]; exact hlt)]
      obtain ⟨x, hX⟩ : ∃ x, at8 bs k = x := ⟨_, rfl⟩
      rw [hX] at hck hx hdr
      rw [hdr] at HE
      have h127 := and127 x hx
      have h128 := and128 x hx
      obtain ⟨p, hp⟩ : ∃ p : Nat, (part x true).1.1 = p := ⟨_, rfl⟩
      have hp' : (part x false).1.1 = p := hp
      have hp2 : p < 128 := by rw [← hp]; exact (part x true).2
      rw [hp] at h127
      clear hX hcell hdr
      by_cases hmore : 128 ≤ x
      · rw [if_pos hmore] at h128
        have HE2 : Hid (pre ++ part x true :: pin (bs.drop (k + 1)) = pin bs) := Lib.hid (by rw [← pin_more x _ hmore]; exact HE.out)
        have hlen : pre.length < (pin bs).length := by rw [← HE2.out, List.length_append]; simp
        clear HE
        obtain ⟨fn, tmps, assign, body, hy, hR⟩ := hY pre (part x true) wr hJs hlen
        have hy2 : ∀ q : Nat, q = (part x true).1.1 → (Instr.yield l #[.int .i64 q, .bool true]).run Try.prog wr = _ := fun q e => by subst e; exact hy
        have hy3 := hy2 p hp.symm
        clear hy hy2
        gi_wp2
        refine hR.mono ?_
        rintro e W3 (⟨rfl, hJ3, hk3⟩ | ⟨rfl, hJx3⟩)
        · gi_wp2
          go_roundw
          case rel => exact ⟨pre ++ [part x true], k + 1, by go_num, by omega, hJ3, Lib.hid (by rw [← HE2.out]; simp), Lib.hid (HM.out.below hk3)⟩
          case measure => simp [intOf]; omega
        · gi_wp2
          refine bodyPost_ret (results_none rfl _ _ _) rfl ?_
          exact ⟨⟨_, rfl⟩, .inr ⟨pre ++ [part x true], ⟨pin (bs.drop (k + 1)), by rw [← HE2.out]; simp⟩, hJx3⟩⟩
      · rw [if_neg hmore] at h128
        have HE2 : Hid (pre ++ [part x false] = pin bs) := Lib.hid (by rw [← pin_last x _ hmore]; exact HE.out)
        have hlen : pre.length < (pin bs).length := by rw [← HE2.out, List.length_append]; simp
        clear HE
        obtain ⟨fn, tmps, assign, body, hy, hR⟩ := hY pre (part x false) wr hJs hlen
        have hy2 : ∀ q : Nat, q = (part x false).1.1 → (Instr.yield l #[.int .i64 q, .bool false]).run Try.prog wr = _ := fun q e => by subst e; exact hy
        have hy3 := hy2 p hp'.symm
        clear hy hy2
        gi_wp2
        refine hR.mono ?_
        rintro e W3 (⟨rfl, hJ3, hk3⟩ | ⟨rfl, hJx3⟩)
        · gi_wp2
          refine bodyPost_ret (results_none rfl _ _ _) rfl ?_
          exact ⟨⟨_, rfl⟩, .inl ⟨pre ++ [part x false], HE2.out, hJ3⟩⟩
        · gi_wp2
          refine bodyPost_ret (results_none rfl _ _ _) rfl ?_
          exact ⟨⟨_, rfl⟩, .inr ⟨pre ++ [part x false], ⟨[], by rw [← HE2.out]; simp⟩, hJx3⟩⟩
    · have hkL : k = L := by omega
      have HE2 : Hid (pre = pin bs) := Lib.hid (by rw [← HE.out, List.drop_eq_nil_of_le (by rw [HL.out]; omega)]; simp [pin])
      clear HE hkL
      gi_wp2
      go_end0
      exact ⟨⟨_, rfl⟩, .inl ⟨pre, HE2.out, hJs⟩⟩

set_option maxHeartbeats 1000000 in
theorem partsIn_in (n : Nat) (A : Option Addr) (L c : Nat) (w : World) :
    CallsIn Fence.wide n Try.prog 123 #[.slice A L c] w fun e w' => e = .returned (.func (.func 156) #[] #[.pointer (some ⟨w.heap.size, 0, none⟩)]) ∧ w.alloc (.cells #[.slice A L c] 48) = w' := by
  refine callsIn_of_wp Try.func123 rfl trivial ?_ rfl
  simp only [Try.ntmps123, List.size_toArray, List.length_cons, List.length_nil, Nat.reduceAdd, Nat.reduceSub, Array.replicate_succ, Array.replicate_zero, List.push_toArray, List.append_toArray, List.nil_append, List.cons_append]
  gi_wp2
  go_ret
  exact ⟨rfl, rfl⟩

theorem partsIn_stops (n : Nat) (hn : 1 ≤ n) (Bn n₀ c : Nat) (A : Option Addr) (bs : List Nat) (hL : bs.length ≤ 7) (w : World) (hBn : Bn < w.heap.size) (hn₀ : n₀ ≤ w.heap.size)
    (hc : w.cell? ⟨Bn, 0, none⟩ = some (.slice A bs.length c)) (hm : Byt w n₀ A bs) :
    SeqStopsK Fence.wide n Try.prog 156 #[.pointer (some ⟨Bn, 0, none⟩)] encP (Below n₀) (fun ys => ys = pin bs) (fun pre => pre <+: pin bs) (pin bs).length w := fun l J Jx W hW _ _ hY h0 =>
  partsIn1_in n hn l Bn n₀ c A bs hL J Jx hY W ((hW.cell (p := ⟨Bn, 0, none⟩) hBn).trans hc) (hm.below (hW.mono hn₀)) h0

set_option maxHeartbeats 1000000 in
theorem seven_err (N : Int) (h : N < 0 ∨ 281474976710656 ≤ N) (w : World) :
    Calls Try.prog 84 #[.int .i64 N] w fun e w' => e = .returned (.tuple #[.slice none 0 0, .int .i64 1]) ∧ w = w' := by
  rcases h with h | h
  · go_enter Try.func84, Try.ntmps84
    go_wp2
    go_ret2
    exact ⟨rfl, rfl⟩
  · have h2 : ¬ N < 0 := by omega
    go_enter Try.func84, Try.ntmps84
    go_wp2
    go_ret2
    exact ⟨rfl, rfl⟩

end Go.Proofs.Ytghdilmlfficlaa.S1
