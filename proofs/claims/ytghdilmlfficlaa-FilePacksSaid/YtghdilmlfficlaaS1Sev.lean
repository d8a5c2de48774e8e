/- Seven: the iterator over a number's parts, and the loop that collects their bytes. -/
import Derived.Test.YtghdilmlfficlaaS1SevMath
import Derived.RangeFuncNested
import Derived.RangeFuncBound
import Derived.RangeFuncCalls
import Derived.RangeFuncLeaves
import Derived.RangeFuncBox
import Derived.Shelf.Abstract
import Derived.Shelf.RegionOpen
import Derived.WalkKit
import Derived.OwnWalkIn
import Derived.TacticsInMore
import Derived.LoopNIn
import Derived.LoopIn
import Derived.Maps.AppendAt
namespace Go.Proofs.Ytghdilmlfficlaa.S1
open Go.RowKit Go.Shelf

attribute [local go_sem] Oper.semAt_some

/-- What yield is handed. -/
abbrev encP (x : Part) : Array Value := #[.int .i64 x.1.1, .bool x.1.2]
def leftM : Value → Value → Nat
  | .bool true, l => (intOf l).toNat + 1
  | _, _ => 0

set_option maxRecDepth 100000 in
set_option maxHeartbeats 1000000 in
theorem partsOf1_in (n : Nat) (hn : 1 ≤ n) (l Bn n₀ : Nat) (N : Nat) (hN : N ≤ 9223372036854775807) (J Jx : List Part → World → Prop)
    (hY : ∀ pre x W, J pre W → pre.length < (prt N).length → YieldAt Fence.wide (n - 1) Try.prog l (encP x) W fun e W' =>
      (e = .returned (.bool true) ∧ J (pre ++ [x]) W' ∧ Below n₀ W W') ∨ (e = .returned (.bool false) ∧ Jx (pre ++ [x]) W'))
    (W : World) (hBn : W.cell? ⟨Bn, 0, none⟩ = some (.int .i64 N)) (h0 : J [] W) :
    CallsIn Fence.wide n Try.prog 157 #[.func (.yield l) #[] #[], .pointer (some ⟨Bn, 0, none⟩)] W fun e W' => (∃ v, e = .returned v) ∧
      ((∃ ys, ys = prt N ∧ J ys W') ∨ (∃ pre, pre <+: prt N ∧ Jx pre W')) := by
  refine callsIn_of_wp Try.func157 rfl trivial ?_ rfl
  simp only [Try.ntmps157, List.size_toArray, List.length_cons, List.length_nil, Nat.reduceAdd, Nat.reduceSub, Array.replicate_succ, Array.replicate_zero, List.push_toArray, List.append_toArray, List.nil_append, List.cons_append]
  gi_wp2
  gi_loopw [3, 4] (fun m p wr => ∃ (pre : List Part) (mb : Bool) (L : Nat), m = .bool mb ∧ p = .int .i64 L ∧ L ≤ 9223372036854775807 ∧ J pre wr ∧ Hid (mb = true → pre ++ prt L = prt N) ∧ Hid (mb = false → pre = prt N))
    (fun m p _ => leftM m p)
  case atStart =>
    exact ⟨[], true, N, rfl, rfl, hN, h0, Lib.hid (fun _ => rfl), Lib.hid (fun h => by cases h)⟩
  case round =>
    obtain ⟨pre, mb, L, rfl, rfl, hL, hJs, H1, H2⟩ := hrel
    cases mb with
    | false =>
      have HE : Hid (pre = prt N) := Lib.hid (H2.out rfl)
      clear H1 H2
      gi_wp2
      go_end0
      exact ⟨⟨_, rfl⟩, .inl ⟨pre, HE.out, hJs⟩⟩
    | true =>
      have HE : Hid (pre ++ prt L = prt N) := Lib.hid (H1.out rfl)
      clear H1 H2
      have hlen : pre.length < (prt N).length := by rw [← HE.out, List.length_append]; have := prt_pos L; omega
      have ha := i64_and127 (L : Int)
      have ha2 : bits .and .i64 (L : Int) 127 = ((part L true).1.1 : Int) := by rw [ha]; show _ = ((L % 128 : Nat) : Int); omega
      clear ha
      obtain ⟨p, hp⟩ : ∃ p : Nat, (part L true).1.1 = p := ⟨_, rfl⟩
      have hp' : (part L false).1.1 = p := hp
      rw [hp] at ha2
      by_cases hm : 127 < L
      · have hbm : decide (127 < (L : Int)) = true := decide_eq_true (by omega)
        obtain ⟨fn, tmps, assign, body, hy, hR⟩ := hY pre (part L true) wr hJs hlen
        have hy2 : ∀ q : Nat, q = (part L true).1.1 → (Instr.yield l #[.int .i64 q, .bool true]).run Try.prog wr = _ := fun q e => by subst e; exact hy
        have hy3 := hy2 p hp.symm
        clear hy hy2
        gi_wp2
        refine hR.mono ?_
        rintro e W3 (⟨rfl, hJ3, hk3⟩ | ⟨rfl, hJx3⟩)
        · gi_wp2
          go_roundw
          case rel => exact ⟨pre ++ [part L true], true, L / 128, rfl, by go_num, by omega, hJ3, Lib.hid (fun _ => by rw [← HE.out, prt_more L hm]; simp), Lib.hid (fun h => by cases h)⟩
          case measure => simp [leftM, intOf]; omega
        · gi_wp2
          refine bodyPost_ret (results_none rfl _ _ _) rfl ?_
          exact ⟨⟨_, rfl⟩, .inr ⟨pre ++ [part L true], ⟨prt (L / 128), by rw [← HE.out, prt_more L hm]; simp⟩, hJx3⟩⟩
      · have hbm : decide (127 < (L : Int)) = false := decide_eq_false (by omega)
        obtain ⟨fn, tmps, assign, body, hy, hR⟩ := hY pre (part L false) wr hJs hlen
        have hy2 : ∀ q : Nat, q = (part L false).1.1 → (Instr.yield l #[.int .i64 q, .bool false]).run Try.prog wr = _ := fun q e => by subst e; exact hy
        have hy3 := hy2 p hp'.symm
        clear hy hy2
        gi_wp2
        refine hR.mono ?_
        rintro e W3 (⟨rfl, hJ3, hk3⟩ | ⟨rfl, hJx3⟩)
        · gi_wp2
          go_roundw
          case rel => exact ⟨pre ++ [part L false], false, L / 128, rfl, by go_num, by omega, hJ3, Lib.hid (fun h => by cases h), Lib.hid (fun _ => by rw [← HE.out, prt_last L hm])⟩
          case measure => simp [leftM, intOf]
        · gi_wp2
          refine bodyPost_ret (results_none rfl _ _ _) rfl ?_
          exact ⟨⟨_, rfl⟩, .inr ⟨pre ++ [part L false], ⟨[], by rw [← HE.out, prt_last L hm]; simp⟩, hJx3⟩⟩

set_option maxHeartbeats 1000000 in
theorem partsOf_in (n : Nat) (N : Int) (w : World) :
    CallsIn Fence.wide n Try.prog 124 #[.int .i64 N] w fun e w' => e = .returned (.func (.func 157) #[] #[.pointer (some ⟨w.heap.size, 0, none⟩)]) ∧ w.alloc (.cells #[.int .i64 N] 3) = w' := by
  refine callsIn_of_wp Try.func124 rfl trivial ?_ rfl
  simp only [Try.ntmps124, List.size_toArray, List.length_cons, List.length_nil, Nat.reduceAdd, Nat.reduceSub, Array.replicate_succ, Array.replicate_zero, List.push_toArray, List.append_toArray, List.nil_append, List.cons_append]
  gi_wp2
  go_ret
  exact ⟨rfl, rfl⟩

theorem partsOf_stops (n : Nat) (hn : 1 ≤ n) (Bn n₀ : Nat) (N : Nat) (hN : N ≤ 9223372036854775807) (w : World) (hBn : Bn < w.heap.size)
    (hc : w.cell? ⟨Bn, 0, none⟩ = some (.int .i64 N)) :
    SeqStopsK Fence.wide n Try.prog 157 #[.pointer (some ⟨Bn, 0, none⟩)] encP (Below n₀) (fun ys => ys = prt N) (fun pre => pre <+: prt N) (prt N).length w := fun l J Jx W hW _ _ hY h0 =>
  partsOf1_in n hn l Bn n₀ N hN J Jx hY W ((hW.cell (p := ⟨Bn, 0, none⟩) hBn).trans hc) h0

theorem info5 : (Try.prog.info? 5).map (fun i => (i.zero, i.size, i.bytes)) = some (some (.int .u8 0), 1, 1) := by kernel_rfl
/-- A byte as a value. -/
abbrev u8 (b : Nat) : Value := .int .u8 b

set_option maxRecDepth 100000 in
set_option maxHeartbeats 2000000 in
theorem seven_in (N : Nat) (hN : N < 281474976710656) (w : World) :
    CallsIn Fence.wide 5 Try.prog 84 #[.int .i64 N] w fun e W' => ∃ v, e = .returned (.tuple #[v, .int .i64 0]) ∧ W'.ownsRow w.heap.size 5 1 v (svB N).length ((svB N).map u8) ∧ Below w.heap.size w W' := by
  obtain ⟨i0, hi, hz0, hz1, hz2⟩ := info_parts info5
  have hb1 : decide ((N : Int) < 0) = false := decide_eq_false (by omega)
  have hb2 : decide (281474976710656 ≤ (N : Int)) = false := decide_eq_false (by omega)
  have hpl := prt_len 6 N (by omega)
  refine callsIn_of_wp_marks Try.func84 rfl trivial ?_ rfl
  simp only [Try.ntmps84, List.size_toArray, List.length_cons, List.length_nil, Nat.reduceAdd, Nat.reduceSub, Array.replicate_succ, Array.replicate_zero, List.push_toArray, List.append_toArray, List.nil_append, List.cons_append]
  gi_wp2_with (refine ⟨trivial, ?_⟩; gi_at_call 124; refine (partsOf_in _ _ _).mono ?_; rintro e w' ⟨rfl, rfl⟩)
  have bO := Boxed.new w 48 (.slice none 0 0)
  have bN := Boxed.new (w.alloc (.cells #[.slice none 0 0] 48)) 3 (.int .i64 N)
  rw [World.size_alloc] at bN
  have hB0 : Below w.heap.size w ((w.alloc (.cells #[.slice none 0 0] 48)).alloc (.cells #[.int .i64 N] 3)) := ((Below.refl _ w).alloc (Nat.le_refl _) _).alloc (by simp) _
  refine wpIn_rangeFunc_ownG rfl (by omega) (gf := 157) (lb := #[.pointer (some ⟨w.heap.size + 1, 0, none⟩)]) rfl trivial (enters_of Try.func157 (by kernel_rfl) rfl)
    (partsOf_stops 4 (by omega) (w.heap.size + 1) w.heap.size N (by omega) _ (by simp) bN.cell) belowK_t (belowK_b (by simp; omega)) (Below.refl _ _) (fun _ => rfl)
    (fun pre W => (∃ v, Boxed W w.heap.size 48 v ∧ W.ownsRow w.heap.size 5 1 v pre.length (pre.map fun x => u8 (byteOf x)) ∧ True) ∧ Below w.heap.size w W)
    (fun _ _ _ => False)
    (OwnFrom.and (Own.from (holdsRow_own w.heap.size w.heap.size 48 5 1 (fun pre : List Part => pre.length) (fun pre => pre.map fun x => u8 (byteOf x)) (fun _ _ => True)) _) (ownFrom_below (Nat.le_refl _) (by simp; omega)))
    (fun _ _ _ _ _ hs _ _ => hs)
    ⟨⟨_, bO.alloc _, World.ownsRow_nil _ _ _ _, trivial⟩, hB0⟩
    (fun x => { tmps := #[.int .i64 N, undef, .slice none 0 0, .int .i64 0, .pointer (some ⟨w.heap.size, 0, none⟩), .int .i64 x.1.1, .bool x.1.2, .int .i64 N, .bool false, .bool false, .int .i64 N, .bool false, .bool false, .int .i64 N, .func (.func 157) #[] #[.pointer (some ⟨w.heap.size + 1, 0, none⟩)], .int .i64 x.1.1, .bool x.1.2, undef, undef, undef, undef, undef, undef, undef, undef, undef], defers := [] }) ?assign ?body ?done ?stop
  case assign =>
    intro l x W K hK
    gi_wp2
    exact hK
  case body =>
    rintro l pre ⟨⟨p, m⟩, hp⟩ W ⟨⟨v, hv, hrow, -⟩, hB⟩ hlt
    have hp2 : p < 128 := hp
    have hc := hv.cell
    have hl7 : pre.length < 7 := by omega
    have b1 : pre.length + 1 ≤ maxLen := by unfold maxLen; omega
    have b2 : (pre.length + 1) * 1 ≤ 140737488355328 := by omega
    cases m with
    | true =>
      have ho : bits .or .i64 (p : Int) 128 = (p : Int) + 128 := by
        have h := or64_nat p 128 (by omega) (by decide)
        rw [Nat.or_comm, nat_join 7 128 p (by decide) (by omega)] at h
        rw [show (128 : Int) = ((128 : Nat) : Int) from rfl, h]; omega
      gi_wp2_with (gi_at_builtin; refine wpListIn_append_own _ rfl _ _ 48 rfl w.heap.size 5 i0 (.int .u8 0) 1 1 Try.underlying48 hi hz0 hz1 hz2 rfl (by decide) _ _ _ rfl (hrow.alloc _) ⟨W.heap.size, 0, none⟩ 1 1 [.int .u8 ((p : Int) + 128)] rfl rfl (cell_one_new _ _ _) (by simp [Value.oneCell']) b1 b2 (by have := hB.size; simp; omega) ?_; intro v' w1 hown' hgrow _; obtain ⟨g', cap', rfl⟩ := ownsRow_succ hown'; obtain ⟨hv1, hv2, hr2, hk2, hb2⟩ := hv.appended (by decide) hrow hB.size (Nat.le_refl _) hown' hgrow; have hc1 := hv1.cell; have hf1 := hv1.frozen)
      exact ⟨hk2.from _, hb2, ⟨_, hv2, by simpa [byteOf, u8] using hr2, trivial⟩, hB.trans hb2⟩
    | false =>
      gi_wp2_with (gi_at_builtin; refine wpListIn_append_own _ rfl _ _ 48 rfl w.heap.size 5 i0 (.int .u8 0) 1 1 Try.underlying48 hi hz0 hz1 hz2 rfl (by decide) _ _ _ rfl (hrow.alloc _) ⟨W.heap.size, 0, none⟩ 1 1 [.int .u8 (p : Int)] rfl rfl (cell_one_new _ _ _) (by simp [Value.oneCell']) b1 b2 (by have := hB.size; simp; omega) ?_; intro v' w1 hown' hgrow _; obtain ⟨g', cap', rfl⟩ := ownsRow_succ hown'; obtain ⟨hv1, hv2, hr2, hk2, hb2⟩ := hv.appended (by decide) hrow hB.size (Nat.le_refl _) hown' hgrow; have hc1 := hv1.cell; have hf1 := hv1.frozen)
      exact ⟨hk2.from _, hb2, ⟨_, hv2, by simpa [byteOf, u8] using hr2, trivial⟩, hB.trans hb2⟩
  case done =>
    rintro D ys W hD rfl ⟨⟨v, hv, hrow, -⟩, hB⟩ hK
    have hc := hv.cell
    gi_wp2
    refine ⟨by simp, .inl ⟨_, _, rfl, run_takeDeferred hK, ?_⟩⟩
    refine ⟨_, results_tmp2 rfl _ _ _, v, rfl, ?_, hB.trans (belowK_b (w := w) (Nat.le_refl _) W D _ _ (by simp at hD; omega) hK rfl rfl)⟩
    have := ownsRow_putObj hrow (.deferred none) hK rfl
    unfold svB
    simpa [Function.comp_def] using this
  case stop =>
    rintro D c pre W _ _ h _
    exact h.elim

#print axioms seven_in
end Go.Proofs.Ytghdilmlfficlaa.S1
