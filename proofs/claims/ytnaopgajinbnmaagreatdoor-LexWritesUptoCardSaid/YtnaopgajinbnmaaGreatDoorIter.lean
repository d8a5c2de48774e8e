/- tokensOf: the iterator over the tokens of a source. -/
import Derived.Test.YtnaopgajinbnmaaGreatDoorTokOf
import Derived.Test.YtnaopgajinbnmaaGreatDoorMath2
import Derived.RangeFuncNested
import Derived.RangeFuncBound
import Derived.RangeFuncCalls
import Derived.RangeFuncLeaves
import Derived.RangeFuncBox
import Derived.Shelf.Abstract
import Derived.Shelf.RegionOpen
import Derived.OwnWalkIn
import Derived.TacticsInMore
import Derived.LoopNIn
import Derived.LoopIn
import Derived.Maps.AppendAt
namespace Go.Proofs.YtnaopgajinbnmaaGreatDoor
open Go.RowKit Go.Shelf

attribute [local go_sem] Oper.semAt_some

/-- What yield is handed: a token, or what is none. -/
structure El where
  k : Int
  n : Int
  a : Int
  s : ByteArray
  ok : Bool
def good (t : Tok) : El := ⟨t.kind, t.num, t.at_, ⟨t.text.toArray⟩, true⟩
abbrev encE (x : El) : Array Value := #[.agg (tokC x.k x.n x.a x.s), .bool x.ok]
/-- What is told in all. -/
def AllE (r : List Tok × Option Nat) (ys : List El) : Prop := match r.2 with
  | none => ys = r.1.map good
  | some p => ∃ x : El, x.ok = false ∧ x.a = p ∧ ys = r.1.map good ++ [x]
def SomeE (r : List Tok × Option Nat) (pre : List El) : Prop := ∃ ys, AllE r ys ∧ pre <+: ys

theorem Laid.near {w w' : World} {n₀ : Nat} (h : Laid w) (h7 : 7 ≤ n₀) (hb : Below n₀ w w') : Laid w' := by
  have hl := h.lt
  have key : ∀ b o, b < 7 → w'.cell? ⟨b, o, none⟩ = w.cell? ⟨b, o, none⟩ := fun b o hlt => hb.cell (p := ⟨b, o, none⟩) (by show b < _; omega)
  refine ⟨fun j hj => (key 0 j (by omega)).trans (h.tab j hj), ?_, ?_, ?_, ?_, Nat.le_trans hl hb.size⟩
  · obtain ⟨t, p, hc⟩ := h.syn; exact ⟨t, p, (key 2 0 (by omega)).trans hc⟩
  · obtain ⟨t, p, hc⟩ := h.rng; exact ⟨t, p, (key 3 0 (by omega)).trans hc⟩
  · obtain ⟨m, hc⟩ := h.most; exact ⟨m, (key 6 0 (by omega)).trans hc⟩
  · have hp := h.pow
    unfold Lib.TabIs World.var? at hp ⊢
    rw [gPow] at hp ⊢
    simp only [Option.bind_some] at hp ⊢
    rw [hb.block 1 (by omega)]
    exact hp

/-- What a round that goes on keeps: what lies below, and the source's box. -/
def KpS (n₀ Bn : Nat) (s : ByteArray) (A B : World) : Prop := Below n₀ A B ∧ (Boxed A Bn 9 (.string s) → Boxed B Bn 9 (.string s))
theorem kpS_t {n₀ Bn : Nat} {s : ByteArray} {A B C : World} (h : KpS n₀ Bn s A B) (k : KpS n₀ Bn s B C) : KpS n₀ Bn s A C := ⟨h.1.trans k.1, fun x => k.2 (h.2 x)⟩
theorem kpS_b {n₀ Bn : Nat} {s : ByteArray} {w : World} (hn : n₀ ≤ w.heap.size) (W : World) (l : Nat) (o o' : Obj) (hl : w.heap.size ≤ l) (h : W.heap[l]? = some o) (h1 : o.isCells = false) (h2 : o.isWalk = false) : KpS n₀ Bn s W (W.putObj l o') :=
  ⟨belowK_b hn W l o o' hl h h1 h2, fun hb => hb.kept (grownBy_putObj' W l o') (fun e => by cases e; rw [show W.heap[Bn]? = _ from hb] at h; cases h; cases h1)⟩

theorem grown_of_below {w w' : World} (hb : Below w.heap.size w w') : w.grownBy w' none := ⟨hb.os, hb.tape, hb.output, hb.size, fun k hk _ => hb.block k hk⟩

set_option maxRecDepth 100000 in
set_option maxHeartbeats 16000000 in
theorem tokens1_in (n : Nat) (hn : 1 ≤ n) (l Bn n₀ : Nat) (h7 : 7 ≤ n₀) (s : ByteArray) (hz : s.size ≤ 1048576) (J Jx : List El → World → Prop) (W : World)
    (hJ : AbidesFrom W.heap.size J)
    (hY : ∀ pre x W, J pre W → pre.length < s.size → YieldAt Fence.wide (n - 1) Tryz.prog l (encE x) W fun e W' =>
      (e = .returned (.bool true) ∧ J (pre ++ [x]) W' ∧ KpS n₀ Bn s W W') ∨ (e = .returned (.bool false) ∧ Jx (pre ++ [x]) W'))
    (hn0 : n₀ ≤ W.heap.size) (hL : Laid W) (hBn : Boxed W Bn 9 (.string s)) (h0 : J [] W) :
    CallsIn Fence.wide n Tryz.prog 26 #[.func (.yield l) #[] #[], .pointer (some ⟨Bn, 0, none⟩)] W fun e W' => (∃ v, e = .returned v) ∧
      ((∃ ys, AllE (lexL (bl s)) ys ∧ J ys W') ∨ (∃ pre, SomeE (lexL (bl s)) pre ∧ Jx pre W')) := by
  have hcb := hBn.cell
  have HL := Lib.hid hL
  have HBn := Lib.hid hBn
  have HJ := Lib.hid hJ
  obtain ⟨a0, ha0⟩ : ∃ a0, 0 + skipM false ((bl s).drop 0) = a0 := ⟨_, rfl⟩
  have hS0 := skip_any hL.tab s 0 (Nat.zero_le _) hz
  rw [ha0] at hS0
  have ha0l : a0 ≤ s.size := by rw [← ha0, List.drop_zero, Nat.zero_add, ← bl_len]; exact skipM_le _ _
  obtain ⟨R, hR⟩ : ∃ R, lexL (bl s) = R := ⟨_, rfl⟩
  have HR0 : Hid (R = lexQ (s.size + 1) a0 ((bl s).drop a0)) := Lib.hid (by
    rw [← hR, ← ha0]; unfold lexL lexS; rw [bl_len, List.drop_zero, Nat.zero_add])
  rw [hR]
  clear hL hBn hJ hR ha0
  refine callsIn_of_wp Tryz.func26 rfl trivial ?_ rfl
  simp only [Tryz.ntmps26, List.size_toArray, List.length_cons, List.length_nil, Nat.reduceAdd, Nat.reduceSub, Array.replicate_succ, Array.replicate_zero, List.push_toArray, List.append_toArray, List.nil_append, List.cons_append]
  gi_wp2_with (refine ⟨trivial, ?_⟩; gi_at_call 27; refine (callsIn_wide.2 hS0).mono ?_; rintro e w' ⟨rfl, rfl⟩)
  gi_loopw [3] (fun p wr => ∃ (pre : List Tok) (a f : Nat), p = .int .i64 a ∧ a ≤ s.size ∧ pre.length ≤ a ∧ J (pre.map good) wr ∧ Hid (Boxed wr Bn 9 (.string s) ∧ Below n₀ W wr) ∧
      Hid (s.size - a < f ∧ R = (pre ++ (lexQ f a ((bl s).drop a)).1, (lexQ f a ((bl s).drop a)).2)))
    (fun p _ => s.size - (intOf p).toNat)
  case atStart => exact ⟨[], a0, s.size + 1, rfl, ha0l, Nat.zero_le _, h0, Lib.hid ⟨HBn.out, Below.refl _ _⟩, Lib.hid ⟨by omega, by rw [HR0.out]; rfl⟩⟩
  case round =>
    obtain ⟨pre, a, f, rfl, has, hpl, hJr, HW, HT⟩ := hrel
    have hcb2 := HW.out.1.cell
    by_cases hal : a < s.size
    · have hd : decide ((a : Int) < (s.size : Int)) = true := decide_eq_true (by omega)
      have hLr : Laid wr := HL.out.near h7 HW.out.2
      have HLr := Lib.hid hLr
      obtain ⟨g, rfl⟩ : ∃ g, f = g + 1 := ⟨f - 1, by have := HT.out.1; omega⟩
      have hT := tokenOf_any (s.extract a s.size) (by simp; omega) (by simp; omega) hLr
      rw [bl_from] at hT
      have hne : (bl s).drop a ≠ [] := by rw [bl_at s a hal]; exact List.cons_ne_nil _ _
      have hat := tokL_at a ((bl s).drop a)
      clear hLr
      cases hr : tokL 0 ((bl s).drop a) with
      | none =>
        rw [hr] at hT hat
        have HF : Hid (R = (pre, some a)) := Lib.hid (by rw [HT.out.2, lexQ_bad _ _ _ hne hat]; simp)
        clear hr hat hne
        gi_wp2_with (refine ⟨trivial, ?_⟩; gi_at_call 28; refine (callsIn_wide.2 hT).mono ?_)
        rintro e w2 ⟨⟨xk, xn, xa, xs, xm, rfl⟩, hb2⟩
        have hb3 : Below wr.heap.size wr (w2.alloc (.cells #[.int .i64 xk, .int .i64 xn, .int .i64 (a : Int), .string xs] 32)) := hb2.alloc hb2.size _
        have hJ3 := HJ.out _ _ _ none hJr (grown_of_below hb3) (fun r e => by cases e)
        obtain ⟨fn, tmps, assign, body, hy, hRR⟩ := hY (pre.map good) ⟨xk, xn, a, xs, false⟩ _ hJ3 (by rw [List.length_map]; omega)
        have hy3 : (Instr.yield l #[.agg #[.int .i64 xk, .int .i64 xn, .int .i64 (a : Int), .string xs], .bool false]).run Tryz.prog _ = _ := hy
        have hlt := HW.out.1.lt
        have hcb3 := (hb2.cell (p := ⟨Bn, 0, none⟩) hlt).trans hcb2
        clear hy hJ3
        gi_wp2
        refine hRR.mono ?_
        rintro e W4 (⟨rfl, hJ4, hk4⟩ | ⟨rfl, hJx4⟩)
        · gi_wp2
          refine bodyPost_ret (results_none rfl _ _ _) rfl ?_
          exact ⟨⟨_, rfl⟩, .inl ⟨_, by rw [HF.out]; exact ⟨_, rfl, rfl, rfl⟩, hJ4⟩⟩
        · gi_wp2
          refine bodyPost_ret (results_none rfl _ _ _) rfl ?_
          exact ⟨⟨_, rfl⟩, .inr ⟨_, by rw [HF.out]; exact ⟨_, ⟨_, rfl, rfl, rfl⟩, List.prefix_refl _⟩, hJx4⟩⟩
      | some x =>
        obtain ⟨⟨tk, tn, ta, tt⟩, m⟩ := x
        rw [hr] at hT hat
        have hat2 : tokL a ((bl s).drop a) = some (⟨tk, tn, a, tt⟩, m) := hat
        have hsz := tokL_size _ _ _ _ hat2
        rw [List.length_drop, bl_len] at hsz
        obtain ⟨a2, ha2⟩ : ∃ a2, a + m + skipM false ((bl s).drop (a + m)) = a2 := ⟨_, rfl⟩
        have ha2l : a2 ≤ s.size := by
          have := skipM_le false ((bl s).drop (a + m)); rw [List.length_drop, bl_len] at this; omega
        have ha2g : a < a2 := by omega
        have hS2 := fun (w : World) (hT : Tab w) => skip_any hT s (a + m) (by omega) hz
        rw [ha2] at hS2
        have HF : Hid (s.size - a2 < g ∧ R = (pre ++ [⟨tk, tn, a, tt⟩] ++ (lexQ g a2 ((bl s).drop a2)).1, (lexQ g a2 ((bl s).drop a2)).2)) := Lib.hid ⟨by have := HT.out.1; omega, by
          rw [HT.out.2, lexQ_tok _ _ _ _ _ hat2, List.drop_drop, List.drop_drop, ← Nat.add_assoc, ha2]; simp⟩
        clear hr hat hat2 hne ha2
        gi_wp2_with (refine ⟨trivial, ?_⟩; gi_at_call 28; refine (callsIn_wide.2 hT).mono ?_)
        rintro e w2 ⟨rfl, hb2⟩
        have hb3 : Below wr.heap.size wr (w2.alloc (.cells #[.int .i64 (tk : Int), .int .i64 (tn : Int), .int .i64 (a : Int), .string ⟨tt.toArray⟩] 32)) := hb2.alloc hb2.size _
        have hJ3 := HJ.out _ _ _ none hJr (grown_of_below hb3) (fun r e => by cases e)
        obtain ⟨fn, tmps, assign, body, hy, hRR⟩ := hY (pre.map good) (good ⟨tk, tn, a, tt⟩) _ hJ3 (by rw [List.length_map]; omega)
        have hy3 : (Instr.yield l #[.agg #[.int .i64 (tk : Int), .int .i64 (tn : Int), .int .i64 (a : Int), .string ⟨tt.toArray⟩], .bool true]).run Tryz.prog _ = _ := hy
        have hlt := HW.out.1.lt
        have hcb3 := (hb2.cell (p := ⟨Bn, 0, none⟩) hlt).trans hcb2
        have hbx3 : Boxed (w2.alloc (.cells #[.int .i64 (tk : Int), .int .i64 (tn : Int), .int .i64 (a : Int), .string ⟨tt.toArray⟩] 32)) Bn 9 (.string s) := (hb3.block Bn hlt).trans HW.out.1
        have hnr : n₀ ≤ wr.heap.size := Nat.le_trans hn0 HW.out.2.size
        have HB3 := Lib.hid (And.intro hbx3 (HW.out.2.trans (hb3.mono hnr)))
        clear hy hJ3 hbx3 hb3
        gi_wp2
        refine hRR.mono ?_
        rintro e W4 (⟨rfl, hJ4, hk4⟩ | ⟨rfl, hJx4⟩)
        · have hb4 := HB3.out.2.trans hk4.1
          have hx4 := hk4.2 HB3.out.1
          have hc4 := hx4.cell
          have hL4 := HL.out.near h7 hb4
          have HB4 := Lib.hid (And.intro hx4 hb4)
          have hS4 := hS2 W4 hL4.tab
          clear hcb3 hcb2 hb4 hx4 hL4 hS2 hS0
          gi_wp2_with (refine ⟨trivial, ?_⟩; gi_at_call 27; refine (callsIn_wide.2 hS4).mono ?_; rintro e w' ⟨rfl, rfl⟩)
          go_roundw
          case rel => exact ⟨pre ++ [⟨tk, tn, a, tt⟩], a2, g, by go_num, ha2l, by simp; omega, by simpa using hJ4, HB4, HF⟩
          case measure => simp [intOf]; omega
        · gi_wp2
          refine bodyPost_ret (results_none rfl _ _ _) rfl ?_
          exact ⟨⟨_, rfl⟩, .inr ⟨_, by
            rw [HF.out.2]
            generalize lexQ g a2 ((bl s).drop a2) = X
            obtain ⟨ts, e⟩ := X
            cases e with
            | none => exact ⟨_, rfl, by simp⟩
            | some p => exact ⟨_, ⟨⟨0, 0, p, ⟨#[]⟩, false⟩, rfl, rfl, rfl⟩, by simp⟩, hJx4⟩⟩
    · have HF : Hid (R = (pre, none)) := Lib.hid (by rw [HT.out.2, List.drop_eq_nil_of_le (by rw [bl_len]; omega), lexQ_nil]; simp)
      have hd : decide ((a : Int) < (s.size : Int)) = false := decide_eq_false (by omega)
      gi_wp2
      go_end0
      exact ⟨⟨_, rfl⟩, .inl ⟨_, by rw [HF.out]; exact rfl, hJr⟩⟩

theorem tokensOf_in (n : Nat) (s : ByteArray) (w : World) :
    CallsIn Fence.wide n Tryz.prog 19 #[.string s] w fun e w' => e = .returned (.func (.func 26) #[] #[.pointer (some ⟨w.heap.size, 0, none⟩)]) ∧ w.alloc (.cells #[.string s] 9) = w' := by
  refine callsIn_of_wp Tryz.func19 rfl trivial ?_ rfl
  simp only [Tryz.ntmps19, List.size_toArray, List.length_cons, List.length_nil, Nat.reduceAdd, Nat.reduceSub, Array.replicate_succ, Array.replicate_zero, List.push_toArray, List.append_toArray, List.nil_append, List.cons_append]
  gi_wp2
  go_ret
  exact ⟨rfl, rfl⟩

theorem tokens_stops (n : Nat) (hn : 1 ≤ n) (Bn n₀ : Nat) (h7 : 7 ≤ n₀) (s : ByteArray) (hz : s.size ≤ 1048576) (w : World) (hn0 : n₀ ≤ w.heap.size) (hL : Laid w) (hBn : Boxed w Bn 9 (.string s)) :
    SeqStopsK Fence.wide n Tryz.prog 26 #[.pointer (some ⟨Bn, 0, none⟩)] encE (KpS n₀ Bn s) (AllE (lexL (bl s))) (SomeE (lexL (bl s))) s.size w := fun l J Jx W hW hJ _ hY h0 =>
  tokens1_in n hn l Bn n₀ h7 s hz J Jx W hJ hY (Nat.le_trans hn0 hW.size) (hL.below hW) ((hW.block Bn hBn.lt).trans hBn) h0
end Go.Proofs.YtnaopgajinbnmaaGreatDoor
