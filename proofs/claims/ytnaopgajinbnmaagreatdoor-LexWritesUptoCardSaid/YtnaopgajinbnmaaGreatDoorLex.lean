/- Lex: the tokens of a source. -/
import Derived.Test.YtnaopgajinbnmaaGreatDoorIter
namespace Go.Proofs.YtnaopgajinbnmaaGreatDoor
open Go.RowKit Go.Shelf

attribute [local go_sem] Oper.semAt_some

/-- What Lex answers: the tokens, the number, the error. -/
def lexR (l : List UInt8) : List Tok × Nat × Nat :=
  if 6000 < l.length then ([], 0, 3) else
    match lexL l with
    | (_, some p) => ([], p, 2)
    | (ts, none) => if 2000 < ts.length then ([], 0, 3) else (ts, ts.length, 0)
abbrev cellsE (x : El) : List Value := [.int .i64 x.k, .int .i64 x.n, .int .i64 x.a, .string x.s]
abbrev cellsT (t : Tok) : List Value := cellsE (good t)
/-- The answer as a value; the tokens lie in memory of the call's own. -/
def LexPost (r : List Tok × Nat × Nat) (w : World) (e : Ending) (w' : World) : Prop :=
  ∃ v, e = .returned (.tuple #[v, .int .i64 (r.2.1 : Nat), .int .i64 (r.2.2 : Nat)]) ∧ w'.ownsRow w.heap.size 32 4 v r.1.length (r.1.flatMap cellsT) ∧ Below w.heap.size w w'

theorem info32 : (Tryz.prog.info? 32).map (fun i => (i.zero, i.size, i.bytes)) = some (some (.agg #[.int .i64 0, .int .i64 0, .int .i64 0, .string ⟨#[]⟩]), 4, 40) := by kernel_rfl

set_option maxRecDepth 100000 in
set_option maxHeartbeats 4000000 in
theorem lex_large (s : ByteArray) (hs : 6000 < s.size) (w : World) : Calls Tryz.prog 10 #[.string s] w (LexPost (lexR (bl s)) w) := by
  have hF : lexR (bl s) = ([], 0, 3) := by unfold lexR; rw [if_pos (by rw [bl_len]; exact hs)]
  rw [hF]
  have hd : decide (6000 < (s.size : Int)) = true := decide_eq_true (by omega)
  go_enter Tryz.func10, Tryz.ntmps10
  go_wp2
  obtain ⟨W, hW⟩ : ∃ W, ((w.alloc (.cells #[.slice none 0 0] 22)).alloc (.cells #[.int .i64 0] 3)).alloc (.cells #[.int .i64 3] 25) = W := ⟨_, rfl⟩
  have b1 : Boxed W w.heap.size 22 (.slice none 0 0) := hW ▸ ((Boxed.new w 22 _).alloc _).alloc _
  have b2 : Boxed W (w.heap.size + 1) 3 (.int .i64 0) := by
    have := (Boxed.new (w.alloc (.cells #[.slice none 0 0] 22)) 3 (.int .i64 0)).alloc (.cells #[.int .i64 3] 25)
    rw [World.size_alloc] at this; rw [← hW]; exact this
  have b3 : Boxed W (w.heap.size + 1 + 1) 25 (.int .i64 3) := by
    have := Boxed.new ((w.alloc (.cells #[.slice none 0 0] 22)).alloc (.cells #[.int .i64 0] 3)) 25 (.int .i64 3)
    rw [World.size_alloc, World.size_alloc] at this; rw [← hW]; exact this
  have hb : Below w.heap.size w W := hW ▸ (((Below.refl _ w).alloc (Nat.le_refl _) _).alloc (by simp) _).alloc (by simp; omega) _
  obtain ⟨c1, c2, c3⟩ := And.intro b1.cell (And.intro b2.cell b3.cell)
  rw [hW]
  exact bodyPost_ret (v := .tuple #[.slice none 0 0, .int .i64 0, .int .i64 3]) (by simp [results, Tryz.results10, go_sem, c1, c2, c3]) rfl ⟨_, rfl, World.ownsRow_nil _ _ _ _, hb⟩

theorem cells4_new (w : World) (a b c d : Value) : ∀ j u, [a, b, c, d][j]? = some u → (w.alloc (.cells #[a, b, c, d] 32)).cell? ((⟨w.heap.size, 0, none⟩ : Addr).add j) = some u := by
  intro j u hj
  have h := (Blk.new w 32 #[a, b, c, d]).cell j
  rw [show (⟨w.heap.size, 0, none⟩ : Addr).add j = ⟨w.heap.size, j, none⟩ from by simp [Addr.add]; omega, h]
  simpa using hj
/-- The last thing told is no token. -/
def BadLast (pre : List El) : Prop := ∃ x q, pre = q ++ [x] ∧ x.ok = false ∧ ∀ y ∈ q, y.ok = true
def lastA (pre : List El) : Int := (pre.getLast?.map El.a).getD 0
theorem lastA_snoc (q : List El) (x : El) : lastA (q ++ [x]) = x.a := by simp [lastA]
theorem blk_own {β : Type} (B : Nat) (t : TypeId) (cs : Array Value) : Own (fun (_ : β) W => Blk W B t cs) := fun s X Y row hs hg hrow =>
  Blk.grown hs hg (fun e' => by obtain ⟨o, ho, hc⟩ := hrow B e'.symm; rw [show X.heap[B]? = _ from hs] at ho; cases ho; cases hc)
theorem good_ok (l : List Tok) : ∀ y ∈ l.map good, y.ok = true := by
  intro y hy; obtain ⟨t, _, rfl⟩ := List.mem_map.1 hy; rfl
theorem allE_good {r : List Tok × Option Nat} {ys : List El} (h : AllE r ys) (ho : ∀ y ∈ ys, y.ok = true) : r.2 = none ∧ ys = r.1.map good := by
  unfold AllE at h
  cases hr : r.2 with
  | none => rw [hr] at h; exact ⟨rfl, h⟩
  | some p =>
    rw [hr] at h
    obtain ⟨x, hx, _, rfl⟩ := h
    rw [ho x (by simp)] at hx; cases hx
theorem someE_bad {r : List Tok × Option Nat} {pre : List El} (h : SomeE r pre) (hb : BadLast pre) : r.2 = some (lastA pre).toNat ∧ 0 ≤ lastA pre := by
  obtain ⟨ys, ha, hp⟩ := h
  obtain ⟨x, q, rfl, hx, hq⟩ := hb
  rw [lastA_snoc]
  have hxm : x ∈ ys := hp.subset (by simp)
  unfold AllE at ha
  cases hr : r.2 with
  | none =>
    rw [hr] at ha
    simp only at ha
    rw [ha] at hxm
    rw [good_ok _ x hxm] at hx; cases hx
  | some p =>
    rw [hr] at ha
    obtain ⟨z, hz, hza, rfl⟩ := ha
    rcases List.mem_append.1 hxm with h | h
    · rw [good_ok _ x h] at hx; cases hx
    · rw [List.mem_singleton] at h; subst h
      rw [hza]; exact ⟨by simp, by omega⟩

set_option maxRecDepth 100000 in
set_option maxHeartbeats 16000000 in
theorem lex_in (s : ByteArray) (hs : s.size ≤ 6000) (w : World) (hL : Laid w) : CallsIn Fence.wide 20 Tryz.prog 10 #[.string s] w (LexPost (lexR (bl s)) w) := by
  obtain ⟨i0, hi, hz0, hz1, hz2⟩ := info_parts info32
  have hd : decide (6000 < (s.size : Int)) = false := decide_eq_false (by omega)
  have h7 := hL.lt
  refine callsIn_of_wp_marks Tryz.func10 rfl trivial ?_ rfl
  simp only [Tryz.ntmps10, List.size_toArray, List.length_cons, List.length_nil, Nat.reduceAdd, Nat.reduceSub, Array.replicate_succ, Array.replicate_zero, List.push_toArray, List.append_toArray, List.nil_append, List.cons_append]
  gi_wp2_with (refine ⟨trivial, ?_⟩; gi_at_call 19; refine (tokensOf_in _ _ _).mono ?_; rintro e w' ⟨rfl, rfl⟩)
  have b1 := ((((Boxed.new w 22 (.slice none 0 0)).alloc (.cells #[.int .i64 0] 3)).alloc (.cells #[.int .i64 0] 25)).alloc (.cells #[.slice none 0 0] 22)).alloc (.cells #[.string s] 9)
  have b2 := (((Boxed.new (w.alloc (.cells #[.slice none 0 0] 22)) 3 (.int .i64 0)).alloc (.cells #[.int .i64 0] 25)).alloc (.cells #[.slice none 0 0] 22)).alloc (.cells #[.string s] 9)
  have b3 := ((Boxed.new ((w.alloc (.cells #[.slice none 0 0] 22)).alloc (.cells #[.int .i64 0] 3)) 25 (.int .i64 0)).alloc (.cells #[.slice none 0 0] 22)).alloc (.cells #[.string s] 9)
  have b4 := (Boxed.new (((w.alloc (.cells #[.slice none 0 0] 22)).alloc (.cells #[.int .i64 0] 3)).alloc (.cells #[.int .i64 0] 25)) 22 (.slice none 0 0)).alloc (.cells #[.string s] 9)
  have b5 := Boxed.new ((((w.alloc (.cells #[.slice none 0 0] 22)).alloc (.cells #[.int .i64 0] 3)).alloc (.cells #[.int .i64 0] 25)).alloc (.cells #[.slice none 0 0] 22)) 9 (.string s)
  simp only [World.size_alloc] at b2 b3 b4 b5
  have hB0 : Below w.heap.size w (((((w.alloc (.cells #[.slice none 0 0] 22)).alloc (.cells #[.int .i64 0] 3)).alloc (.cells #[.int .i64 0] 25)).alloc (.cells #[.slice none 0 0] 22)).alloc (.cells #[.string s] 9)) :=
    (((((Below.refl _ w).alloc (Nat.le_refl _) _).alloc (by simp) _).alloc (by simp; omega) _).alloc (by simp; omega) _).alloc (by simp; omega) _
  have hsz : (((((w.alloc (.cells #[.slice none 0 0] 22)).alloc (.cells #[.int .i64 0] 3)).alloc (.cells #[.int .i64 0] 25)).alloc (.cells #[.slice none 0 0] 22)).alloc (.cells #[.string s] 9)).heap.size = w.heap.size + 5 := by simp
  obtain ⟨W0, hW0⟩ : ∃ W0, ((((w.alloc (.cells #[.slice none 0 0] 22)).alloc (.cells #[.int .i64 0] 3)).alloc (.cells #[.int .i64 0] 25)).alloc (.cells #[.slice none 0 0] 22)).alloc (.cells #[.string s] 9) = W0 := ⟨_, rfl⟩
  rw [hW0] at b1 b2 b3 b4 b5 hB0 hsz ⊢
  clear hW0
  refine wpIn_rangeFunc_ownH rfl (by omega) (gf := 26) (lb := #[.pointer (some ⟨w.heap.size + 1 + 1 + 1 + 1, 0, none⟩)]) rfl trivial (enters_of Tryz.func26 (by kernel_rfl) rfl)
    (tokens_stops 19 (by omega) (w.heap.size + 1 + 1 + 1 + 1) w.heap.size h7 s (by omega) W0 (by omega) (hL.below hB0) b5) kpS_t (kpS_b (by omega)) (Below.refl _ _) (fun _ => rfl)
    (fun pre W => (∃ v, Boxed W (w.heap.size + 1 + 1 + 1) 22 v ∧ W.ownsRow w.heap.size 32 4 v pre.length (pre.flatMap cellsE) ∧ True) ∧ (Boxed W w.heap.size 22 (.slice none 0 0) ∧ Boxed W (w.heap.size + 1) 3 (.int .i64 0) ∧ Boxed W (w.heap.size + 1 + 1) 25 (.int .i64 0)) ∧ Below w.heap.size w W ∧ (∀ y ∈ pre, y.ok = true))
    (fun c pre W => (c = .ret ∧ BadLast pre) ∧ (Boxed W w.heap.size 22 (.slice none 0 0) ∧ Boxed W (w.heap.size + 1) 3 (.int .i64 (lastA pre)) ∧ Boxed W (w.heap.size + 1 + 1) 25 (.int .i64 2)) ∧ Below w.heap.size w W)
    (OwnFrom.and (Own.from (holdsRow_own w.heap.size (w.heap.size + 1 + 1 + 1) 22 32 4 (fun pre : List El => pre.length) (fun pre => pre.flatMap cellsE) (fun _ _ => True)) _) (OwnFrom.and (OwnFrom.and (Own.from (boxed_own _ _ _) _) (OwnFrom.and (Own.from (boxed_own _ _ _) _) (Own.from (boxed_own _ _ _) _))) (OwnFrom.and (ownFrom_below (Nat.le_refl _) (by omega)) (fun _ _ _ _ hs _ _ => hs))))
    (fun c => OwnFrom.and (fun _ _ _ _ hs _ _ => hs) (OwnFrom.and (OwnFrom.and (Own.from (boxed_own _ _ _) _) (OwnFrom.and (Own.from (boxed_own _ _ (fun pre => .int .i64 (lastA pre))) _) (Own.from (boxed_own _ _ _) _))) (ownFrom_below (Nat.le_refl _) (by omega))))
    ⟨⟨_, b4, World.ownsRow_nil _ _ _ _, trivial⟩, ⟨b1, b2, b3⟩, hB0, fun y hy => by cases hy⟩
    (fun x a' W => ∃ Bx, w.heap.size + 1 + 1 + 1 < Bx ∧ Blk W Bx 32 (tokC x.k x.n x.a x.s) ∧ a' = { tmps := #[.string s, undef, .pointer (some ⟨w.heap.size, 0, none⟩), .pointer (some ⟨w.heap.size + 1, 0, none⟩), .pointer (some ⟨w.heap.size + 1 + 1, 0, none⟩), .pointer (some ⟨w.heap.size + 1 + 1 + 1, 0, none⟩), .pointer (some ⟨Bx, 0, none⟩), .bool x.ok, .string s, .int .i64 s.size, .bool false, .string s, .func (.func 26) #[] #[.pointer (some ⟨w.heap.size + 1 + 1 + 1 + 1, 0, none⟩)], .agg (tokC x.k x.n x.a x.s), .bool x.ok, undef, undef, undef, undef, undef, undef, undef, undef, undef, undef, undef, undef, undef, undef], defers := [] })
    (fun x a' _ X Y row hs hg hr => by obtain ⟨Bx, h1, h2, h3⟩ := hs; exact ⟨Bx, h1, blk_own (β := Unit) Bx 32 _ () X Y row h2 hg (fun r e => (hr r e).2), h3⟩)
    ?assign ?body ?done ?stop
  case assign =>
    rintro l pre x W K ⟨⟨v, hv, hrow, -⟩, ⟨c1, c2, c3⟩, hB, hok⟩ hK
    gi_wp2
    have hlt := hv.lt
    exact hK _ _ ((KeepsOthers.alloc _ _).from _) ⟨(Below.refl _ W).alloc hB.size _, fun h => h.alloc _⟩ ⟨⟨_, hv.alloc _, hrow.alloc _, trivial⟩, ⟨c1.alloc _, c2.alloc _, c3.alloc _⟩, hB.alloc hB.size _, hok⟩ ⟨W.heap.size, hlt, Blk.new _ _ _, rfl⟩
  case body =>
    rintro l pre ⟨xk, xn, xa, xs, xok⟩ a' W hl ⟨r, hr⟩ ⟨⟨v, hv, hrow, -⟩, ⟨c1, c2, c3⟩, hB, hok⟩ ⟨Bx, hBx, bX, rfl⟩ hlt
    have hc := hv.cell
    have hf := hv.frozen
    obtain ⟨k1, k2, k3⟩ := And.intro c1.cell (And.intro c2.cell c3.cell)
    obtain ⟨f1, f2, f3⟩ := And.intro c1.frozen (And.intro c2.frozen c3.frozen)
    obtain ⟨x0, x1, x2, x3, -⟩ := tok_facts bX
    cases xok with
    | false =>
      gi_wp2
      refine Go.wpIn_mono (Q := fun e a' W' => e = .normal ∧ a' = { tmps := #[.string s, undef, .pointer (some ⟨w.heap.size, 0, none⟩), .pointer (some ⟨w.heap.size + 1, 0, none⟩), .pointer (some ⟨w.heap.size + 1 + 1, 0, none⟩), .pointer (some ⟨w.heap.size + 1 + 1 + 1, 0, none⟩), .pointer (some ⟨Bx, 0, none⟩), .bool false, .string s, .int .i64 s.size, .bool false, .string s, .func (.func 26) #[] #[.pointer (some ⟨w.heap.size + 1 + 1 + 1 + 1, 0, none⟩)], .agg (tokC xk xn xa xs), .bool false, .bool false, .bool true, .pointer (some ⟨Bx, 2, none⟩), .int .i64 xa, undef, undef, undef, undef, undef, undef, undef, undef, undef, undef], defers := [] } ∧ W' = (((W.setCell ⟨w.heap.size, 0, none⟩ (.slice none 0 0)).setCell ⟨w.heap.size + 1, 0, none⟩ (.int .i64 xa)).setCell ⟨w.heap.size + 1 + 1, 0, none⟩ (.int .i64 2)).drew) ?reg ?next
      case reg =>
        gi_region
        all_goals exact ⟨rfl, rfl, rfl⟩
      case next =>
        rintro e a' W' ⟨rfl, rfl, rfl⟩
        have d1 : Boxed (((W.setCell ⟨w.heap.size, 0, none⟩ (.slice none 0 0)).setCell ⟨w.heap.size + 1, 0, none⟩ (.int .i64 xa)).setCell ⟨w.heap.size + 1 + 1, 0, none⟩ (.int .i64 2)).drew w.heap.size 22 (.slice none 0 0) := ((c1.set _).other (by omega) _).other (by omega) _
        have d2 : Boxed (((W.setCell ⟨w.heap.size, 0, none⟩ (.slice none 0 0)).setCell ⟨w.heap.size + 1, 0, none⟩ (.int .i64 xa)).setCell ⟨w.heap.size + 1 + 1, 0, none⟩ (.int .i64 2)).drew (w.heap.size + 1) 3 (.int .i64 xa) := ((c2.other (by omega) _).set _).other (by omega) _
        have d3 : Boxed (((W.setCell ⟨w.heap.size, 0, none⟩ (.slice none 0 0)).setCell ⟨w.heap.size + 1, 0, none⟩ (.int .i64 xa)).setCell ⟨w.heap.size + 1 + 1, 0, none⟩ (.int .i64 2)).drew (w.heap.size + 1 + 1) 25 (.int .i64 2) := ((c3.other (by omega) _).other (by omega) _).set _
        have hB1 : Below w.heap.size W (((W.setCell ⟨w.heap.size, 0, none⟩ (.slice none 0 0)).setCell ⟨w.heap.size + 1, 0, none⟩ (.int .i64 xa)).setCell ⟨w.heap.size + 1 + 1, 0, none⟩ (.int .i64 2)).drew := Below.drew ((((Below.refl _ W).setCell (p := ⟨w.heap.size, 0, none⟩) (by simp) _).setCell (p := ⟨w.heap.size + 1, 0, none⟩) (by simp) _).setCell (p := ⟨w.heap.size + 1 + 1, 0, none⟩) (by simp; omega) _)
        have hK1 : KeepsOthers W (((W.setCell ⟨w.heap.size, 0, none⟩ (.slice none 0 0)).setCell ⟨w.heap.size + 1, 0, none⟩ (.int .i64 xa)).setCell ⟨w.heap.size + 1 + 1, 0, none⟩ (.int .i64 2)).drew := (((KeepsOthers.setCell _ _ _).trans (KeepsOthers.setCell _ _ _)).trans (KeepsOthers.setCell _ _ _)).trans (KeepsOthers.drew _)
        gi_wp2
        refine ⟨hK1.from _, ⟨rfl, ⟨_, pre, rfl, rfl, hok⟩⟩, ⟨d1, ?_, d3⟩, hB.trans hB1⟩
        rw [lastA_snoc]; exact d2
    | true =>
      have b1 : pre.length + 1 ≤ maxLen := by unfold maxLen; omega
      have b2 : (pre.length + 1) * 40 ≤ 140737488355328 := by omega
      gi_wp2_with (gi_at_builtin; refine wpListIn_append_own _ rfl _ _ 22 rfl w.heap.size 32 i0 (.agg #[.int .i64 0, .int .i64 0, .int .i64 0, .string ⟨#[]⟩]) 4 40 Tryz.underlying22 hi hz0 hz1 hz2 rfl (by decide) _ _ _ rfl (hrow.alloc _) ⟨W.heap.size, 0, none⟩ 1 1 (cellsE ⟨xk, xn, xa, xs, true⟩) rfl rfl (cells4_new _ _ _ _ _) (by simp [Value.oneCell']) b1 b2 (by have := hB.size; simp; omega) ?_; intro v' w1 hown' hgrow _; obtain ⟨g', cap', rfl⟩ := ownsRow_succ hown'; obtain ⟨hv1, hv2, hr2, hk2, hb2⟩ := hv.appended (by decide) hrow hB.size (by omega) hown' hgrow; have hc1 := hv1.cell; have hf1 := hv1.frozen)
      have keep : ∀ {B : Nat} {t : TypeId} {u : Value}, Boxed W B t u → t ≠ 32 → B ≠ w.heap.size + 1 + 1 + 1 → Boxed (w1.setCell ⟨w.heap.size + 1 + 1 + 1, 0, none⟩ (.slice (some ⟨g', 0, none⟩) (pre.length + 1) cap')) B t u := fun h ht hne => ((h.alloc _).kept hgrow (h.not_row ht hrow)).other hne _
      refine ⟨hk2.from _, ⟨hb2, fun h => keep h (by decide) (by omega)⟩, ⟨_, hv2, by simpa using hr2⟩, ⟨keep c1 (by decide) (by omega), keep c2 (by decide) (by omega), keep c3 (by decide) (by omega)⟩, hB.trans hb2, ?_⟩
      intro y hy
      rcases List.mem_append.1 hy with h | h
      · exact hok y h
      · rw [List.mem_singleton] at h; subst h; rfl
  case done =>
    rintro D ys W hD hS ⟨⟨v, hv, hrow, -⟩, ⟨c1, c2, c3⟩, hB, hok⟩ hK
    obtain ⟨he, rfl⟩ := allE_good hS hok
    obtain ⟨ts, hts⟩ : ∃ ts, (lexL (bl s)).1 = ts := ⟨_, rfl⟩
    have hlx : lexL (bl s) = (ts, none) := by rw [← hts, ← he]
    rw [hts] at hrow
    rw [List.length_map, List.flatMap_map] at hrow
    clear hS hok he hts
    have hc := hv.cell
    have hf := hv.frozen
    obtain ⟨k1, k2, k3⟩ := And.intro c1.cell (And.intro c2.cell c3.cell)
    obtain ⟨f1, f2, f3⟩ := And.intro c1.frozen (And.intro c2.frozen c3.frozen)
    have hDs : D ≠ w.heap.size ∧ D ≠ w.heap.size + 1 ∧ D ≠ w.heap.size + 1 + 1 := by omega
    obtain ⟨A, cp, rfl, -⟩ := own_form hrow
    by_cases h2 : 2000 < ts.length
    · have hF : lexR (bl s) = ([], 0, 3) := by unfold lexR; rw [if_neg (by rw [bl_len]; omega), hlx]; simp [h2]
      have hd2 : decide (2000 < (ts.length : Int)) = true := decide_eq_true (by omega)
      have HF := Lib.hid hF
      clear hF hlx
      have d1 := ((c1.set (.slice none 0 0)).other (B' := w.heap.size + 1) (by omega) (.int .i64 0)).other (B' := w.heap.size + 1 + 1) (by omega) (.int .i64 3)
      have d2 := ((c2.other (B' := w.heap.size) (by omega) (.slice none 0 0)).set (.int .i64 0)).other (B' := w.heap.size + 1 + 1) (by omega) (.int .i64 3)
      have d3 := ((c3.other (B' := w.heap.size) (by omega) (.slice none 0 0)).other (B' := w.heap.size + 1) (by omega) (.int .i64 0)).set (.int .i64 3)
      have hB1 := ((hB.setCell (p := ⟨w.heap.size, 0, none⟩) (by simp) (.slice none 0 0)).setCell (p := ⟨w.heap.size + 1, 0, none⟩) (by simp) (.int .i64 0)).setCell (p := ⟨w.heap.size + 1 + 1, 0, none⟩) (by simp; omega) (.int .i64 3)
      have hK1 := (((KeepsOthers.setCell W ⟨w.heap.size, 0, none⟩ (.slice none 0 0)).trans (KeepsOthers.setCell _ ⟨w.heap.size + 1, 0, none⟩ (.int .i64 0))).trans (KeepsOthers.setCell _ ⟨w.heap.size + 1 + 1, 0, none⟩ (.int .i64 3))).same D _ hK rfl
      gi_wp2
      generalize ((W.setCell ⟨w.heap.size, 0, none⟩ (.slice none 0 0)).setCell ⟨w.heap.size + 1, 0, none⟩ (.int .i64 0)).setCell ⟨w.heap.size + 1 + 1, 0, none⟩ (.int .i64 3) = W1 at d1 d2 d3 hB1 hK1 ⊢
      refine ⟨by simp, .inl ⟨_, _, rfl, run_takeDeferred hK1, ?_⟩⟩
      have e1 := (d1.kept (grownBy_putObj' W1 D (.deferred none)) (by simp; omega)).cell
      have e2 := (d2.kept (grownBy_putObj' W1 D (.deferred none)) (by simp; omega)).cell
      have e3 := (d3.kept (grownBy_putObj' W1 D (.deferred none)) (by simp; omega)).cell
      refine ⟨.tuple #[.slice none 0 0, .int .i64 0, .int .i64 3], by simp [results, Tryz.results10, go_sem, e1, e2, e3], ?_⟩
      rw [HF.out]
      exact ⟨_, rfl, World.ownsRow_nil _ _ _ _, hB1.trans (belowK_b (w := w) (Nat.le_refl _) W1 D _ _ (by omega) hK1 rfl rfl)⟩
    · have hF : lexR (bl s) = (ts, ts.length, 0) := by unfold lexR; rw [if_neg (by rw [bl_len]; omega), hlx]; simp [h2]
      have hd2 : decide (2000 < (ts.length : Int)) = false := decide_eq_false (by omega)
      have HF := Lib.hid hF
      clear hF hlx
      gi_wp2
      refine Go.wpIn_mono (Q := fun e a' W' => e = .normal ∧ a' = { tmps := #[.string s, undef, .pointer (some ⟨w.heap.size, 0, none⟩), .pointer (some ⟨w.heap.size + 1, 0, none⟩), .pointer (some ⟨w.heap.size + 1 + 1, 0, none⟩), .pointer (some ⟨w.heap.size + 1 + 1 + 1, 0, none⟩), undef, undef, .string s, .int .i64 s.size, .bool false, .string s, .func (.func 26) #[] #[.pointer (some ⟨w.heap.size + 1 + 1 + 1 + 1, 0, none⟩)], undef, undef, undef, undef, undef, undef, undef, undef, undef, undef, .slice A ts.length cp, .int .i64 ts.length, .bool false, .slice A ts.length cp, .slice A ts.length cp, .int .i64 ts.length], defers := [{ target := .collected D, args := #[] }] } ∧ W' = (((W.setCell ⟨w.heap.size, 0, none⟩ (.slice A ts.length cp)).setCell ⟨w.heap.size + 1, 0, none⟩ (.int .i64 ts.length)).setCell ⟨w.heap.size + 1 + 1, 0, none⟩ (.int .i64 0)).drew) ?reg ?next
      case reg =>
        gi_region
        all_goals exact ⟨rfl, rfl, rfl⟩
      case next =>
        rintro e a' W' ⟨rfl, rfl, rfl⟩
        have d1 : Boxed _ w.heap.size 22 _ := ((c1.set (.slice A ts.length cp)).other (B' := w.heap.size + 1) (by omega) (.int .i64 ts.length)).other (B' := w.heap.size + 1 + 1) (by omega) (.int .i64 0)
        have d2 : Boxed _ (w.heap.size + 1) 3 _ := ((c2.other (B' := w.heap.size) (by omega) (.slice A ts.length cp)).set (.int .i64 ts.length)).other (B' := w.heap.size + 1 + 1) (by omega) (.int .i64 0)
        have d3 : Boxed _ (w.heap.size + 1 + 1) 25 _ := ((c3.other (B' := w.heap.size) (by omega) (.slice A ts.length cp)).other (B' := w.heap.size + 1) (by omega) (.int .i64 ts.length)).set (.int .i64 0)
        have hB1 := Below.drew (((hB.setCell (p := ⟨w.heap.size, 0, none⟩) (by simp) (.slice A ts.length cp)).setCell (p := ⟨w.heap.size + 1, 0, none⟩) (by simp) (.int .i64 ts.length)).setCell (p := ⟨w.heap.size + 1 + 1, 0, none⟩) (by simp; omega) (.int .i64 0))
        have hK1 := (((KeepsOthers.setCell W ⟨w.heap.size, 0, none⟩ (.slice A ts.length cp)).trans (KeepsOthers.setCell _ ⟨w.heap.size + 1, 0, none⟩ (.int .i64 ts.length))).trans (KeepsOthers.setCell _ ⟨w.heap.size + 1 + 1, 0, none⟩ (.int .i64 0))).same D _ hK rfl
        have hr1 := ((hrow.kept (grownBy_setCell' W w.heap.size (.slice A ts.length cp)) (.inr (c1.not_row (by decide) hrow).symm)))
        have hr2 := hr1.kept (grownBy_setCell' _ (w.heap.size + 1) (.int .i64 ts.length)) (.inr ((c2.other (B' := w.heap.size) (by omega) (.slice A ts.length cp)).not_row (by decide) hr1).symm)
        have hr3 := hr2.kept (grownBy_setCell' _ (w.heap.size + 1 + 1) (.int .i64 0)) (.inr (((c3.other (B' := w.heap.size) (by omega) (.slice A ts.length cp)).other (B' := w.heap.size + 1) (by omega) (.int .i64 ts.length)).not_row (by decide) hr2).symm)
        gi_wp2
        generalize hWW : ((W.setCell ⟨w.heap.size, 0, none⟩ (.slice A ts.length cp)).setCell ⟨w.heap.size + 1, 0, none⟩ (.int .i64 ts.length)).setCell ⟨w.heap.size + 1 + 1, 0, none⟩ (.int .i64 0) = W1 at d1 d2 d3 hB1 hK1 hr3 ⊢
        have d1' : Boxed W1.drew w.heap.size 22 _ := d1
        have d2' : Boxed W1.drew (w.heap.size + 1) 3 _ := d2
        have d3' : Boxed W1.drew (w.heap.size + 1 + 1) 25 _ := d3
        have hr3' : W1.drew.ownsRow w.heap.size 32 4 _ _ _ := hr3
        have hK1' : W1.drew.heap[D]? = _ := hK1
        refine ⟨by simp, .inl ⟨_, _, rfl, run_takeDeferred hK1', ?_⟩⟩
        have e1 := (d1'.kept (grownBy_putObj' W1.drew D (.deferred none)) (by simp; omega)).cell
        have e2 := (d2'.kept (grownBy_putObj' W1.drew D (.deferred none)) (by simp; omega)).cell
        have e3 := (d3'.kept (grownBy_putObj' W1.drew D (.deferred none)) (by simp; omega)).cell
        refine ⟨.tuple #[.slice A ts.length cp, .int .i64 ts.length, .int .i64 0], by simp [results, Tryz.results10, go_sem, e1, e2, e3], ?_⟩
        rw [HF.out]
        exact ⟨_, rfl, ownsRow_putObj hr3' _ hK1' rfl, hB1.trans (belowK_b (w := w) (Nat.le_refl _) W1.drew D _ _ (by omega) hK1' rfl rfl)⟩
  case stop =>
    rintro D c pre W hD hS ⟨⟨rfl, hbad⟩, ⟨c1, c2, c3⟩, hB⟩ hK
    obtain ⟨he, ha0⟩ := someE_bad hS hbad
    obtain ⟨p, hp⟩ : ∃ p : Nat, lastA pre = p := ⟨(lastA pre).toNat, by omega⟩
    rw [hp] at he c2
    have hF : lexR (bl s) = ([], p, 2) := by
      unfold lexR; rw [if_neg (by rw [bl_len]; omega)]
      generalize hl : lexL (bl s) = X at he
      obtain ⟨ts, e⟩ := X
      simp only at he
      subst he
      simp
    gi_wp2
    refine ⟨by simp, .inl ⟨_, _, rfl, run_takeDeferred hK, ?_⟩⟩
    have e1 := (c1.kept (grownBy_putObj' W D (.deferred none)) (by simp; omega)).cell
    have e2 := (c2.kept (grownBy_putObj' W D (.deferred none)) (by simp; omega)).cell
    have e3 := (c3.kept (grownBy_putObj' W D (.deferred none)) (by simp; omega)).cell
    refine ⟨.tuple #[.slice none 0 0, .int .i64 p, .int .i64 2], by simp [results, Tryz.results10, go_sem, e1, e2, e3], ?_⟩
    rw [hF]
    exact ⟨_, rfl, World.ownsRow_nil _ _ _ _, hB.trans (belowK_b (w := w) (Nat.le_refl _) W D _ _ (by omega) hK rfl rfl)⟩

theorem lex_any (s : ByteArray) (w : World) (hL : Laid w) : Calls Tryz.prog 10 #[.string s] w (LexPost (lexR (bl s)) w) := by
  by_cases hs : 6000 < s.size
  · exact lex_large s hs w
  · exact callsIn_wide.1 (lex_in s (by omega) w hL)
end Go.Proofs.YtnaopgajinbnmaaGreatDoor
