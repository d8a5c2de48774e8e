/- Index: the reference's. -/
import Derived.Test.YtghdilmlfficlaaRIdxM
import Derived.StillTailTactics
namespace Go.Proofs.Ytghdilmlfficlaa
open Go.RowKit

set_option maxRecDepth 100000 in
set_option maxHeartbeats 8000000 in
theorem rindex_ok {w : World} {p : Pl} {c : Cap} (hm : CapM w w.heap.size p c) (h1 : errV c = 0) :
    Calls Try.prog 34 #[capV p c] w (IdxP c w) := by
  obtain ⟨pf, cf, pn, cn, ps, cs, pp, cp⟩ := p
  obtain ⟨B, hB⟩ : ∃ B, w.heap.size = B := ⟨_, rfl⟩
  obtain ⟨w0, e0, s0, g0, b0, k0⟩ := w_box hB #[.string c.note, .slice pf c.faces.length cf, .slice pn c.names.length cn, .slice ps c.secs.length cs, .slice pp c.pkts.length cp] 31
  have hm0 : CapM w0 w0.heap.size ⟨pf, cf, pn, cn, ps, cs, pp, cp⟩ c := hm.keep (by rw [hB]; exact b0) (by rw [s0]; omega)
  have HV := Lib.hid (rvald_any hm0)
  rw [h1] at HV
  have HM0 : Hid (CapM w0 (B + 1) ⟨pf, cf, pn, cn, ps, cs, pp, cp⟩ c) := Lib.hid (by rw [← s0]; exact hm0)
  have HS0 := Lib.hid s0
  have HG0 := Lib.hid g0
  have HB0 := Lib.hid b0
  have HE0 := Lib.hid e0
  have HWB := Lib.hid hB
  have lp : c.pkts.length ≤ 100 := errV_plen h1
  clear e0 s0 g0 b0 k0 hm hm0 h1
  unfold capV at HV ⊢
  go_enter Try.func34, Try.ntmps34
  go_wp2_with fail
  rw [HE0.out]
  with_reducible refine HV.out.mono ?_
  rintro e v1 ⟨rfl, hb1⟩
  have HW1 : Hid (Below (B + 1) w0 v1 ∧ B + 1 ≤ v1.heap.size ∧ Blk v1 B 31 #[.string c.note, .slice pf c.faces.length cf, .slice pn c.names.length cn, .slice ps c.secs.length cs, .slice pp c.pkts.length cp]) := Lib.hid ⟨by rw [← HS0.out]; exact hb1, by have := hb1.size; rw [HS0.out] at this; exact this, HG0.out.below hb1 HG0.out.lt⟩
  clear HE0 HV hb1 hB
  go_wp2_with fail
  go_loopw [5, 6] (fun v i wr => ∃ (A : Option Addr) (cc k : Nat) (l : List Pr), v = .slice A k cc ∧ i = .int .i64 k ∧ k ≤ c.pkts.length ∧ Hid (l.length = k ∧ wr.ownsRow (B + 1) 59 2 (.slice A k cc) k (l.flatMap encP) ∧ l.Perm (prs (tms c) k) ∧ l.Pairwise leP) ∧ Hid (Below (B + 1) w0 wr ∧ B + 1 ≤ wr.heap.size ∧ Blk wr B 31 #[.string c.note, .slice pf c.faces.length cf, .slice pn c.names.length cn, .slice ps c.secs.length cs, .slice pp c.pkts.length cp])) (fun _ i _ => c.pkts.length - (intOf i).toNat)
  case atStart => exact ⟨none, 0, 0, [], rfl, rfl, Nat.zero_le _, Lib.hid ⟨rfl, World.ownsRow_nil _ _ _ _, List.Perm.refl _, List.Pairwise.nil⟩, HW1⟩
  case round =>
    obtain ⟨A, cc, k, l, rfl, rfl, hk, HL, HW⟩ := hrel
    have l4 : wr.cell? ⟨B, 4, none⟩ = some (.slice pp c.pkts.length cp) := HW.out.2.2.cell 4
    by_cases hlt : k < c.pkts.length
    · obtain ⟨b, o, hA, hb, vs, hvl, ⟨Dx, dc, rfl, hby, _, _, _, _⟩, hcell⟩ := (HM0.out.keep HW.out.1 (Nat.le_refl _)).pkts.row k hlt
      dsimp only at hA
      subst hA
      have c0 : wr.cell? ⟨b, o + k * 5, none⟩ = _ := hcell 0 _ rfl
      have HPS := Lib.hid (prs_succ c k hlt)
      obtain ⟨x, hx⟩ : ∃ x : Pr, (c.pkts[k].time, (k : Int)) = x := ⟨_, rfl⟩
      have hx1 : c.pkts[k].time = x.1 := by rw [← hx]
      have hx2 : (k : Int) = x.2 := by rw [← hx]
      rw [hx] at HPS
      rw [hx1] at c0
      have HX2 := Lib.hid hx2
      clear hcell hvl hby hb hx hx1 hx2
      obtain ⟨v7, w7, hrun, ho7, hg7, _⟩ := run_own_struct wr (B + 1) 59 2 16 56 _ Try.underlying56 prInfo (by rfl) (by decide) _ _ _ HL.out.2.1 [.int .i64 x.1, .int .i64 (k : Int)] rfl (by
        intro u hu; simp only [List.mem_cons, List.not_mem_nil, or_false] at hu; rcases hu with rfl | rfl <;> rfl) (by unfold maxLen; omega) (by omega) HW.out.2.1
      have hb3 : Below wr.heap.size wr (wr.alloc (.cells #[.int .i64 x.1, .int .i64 (k : Int)] 59)) := (Below.refl _ _).alloc (Nat.le_refl _) _
      have hB7 : Below (B + 1) wr w7 := (hb3.mono HW.out.2.1).trans ((Below.refl _ _).grown hg7 (by rw [alloc_size]; have := HW.out.2.1; omega) (fun q hq => ((HL.out.2.1.alloc (.cells #[.int .i64 x.1, .int .i64 (k : Int)] 59)).lt _ hq).1))
      have hfl : (l ++ [x]).flatMap encP = l.flatMap encP ++ [.int .i64 x.1, .int .i64 (k : Int)] := by rw [List.flatMap_append, HX2.out]; rfl
      rw [← hfl] at ho7
      obtain ⟨g, cap, cb, rfl, hBg, hbk, hnc, hcm, hcs, hrow⟩ := own_pr ho7 (by rw [List.length_append, HL.out.1]; rfl) (Nat.succ_pos k)
      clear hfl
      have HG : Hid (B + 1 ≤ g ∧ k + 1 ≤ cap ∧ cap ≤ maxLen) := Lib.hid ⟨hBg, hnc, hcm⟩
      have HI0 : Hid (∃ (pre post : List Pr) (cb : Array Value), pre.length = k ∧ Ins l x pre post ∧ rowP cb (pre ++ x :: post) ∧ cb.size = cap * 2 ∧ Below (B + 1) w0 w7 ∧ B + 1 ≤ w7.heap.size ∧ Blk w7 B 31 #[.string c.note, .slice pf c.faces.length cf, .slice pn c.names.length cn, .slice ps c.secs.length cs, .slice (some ⟨b, o, none⟩) c.pkts.length cp] ∧ Blk w7 g 59 cb) := Lib.hid ⟨l, [], cb, HL.out.1, Ins.start l x, hrow, hcs, HW.out.1.trans hB7, by have := hB7.size; have := HW.out.2.1; omega, HW.out.2.2.below hB7 (by omega), hbk⟩
      have HLP : Hid (l.length = k ∧ l.Perm (prs (tms c) k) ∧ l.Pairwise leP) := Lib.hid ⟨HL.out.1, HL.out.2.2⟩
      have hkcap : k + 1 ≤ 101 := by omega
      clear hb3 hB7 ho7 hg7 hBg hbk hnc hcm hcs hrow HL HW
      have HEND : Hid (∀ W, (∃ (pre post : List Pr) (cb : Array Value), (∀ y pre', pre = pre' ++ [y] → leP y x) ∧ Ins l x pre post ∧ rowP cb (pre ++ x :: post) ∧ cb.size = cap * 2 ∧ Below (B + 1) w0 W ∧ B + 1 ≤ W.heap.size ∧ Blk W B 31 #[.string c.note, .slice pf c.faces.length cf, .slice pn c.names.length cn, .slice ps c.secs.length cs, .slice (some ⟨b, o, none⟩) c.pkts.length cp] ∧ Blk W g 59 cb) → (∃ l' : List Pr, l'.length = k + 1 ∧ W.ownsRow (B + 1) 59 2 (.slice (some ⟨g, 0, none⟩) (k + 1) cap) (k + 1) (l'.flatMap encP) ∧ l'.Perm (prs (tms c) (k + 1)) ∧ l'.Pairwise leP) ∧ Below (B + 1) w0 W ∧ B + 1 ≤ W.heap.size ∧ Blk W B 31 #[.string c.note, .slice pf c.faces.length cf, .slice pn c.names.length cn, .slice ps c.secs.length cs, .slice (some ⟨b, o, none⟩) c.pkts.length cp]) := Lib.hid (by
        rintro W ⟨pre, post, cb, hp, hi, hr, hs, hb1, hb2, hb3, hb4⟩
        obtain ⟨hd1, hd2⟩ := hi.done HLP.out.2.2 hp
        have hd3 : (pre ++ x :: post).Perm (prs (tms c) (k + 1)) := by
          rw [HPS.out]; exact hd2.trans (HLP.out.2.1.append_right [x])
        have hlen : (pre ++ x :: post).length = k + 1 := by rw [hd3.length_eq, prs_len]
        exact ⟨⟨pre ++ x :: post, hlen, pr_own HG.out.1 hb4 HG.out.2.1 HG.out.2.2 hs hr hlen, hd3, hd1⟩, hb1, hb2, hb3⟩)
      go_wp2_with (at_builtin; refine Lib.wpList_append_run _ rfl _ _ _ _ rfl _ _ rfl rfl _ _ hrun ?_)
      clear hrun l4 c0
      go_loopw [7] (fun u wr => ∃ j : Nat, u = .int .i64 j ∧ j ≤ k ∧ Hid (∃ (pre post : List Pr) (cb : Array Value), pre.length = j ∧ Ins l x pre post ∧ rowP cb (pre ++ x :: post) ∧ cb.size = cap * 2 ∧ Below (B + 1) w0 wr ∧ B + 1 ≤ wr.heap.size ∧ Blk wr B 31 #[.string c.note, .slice pf c.faces.length cf, .slice pn c.names.length cn, .slice ps c.secs.length cs, .slice (some ⟨b, o, none⟩) c.pkts.length cp] ∧ Blk wr g 59 cb)) (fun u _ => (intOf u).toNat)
      case atStart => exact ⟨k, rfl, Nat.le_refl _, HI0⟩
      case round =>
        obtain ⟨j, rfl, hj, HI⟩ := hrel
        clear HI0
        rcases Nat.eq_zero_or_pos j with rfl | hj0
        · have HE : Hid (∃ (pre post : List Pr) (cb : Array Value), (∀ y pre', pre = pre' ++ [y] → leP y x) ∧ Ins l x pre post ∧ rowP cb (pre ++ x :: post) ∧ cb.size = cap * 2 ∧ Below (B + 1) w0 wr ∧ B + 1 ≤ wr.heap.size ∧ Blk wr B 31 #[.string c.note, .slice pf c.faces.length cf, .slice pn c.names.length cn, .slice ps c.secs.length cs, .slice (some ⟨b, o, none⟩) c.pkts.length cp] ∧ Blk wr g 59 cb) := Lib.hid (by
            obtain ⟨pre, post, cb, h1, h2⟩ := HI.out
            refine ⟨pre, post, cb, fun y pre' e => ?_, h2⟩
            rw [e] at h1; simp at h1)
          clear HI
          go_wp2_with fail
          go_quiet (fail)
          have HE2 := Lib.hid (HEND.out (wr.drewN nq) (by obtain ⟨pre, post, cb, h1, h2, h3, h4, h5, h6⟩ := HE.out; exact ⟨pre, post, cb, h1, h2, h3, h4, below_drewN h5 _, h6⟩))
          go_wp2
          go_roundw
          case rel =>
            obtain ⟨⟨l', hl'⟩, hw'⟩ := HE2.out
            exact ⟨some ⟨g, 0, none⟩, cap, k + 1, l', rfl, by go_num, by omega, Lib.hid hl', Lib.hid hw'⟩
          case measure => simp [intOf]; omega
        · obtain ⟨m, rfl⟩ : ∃ m, j = m + 1 := ⟨j - 1, by omega⟩
          obtain ⟨pre, post, cb, hpl, hins, hrow, hcs, hbw, hbs, hbB, hbg⟩ := HI.out
          obtain ⟨pre', y, rfl⟩ : ∃ pre' y, pre = pre' ++ [y] := by
            rcases List.eq_nil_or_concat pre with e | ⟨a, b, e⟩
            · rw [e] at hpl; simp at hpl
            · exact ⟨a, b, by rw [e, List.concat_eq_append]⟩
          have hpm : pre'.length = m := by rw [List.length_append] at hpl; simpa using hpl
          obtain ⟨q2, q3⟩ := hrow m y (by rw [List.append_assoc, List.getElem?_append_right (by omega), hpm, Nat.sub_self]; rfl)
          obtain ⟨q0, q1⟩ := hrow (m + 1) x (by rw [List.append_assoc, List.getElem?_append_right (by omega), hpm, show m + 1 - m = 1 by omega]; rfl)
          have s0 : wr.cell? ⟨g, (m + 1) * 2, none⟩ = some (.int .i64 x.1) := (hbg.cell _).trans q0
          have s1 : wr.cell? ⟨g, (m + 1) * 2 + 1, none⟩ = some (.int .i64 x.2) := (hbg.cell _).trans q1
          have s2 : wr.cell? ⟨g, m * 2, none⟩ = some (.int .i64 y.1) := (hbg.cell _).trans q2
          have s3 : wr.cell? ⟨g, m * 2 + 1, none⟩ = some (.int .i64 y.2) := (hbg.cell _).trans q3
          have hgw : g < wr.heap.size := hbg.lt
          have HWI : Hid (Below (B + 1) w0 wr ∧ B + 1 ≤ wr.heap.size ∧ Blk wr B 31 #[.string c.note, .slice pf c.faces.length cf, .slice pn c.names.length cn, .slice ps c.secs.length cs, .slice (some ⟨b, o, none⟩) c.pkts.length cp] ∧ Blk wr g 59 cb) := Lib.hid ⟨hbw, hbs, hbB, hbg⟩
          have HR : Hid (pre'.length = m ∧ Ins l x (pre' ++ [y]) post ∧ rowP cb (pre' ++ y :: x :: post) ∧ cb.size = cap * 2) := Lib.hid ⟨hpm, hins, by rw [List.append_assoc] at hrow; exact hrow, hcs⟩
          have hgd : decide ((0 : Int) < (m : Int) + 1) = true := decide_eq_true (by omega)
          have hgd2 : (0 : Int) < (m : Int) + 1 := by omega
          have hwm : IntKind.i64.wrap (m : Int) = (m : Int) := by rw [IntKind.wrap_i64]; omega
          have p0 : (0 : Int) ≤ (m : Int) := by omega
          have p1 : (m : Int) < (k : Int) + 1 := by omega
          have p2 : (0 : Int) ≤ (m : Int) + 1 := by omega
          have p3 : (m : Int) + 1 < (k : Int) + 1 := by omega
          have p4 : m < k := by omega
          have HC := Lib.hid (less_any wr.drew x y)
          unfold prV at HC
          clear HI hpl hins hrow hcs hbw hbs hbB hbg hpm q0 q1 q2 q3
          cases hq : ltB x y with
          | false =>
            have HE : Hid (leP y x) := Lib.hid hq
            rw [hq] at HC
            clear hq
            go_wp2_with fail
            refine wp_region_held_drew (S := (fun w' => w'.cell? ⟨g, (m + 1) * 2, none⟩ = some (.int .i64 x.1) ∧ w'.cell? ⟨g, (m + 1) * 2 + 1, none⟩ = some (.int .i64 x.2) ∧ w'.cell? ⟨g, m * 2, none⟩ = some (.int .i64 y.1) ∧ w'.cell? ⟨g, m * 2 + 1, none⟩ = some (.int .i64 y.2))) (by kernel_rfl) ⟨s0, s1, s2, s3⟩ (fun hHeld => ?_)
            refine wpAnyH_take (i := 0) (oi := { dst := some 32, op := Go.Op.move (Go.Operand.tmp 7), type := 3, pos := "ref.go:324", after := #[], guard := none }) (v := ?_) rfl (by kernel_rfl) (by kernel_rfl) (by kernel_rfl) (fun _ _ _ h => h) (Or.inl ⟨by rfl, ?_⟩) (by assumption) ?_
            rotate_left 1
            · intro w hSw; (try dsimp only at hSw); go_simp; try with_reducible rfl
            try simp only [Act.put, List.setIfInBounds_toArray, List.set_cons_zero, List.set_cons_succ]
            refine wpAnyH_take (i := 1) (oi := { dst := some 33, op := Go.Op.binOp Go.BinOp.gtr 3 (Go.Operand.tmp 32) (Go.Operand.const (Go.Value.int Go.IntKind.i64 0)) 3, type := 4, pos := "ref.go:324", after := #[{ on := 0, ground := Go.Ground.data }], guard := none }) (v := ?_) rfl (by kernel_rfl) (by kernel_rfl) (by kernel_rfl) (fun _ _ _ h => h) (Or.inl ⟨by rfl, ?_⟩) (by assumption) ?_
            rotate_left 1
            · intro w hSw; (try dsimp only at hSw); go_simp; try with_reducible rfl
            try simp only [Act.put, List.setIfInBounds_toArray, List.set_cons_zero, List.set_cons_succ]
            refine wpAnyH_take (i := 2) (oi := { dst := some 34, op := Go.Op.move (Go.Operand.tmp 33), type := 4, pos := "ref.go:324", after := #[{ on := 1, ground := Go.Ground.data }], guard := none }) (v := ?_) rfl (by kernel_rfl) (by kernel_rfl) (by kernel_rfl) (fun _ _ _ h => h) (Or.inl ⟨by rfl, ?_⟩) (by assumption) ?_
            rotate_left 1
            · intro w hSw; (try dsimp only at hSw); go_simp; try with_reducible rfl
            try simp only [Act.put, List.setIfInBounds_toArray, List.set_cons_zero, List.set_cons_succ]
            refine wpAnyH_take (i := 3) (oi := { dst := some 35, op := Go.Op.move (Go.Operand.tmp 5), type := 56, pos := "ref.go:324", after := #[{ on := 2, ground := Go.Ground.guard }], guard := some (2, true) }) (v := ?_) rfl (by kernel_rfl) (by kernel_rfl) (by kernel_rfl) (fun _ _ _ h => h) (Or.inl ⟨by rfl, ?_⟩) (by assumption) ?_
            rotate_left 1
            · intro w hSw; (try dsimp only at hSw); go_simp; try with_reducible rfl
            try simp only [Act.put, List.setIfInBounds_toArray, List.set_cons_zero, List.set_cons_succ]
            refine wpAnyH_take (i := 4) (oi := { dst := some 36, op := Go.Op.move (Go.Operand.tmp 7), type := 3, pos := "ref.go:324", after := #[{ on := 2, ground := Go.Ground.guard }], guard := some (2, true) }) (v := ?_) rfl (by kernel_rfl) (by kernel_rfl) (by kernel_rfl) (fun _ _ _ h => h) (Or.inl ⟨by rfl, ?_⟩) (by assumption) ?_
            rotate_left 1
            · intro w hSw; (try dsimp only at hSw); go_simp; try with_reducible rfl
            try simp only [Act.put, List.setIfInBounds_toArray, List.set_cons_zero, List.set_cons_succ]
            refine wpAnyH_take (i := 5) (oi := { dst := some 37, op := Go.Op.indexAddr 56 (Go.Operand.tmp 35) (Go.Operand.tmp 36), type := 0, pos := "ref.go:324", after := #[{ on := 3, ground := Go.Ground.data }, { on := 4, ground := Go.Ground.data }, { on := 2, ground := Go.Ground.guard }], guard := some (2, true) }) (v := ?_) rfl (by kernel_rfl) (by kernel_rfl) (by kernel_rfl) (fun _ _ _ h => h) (Or.inl ⟨by rfl, ?_⟩) (by assumption) ?_
            rotate_left 1
            · intro w hSw; (try dsimp only at hSw); go_simp; try with_reducible rfl
            try simp only [Act.put, List.setIfInBounds_toArray, List.set_cons_zero, List.set_cons_succ]
            refine wpAnyH_take (i := 6) (oi := { dst := some 38, op := Go.Op.load 59 (Go.Operand.tmp 37), type := 59, pos := "ref.go:324", after := #[{ on := 5, ground := Go.Ground.data }, { on := 2, ground := Go.Ground.guard }], guard := some (2, true) }) (v := ?_) rfl (by kernel_rfl) (by kernel_rfl) (by kernel_rfl) (fun _ _ _ h => h) (Or.inl ⟨by rfl, ?_⟩) (by assumption) ?_
            rotate_left 1
            · intro w hSw; (try dsimp only at hSw); go_simp; try with_reducible rfl
            try simp only [Act.put, List.setIfInBounds_toArray, List.set_cons_zero, List.set_cons_succ]
            refine wpAnyH_take (i := 7) (oi := { dst := some 39, op := Go.Op.move (Go.Operand.tmp 5), type := 56, pos := "ref.go:324", after := #[{ on := 2, ground := Go.Ground.guard }], guard := some (2, true) }) (v := ?_) rfl (by kernel_rfl) (by kernel_rfl) (by kernel_rfl) (fun _ _ _ h => h) (Or.inl ⟨by rfl, ?_⟩) (by assumption) ?_
            rotate_left 1
            · intro w hSw; (try dsimp only at hSw); go_simp; try with_reducible rfl
            try simp only [Act.put, List.setIfInBounds_toArray, List.set_cons_zero, List.set_cons_succ]
            refine wpAnyH_take (i := 8) (oi := { dst := some 40, op := Go.Op.move (Go.Operand.tmp 7), type := 3, pos := "ref.go:324", after := #[{ on := 2, ground := Go.Ground.guard }], guard := some (2, true) }) (v := ?_) rfl (by kernel_rfl) (by kernel_rfl) (by kernel_rfl) (fun _ _ _ h => h) (Or.inl ⟨by rfl, ?_⟩) (by assumption) ?_
            rotate_left 1
            · intro w hSw; (try dsimp only at hSw); go_simp; try with_reducible rfl
            try simp only [Act.put, List.setIfInBounds_toArray, List.set_cons_zero, List.set_cons_succ]
            refine wpAnyH_take (i := 9) (oi := { dst := some 41, op := Go.Op.binOp Go.BinOp.sub 3 (Go.Operand.tmp 40) (Go.Operand.const (Go.Value.int Go.IntKind.i64 1)) 3, type := 3, pos := "ref.go:324", after := #[{ on := 8, ground := Go.Ground.data }, { on := 2, ground := Go.Ground.guard }], guard := some (2, true) }) (v := ?_) rfl (by kernel_rfl) (by kernel_rfl) (by kernel_rfl) (fun _ _ _ h => h) (Or.inl ⟨by rfl, ?_⟩) (by assumption) ?_
            rotate_left 1
            · intro w hSw; (try dsimp only at hSw); go_simp; try with_reducible rfl
            try simp only [Act.put, List.setIfInBounds_toArray, List.set_cons_zero, List.set_cons_succ]
            refine wpAnyH_take (i := 10) (oi := { dst := some 42, op := Go.Op.indexAddr 56 (Go.Operand.tmp 39) (Go.Operand.tmp 41), type := 0, pos := "ref.go:324", after := #[{ on := 7, ground := Go.Ground.data }, { on := 9, ground := Go.Ground.data }, { on := 2, ground := Go.Ground.guard }], guard := some (2, true) }) (v := ?_) rfl (by kernel_rfl) (by kernel_rfl) (by kernel_rfl) (fun _ _ _ h => h) (Or.inl ⟨by rfl, ?_⟩) (by assumption) ?_
            rotate_left 1
            · intro w hSw; (try dsimp only at hSw); go_simp; try with_reducible rfl
            try simp only [Act.put, List.setIfInBounds_toArray, List.set_cons_zero, List.set_cons_succ]
            refine wpAnyH_take (i := 11) (oi := { dst := some 43, op := Go.Op.load 59 (Go.Operand.tmp 42), type := 59, pos := "ref.go:324", after := #[{ on := 10, ground := Go.Ground.data }, { on := 2, ground := Go.Ground.guard }], guard := some (2, true) }) (v := ?_) rfl (by kernel_rfl) (by kernel_rfl) (by kernel_rfl) (fun _ _ _ h => h) (Or.inl ⟨by rfl, ?_⟩) (by assumption) ?_
            rotate_left 1
            · intro w hSw; (try dsimp only at hSw); go_simp; try with_reducible rfl
            try simp only [Act.put, List.setIfInBounds_toArray, List.set_cons_zero, List.set_cons_succ]
            refine wpAnyH_ready (rs := [12]) (by kernel_rfl) (by simp) ?_
            refine AllReadyH.cons (o := { dst := some 44, op := Go.Op.call { callee := Go.Callee.value (Go.Operand.func 80), args := #[Go.Operand.tmp 38, Go.Operand.tmp 43], argTypes := #[59, 59] }, type := 4, pos := "ref.go:324", after := #[{ on := 6, ground := Go.Ground.data }, { on := 11, ground := Go.Ground.data }, { on := 2, ground := Go.Ground.chain }, { on := 2, ground := Go.Ground.guard }], guard := some (2, true) }) rfl (fun K hK => ?_) (AllReadyH.nil)
            go_simp
            go_at_call 80
            with_reducible refine HC.out.mono ?_
            rintro e w5 ⟨rfl, hb5⟩
            have hb5' : Below wr.heap.size wr w5 := below_undrew hb5
            have t0 : w5.cell? ⟨g, (m + 1) * 2, none⟩ = some (.int .i64 x.1) := (hb5'.cell (p := ⟨g, (m + 1) * 2, none⟩) hgw).trans s0
            have t1 : w5.cell? ⟨g, (m + 1) * 2 + 1, none⟩ = some (.int .i64 x.2) := (hb5'.cell (p := ⟨g, (m + 1) * 2 + 1, none⟩) hgw).trans s1
            have t2 : w5.cell? ⟨g, m * 2, none⟩ = some (.int .i64 y.1) := (hb5'.cell (p := ⟨g, m * 2, none⟩) hgw).trans s2
            have t3 : w5.cell? ⟨g, m * 2 + 1, none⟩ = some (.int .i64 y.2) := (hb5'.cell (p := ⟨g, m * 2 + 1, none⟩) hgw).trans s3
            have HW5 : Hid (Below (B + 1) w0 w5 ∧ B + 1 ≤ w5.heap.size ∧ Blk w5 B 31 #[.string c.note, .slice pf c.faces.length cf, .slice pn c.names.length cn, .slice ps c.secs.length cs, .slice (some ⟨b, o, none⟩) c.pkts.length cp] ∧ Blk w5 g 59 cb) := Lib.hid ⟨HWI.out.1.trans (hb5'.mono HWI.out.2.1), by have := hb5'.size; have := HWI.out.2.1; omega, HWI.out.2.2.1.below hb5' HWI.out.2.2.1.lt, HWI.out.2.2.2.below hb5' hgw⟩
            clear hb5 hb5'
            dsimp only
            refine hK.out _ _ ⟨t0, t1, t2, t3⟩ (fun hHeld => ?_)
            clear hK K
            try simp only [Act.put, List.setIfInBounds_toArray, List.set_cons_zero, List.set_cons_succ]
            refine wpAnyH_take (i := 13) (oi := { dst := some 45, op := Go.Op.pick (Go.Operand.tmp 34) (Go.Operand.tmp 44) (Go.Operand.const (Go.Value.bool false)), type := 4, pos := "ref.go:324", after := #[{ on := 2, ground := Go.Ground.data }, { on := 12, ground := Go.Ground.data }], guard := none }) (v := ?_) rfl (by kernel_rfl) (by kernel_rfl) (by kernel_rfl) (fun _ _ _ h => h) (Or.inl ⟨by rfl, ?_⟩) (by assumption) ?_
            rotate_left 1
            · intro w hSw; (try dsimp only at hSw); go_simp; try with_reducible rfl
            try simp only [Act.put, List.setIfInBounds_toArray, List.set_cons_zero, List.set_cons_succ]
            refine wpAnyH_done (by kernel_rfl) ?_ _
            have HE2 := Lib.hid (HEND.out w5 ⟨pre' ++ [y], post, cb, fun y' pre'' e => by
              have := List.append_inj' e rfl
              have e3 : y = y' := by simpa using this.2
              rw [← e3]; exact HE.out, HR.out.2.1, by have := HR.out.2.2.1; rw [List.append_assoc]; exact this, HR.out.2.2.2, HW5.out⟩)
            go_wp2
            go_roundw
            case rel =>
              obtain ⟨⟨l', hl'⟩, hw'⟩ := HE2.out
              exact ⟨some ⟨g, 0, none⟩, cap, k + 1, l', rfl, by go_num, by omega, Lib.hid hl', Lib.hid hw'⟩
            case measure => simp [intOf]; omega
          | true =>
            rw [hq] at HC
            have HQ := Lib.hid hq
            clear hq
            go_wp2_with fail
            refine wp_region_held_drew (S := (fun w' => w'.cell? ⟨g, (m + 1) * 2, none⟩ = some (.int .i64 x.1) ∧ w'.cell? ⟨g, (m + 1) * 2 + 1, none⟩ = some (.int .i64 x.2) ∧ w'.cell? ⟨g, m * 2, none⟩ = some (.int .i64 y.1) ∧ w'.cell? ⟨g, m * 2 + 1, none⟩ = some (.int .i64 y.2))) (by kernel_rfl) ⟨s0, s1, s2, s3⟩ (fun hHeld => ?_)
            refine wpAnyH_take (i := 0) (oi := { dst := some 32, op := Go.Op.move (Go.Operand.tmp 7), type := 3, pos := "ref.go:324", after := #[], guard := none }) (v := ?_) rfl (by kernel_rfl) (by kernel_rfl) (by kernel_rfl) (fun _ _ _ h => h) (Or.inl ⟨by rfl, ?_⟩) (by assumption) ?_
            rotate_left 1
            · intro w hSw; (try dsimp only at hSw); go_simp; try with_reducible rfl
            try simp only [Act.put, List.setIfInBounds_toArray, List.set_cons_zero, List.set_cons_succ]
            refine wpAnyH_take (i := 1) (oi := { dst := some 33, op := Go.Op.binOp Go.BinOp.gtr 3 (Go.Operand.tmp 32) (Go.Operand.const (Go.Value.int Go.IntKind.i64 0)) 3, type := 4, pos := "ref.go:324", after := #[{ on := 0, ground := Go.Ground.data }], guard := none }) (v := ?_) rfl (by kernel_rfl) (by kernel_rfl) (by kernel_rfl) (fun _ _ _ h => h) (Or.inl ⟨by rfl, ?_⟩) (by assumption) ?_
            rotate_left 1
            · intro w hSw; (try dsimp only at hSw); go_simp; try with_reducible rfl
            try simp only [Act.put, List.setIfInBounds_toArray, List.set_cons_zero, List.set_cons_succ]
            refine wpAnyH_take (i := 2) (oi := { dst := some 34, op := Go.Op.move (Go.Operand.tmp 33), type := 4, pos := "ref.go:324", after := #[{ on := 1, ground := Go.Ground.data }], guard := none }) (v := ?_) rfl (by kernel_rfl) (by kernel_rfl) (by kernel_rfl) (fun _ _ _ h => h) (Or.inl ⟨by rfl, ?_⟩) (by assumption) ?_
            rotate_left 1
            · intro w hSw; (try dsimp only at hSw); go_simp; try with_reducible rfl
            try simp only [Act.put, List.setIfInBounds_toArray, List.set_cons_zero, List.set_cons_succ]
            refine wpAnyH_take (i := 3) (oi := { dst := some 35, op := Go.Op.move (Go.Operand.tmp 5), type := 56, pos := "ref.go:324", after := #[{ on := 2, ground := Go.Ground.guard }], guard := some (2, true) }) (v := ?_) rfl (by kernel_rfl) (by kernel_rfl) (by kernel_rfl) (fun _ _ _ h => h) (Or.inl ⟨by rfl, ?_⟩) (by assumption) ?_
            rotate_left 1
            · intro w hSw; (try dsimp only at hSw); go_simp; try with_reducible rfl
            try simp only [Act.put, List.setIfInBounds_toArray, List.set_cons_zero, List.set_cons_succ]
            refine wpAnyH_take (i := 4) (oi := { dst := some 36, op := Go.Op.move (Go.Operand.tmp 7), type := 3, pos := "ref.go:324", after := #[{ on := 2, ground := Go.Ground.guard }], guard := some (2, true) }) (v := ?_) rfl (by kernel_rfl) (by kernel_rfl) (by kernel_rfl) (fun _ _ _ h => h) (Or.inl ⟨by rfl, ?_⟩) (by assumption) ?_
            rotate_left 1
            · intro w hSw; (try dsimp only at hSw); go_simp; try with_reducible rfl
            try simp only [Act.put, List.setIfInBounds_toArray, List.set_cons_zero, List.set_cons_succ]
            refine wpAnyH_take (i := 5) (oi := { dst := some 37, op := Go.Op.indexAddr 56 (Go.Operand.tmp 35) (Go.Operand.tmp 36), type := 0, pos := "ref.go:324", after := #[{ on := 3, ground := Go.Ground.data }, { on := 4, ground := Go.Ground.data }, { on := 2, ground := Go.Ground.guard }], guard := some (2, true) }) (v := ?_) rfl (by kernel_rfl) (by kernel_rfl) (by kernel_rfl) (fun _ _ _ h => h) (Or.inl ⟨by rfl, ?_⟩) (by assumption) ?_
            rotate_left 1
            · intro w hSw; (try dsimp only at hSw); go_simp; try with_reducible rfl
            try simp only [Act.put, List.setIfInBounds_toArray, List.set_cons_zero, List.set_cons_succ]
            refine wpAnyH_take (i := 6) (oi := { dst := some 38, op := Go.Op.load 59 (Go.Operand.tmp 37), type := 59, pos := "ref.go:324", after := #[{ on := 5, ground := Go.Ground.data }, { on := 2, ground := Go.Ground.guard }], guard := some (2, true) }) (v := ?_) rfl (by kernel_rfl) (by kernel_rfl) (by kernel_rfl) (fun _ _ _ h => h) (Or.inl ⟨by rfl, ?_⟩) (by assumption) ?_
            rotate_left 1
            · intro w hSw; (try dsimp only at hSw); go_simp; try with_reducible rfl
            try simp only [Act.put, List.setIfInBounds_toArray, List.set_cons_zero, List.set_cons_succ]
            refine wpAnyH_take (i := 7) (oi := { dst := some 39, op := Go.Op.move (Go.Operand.tmp 5), type := 56, pos := "ref.go:324", after := #[{ on := 2, ground := Go.Ground.guard }], guard := some (2, true) }) (v := ?_) rfl (by kernel_rfl) (by kernel_rfl) (by kernel_rfl) (fun _ _ _ h => h) (Or.inl ⟨by rfl, ?_⟩) (by assumption) ?_
            rotate_left 1
            · intro w hSw; (try dsimp only at hSw); go_simp; try with_reducible rfl
            try simp only [Act.put, List.setIfInBounds_toArray, List.set_cons_zero, List.set_cons_succ]
            refine wpAnyH_take (i := 8) (oi := { dst := some 40, op := Go.Op.move (Go.Operand.tmp 7), type := 3, pos := "ref.go:324", after := #[{ on := 2, ground := Go.Ground.guard }], guard := some (2, true) }) (v := ?_) rfl (by kernel_rfl) (by kernel_rfl) (by kernel_rfl) (fun _ _ _ h => h) (Or.inl ⟨by rfl, ?_⟩) (by assumption) ?_
            rotate_left 1
            · intro w hSw; (try dsimp only at hSw); go_simp; try with_reducible rfl
            try simp only [Act.put, List.setIfInBounds_toArray, List.set_cons_zero, List.set_cons_succ]
            refine wpAnyH_take (i := 9) (oi := { dst := some 41, op := Go.Op.binOp Go.BinOp.sub 3 (Go.Operand.tmp 40) (Go.Operand.const (Go.Value.int Go.IntKind.i64 1)) 3, type := 3, pos := "ref.go:324", after := #[{ on := 8, ground := Go.Ground.data }, { on := 2, ground := Go.Ground.guard }], guard := some (2, true) }) (v := ?_) rfl (by kernel_rfl) (by kernel_rfl) (by kernel_rfl) (fun _ _ _ h => h) (Or.inl ⟨by rfl, ?_⟩) (by assumption) ?_
            rotate_left 1
            · intro w hSw; (try dsimp only at hSw); go_simp; try with_reducible rfl
            try simp only [Act.put, List.setIfInBounds_toArray, List.set_cons_zero, List.set_cons_succ]
            refine wpAnyH_take (i := 10) (oi := { dst := some 42, op := Go.Op.indexAddr 56 (Go.Operand.tmp 39) (Go.Operand.tmp 41), type := 0, pos := "ref.go:324", after := #[{ on := 7, ground := Go.Ground.data }, { on := 9, ground := Go.Ground.data }, { on := 2, ground := Go.Ground.guard }], guard := some (2, true) }) (v := ?_) rfl (by kernel_rfl) (by kernel_rfl) (by kernel_rfl) (fun _ _ _ h => h) (Or.inl ⟨by rfl, ?_⟩) (by assumption) ?_
            rotate_left 1
            · intro w hSw; (try dsimp only at hSw); go_simp; try with_reducible rfl
            try simp only [Act.put, List.setIfInBounds_toArray, List.set_cons_zero, List.set_cons_succ]
            refine wpAnyH_take (i := 11) (oi := { dst := some 43, op := Go.Op.load 59 (Go.Operand.tmp 42), type := 59, pos := "ref.go:324", after := #[{ on := 10, ground := Go.Ground.data }, { on := 2, ground := Go.Ground.guard }], guard := some (2, true) }) (v := ?_) rfl (by kernel_rfl) (by kernel_rfl) (by kernel_rfl) (fun _ _ _ h => h) (Or.inl ⟨by rfl, ?_⟩) (by assumption) ?_
            rotate_left 1
            · intro w hSw; (try dsimp only at hSw); go_simp; try with_reducible rfl
            try simp only [Act.put, List.setIfInBounds_toArray, List.set_cons_zero, List.set_cons_succ]
            refine wpAnyH_ready (rs := [12]) (by kernel_rfl) (by simp) ?_
            refine AllReadyH.cons (o := { dst := some 44, op := Go.Op.call { callee := Go.Callee.value (Go.Operand.func 80), args := #[Go.Operand.tmp 38, Go.Operand.tmp 43], argTypes := #[59, 59] }, type := 4, pos := "ref.go:324", after := #[{ on := 6, ground := Go.Ground.data }, { on := 11, ground := Go.Ground.data }, { on := 2, ground := Go.Ground.chain }, { on := 2, ground := Go.Ground.guard }], guard := some (2, true) }) rfl (fun K hK => ?_) (AllReadyH.nil)
            go_simp
            go_at_call 80
            with_reducible refine HC.out.mono ?_
            rintro e w5 ⟨rfl, hb5⟩
            have hb5' : Below wr.heap.size wr w5 := below_undrew hb5
            have t0 : w5.cell? ⟨g, (m + 1) * 2, none⟩ = some (.int .i64 x.1) := (hb5'.cell (p := ⟨g, (m + 1) * 2, none⟩) hgw).trans s0
            have t1 : w5.cell? ⟨g, (m + 1) * 2 + 1, none⟩ = some (.int .i64 x.2) := (hb5'.cell (p := ⟨g, (m + 1) * 2 + 1, none⟩) hgw).trans s1
            have t2 : w5.cell? ⟨g, m * 2, none⟩ = some (.int .i64 y.1) := (hb5'.cell (p := ⟨g, m * 2, none⟩) hgw).trans s2
            have t3 : w5.cell? ⟨g, m * 2 + 1, none⟩ = some (.int .i64 y.2) := (hb5'.cell (p := ⟨g, m * 2 + 1, none⟩) hgw).trans s3
            have HW5 : Hid (Below (B + 1) w0 w5 ∧ B + 1 ≤ w5.heap.size ∧ Blk w5 B 31 #[.string c.note, .slice pf c.faces.length cf, .slice pn c.names.length cn, .slice ps c.secs.length cs, .slice (some ⟨b, o, none⟩) c.pkts.length cp] ∧ Blk w5 g 59 cb) := Lib.hid ⟨HWI.out.1.trans (hb5'.mono HWI.out.2.1), by have := hb5'.size; have := HWI.out.2.1; omega, HWI.out.2.2.1.below hb5' HWI.out.2.2.1.lt, HWI.out.2.2.2.below hb5' hgw⟩
            clear hb5 hb5'
            dsimp only
            refine hK.out _ _ ⟨t0, t1, t2, t3⟩ (fun hHeld => ?_)
            clear hK K
            try simp only [Act.put, List.setIfInBounds_toArray, List.set_cons_zero, List.set_cons_succ]
            refine wpAnyH_take (i := 13) (oi := { dst := some 45, op := Go.Op.pick (Go.Operand.tmp 34) (Go.Operand.tmp 44) (Go.Operand.const (Go.Value.bool false)), type := 4, pos := "ref.go:324", after := #[{ on := 2, ground := Go.Ground.data }, { on := 12, ground := Go.Ground.data }], guard := none }) (v := ?_) rfl (by kernel_rfl) (by kernel_rfl) (by kernel_rfl) (fun _ _ _ h => h) (Or.inl ⟨by rfl, ?_⟩) (by assumption) ?_
            rotate_left 1
            · intro w hSw; (try dsimp only at hSw); go_simp; try with_reducible rfl
            try simp only [Act.put, List.setIfInBounds_toArray, List.set_cons_zero, List.set_cons_succ]
            refine wpAnyH_done (by kernel_rfl) ?_ _
            have f0 : w5.frozen? ⟨g, (m + 1) * 2, none⟩ = false := HW5.out.2.2.2.frozen _
            have f1 : w5.frozen? ⟨g, (m + 1) * 2 + 1, none⟩ = false := HW5.out.2.2.2.frozen _
            have f2 : w5.frozen? ⟨g, m * 2, none⟩ = false := HW5.out.2.2.2.frozen _
            have f3 : w5.frozen? ⟨g, m * 2 + 1, none⟩ = false := HW5.out.2.2.2.frozen _
            have HSW : Hid (∃ (pre post : List Pr) (cb : Array Value), pre.length = m ∧ Ins l x pre post ∧ rowP cb (pre ++ x :: post) ∧ cb.size = cap * 2 ∧ Below (B + 1) w0 ((((w5.setCell ⟨g, (m + 1) * 2, none⟩ (.int .i64 y.1)).setCell ⟨g, (m + 1) * 2 + 1, none⟩ (.int .i64 y.2)).setCell ⟨g, m * 2, none⟩ (.int .i64 x.1)).setCell ⟨g, m * 2 + 1, none⟩ (.int .i64 x.2)).drew ∧ B + 1 ≤ ((((w5.setCell ⟨g, (m + 1) * 2, none⟩ (.int .i64 y.1)).setCell ⟨g, (m + 1) * 2 + 1, none⟩ (.int .i64 y.2)).setCell ⟨g, m * 2, none⟩ (.int .i64 x.1)).setCell ⟨g, m * 2 + 1, none⟩ (.int .i64 x.2)).drew.heap.size ∧ Blk ((((w5.setCell ⟨g, (m + 1) * 2, none⟩ (.int .i64 y.1)).setCell ⟨g, (m + 1) * 2 + 1, none⟩ (.int .i64 y.2)).setCell ⟨g, m * 2, none⟩ (.int .i64 x.1)).setCell ⟨g, m * 2 + 1, none⟩ (.int .i64 x.2)).drew B 31 #[.string c.note, .slice pf c.faces.length cf, .slice pn c.names.length cn, .slice ps c.secs.length cs, .slice (some ⟨b, o, none⟩) c.pkts.length cp] ∧ Blk ((((w5.setCell ⟨g, (m + 1) * 2, none⟩ (.int .i64 y.1)).setCell ⟨g, (m + 1) * 2 + 1, none⟩ (.int .i64 y.2)).setCell ⟨g, m * 2, none⟩ (.int .i64 x.1)).setCell ⟨g, m * 2 + 1, none⟩ (.int .i64 x.2)).drew g 59 cb) := Lib.hid (by
              obtain ⟨h1, h2, h3, h4⟩ := HR.out
              obtain ⟨h5, h6, h7, h8⟩ := HW5.out
              have hgB : B ≠ g := by have := HG.out.1; omega
              refine ⟨pre', y :: post, _, h1, h2.step HQ.out, row_swap h3 h1 (by rw [h4]; have := HG.out.2.1; omega), by simp [h4], ?_, ?_, ?_, ((((h8.set_ _ _).set_ _ _).set_ _ _).set_ _ _)⟩
              · exact below_drewN ((((h5.setCell (p := ⟨g, (m + 1) * 2, none⟩) HG.out.1 _).setCell (p := ⟨g, (m + 1) * 2 + 1, none⟩) HG.out.1 _).setCell (p := ⟨g, m * 2, none⟩) HG.out.1 _).setCell (p := ⟨g, m * 2 + 1, none⟩) HG.out.1 _) 1
              · simp only [World.drew, World.setCell, Array.size_modify]; exact h6
              · exact ((((h7.far (p := ⟨g, (m + 1) * 2, none⟩) hgB _).far (p := ⟨g, (m + 1) * 2 + 1, none⟩) hgB _).far (p := ⟨g, m * 2, none⟩) hgB _).far (p := ⟨g, m * 2 + 1, none⟩) hgB _))
            go_wp2_with fail
            refine wp_region_held_drew (S := (fun _ => True)) (by kernel_rfl) trivial (fun hHeld => ?_)
            refine wpAnyH_take (i := 0) (oi := { dst := some 48, op := Go.Op.move (Go.Operand.tmp 5), type := 56, pos := "ref.go:325", after := #[], guard := none }) (v := ?_) rfl (by kernel_rfl) (by kernel_rfl) (by kernel_rfl) (fun _ _ _ h => h) (Or.inl ⟨by rfl, ?_⟩) (by assumption) ?_
            rotate_left 1
            · intro w hSw; (try dsimp only at hSw); go_simp; try with_reducible rfl
            try simp only [Act.put, List.setIfInBounds_toArray, List.set_cons_zero, List.set_cons_succ]
            refine wpAnyH_take (i := 1) (oi := { dst := some 49, op := Go.Op.move (Go.Operand.tmp 7), type := 3, pos := "ref.go:325", after := #[], guard := none }) (v := ?_) rfl (by kernel_rfl) (by kernel_rfl) (by kernel_rfl) (fun _ _ _ h => h) (Or.inl ⟨by rfl, ?_⟩) (by assumption) ?_
            rotate_left 1
            · intro w hSw; (try dsimp only at hSw); go_simp; try with_reducible rfl
            try simp only [Act.put, List.setIfInBounds_toArray, List.set_cons_zero, List.set_cons_succ]
            refine wpAnyH_take (i := 2) (oi := { dst := some 50, op := Go.Op.move (Go.Operand.tmp 5), type := 56, pos := "ref.go:325", after := #[{ on := 15, ground := Go.Ground.gcOnly Go.Departure.lateStores }], guard := none }) (v := ?_) rfl (by kernel_rfl) (by kernel_rfl) (by kernel_rfl) (fun _ _ _ h => h) (Or.inl ⟨by rfl, ?_⟩) (by assumption) ?_
            rotate_left 1
            · intro w hSw; (try dsimp only at hSw); go_simp; try with_reducible rfl
            try simp only [Act.put, List.setIfInBounds_toArray, List.set_cons_zero, List.set_cons_succ]
            refine wpAnyH_take (i := 3) (oi := { dst := some 51, op := Go.Op.move (Go.Operand.tmp 7), type := 3, pos := "ref.go:325", after := #[{ on := 15, ground := Go.Ground.gcOnly Go.Departure.lateStores }], guard := none }) (v := ?_) rfl (by kernel_rfl) (by kernel_rfl) (by kernel_rfl) (fun _ _ _ h => h) (Or.inl ⟨by rfl, ?_⟩) (by assumption) ?_
            rotate_left 1
            · intro w hSw; (try dsimp only at hSw); go_simp; try with_reducible rfl
            try simp only [Act.put, List.setIfInBounds_toArray, List.set_cons_zero, List.set_cons_succ]
            refine wpAnyH_take (i := 4) (oi := { dst := some 52, op := Go.Op.binOp Go.BinOp.sub 3 (Go.Operand.tmp 51) (Go.Operand.const (Go.Value.int Go.IntKind.i64 1)) 3, type := 3, pos := "ref.go:325", after := #[{ on := 3, ground := Go.Ground.data }, { on := 15, ground := Go.Ground.gcOnly Go.Departure.lateStores }], guard := none }) (v := ?_) rfl (by kernel_rfl) (by kernel_rfl) (by kernel_rfl) (fun _ _ _ h => h) (Or.inl ⟨by rfl, ?_⟩) (by assumption) ?_
            rotate_left 1
            · intro w hSw; (try dsimp only at hSw); go_simp; try with_reducible rfl
            try simp only [Act.put, List.setIfInBounds_toArray, List.set_cons_zero, List.set_cons_succ]
            refine wpAnyH_take (i := 5) (oi := { dst := some 53, op := Go.Op.move (Go.Operand.tmp 5), type := 56, pos := "ref.go:325", after := #[], guard := none }) (v := ?_) rfl (by kernel_rfl) (by kernel_rfl) (by kernel_rfl) (fun _ _ _ h => h) (Or.inl ⟨by rfl, ?_⟩) (by assumption) ?_
            rotate_left 1
            · intro w hSw; (try dsimp only at hSw); go_simp; try with_reducible rfl
            try simp only [Act.put, List.setIfInBounds_toArray, List.set_cons_zero, List.set_cons_succ]
            refine wpAnyH_take (i := 6) (oi := { dst := some 54, op := Go.Op.move (Go.Operand.tmp 7), type := 3, pos := "ref.go:325", after := #[], guard := none }) (v := ?_) rfl (by kernel_rfl) (by kernel_rfl) (by kernel_rfl) (fun _ _ _ h => h) (Or.inl ⟨by rfl, ?_⟩) (by assumption) ?_
            rotate_left 1
            · intro w hSw; (try dsimp only at hSw); go_simp; try with_reducible rfl
            try simp only [Act.put, List.setIfInBounds_toArray, List.set_cons_zero, List.set_cons_succ]
            refine wpAnyH_take (i := 7) (oi := { dst := some 55, op := Go.Op.binOp Go.BinOp.sub 3 (Go.Operand.tmp 54) (Go.Operand.const (Go.Value.int Go.IntKind.i64 1)) 3, type := 3, pos := "ref.go:325", after := #[{ on := 6, ground := Go.Ground.data }], guard := none }) (v := ?_) rfl (by kernel_rfl) (by kernel_rfl) (by kernel_rfl) (fun _ _ _ h => h) (Or.inl ⟨by rfl, ?_⟩) (by assumption) ?_
            rotate_left 1
            · intro w hSw; (try dsimp only at hSw); go_simp; try with_reducible rfl
            try simp only [Act.put, List.setIfInBounds_toArray, List.set_cons_zero, List.set_cons_succ]
            refine wpAnyH_take (i := 8) (oi := { dst := some 56, op := Go.Op.indexAddr 56 (Go.Operand.tmp 53) (Go.Operand.tmp 55), type := 0, pos := "ref.go:325", after := #[{ on := 5, ground := Go.Ground.data }, { on := 7, ground := Go.Ground.data }], guard := none }) (v := ?_) rfl (by kernel_rfl) (by kernel_rfl) (by kernel_rfl) (fun _ _ _ h => h) (Or.inl ⟨by rfl, ?_⟩) (by assumption) ?_
            rotate_left 1
            · intro w hSw; (try dsimp only at hSw); go_simp; try with_reducible rfl
            try simp only [Act.put, List.setIfInBounds_toArray, List.set_cons_zero, List.set_cons_succ]
            refine wpAnyH_take (i := 10) (oi := { dst := some 58, op := Go.Op.move (Go.Operand.tmp 5), type := 56, pos := "ref.go:325", after := #[], guard := none }) (v := ?_) rfl (by kernel_rfl) (by kernel_rfl) (by kernel_rfl) (fun _ _ _ h => h) (Or.inl ⟨by rfl, ?_⟩) (by assumption) ?_
            rotate_left 1
            · intro w hSw; (try dsimp only at hSw); go_simp; try with_reducible rfl
            try simp only [Act.put, List.setIfInBounds_toArray, List.set_cons_zero, List.set_cons_succ]
            refine wpAnyH_take (i := 11) (oi := { dst := some 59, op := Go.Op.move (Go.Operand.tmp 7), type := 3, pos := "ref.go:325", after := #[], guard := none }) (v := ?_) rfl (by kernel_rfl) (by kernel_rfl) (by kernel_rfl) (fun _ _ _ h => h) (Or.inl ⟨by rfl, ?_⟩) (by assumption) ?_
            rotate_left 1
            · intro w hSw; (try dsimp only at hSw); go_simp; try with_reducible rfl
            try simp only [Act.put, List.setIfInBounds_toArray, List.set_cons_zero, List.set_cons_succ]
            refine wpAnyH_take (i := 12) (oi := { dst := some 60, op := Go.Op.indexAddr 56 (Go.Operand.tmp 58) (Go.Operand.tmp 59), type := 0, pos := "ref.go:325", after := #[{ on := 10, ground := Go.Ground.data }, { on := 11, ground := Go.Ground.data }], guard := none }) (v := ?_) rfl (by kernel_rfl) (by kernel_rfl) (by kernel_rfl) (fun _ _ _ h => h) (Or.inl ⟨by rfl, ?_⟩) (by assumption) ?_
            rotate_left 1
            · intro w hSw; (try dsimp only at hSw); go_simp; try with_reducible rfl
            try simp only [Act.put, List.setIfInBounds_toArray, List.set_cons_zero, List.set_cons_succ]
            refine wpAnyH_ready (rs := [9, 13]) (by kernel_rfl) (by simp) ?_
            refine AllReadyH.cons (o := { dst := some 57, op := Go.Op.load 59 (Go.Operand.tmp 56), type := 59, pos := "ref.go:325", after := #[{ on := 8, ground := Go.Ground.data }], guard := none }) rfl (fun K hK => ?_) (AllReadyH.cons (o := { dst := some 61, op := Go.Op.load 59 (Go.Operand.tmp 60), type := 59, pos := "ref.go:325", after := #[{ on := 12, ground := Go.Ground.data }], guard := none }) rfl (fun K hK => ?_) (AllReadyH.nil))
            go_simp
            refine hK.out _ _ trivial (fun hHeld => ?_)
            clear hK K
            try simp only [Act.put, List.setIfInBounds_toArray, List.set_cons_zero, List.set_cons_succ]
            refine wpAnyH_ready (rs := [13]) (by kernel_rfl) (by simp) ?_
            refine AllReadyH.cons (o := { dst := some 61, op := Go.Op.load 59 (Go.Operand.tmp 60), type := 59, pos := "ref.go:325", after := #[{ on := 12, ground := Go.Ground.data }], guard := none }) rfl (fun K hK => ?_) (AllReadyH.nil)
            go_simp
            refine hK.out _ _ trivial (fun hHeld => ?_)
            clear hK K
            try simp only [Act.put, List.setIfInBounds_toArray, List.set_cons_zero, List.set_cons_succ]
            refine wpAnyH_take (i := 14) (oi := { dst := some 62, op := Go.Op.indexAddr 56 (Go.Operand.tmp 48) (Go.Operand.tmp 49), type := 0, pos := "ref.go:325", after := #[{ on := 0, ground := Go.Ground.data }, { on := 1, ground := Go.Ground.data }, { on := 0, ground := Go.Ground.phase }, { on := 1, ground := Go.Ground.phase }, { on := 2, ground := Go.Ground.textOnly Go.Departure.lateStores }, { on := 3, ground := Go.Ground.textOnly Go.Departure.lateStores }, { on := 4, ground := Go.Ground.textOnly Go.Departure.lateStores }, { on := 5, ground := Go.Ground.phase }, { on := 6, ground := Go.Ground.phase }, { on := 7, ground := Go.Ground.phase }, { on := 8, ground := Go.Ground.phase }, { on := 9, ground := Go.Ground.phase }, { on := 10, ground := Go.Ground.textOnly Go.Departure.lateStores }, { on := 11, ground := Go.Ground.textOnly Go.Departure.lateStores }, { on := 12, ground := Go.Ground.textOnly Go.Departure.lateStoresUnsure }, { on := 13, ground := Go.Ground.phase }], guard := none }) (v := ?_) rfl (by kernel_rfl) (by kernel_rfl) (by kernel_rfl) (fun _ _ _ h => h) (Or.inl ⟨by rfl, ?_⟩) (by assumption) ?_
            rotate_left 1
            · intro w hSw; (try dsimp only at hSw); go_simp; try with_reducible rfl
            try simp only [Act.put, List.setIfInBounds_toArray, List.set_cons_zero, List.set_cons_succ]
            refine wpAnyH_ready (rs := [15]) (by kernel_rfl) (by simp) ?_
            refine AllReadyH.cons (o := { dst := none, op := Go.Op.store 59 (Go.Operand.tmp 62) (Go.Operand.tmp 57), type := 0, pos := "ref.go:325", after := #[{ on := 14, ground := Go.Ground.data }, { on := 9, ground := Go.Ground.data }, { on := 0, ground := Go.Ground.phase }, { on := 1, ground := Go.Ground.phase }, { on := 2, ground := Go.Ground.textOnly Go.Departure.lateStores }, { on := 3, ground := Go.Ground.textOnly Go.Departure.lateStores }, { on := 4, ground := Go.Ground.textOnly Go.Departure.lateStores }, { on := 5, ground := Go.Ground.phase }, { on := 6, ground := Go.Ground.phase }, { on := 7, ground := Go.Ground.phase }, { on := 8, ground := Go.Ground.phase }, { on := 9, ground := Go.Ground.phase }, { on := 10, ground := Go.Ground.textOnly Go.Departure.lateStores }, { on := 11, ground := Go.Ground.textOnly Go.Departure.lateStores }, { on := 12, ground := Go.Ground.textOnly Go.Departure.lateStoresUnsure }, { on := 13, ground := Go.Ground.phase }], guard := none }) rfl (fun K hK => ?_) (AllReadyH.nil)
            go_simp
            refine hK.out _ _ trivial (fun hHeld => ?_)
            clear hK K
            try simp only [Act.put, List.setIfInBounds_toArray, List.set_cons_zero, List.set_cons_succ]
            refine wpAnyH_take (i := 16) (oi := { dst := some 63, op := Go.Op.indexAddr 56 (Go.Operand.tmp 50) (Go.Operand.tmp 52), type := 0, pos := "ref.go:325", after := #[{ on := 2, ground := Go.Ground.data }, { on := 4, ground := Go.Ground.data }, { on := 0, ground := Go.Ground.phase }, { on := 1, ground := Go.Ground.phase }, { on := 2, ground := Go.Ground.phase }, { on := 3, ground := Go.Ground.phase }, { on := 4, ground := Go.Ground.phase }, { on := 5, ground := Go.Ground.phase }, { on := 6, ground := Go.Ground.phase }, { on := 7, ground := Go.Ground.phase }, { on := 8, ground := Go.Ground.phase }, { on := 9, ground := Go.Ground.phase }, { on := 10, ground := Go.Ground.phase }, { on := 11, ground := Go.Ground.phase }, { on := 12, ground := Go.Ground.phase }, { on := 13, ground := Go.Ground.phase }, { on := 14, ground := Go.Ground.phase }, { on := 15, ground := Go.Ground.phase }], guard := none }) (v := ?_) rfl (by kernel_rfl) (by kernel_rfl) (by kernel_rfl) (fun _ _ _ h => h) (Or.inl ⟨by rfl, ?_⟩) (by assumption) ?_
            rotate_left 1
            · intro w hSw; (try dsimp only at hSw); go_simp; try with_reducible rfl
            try simp only [Act.put, List.setIfInBounds_toArray, List.set_cons_zero, List.set_cons_succ]
            refine wpAnyH_ready (rs := [17]) (by kernel_rfl) (by simp) ?_
            refine AllReadyH.cons (o := { dst := none, op := Go.Op.store 59 (Go.Operand.tmp 63) (Go.Operand.tmp 61), type := 0, pos := "ref.go:325", after := #[{ on := 16, ground := Go.Ground.data }, { on := 13, ground := Go.Ground.data }, { on := 15, ground := Go.Ground.chain }, { on := 0, ground := Go.Ground.phase }, { on := 1, ground := Go.Ground.phase }, { on := 2, ground := Go.Ground.phase }, { on := 3, ground := Go.Ground.phase }, { on := 4, ground := Go.Ground.phase }, { on := 5, ground := Go.Ground.phase }, { on := 6, ground := Go.Ground.phase }, { on := 7, ground := Go.Ground.phase }, { on := 8, ground := Go.Ground.phase }, { on := 9, ground := Go.Ground.phase }, { on := 10, ground := Go.Ground.phase }, { on := 11, ground := Go.Ground.phase }, { on := 12, ground := Go.Ground.phase }, { on := 13, ground := Go.Ground.phase }, { on := 14, ground := Go.Ground.phase }, { on := 15, ground := Go.Ground.phase }], guard := none }) rfl (fun K hK => ?_) (AllReadyH.nil)
            go_simp
            refine hK.out _ _ trivial (fun hHeld => ?_)
            clear hK K
            try simp only [Act.put, List.setIfInBounds_toArray, List.set_cons_zero, List.set_cons_succ]
            refine wpAnyH_done (by kernel_rfl) ?_ _
            rotate_left 1
            go_simp
            refine hK.out _ _ trivial (fun hHeld => ?_)
            clear hK K
            try simp only [Act.put, List.setIfInBounds_toArray, List.set_cons_zero, List.set_cons_succ]
            refine wpAnyH_ready (rs := [9]) (by kernel_rfl) (by simp) ?_
            refine AllReadyH.cons (o := { dst := some 57, op := Go.Op.load 59 (Go.Operand.tmp 56), type := 59, pos := "ref.go:325", after := #[{ on := 8, ground := Go.Ground.data }], guard := none }) rfl (fun K hK => ?_) (AllReadyH.nil)
            go_simp
            refine hK.out _ _ trivial (fun hHeld => ?_)
            clear hK K
            try simp only [Act.put, List.setIfInBounds_toArray, List.set_cons_zero, List.set_cons_succ]
            refine wpAnyH_take (i := 14) (oi := { dst := some 62, op := Go.Op.indexAddr 56 (Go.Operand.tmp 48) (Go.Operand.tmp 49), type := 0, pos := "ref.go:325", after := #[{ on := 0, ground := Go.Ground.data }, { on := 1, ground := Go.Ground.data }, { on := 0, ground := Go.Ground.phase }, { on := 1, ground := Go.Ground.phase }, { on := 2, ground := Go.Ground.textOnly Go.Departure.lateStores }, { on := 3, ground := Go.Ground.textOnly Go.Departure.lateStores }, { on := 4, ground := Go.Ground.textOnly Go.Departure.lateStores }, { on := 5, ground := Go.Ground.phase }, { on := 6, ground := Go.Ground.phase }, { on := 7, ground := Go.Ground.phase }, { on := 8, ground := Go.Ground.phase }, { on := 9, ground := Go.Ground.phase }, { on := 10, ground := Go.Ground.textOnly Go.Departure.lateStores }, { on := 11, ground := Go.Ground.textOnly Go.Departure.lateStores }, { on := 12, ground := Go.Ground.textOnly Go.Departure.lateStoresUnsure }, { on := 13, ground := Go.Ground.phase }], guard := none }) (v := ?_) rfl (by kernel_rfl) (by kernel_rfl) (by kernel_rfl) (fun _ _ _ h => h) (Or.inl ⟨by rfl, ?_⟩) (by assumption) ?_
            rotate_left 1
            · intro w hSw; (try dsimp only at hSw); go_simp; try with_reducible rfl
            try simp only [Act.put, List.setIfInBounds_toArray, List.set_cons_zero, List.set_cons_succ]
            refine wpAnyH_ready (rs := [15]) (by kernel_rfl) (by simp) ?_
            refine AllReadyH.cons (o := { dst := none, op := Go.Op.store 59 (Go.Operand.tmp 62) (Go.Operand.tmp 57), type := 0, pos := "ref.go:325", after := #[{ on := 14, ground := Go.Ground.data }, { on := 9, ground := Go.Ground.data }, { on := 0, ground := Go.Ground.phase }, { on := 1, ground := Go.Ground.phase }, { on := 2, ground := Go.Ground.textOnly Go.Departure.lateStores }, { on := 3, ground := Go.Ground.textOnly Go.Departure.lateStores }, { on := 4, ground := Go.Ground.textOnly Go.Departure.lateStores }, { on := 5, ground := Go.Ground.phase }, { on := 6, ground := Go.Ground.phase }, { on := 7, ground := Go.Ground.phase }, { on := 8, ground := Go.Ground.phase }, { on := 9, ground := Go.Ground.phase }, { on := 10, ground := Go.Ground.textOnly Go.Departure.lateStores }, { on := 11, ground := Go.Ground.textOnly Go.Departure.lateStores }, { on := 12, ground := Go.Ground.textOnly Go.Departure.lateStoresUnsure }, { on := 13, ground := Go.Ground.phase }], guard := none }) rfl (fun K hK => ?_) (AllReadyH.nil)
            go_simp
            refine hK.out _ _ trivial (fun hHeld => ?_)
            clear hK K
            try simp only [Act.put, List.setIfInBounds_toArray, List.set_cons_zero, List.set_cons_succ]
            refine wpAnyH_take (i := 16) (oi := { dst := some 63, op := Go.Op.indexAddr 56 (Go.Operand.tmp 50) (Go.Operand.tmp 52), type := 0, pos := "ref.go:325", after := #[{ on := 2, ground := Go.Ground.data }, { on := 4, ground := Go.Ground.data }, { on := 0, ground := Go.Ground.phase }, { on := 1, ground := Go.Ground.phase }, { on := 2, ground := Go.Ground.phase }, { on := 3, ground := Go.Ground.phase }, { on := 4, ground := Go.Ground.phase }, { on := 5, ground := Go.Ground.phase }, { on := 6, ground := Go.Ground.phase }, { on := 7, ground := Go.Ground.phase }, { on := 8, ground := Go.Ground.phase }, { on := 9, ground := Go.Ground.phase }, { on := 10, ground := Go.Ground.phase }, { on := 11, ground := Go.Ground.phase }, { on := 12, ground := Go.Ground.phase }, { on := 13, ground := Go.Ground.phase }, { on := 14, ground := Go.Ground.phase }, { on := 15, ground := Go.Ground.phase }], guard := none }) (v := ?_) rfl (by kernel_rfl) (by kernel_rfl) (by kernel_rfl) (fun _ _ _ h => h) (Or.inl ⟨by rfl, ?_⟩) (by assumption) ?_
            rotate_left 1
            · intro w hSw; (try dsimp only at hSw); go_simp; try with_reducible rfl
            try simp only [Act.put, List.setIfInBounds_toArray, List.set_cons_zero, List.set_cons_succ]
            refine wpAnyH_ready (rs := [17]) (by kernel_rfl) (by simp) ?_
            refine AllReadyH.cons (o := { dst := none, op := Go.Op.store 59 (Go.Operand.tmp 63) (Go.Operand.tmp 61), type := 0, pos := "ref.go:325", after := #[{ on := 16, ground := Go.Ground.data }, { on := 13, ground := Go.Ground.data }, { on := 15, ground := Go.Ground.chain }, { on := 0, ground := Go.Ground.phase }, { on := 1, ground := Go.Ground.phase }, { on := 2, ground := Go.Ground.phase }, { on := 3, ground := Go.Ground.phase }, { on := 4, ground := Go.Ground.phase }, { on := 5, ground := Go.Ground.phase }, { on := 6, ground := Go.Ground.phase }, { on := 7, ground := Go.Ground.phase }, { on := 8, ground := Go.Ground.phase }, { on := 9, ground := Go.Ground.phase }, { on := 10, ground := Go.Ground.phase }, { on := 11, ground := Go.Ground.phase }, { on := 12, ground := Go.Ground.phase }, { on := 13, ground := Go.Ground.phase }, { on := 14, ground := Go.Ground.phase }, { on := 15, ground := Go.Ground.phase }], guard := none }) rfl (fun K hK => ?_) (AllReadyH.nil)
            go_simp
            refine hK.out _ _ trivial (fun hHeld => ?_)
            clear hK K
            try simp only [Act.put, List.setIfInBounds_toArray, List.set_cons_zero, List.set_cons_succ]
            refine wpAnyH_done (by kernel_rfl) ?_ _
            all_goals
              go_wp2
              go_roundw
              case rel => exact ⟨m, by go_num, by omega, HSW⟩
              case measure => simp [intOf]
    · have hke : k = c.pkts.length := by omega
      subst hke
      have HE : Hid (Els 2 PrE wr wr.heap.size A l) := Lib.hid (by
        rcases Nat.eq_zero_or_pos c.pkts.length with h0 | h0
        · intro hn; have := HL.out.1; omega
        · obtain ⟨g, cap, cb, e, _, hbk, _, _, _, hrow⟩ := own_pr HL.out.2.1 HL.out.1 h0
          injection e with e
          rw [e]
          exact els_of_row (c := 0) hbk hrow rfl)
      have HLL := Lib.hid HL.out.1
      go_wp2
      go_ret2
      exact ⟨A, cc, l, by rw [HLL.out]; rfl, HE.out, HL.out.2.2.1, HL.out.2.2.2, by rw [HWB.out]; exact HB0.out.trans (HW.out.1.mono (by omega))⟩

set_option maxRecDepth 100000 in
set_option maxHeartbeats 8000000 in
theorem rindex_err {w : World} {p : Pl} {c : Cap} (hm : CapM w w.heap.size p c) (h1 : ¬ errV c = 0) :
    Calls Try.prog 34 #[capV p c] w fun e w' => e = .returned (.tuple #[.slice none 0 0, .int .i64 (errV c)]) ∧ Below w.heap.size w w' := by
  obtain ⟨pf, cf, pn, cn, ps, cs, pp, cp⟩ := p
  obtain ⟨B, hB⟩ : ∃ B, w.heap.size = B := ⟨_, rfl⟩
  obtain ⟨w0, e0, s0, g0, b0, k0⟩ := w_box hB #[.string c.note, .slice pf c.faces.length cf, .slice pn c.names.length cn, .slice ps c.secs.length cs, .slice pp c.pkts.length cp] 31
  have HV := Lib.hid (rvald_any (hm.keep (by rw [hB]; exact b0) (by rw [s0]; omega) : CapM w0 w0.heap.size _ c))
  have HB0 := Lib.hid b0
  have HS0 := Lib.hid s0
  have HE0 := Lib.hid e0
  obtain ⟨E, hE⟩ : ∃ E, errV c = E := ⟨_, rfl⟩
  rw [hE] at HV h1 ⊢
  have hne : (E != 0) = true := by rw [bne_iff_ne]; exact h1
  clear e0 s0 g0 b0 k0 hm hE h1
  rw [hB]
  unfold capV at HV ⊢
  go_enter Try.func34, Try.ntmps34
  go_wp2_with fail
  rw [HE0.out]
  with_reducible refine HV.out.mono ?_
  rintro e v1 ⟨rfl, hb1⟩
  have HW1 : Hid (Below B w v1) := Lib.hid (HB0.out.trans (hb1.mono (by rw [HS0.out]; omega)))
  clear HE0 HV hb1 HB0 HS0 hB
  go_wp2
  go_ret2
  exact ⟨rfl, HW1.out⟩
end Go.Proofs.Ytghdilmlfficlaa
