/- Pack. -/
import Derived.Test.YtghdilmlfficlaaPkAdd
import Derived.Test.YtghdilmlfficlaaMerge
namespace Go.Proofs.Ytghdilmlfficlaa
open Go.RowKit Go.Maps

theorem MapOk.same {w w' : World} {b n lim : Nat} {bs : List Nat} (h : MapOk w b n bs lim) (e : w'.heap[b]? = w.heap[b]?) : MapOk w' b n bs lim := by
  obtain ⟨D, ⟨es, clock, he, hr⟩, hx⟩ := h
  exact ⟨D, ⟨es, clock, e.trans he, hr⟩, hx⟩
theorem own_map_ne {w : World} {B n b k lim : Nat} {bs : List Nat} {v : Value} {xs : List Value} (h : w.ownsRow B 5 1 v n xs) (hm : MapOk w b k bs lim) : some b ≠ v.ownBlock := by
  intro e
  obtain ⟨D, ⟨es, clock, he, hr⟩, hx⟩ := hm
  rcases h.2 with ⟨rfl, _⟩ | ⟨g, cap, cur, rfl, _, hb, _⟩
  · cases e
  · injection e with e
    change b = g at e
    subst e
    rw [hb] at he; cases he
theorem MapOk.empty {w : World} {b : Nat} {bs : List Nat} (h : w.heap[b]? = some (.map #[] 0)) : MapOk w b 0 bs 0 :=
  ⟨.map [], ⟨#[], 0, h, ⟨by simp, Go.MapKept.stamped_empty 0, by simp⟩, Nat.le_refl _, rfl⟩, fun x hh => by cases hh⟩
def cellN (w : World) (g : Nat) : Nat := match w.cell? ⟨g, 1, none⟩ with
  | some (.int _ i) => i.toNat
  | _ => 0
theorem cellN_eq {w : World} {g at_ : Nat} {x y : Value} (h : Blk w g 116 #[x, .int .i64 at_, y]) : cellN w g = at_ := by
  unfold cellN
  rw [show w.cell? ⟨g, 1, none⟩ = some (.int .i64 at_) from h.cell 1]
  rfl
theorem lit_byt {w : World} {l : List Nat} (h : ∀ x ∈ l, x < 256) : Byt (w.alloc (.cells (l.map u8).toArray 5)) (w.heap.size + 1) (some ⟨w.heap.size, 0, none⟩) l := ⟨(byt_lit w l h).lt, (byt_lit w l h).cells⟩
theorem Grew.blk116 {M n g : Nat} {w w' : World} {v v' : Value} {xs : List Value} {cs : Array Value} (h : Grew M w v w' v') (ho : w.ownsRow M 5 1 v n xs) (hb : Blk w g 116 cs) : Blk w' g 116 cs := by
  have hne := own_blk_ne ho hb (by decide)
  exact (h.keep g hb.lt (fun e => hne e.symm)).trans hb
theorem Grew.map {M n b k lim : Nat} {bs : List Nat} {w w' : World} {v v' : Value} {xs : List Value} (h : Grew M w v w' v') (ho : w.ownsRow M 5 1 v n xs) (hm : MapOk w b k bs lim) : MapOk w' b k bs lim :=
  hm.same (h.keep b hm.lt (own_map_ne ho hm))
theorem Grew.of_alloc2 {M : Nat} {w : World} {v : Value} (hM : M ≤ w.heap.size) (o : Obj) : Grew M w v (w.alloc o) v :=
  ⟨(Below.refl _ _).alloc hM o, fun k hk _ => Below.heap_alloc w o k hk, Or.inl rfl⟩
theorem own_belP {w w' : World} {base e size n : Nat} {v : Value} {xs : List Value} (h : w.ownsRow base e size v n xs) (hb : Below w.heap.size w w') : w'.ownsRow base e size v n xs := by
  obtain ⟨h1, h | ⟨g, cap, cur, e1, e2, e3, e4⟩⟩ := h
  · exact ⟨h1, Or.inl h⟩
  · exact ⟨h1, Or.inr ⟨g, cap, cur, e1, e2, (hb.block g (show Blk w g e cur from e3).lt).trans e3, e4⟩⟩
theorem blk_below {w w' : World} {g t : Nat} {cs : Array Value} (h : Blk w g t cs) (hb : Below w.heap.size w w') : Blk w' g t cs := (hb.block g h.lt).trans h
/-- What Pack answers: how long, and parts. -/
def PackOk (b out : List Nat) : Prop := ∃ body, out = S1.svB b.length ++ body ∧ Dec b body b.length ∧ body.length ≤ b.length + (b.length + 127) / 128 ∧ ∀ x ∈ out, x < 256
def PackP (w : World) (b : List Nat) (e : Ending) (w' : World) : Prop :=
  ∃ out A c, e = .returned (.tuple #[.slice A (out : List Nat).length c, .int .i64 0]) ∧ PackOk b out ∧ w'.ownsRow w.heap.size 5 1 (.slice A out.length c) out.length (out.map u8) ∧ Below w.heap.size w w'

set_option maxRecDepth 100000 in
set_option maxHeartbeats 8000000 in
theorem pack_any {w : World} {A : Option Addr} {c : Nat} {b : List Nat} (hb : Byt w w.heap.size A b) (hc : b.length ≤ c) (hbl : b.length ≤ 131072) :
    Calls Try.prog 39 #[.slice A b.length c] w (PackP w b) := by
  obtain ⟨L, hL⟩ : ∃ L, b.length = L := ⟨_, rfl⟩
  obtain ⟨B, hB⟩ : ∃ B, w.heap.size = B := ⟨_, rfl⟩
  have hd1 : decide ((131072 : Int) < (L : Int)) = false := decide_eq_false (by omega)
  have HSV : Hid (Calls Try.prog 84 #[.int .i64 L] w fun e W' => ∃ v, e = .returned (.tuple #[v, .int .i64 0]) ∧ W'.ownsRow B 5 1 v (S1.svB L).length ((S1.svB L).map u8) ∧ Below B w W') := Lib.hid (by
    have h := callsIn_wide.1 (S1.seven_in L (by omega) w)
    rw [hB] at h
    exact h)
  obtain ⟨sl, hsl⟩ : ∃ sl, (S1.svB L).length = sl := ⟨_, rfl⟩
  have hs7 : sl ≤ 7 := by rw [← hsl]; exact S1.svB_len L (by omega)
  have HSL := Lib.hid hsl
  have HLL := Lib.hid hL
  have HBS := Lib.hid hB
  have HBY : Hid (Byt w B A b) := Lib.hid (by rw [← hB]; exact hb)
  rw [hL] at hc hbl ⊢
  rw [hsl] at HSV
  clear hb hL hB hsl
  have hmm := @run_makeMap Try.prog
  go_enter Try.func39, Try.ntmps39
  go_wp2_with fail
  with_reducible refine HSV.out.mono ?_
  rintro e w1 ⟨v, rfl, ho1, hb1⟩
  obtain ⟨A1, c1, rfl, _⟩ := own_form2 ho1
  have HO1 := Lib.hid ho1
  have HB1 := Lib.hid hb1
  have hBw1 : B ≤ w1.heap.size := by have := hb1.size; have := HBS.out; omega
  clear ho1 hb1
  have HG0 : Hid (Blk ((w1.alloc (.map #[] 0)).alloc (.cells #[.slice A L c, .int .i64 0, .map (some w1.heap.size)] 116)) (w1.heap.size + 1) 116 #[.slice A L c, .int .i64 ((0 : Nat) : Int), .map (some w1.heap.size)]) := Lib.hid (by
    have := Blk.new (w1.alloc (.map #[] 0)) 116 #[.slice A L c, .int .i64 0, .map (some w1.heap.size)]
    rw [World.size_alloc] at this
    exact this)
  have HM0 : Hid (MapOk ((w1.alloc (.map #[] 0)).alloc (.cells #[.slice A L c, .int .i64 0, .map (some w1.heap.size)] 116)) w1.heap.size 0 b 0) := Lib.hid (by
    have h := MapOk.empty (bs := b) (Go.MapKept.heap_alloc w1 (.map #[] 0)).1
    exact h.below (((Below.refl _ _).alloc (Nat.le_refl _) _)))
  have HO0 := Lib.hid ((HO1.out.alloc (.map #[] 0)).alloc (.cells #[.slice A L c, .int .i64 0, .map (some w1.heap.size)] 116))
  have HB0 := Lib.hid ((HB1.out.alloc hBw1 (.map #[] 0)).alloc (by rw [World.size_alloc]; omega) (.cells #[.slice A L c, .int .i64 0, .map (some w1.heap.size)] 116))
  obtain ⟨bm, hbm⟩ : ∃ bm, w1.heap.size = bm := ⟨_, rfl⟩
  go_wp2
  rw [hbm] at HG0 HM0 HO0 HB0 hBw1
  try simp only [hbm]
  clear hmm
  go_loopw [4, 7] (fun t4 t7 wr => ∃ (at_ done : Nat) (body : List Nat) (A1 : Option Addr) (c1 ol : Nat), t4 = .slice A1 ol c1 ∧ t7 = .int .i64 done ∧ done ≤ at_ ∧ at_ ≤ L ∧ ol ≤ 200000 ∧ Hid (ol = sl + body.length) ∧ Hid (Blk wr (bm + 1) 116 #[.slice A L c, .int .i64 at_, .map (some bm)]) ∧ Hid (MapOk wr bm at_ b at_) ∧ Hid (Dec b body done) ∧ Hid (Few body done) ∧ Hid (∀ x ∈ body, x < 256) ∧ Hid (wr.ownsRow B 5 1 (.slice A1 ol c1) ol ((S1.svB L ++ body).map u8)) ∧ Hid (Below B w wr)) (fun _ _ wr => L - cellN wr (bm + 1))
  case atStart => exact ⟨0, 0, [], A1, c1, sl, rfl, rfl, by omega, by omega, by omega, Lib.hid rfl, HG0, HM0, Lib.hid (Dec.zero b), Lib.hid Few.zero, Lib.hid (by simp), by rw [List.append_nil]; exact HO0, HB0⟩
  case round =>
    obtain ⟨at_, done, body, A2, c2, ol, rfl, rfl, hda, haL, hol, HOL, HG, HM, HD, HF, HLT, HO, HB⟩ := hrel
    have k1 : wr.cell? ⟨bm + 1, 1, none⟩ = some (.int .i64 at_) := HG.out.cell 1
    have hBwr : B ≤ wr.heap.size := by have := HB.out.size; have := HBS.out; omega
    have HLO : Hid ((S1.svB L ++ body).length = ol) := Lib.hid (by rw [List.length_append, HSL.out, HOL.out])
    by_cases hat : at_ < L
    · have hdl : decide ((at_ : Int) < (L : Int)) = true := decide_eq_true (by omega)
      obtain ⟨bb, ob, hA, _⟩ := HBY.out.cells (by rw [HLL.out]; omega)
      subst hA
      have HREP := Lib.hid (repeat_any (w := wr) (B := B) (g := bm + 1) (c := c) (at_ := at_) (bm := bm) (n := at_) (A := some ⟨bb, ob, none⟩) (bs := b) (by rw [HLL.out]; exact HG.out) HM.out (s1byt (HBY.out.below HB.out)) (by omega) (by rw [HLL.out]; exact hc) (by rw [HLL.out]; omega) (by rw [HLL.out]; exact hat))
      go_wp2_with fail
      with_reducible refine HREP.out.mono ?_
      rintro e w2 ⟨n, back, rfl, hok, hb2⟩
      have HOK := Lib.hid hok
      have HG2 := Lib.hid (blk_below HG.out hb2)
      have HM2 := Lib.hid (HM.out.below hb2)
      have HO2 := Lib.hid (own_belP HO.out hb2)
      have HB2 := Lib.hid (HB.out.trans (hb2.mono hBwr))
      have hBw2 : B ≤ w2.heap.size := by have := hb2.size; omega
      have k2 : w2.cell? ⟨bm + 1, 1, none⟩ = some (.int .i64 at_) := HG2.out.cell 1
      clear hb2 hok k1
      rcases Nat.eq_zero_or_pos n with rfl | hn
      · have HST := Lib.hid (step_any (w := w2) (B := B) (g := bm + 1) (c := c) (at_ := at_) (bm := bm) (n := at_) (A := some ⟨bb, ob, none⟩) (bs := b) (by rw [HLL.out]; exact HG2.out) HM2.out (by unfold maxLen; omega) (s1byt (HBY.out.below HB2.out)) (by omega) (by omega) (by rw [HLL.out]; exact hc) (by rw [HLL.out]; omega) (by rw [HLL.out]; exact hat))
        go_wp2_with fail
        with_reducible refine HST.out.mono ?_
        rintro e w3 ⟨rfl, hg3, hm3, hb3, hk3⟩
        rw [HLL.out] at hg3
        have HG3 := Lib.hid hg3
        have HM3 := Lib.hid hm3
        have HB3 := Lib.hid (HB2.out.trans hb3)
        have HO3 := Lib.hid (own_keepB HO2.out hk3 ⟨_, _, HG2.out, by decide⟩)
        clear hg3 hm3 hb3 hk3
        go_wp2
        go_roundw
        case rel => exact ⟨at_ + 1, done, body, A2, c2, ol, rfl, rfl, by omega, by omega, by omega, HOL, HG3, HM3, HD, HF, HLT, HO3, HB3⟩
        case measure => rw [cellN_eq HG3.out, cellN_eq HG.out]; omega
      · have hz : ((n : Int) == 0) = false := by rw [beq_eq_false_iff_ne]; omega
        obtain ⟨h4, h130, hanL, f, hfa, hback, hb16, hsame⟩ := HOK.out.resolve_left (by omega)
        rw [HLL.out] at hanL
        have HSAME := Lib.hid hsame
        obtain ⟨m, hm⟩ : ∃ m, at_ - done = m := ⟨_, rfl⟩
        have hcl : ((b.drop done).take m).length = m := by rw [List.length_take, List.length_drop, HLL.out]; omega
        obtain ⟨pl, hpl⟩ : ∃ pl, plainB (m + 1) ((b.drop done).take m) = pl := ⟨_, rfl⟩
        have hpll : pl.length = m + (m + 127) / 128 := by rw [← hpl, plainB_len _ _ (by omega), hcl]
        have hplt : ∀ x ∈ pl, x < 256 := by rw [← hpl]; exact plainB_lt _ _ (fun x hx => HBY.out.lt x (List.mem_of_mem_drop (List.mem_of_mem_take hx)))
        obtain ⟨ol3, hol3⟩ : ∃ ol3, (S1.svB L ++ body ++ pl).length = ol3 := ⟨_, rfl⟩
        have hbl0 : body.length ≤ done + done / 128 := HF.out
        have hol3e : ol3 = ol + (m + (m + 127) / 128) := by rw [← hol3, List.length_append, HLO.out, hpll]
        have hol0 := HOL.out
        have hol3b : ol3 ≤ 190000 := by omega
        have HAD : Hid (Calls Try.prog 87 #[.slice A2 ol c2, .slice (some ⟨bb, ob + done, none⟩) (at_ - done) (c - done)] w2 fun e w' => ∃ A c, e = .returned (.slice A ol3 c) ∧ w'.ownsRow B 5 1 (.slice A ol3 c) ol3 ((S1.svB L ++ body ++ pl).map Go.Proofs.Ytghdilmlfficlaa.u8) ∧ Grew B w2 (.slice A2 ol c2) w' (.slice A ol3 c)) := Lib.hid (by
          have h := addp_any (w := w2) (M := B) (co := c2) (cb := c - done) (Ao := A2) (Ab := some ⟨bb, ob + done, none⟩) (out := S1.svB L ++ body) (b := (b.drop done).take m) (by rw [HLO.out]; exact HO2.out) (byt_drop (HBY.out.below HB2.out) (by rw [HLL.out]; omega)).front (by rw [hcl]; omega) hBw2 (by rw [HLO.out]; omega) (by rw [hcl]; omega)
          unfold AddP at h
          rw [hcl, hpl, HLO.out, hol3] at h
          rw [hm]
          exact h)
        have HHOL := Lib.hid hol3
        have HPL := Lib.hid hpl
        have HPLL := Lib.hid hpll
        have HPLT := Lib.hid hplt
        have HHM := Lib.hid hm
        have hcd : ¬ (c = done) := by omega
        have hs1 : (done : Int) ≤ (at_ : Int) := by omega
        have hs2 : (at_ : Int) ≤ (c : Int) := by omega
        have hs3 : (at_ : Int) ≤ (L : Int) := by omega
        obtain ⟨n1, hn1⟩ : ∃ n1, n1 = n + 125 := ⟨_, rfl⟩
        have hx1 : IntKind.i64.wrap ((n : Int) + 125) = (n1 : Int) := by rw [IntKind.wrap_i64]; omega
        have hx2 : IntKind.u8.wrap (n1 : Int) = (n1 : Int) := by rw [IntKind.wrap_u8]; omega
        have HN1 := Lib.hid hn1
        have HBK := Lib.hid hback
        have HOL3E := Lib.hid hol3e
        obtain ⟨q, hq⟩ : ∃ q, q = back / 256 := ⟨_, rfl⟩
        obtain ⟨r, hr⟩ : ∃ r, r = back % 256 := ⟨_, rfl⟩
        have hx3 : (back : Int) / 256 = (q : Int) := by omega
        have hx4 : (back : Int) % 256 = (r : Int) := by omega
        have HQ := Lib.hid hq
        have HR := Lib.hid hr
        have hn8 : n1 < 256 := by omega
        have hq8 : q < 256 := by omega
        have hr8 : r < 256 := by omega
        clear hq hr hol3e hol3 hpl hpll hplt hcl hm hn1 hback hsame hbl0 hol0
        go_wp2_with fail
        with_reducible refine HAD.out.mono ?_
        rintro e w3 ⟨A3, c3, rfl, ho3, hg3⟩
        have HG3 := Lib.hid (hg3.blk116 HO2.out HG2.out)
        have HM3 := Lib.hid (hg3.map HO2.out HM2.out)
        have HB3 := Lib.hid (HB2.out.trans hg3.bel)
        have HO3 := Lib.hid ho3
        have hBw3 : B ≤ w3.heap.size := by have := hg3.bel.size; omega
        clear ho3 hg3 k2
        have hlit : ∀ x ∈ [n1, q, r], x < 256 := by
          intro x hx
          simp only [List.mem_cons, List.not_mem_nil, or_false] at hx
          rcases hx with rfl | rfl | rfl <;> assumption
        obtain ⟨v4, w4, hrun, happ⟩ := run_own_byt (w3.alloc (.cells #[.int .u8 (n1 : Int), .int .u8 (q : Int), .int .u8 (r : Int)] 5)) B (.slice A3 ol3 c3) (S1.svB L ++ body ++ pl) (by rw [HHOL.out]; exact HO3.out.alloc _) (l := [n1, q, r]) 3 (lit_byt (w := w3) hlit) (by simp) (by rw [HHOL.out]; omega) (by rw [World.size_alloc]; omega)
        simp only [List.length_cons, List.length_nil, Nat.zero_add, Nat.reduceAdd] at hrun
        have hg4 : Grew B w3 (.slice A3 ol3 c3) w4 v4 := (Grew.of_alloc2 (v := .slice A3 ol3 c3) hBw3 (.cells #[.int .u8 (n1 : Int), .int .u8 (q : Int), .int .u8 (r : Int)] 5)).trans (Grew.of_app happ (by rw [HHOL.out]; exact HO3.out.alloc _) (by rw [World.size_alloc]; omega))
        have hl4 : (S1.svB L ++ body ++ pl ++ [n1, q, r]).length = ol3 + 3 := by rw [List.length_append, HHOL.out]; rfl
        have ho4 := happ.own
        rw [hl4] at ho4
        obtain ⟨A4, c4, rfl, _⟩ := own_form2 ho4
        have HO4 := Lib.hid ho4
        have HG4 := Lib.hid (hg4.blk116 HO3.out HG3.out)
        have HM4 := Lib.hid (hg4.map HO3.out HM3.out)
        have HB4 := Lib.hid (HB3.out.trans hg4.bel)
        have hBw4 : B ≤ w4.heap.size := by have := hg4.bel.size; omega
        clear ho4 hg4 hl4 happ hlit
        go_wp2_with (at_builtin; refine Lib.wpList_append_run _ rfl _ _ _ _ rfl _ _ rfl rfl _ _ hrun ?_)
        go_loopw [56] (fun t56 wr => ∃ i : Nat, t56 = .int .i64 i ∧ i ≤ n ∧ Hid (Blk wr (bm + 1) 116 #[.slice (some ⟨bb, ob, none⟩) L c, .int .i64 ((at_ + i : Nat) : Int), .map (some bm)]) ∧ Hid (MapOk wr bm (at_ + i) b (at_ + i)) ∧ Hid (wr.ownsRow B 5 1 (.slice A4 (ol3 + 3) c4) (ol3 + 3) ((S1.svB L ++ body ++ pl ++ [n1, q, r]).map Go.Proofs.Ytghdilmlfficlaa.u8)) ∧ Hid (Below B w wr)) (fun t56 _ => n - (intOf t56).toNat)
        case atStart => exact ⟨0, rfl, by omega, HG4, HM4, HO4, HB4⟩
        case round =>
          obtain ⟨i, rfl, hin, HGi, HMi, HOi, HBi⟩ := hrel
          by_cases hi : i < n
          · have hdi : decide ((i : Int) < (n : Int)) = true := decide_eq_true (by omega)
            have hwi : IntKind.i64.wrap ((i : Int) + 1) = ((i + 1 : Nat) : Int) := by rw [IntKind.wrap_i64]; omega
            have HST := Lib.hid (step_any (B := B) (g := bm + 1) (c := c) (at_ := at_ + i) (bm := bm) (n := at_ + i) (A := some ⟨bb, ob, none⟩) (bs := b) (by rw [HLL.out]; exact HGi.out) HMi.out (by unfold maxLen; omega) (s1byt (HBY.out.below HBi.out)) (by omega) (by omega) (by rw [HLL.out]; exact hc) (by rw [HLL.out]; omega) (by rw [HLL.out]; omega))
            go_wp2_with fail
            with_reducible refine HST.out.mono ?_
            rintro e w5 ⟨rfl, hg5, hm5, hb5, hk5⟩
            rw [HLL.out] at hg5
            have HG5 := Lib.hid hg5
            have HM5 := Lib.hid hm5
            have HB5 := Lib.hid (HBi.out.trans hb5)
            have HO5 := Lib.hid (own_keepB HOi.out hk5 ⟨_, _, HGi.out, by decide⟩)
            clear hg5 hm5 hb5 hk5
            go_wp2
            go_roundw
            case rel => exact ⟨i + 1, by go_num, by omega, HG5, HM5, HO5, HB5⟩
            case measure => simp [intOf]; omega
          · have hin2 : i = n := by omega
            subst hin2
            have hdi : decide ((i : Int) < (i : Int)) = false := decide_eq_false (by omega)
            have k6 := HGi.out.cell 1
            simp only [List.getElem?_toArray, List.getElem?_cons_succ, List.getElem?_cons_zero] at k6
            go_wp2
            go_roundw
            case rel =>
              refine ⟨at_ + i, at_ + i, body ++ pl ++ [n1, q, r], A4, c4, ol3 + 3, rfl, rfl, by omega, by omega, by omega, Lib.hid ?_, HGi, HMi, Lib.hid ?_, Lib.hid ?_, Lib.hid ?_, ?_, HBi⟩
              · have := HHOL.out
                simp only [List.length_append, HSL.out] at this ⊢
                rw [← this]; simp; omega
              · have h1 := Dec.plain HD.out (m + 1) m (by omega) (by have := HHM.out; rw [HLL.out]; omega)
                rw [HPL.out, show done + m = at_ by have := HHM.out; omega] at h1
                have h2 := h1.rep hfa h4 h130 (by rw [HLL.out]; exact hanL) HSAME.out
                have e1 : at_ - f = back := HBK.out.symm
                rw [e1, ← HQ.out, ← HR.out, ← HN1.out] at h2
                exact h2
              · have h1 := Few.rep (x := n1) (y := q) (z := r) (n := i) HF.out (c := (b.drop done).take m) (m := m) (by rw [List.length_take, List.length_drop, HLL.out]; have := HHM.out; omega) h4 (m + 1) (by omega)
                rw [HPL.out, show done + m = at_ by have := HHM.out; omega] at h1
                exact h1
              · intro x hx
                rcases List.mem_append.1 hx with hx | hx
                · rcases List.mem_append.1 hx with hx | hx
                  · exact HLT.out x hx
                  · exact HPLT.out x hx
                · simp only [List.mem_cons, List.not_mem_nil, or_false] at hx
                  rcases hx with rfl | rfl | rfl <;> assumption
              · simpa only [List.append_assoc] using HOi
            case measure => rw [cellN_eq HGi.out, cellN_eq HG.out]; omega
    · have hatL : at_ = L := by omega
      subst hatL
      have hdl : decide ((at_ : Int) < (at_ : Int)) = false := decide_eq_false (by omega)
      obtain ⟨m, hm⟩ : ∃ m, at_ - done = m := ⟨_, rfl⟩
      have hcl : (b.drop done).length = m := by rw [List.length_drop, HLL.out, hm]
      obtain ⟨pl, hpl⟩ : ∃ pl, plainB (m + 1) (b.drop done) = pl := ⟨_, rfl⟩
      have hpll : pl.length = m + (m + 127) / 128 := by rw [← hpl, plainB_len _ _ (by omega), hcl]
      have hplt : ∀ x ∈ pl, x < 256 := by rw [← hpl]; exact plainB_lt _ _ (fun x hx => HBY.out.lt x (List.mem_of_mem_drop hx))
      obtain ⟨ol3, hol3⟩ : ∃ ol3, (S1.svB at_ ++ body ++ pl).length = ol3 := ⟨_, rfl⟩
      have HAD : ∀ A', Byt wr B A' (b.drop done) → Hid (Calls Try.prog 87 #[.slice A2 ol c2, .slice A' (at_ - done) (c - done)] wr fun e w' => ∃ A c, e = .returned (.slice A ol3 c) ∧ w'.ownsRow B 5 1 (.slice A ol3 c) ol3 ((S1.svB at_ ++ body ++ pl).map Go.Proofs.Ytghdilmlfficlaa.u8) ∧ Grew B wr (.slice A2 ol c2) w' (.slice A ol3 c)) := fun A' hA' => Lib.hid (by
        have h := addp_any (w := wr) (M := B) (co := c2) (cb := c - done) (Ao := A2) (Ab := A') (out := S1.svB at_ ++ body) (b := b.drop done) (by rw [HLO.out]; exact HO.out) hA' (by rw [hcl]; omega) hBwr (by rw [HLO.out]; omega) (by rw [hcl]; omega)
        unfold AddP at h
        rw [hcl, hpl, HLO.out, hol3] at h
        rw [hm]
        exact h)
      have HPK : Hid (PackOk b (S1.svB at_ ++ body ++ pl)) := Lib.hid (by
        refine ⟨body ++ pl, by rw [HLL.out, List.append_assoc], ?_, ?_, ?_⟩
        · have h1 := Dec.plain HD.out (m + 1) m (by omega) (by rw [HLL.out]; omega)
          rw [List.take_of_length_le (by omega), hpl] at h1
          rw [HLL.out, show at_ = done + m by omega]
          exact h1
        · have h1 := few_end HF.out hcl (show m < m + 1 by omega)
          rw [hpl] at h1
          rw [HLL.out]
          rw [show done + m = at_ by omega] at h1
          exact h1
        · intro x hx
          rcases List.mem_append.1 hx with hx | hx
          · rcases List.mem_append.1 hx with hx | hx
            · exact S1.svB_lt _ x hx
            · exact HLT.out x hx
          · exact hplt x hx)
      have HHOL := Lib.hid hol3
      have hs1 : (done : Int) ≤ (c : Int) := by omega
      have hs2 : (done : Int) ≤ (at_ : Int) := by omega
      clear hol3 hpl hpll hplt hcl hm
      have hend : ∀ (A' : Option Addr), Byt wr B A' (b.drop done) → True := fun _ _ => trivial
      cases A with
      | none =>
        have HAN := HAD none (by
          have h0 : b.length = 0 := by
            rcases Nat.eq_zero_or_pos b.length with h | h
            · exact h
            · obtain ⟨_, _, e, _⟩ := HBY.out.cells h
              cases e
          rw [List.drop_eq_nil_of_le (by omega)]; exact Byt.nil _ _ _)
        go_wp2_with fail
        with_reducible refine HAN.out.mono ?_
        rintro e w3 ⟨A3, c3, rfl, ho3, hg3⟩
        have HO3 := Lib.hid ho3
        have HB3 := Lib.hid (HB.out.trans hg3.bel)
        clear ho3 hg3
        go_wp2
        go_ret2
        refine ⟨_, A3, c3, by rw [HHOL.out]; rfl, HPK.out, ?_, by rw [HBS.out]; exact HB3.out⟩
        rw [HBS.out, HHOL.out]; exact HO3.out
      | some a =>
        by_cases hcd : c = done
        · have HAN := HAD (some a) (by
            rw [List.drop_eq_nil_of_le (by rw [HLL.out]; omega)]; exact Byt.nil _ _ _)
          have hz1 : at_ - done = 0 := by omega
          have hz2 : c - done = 0 := by omega
          rw [hz1, hz2] at HAN
          subst hcd
          go_wp2_with fail
          with_reducible refine HAN.out.mono ?_
          rintro e w3 ⟨A3, c3, rfl, ho3, hg3⟩
          have HO3 := Lib.hid ho3
          have HB3 := Lib.hid (HB.out.trans hg3.bel)
          clear ho3 hg3
          go_wp2
          go_ret2
          refine ⟨_, A3, c3, by rw [HHOL.out]; rfl, HPK.out, ?_, by rw [HBS.out]; exact HB3.out⟩
          rw [HBS.out, HHOL.out]; exact HO3.out
        · have HAN := HAD (some (a.add done)) (by
            rcases Nat.eq_zero_or_pos b.length with h | h
            · rw [List.drop_eq_nil_of_le (by omega)]; exact Byt.nil _ _ _
            · obtain ⟨bb, ob, e, _⟩ := HBY.out.cells h
              injection e with e
              subst e
              rw [Go.WideShapes.add_plain]
              exact byt_drop (HBY.out.below HB.out) h)
          go_wp2_with fail
          with_reducible refine HAN.out.mono ?_
          rintro e w3 ⟨A3, c3, rfl, ho3, hg3⟩
          have HO3 := Lib.hid ho3
          have HB3 := Lib.hid (HB.out.trans hg3.bel)
          clear ho3 hg3
          go_wp2
          go_ret2
          refine ⟨_, A3, c3, by rw [HHOL.out]; rfl, HPK.out, ?_, by rw [HBS.out]; exact HB3.out⟩
          rw [HBS.out, HHOL.out]; exact HO3.out
end Go.Proofs.Ytghdilmlfficlaa
