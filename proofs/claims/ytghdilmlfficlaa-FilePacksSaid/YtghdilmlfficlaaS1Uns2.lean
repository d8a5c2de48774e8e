/- Unseven: the program's loop. -/
import Derived.Test.YtghdilmlfficlaaS1UnsStep
namespace Go.Proofs.Ytghdilmlfficlaa.S1
open Go.RowKit Go.Shelf

attribute [local go_sem] Oper.semAt_some

set_option maxRecDepth 100000 in
set_option maxHeartbeats 4000000 in
theorem unseven_in (A : Option Addr) (bs : List Nat) (c : Nat) (w : World) (hm : Byt w w.heap.size A bs) (hc : bs.length ≤ c) (hL : bs.length ≤ 1000000) :
    CallsIn Fence.wide 9 Try.prog 81 #[.slice A bs.length c] w fun e W' => (∃ v, e = .returned v ∧ UnsR bs v) ∧ Below w.heap.size w W' := by
  obtain ⟨L, hLL⟩ : ∃ L, bs.length = L := ⟨_, rfl⟩
  have HL := Lib.hid hLL
  rw [hLL] at hc hL ⊢
  obtain ⟨mn, hmn⟩ : ∃ mn, min L 7 = mn := ⟨_, rfl⟩
  have hmin : (if (7 : Int) < (L : Int) then (7 : Int) else (L : Int)) = (mn : Int) := by split <;> omega
  have hmn7 : mn ≤ 7 := by omega
  have hmnL : mn ≤ L := by omega
  have htl : (bs.take 7).length = mn := by rw [List.length_take, hLL]; omega
  have htl7 : (bs.take 7).length ≤ 7 := by omega
  have hpinl : (pin (bs.take 7)).length ≤ 7 := by have := pin_len (bs.take 7); omega
  have HMN := Lib.hid hmn
  have HM := Lib.hid hm
  have HT := Lib.hid htl
  clear hLL hmn hm htl
  refine callsIn_of_wp_marks Try.func81 rfl trivial ?_ rfl
  simp only [Try.ntmps81, List.size_toArray, List.length_cons, List.length_nil, Nat.reduceAdd, Nat.reduceSub, Array.replicate_succ, Array.replicate_zero, List.push_toArray, List.append_toArray, List.nil_append, List.cons_append]
  gi_wp2_with (refine ⟨trivial, ?_⟩; gi_at_call 123; refine (partsIn_in _ _ _ _ _).mono ?_; rintro e w' ⟨rfl, rfl⟩)
  have bV := (((Boxed.new w 3 (.int .i64 0)).alloc (.cells #[.int .i64 0] 3)).alloc (.cells #[.bool false] 4)).alloc (.cells #[.slice A mn c] 48)
  have bS := ((Boxed.new (w.alloc (.cells #[.int .i64 0] 3)) 3 (.int .i64 0)).alloc (.cells #[.bool false] 4)).alloc (.cells #[.slice A mn c] 48)
  have bE := (Boxed.new ((w.alloc (.cells #[.int .i64 0] 3)).alloc (.cells #[.int .i64 0] 3)) 4 (.bool false)).alloc (.cells #[.slice A mn c] 48)
  have bA := Boxed.new (((w.alloc (.cells #[.int .i64 0] 3)).alloc (.cells #[.int .i64 0] 3)).alloc (.cells #[.bool false] 4)) 48 (.slice A mn c)
  simp only [World.size_alloc] at bS bE bA
  have hB0 : Below w.heap.size w ((((w.alloc (.cells #[.int .i64 0] 3)).alloc (.cells #[.int .i64 0] 3)).alloc (.cells #[.bool false] 4)).alloc (.cells #[.slice A mn c] 48)) := ((((Below.refl _ w).alloc (Nat.le_refl _) _).alloc (by simp) _).alloc (by simp; omega) _).alloc (by simp; omega) _
  have hsz : ((((w.alloc (.cells #[.int .i64 0] 3)).alloc (.cells #[.int .i64 0] 3)).alloc (.cells #[.bool false] 4)).alloc (.cells #[.slice A mn c] 48)).heap.size = w.heap.size + 4 := by simp
  obtain ⟨W0, hW0⟩ : ∃ W0, (((w.alloc (.cells #[.int .i64 0] 3)).alloc (.cells #[.int .i64 0] 3)).alloc (.cells #[.bool false] 4)).alloc (.cells #[.slice A mn c] 48) = W0 := ⟨_, rfl⟩
  rw [hW0] at bV bS bE bA hB0 hsz ⊢
  clear hW0
  have hcA : W0.cell? ⟨w.heap.size + 1 + 1 + 1, 0, none⟩ = some (.slice A (bs.take 7).length c) := by rw [HT.out]; exact bA.cell
  refine wpIn_rangeFunc_ownG rfl (by omega) (gf := 156) (lb := #[.pointer (some ⟨w.heap.size + 1 + 1 + 1, 0, none⟩)]) rfl trivial (enters_of Try.func156 (by kernel_rfl) rfl)
    (partsIn_stops 8 (by omega) (w.heap.size + 1 + 1 + 1) w.heap.size c A (bs.take 7) htl7 W0 (by omega) (by omega) hcA ((byt_take HM.out 7).below hB0)) belowK_t (belowK_b (by omega)) (Below.refl _ _) (fun _ => rfl)
    (fun pre W => ((Boxed W w.heap.size 3 (.int .i64 (pv pre)) ∧ Boxed W (w.heap.size + 1) 3 (.int .i64 pre.length)) ∧ Boxed W (w.heap.size + 1 + 1) 4 (.bool (pend pre))) ∧ Below w.heap.size w W)
    (fun _ _ _ => False)
    (OwnFrom.and (OwnFrom.and (OwnFrom.and (Own.from (boxed_own _ _ _) _) (Own.from (boxed_own _ _ _) _)) (Own.from (boxed_own _ _ _) _)) (ownFrom_below (Nat.le_refl _) (by omega)))
    (fun _ _ _ _ _ hs _ _ => hs)
    ⟨⟨⟨bV, bS⟩, bE⟩, hB0⟩
    (fun x => { tmps := #[.slice A L c, undef, .int .i64 0, .int .i64 0, .int .i64 0, .pointer (some ⟨w.heap.size, 0, none⟩), .pointer (some ⟨w.heap.size + 1, 0, none⟩), .pointer (some ⟨w.heap.size + 1 + 1, 0, none⟩), .int .i64 x.1.1, .bool x.1.2, undef, undef, .slice A L c, .slice A L c, .int .i64 L, .int .i64 mn, .slice A mn c, .func (.func 156) #[] #[.pointer (some ⟨w.heap.size + 1 + 1 + 1, 0, none⟩)], .int .i64 x.1.1, .bool x.1.2, undef, undef, undef, undef, undef, undef, undef, undef, undef, undef, undef, undef, undef, undef, undef, undef, undef, undef, undef, undef, undef, undef, undef, undef, undef, undef, undef], defers := [] }) ?assign ?body ?done ?stop
  case assign =>
    intro l x W K hK
    gi_wp2
    exact hK
  case body =>
    rintro l pre ⟨⟨p, m⟩, hp⟩ W ⟨⟨⟨bV, bS⟩, bE⟩, hB⟩ hlt
    have hp2 : p < 128 := hp
    have hl7 : pre.length < 7 := by omega
    have hpv := pv_lt pre
    have hsn := pv_snoc pre ⟨(p, m), hp⟩
    have hen := pend_snoc pre ⟨(p, m), hp⟩
    obtain ⟨V, hV⟩ : ∃ V, pv pre = V := ⟨_, rfl⟩
    obtain ⟨k, hk⟩ : ∃ k, pre.length = k := ⟨_, rfl⟩
    obtain ⟨b, hb⟩ : ∃ b, pend pre = b := ⟨_, rfl⟩
    rw [hV, hk] at hsn
    rw [hV, hk] at hpv
    rw [hV] at bV
    rw [hk] at bS hl7
    rw [hb] at bE
    have cV := bV.cell
    have cS := bS.cell
    have cE := bE.cell
    have fV := bV.frozen
    have fS := bS.frozen
    have fE := bE.frozen
    obtain ⟨q, r, V2, k2, e1, e2, hwq, hshl, hor, hwk⟩ := uns_step V p k hpv hp2 hl7
    rw [e1] at hsn
    have HK := Lib.hid (And.intro hk e2)
    have HN := Lib.hid hsn
    have HE := Lib.hid hen
    clear hpv hl7 hsn hen hk e1 e2 hV hb hlt
    gi_wp2
    refine Go.wpIn_mono (Q := fun e a' W' => e = .normal ∧ a' = { tmps := #[.slice A L c, undef, .int .i64 0, .int .i64 0, .int .i64 0, .pointer (some ⟨w.heap.size, 0, none⟩), .pointer (some ⟨w.heap.size + 1, 0, none⟩), .pointer (some ⟨w.heap.size + 1 + 1, 0, none⟩), .int .i64 p, .bool m, undef, undef, .slice A L c, .slice A L c, .int .i64 L, .int .i64 mn, .slice A mn c, .func (.func 156) #[] #[.pointer (some ⟨w.heap.size + 1 + 1 + 1, 0, none⟩)], .int .i64 p, .bool m, .int .i64 V, .int .i64 p, .int .i64 k, .int .i64 q, .int .i64 r, .int .i64 V2, undef, undef, undef, undef, undef, undef, undef, undef, undef, undef, undef, undef, undef, undef, undef, undef, undef, undef, undef, undef, undef], defers := [] } ∧ W' = (W.setCell ⟨w.heap.size, 0, none⟩ (.int .i64 V2)).drew) ?reg ?next
    case reg =>
      gi_region
      all_goals exact ⟨rfl, rfl, rfl⟩
    case next =>
      rintro e a' W' ⟨rfl, rfl, rfl⟩
      have bV1 : Boxed (W.setCell ⟨w.heap.size, 0, none⟩ (.int .i64 V2)).drew w.heap.size 3 (.int .i64 V2) := bV.set _
      have bS1 : Boxed (W.setCell ⟨w.heap.size, 0, none⟩ (.int .i64 V2)).drew (w.heap.size + 1) 3 (.int .i64 k) := bS.other (by omega) _
      have bE1 : Boxed (W.setCell ⟨w.heap.size, 0, none⟩ (.int .i64 V2)).drew (w.heap.size + 1 + 1) 4 (.bool b) := bE.other (by omega) _
      have hB1 : Below w.heap.size W (W.setCell ⟨w.heap.size, 0, none⟩ (.int .i64 V2)).drew := Below.drew ((Below.refl _ W).setCell (p := ⟨w.heap.size, 0, none⟩) (by simp) _)
      have hK1 : KeepsOthers W (W.setCell ⟨w.heap.size, 0, none⟩ (.int .i64 V2)).drew := (KeepsOthers.setCell _ _ _).trans (KeepsOthers.drew _)
      obtain ⟨W1, hW1⟩ : ∃ W1, (W.setCell ⟨w.heap.size, 0, none⟩ (.int .i64 V2)).drew = W1 := ⟨_, rfl⟩
      rw [hW1] at bV1 bS1 bE1 hB1 hK1 ⊢
      clear hW1 cV cS cE fV fS fE bV bS bE
      have cS1 := bS1.cell
      have fS1 := bS1.frozen
      have cE1 := bE1.cell
      have fE1 := bE1.frozen
      gi_wp2
      have hB2 := (hB1.setCell (p := ⟨w.heap.size + 1, 0, none⟩) (by simp) (.int .i64 k2)).setCell (p := ⟨w.heap.size + 1 + 1, 0, none⟩) (by simp; omega) (.bool (!m))
      refine ⟨((hK1.trans (KeepsOthers.setCell _ _ _)).trans (KeepsOthers.setCell _ _ _)).from _, hB2, ⟨⟨?_, ?_⟩, ?_⟩, hB.trans hB2⟩
      · rw [HN.out]; exact (bV1.other (by omega) _).other (by omega) _
      · rw [List.length_append, HK.out.1]
        have e3 : ((k + [(⟨(p, m), hp⟩ : Part)].length : Nat) : Int) = (k2 : Int) := by rw [← HK.out.2]; rfl
        rw [e3]
        exact (bS1.set _).other (by omega) _
      · rw [HE.out]; exact (bE1.other (by omega) _).set _
  case done =>
    rintro D ys W hD rfl ⟨⟨⟨bV, bS⟩, bE⟩, hB⟩ hK
    rcases ends_or bs with hn | ⟨t, ht⟩
    · rw [pin_never bs hn] at bE
      have cE := bE.cell
      gi_wp2
      refine ⟨by simp, .inl ⟨_, _, rfl, run_takeDeferred hK, ?_⟩⟩
      refine ⟨_, results_tmp3 rfl _ _ _, ?_⟩
      exact ⟨⟨_, rfl, unsR_never hn⟩, hB.trans (belowK_b (w := w) (Nat.le_refl _) W D _ _ (by omega) hK rfl rfl)⟩
    · obtain ⟨p1, p2, p3⟩ := pin_ends bs t ht
      rw [p3] at bE
      rw [p2] at bV
      rw [p1] at bS
      have cE := bE.cell
      have cV := bV.cell
      have cS := bS.cell
      by_cases hU : uv bs (t + 1) < 281474976710656
      · have hlen := uns_len bs t ht hU
        have HR1 : Hid (unsOk bs t → UnsR bs _) := Lib.hid (fun o => unsR_good ht o)
        have HR2 : Hid (¬ unsOk bs t → UnsR bs unsBad) := Lib.hid (fun o => unsR_bad ht o)
        have HO : Hid (unsOk bs t ↔ (svB (uv bs (t + 1))).length = t + 1) := Lib.hid (by rw [show (svB (uv bs (t + 1))).length = (prt (uv bs (t + 1))).length by simp [svB], hlen]; exact ⟨fun o => o.2, fun o => ⟨hU, o⟩⟩)
        obtain ⟨U, hUU⟩ : ∃ U, uv bs (t + 1) = U := ⟨_, rfl⟩
        obtain ⟨k, hk⟩ : ∃ k, t + 1 = k := ⟨_, rfl⟩
        rw [hUU, hk] at HR1 HO
        rw [hUU] at cV hU
        rw [hk] at cS
        clear hlen hUU hk p1 p2 p3 bV bE
        have HB := Lib.hid hB
        clear hB
        obtain ⟨m, hm1⟩ : ∃ m, (svB U).length = m + 1 := by have := svB_ends [] U; obtain ⟨m, hm, -⟩ := this; exact ⟨m, hm⟩
        have HM1 := Lib.hid hm1
        have hcall : CallsIn Fence.wide 8 _ _ _ _ _ := callsIn_wide.2 (callsIn_wide.1 (seven_in U hU W))
        rw [hm1] at hcall
        clear hm1
        gi_wp2_with (refine ⟨trivial, ?_⟩; gi_at_call 84; refine hcall.mono ?_; rintro e w' ⟨v, rfl, hrow, hBw⟩; obtain ⟨g, cap, rfl⟩ := ownsRow_succ hrow; have cS1 := (hBw.cell (p := ⟨w.heap.size + 1, 0, none⟩) (by have := bS.lt; simpa using this)).trans cS; have cV1 := (hBw.cell (p := ⟨w.heap.size, 0, none⟩) (by have := bS.lt; simp; omega)).trans cV)
        · have hne2 : ((m : Int) + 1 != (k : Int)) = true := by assumption
          have hno : ¬ unsOk bs t := fun o => by
            have e1 := HO.out.1 o
            have e2 := HM1.out
            have e3 : (m : Int) + 1 = (k : Int) := by omega
            rw [e3] at hne2
            simp at hne2
          have hK' : w'.heap[D]? = some (.deferred (some [])) := (hBw.block D (Array.getElem?_eq_some_iff.1 hK).1).trans hK
          refine ⟨by simp, .inl ⟨_, _, rfl, run_takeDeferred hK', ?_⟩⟩
          refine ⟨_, results_tmp3 rfl _ _ _, ?_⟩
          exact ⟨⟨_, rfl, HR2.out hno⟩, (HB.out.trans (hBw.mono (HB.out.size))).trans (belowK_b (w := w) (Nat.le_refl _) w' D _ _ (by omega) hK' rfl rfl)⟩
        · have hne2 : ((m : Int) + 1 != (k : Int)) = false := by assumption
          have hok : unsOk bs t := HO.out.2 (by
            have e2 := HM1.out
            have e3 : (m : Int) + 1 = (k : Int) := by simpa using hne2
            omega)
          have hK' : w'.heap[D]? = some (.deferred (some [])) := (hBw.block D (Array.getElem?_eq_some_iff.1 hK).1).trans hK
          gi_quiet (skip)
          gi_wp2
          have hdn : Below w.heap.size w' (w'.drewN nq) := ⟨rfl, rfl, rfl, Nat.le_refl _, fun _ _ => rfl⟩
          refine ⟨by simp, .inl ⟨_, _, rfl, run_takeDeferred hK', ?_⟩⟩
          refine ⟨_, results_tmp3 rfl _ _ _, ?_⟩
          exact ⟨⟨_, rfl, HR1.out hok⟩, ((HB.out.trans (hBw.mono (HB.out.size))).trans hdn).trans (belowK_b (w := w) (Nat.le_refl _) (w'.drewN nq) D _ _ (by omega) hK' rfl rfl)⟩
      · have HB := Lib.hid hB
        have HR : Hid (UnsR bs unsBad) := Lib.hid (unsR_bad ht (fun o => hU o.1))
        obtain ⟨U, hUU⟩ : ∃ U, uv bs (t + 1) = U := ⟨_, rfl⟩
        rw [hUU] at cV hU
        clear hB hUU p1 p2 p3 bV bE
        gi_wp2_with (refine ⟨trivial, ?_⟩; gi_at_call 84; refine (callsIn_wide.2 (seven_err (U : Int) (.inr (by omega)) _)).mono ?_; rintro e w' ⟨rfl, rfl⟩)
        refine ⟨by simp, .inl ⟨_, _, rfl, run_takeDeferred hK, ?_⟩⟩
        refine ⟨_, results_tmp3 rfl _ _ _, ?_⟩
        exact ⟨⟨_, rfl, HR.out⟩, (HB.out).trans (belowK_b (w := w) (Nat.le_refl _) W D _ _ (by omega) hK rfl rfl)⟩
  case stop =>
    rintro D c pre W _ _ h _
    exact h.elim
end Go.Proofs.Ytghdilmlfficlaa.S1
