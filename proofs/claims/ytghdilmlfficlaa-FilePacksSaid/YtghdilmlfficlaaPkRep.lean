/- The packer's repeat. -/
import Derived.Test.YtghdilmlfficlaaPkStep
namespace Go.Proofs.Ytghdilmlfficlaa
open Go.RowKit Go.Maps

theorem zero3P (w : World) : (zeroValue 3).run Try.prog w = .ok (.int .i64 0) w := by kernel_rfl
/-- What repeat tells. -/
def RepOk (bs : List Nat) (at_ n back : Nat) : Prop :=
  n = 0 ∨ (4 ≤ n ∧ n ≤ 130 ∧ at_ + n ≤ bs.length ∧ ∃ f, f < at_ ∧ back = at_ - f ∧ back ≤ 65535 ∧ ∀ i, i < n → at8 bs (f + i) = at8 bs (at_ + i))
def RepP (bs : List Nat) (at_ : Nat) (w : World) (e : Ending) (w' : World) : Prop :=
  ∃ n back : Nat, e = .returned (.tuple #[.int .i64 n, .int .i64 back]) ∧ RepOk bs at_ n back ∧ Below w.heap.size w w'
theorem repP_no {bs : List Nat} {at_ : Nat} {w w' : World} (h : Below w.heap.size w w') : RepP bs at_ w (.returned (.tuple #[.int .i64 0, .int .i64 0])) w' := ⟨0, 0, rfl, Or.inl rfl, h⟩

set_option maxRecDepth 100000 in
set_option maxHeartbeats 8000000 in
theorem repeat_any {w : World} {B g c at_ bm n : Nat} {A : Option Addr} {bs : List Nat} (hg : Blk w g 116 #[.slice A bs.length c, .int .i64 at_, .map (some bm)]) (hm : MapOk w bm n bs at_) (hb : S1.Byt w B A bs) (hBg : B ≤ g) (hc : bs.length ≤ c) (hL : bs.length ≤ 1000000) (ha : at_ < bs.length) :
    Calls Try.prog 85 #[.pointer (some ⟨g, 0, none⟩)] w (RepP bs at_ w) := by
  have hgl := hg.lt
  have HF := Lib.hid (few_any hg (hb.more (by omega)) hc hL (by omega))
  have HG := Lib.hid hg
  have HM := Lib.hid hm
  have HBY := Lib.hid hb
  cases h4 : fewB bs at_ with
  | false =>
    rw [h4] at HF
    clear hg hm hb hc hL ha h4
    go_enter Try.func85, Try.ntmps85
    go_wp2_with fail
    with_reducible refine HF.out.mono ?_
    rintro e w2 ⟨rfl, hb2⟩
    have HB2 := Lib.hid hb2
    clear hb2 HF
    go_wp2
    go_ret2
    exact repP_no HB2.out
  | true =>
    have h5 : at_ + 4 ≤ bs.length := of_decide_eq_true h4
    rw [h4] at HF
    have HLT := Lib.hid hb.lt
    obtain ⟨ab, ao, rfl, hab, hcl⟩ := hb.cells (by omega)
    have HCL := Lib.hid hcl
    clear hg hm hb hc hcl h4
    go_enter Try.func85, Try.ntmps85
    go_wp2_with fail
    with_reducible refine HF.out.mono ?_
    rintro e w2 ⟨rfl, hb2⟩
    have HG2 := Lib.hid (HG.out.below hb2 hgl)
    have hm2 := HM.out.below hb2
    have HB2 := Lib.hid hb2
    obtain ⟨D, ho, hx⟩ := hm2
    have hkey := keyOf_int_mk (P := Try.prog) Try.underlying3 (wf_nat (n := fewN bs at_) (by have := fewN_lt bs at_; omega))
    have hxx := hx (fewN bs at_)
    have t2 : w2.cell? ⟨g, 2, none⟩ = some (.map (some bm)) := HG2.out.cell 2
    have t1 : w2.cell? ⟨g, 1, none⟩ = some (.int .i64 at_) := HG2.out.cell 1
    clear hb2 HF hx
    cases hh : Maps.has D (.int .i64 (fewN bs at_ : Nat)) with
    | false =>
      go_wp2_with (at_lookup; refine wpList_lookup_own_ok_int _ rfl _ _ 114 rfl 3 3 .i64 law3P Try.underlying114 Try.underlying3 (zero3P _) bm n D rfl ho _ _ rfl hkey ?_; rw [hh]; intro z hat hwc)
      go_ret2
      exact repP_no HB2.out
    | true =>
      obtain ⟨f, hf1, hf2, hf3, hf4⟩ := hxx hh
      have HEQ := Lib.hid (few_eq HLT.out hf2 h5 hf4)
      have hsub : IntKind.i64.wrap ((at_ : Int) - (f : Int)) = (at_ : Int) - (f : Int) := by rw [IntKind.wrap_i64]; omega
      by_cases hbk : 65535 < at_ - f
      · have hd : decide ((65535 : Int) < (at_ : Int) - (f : Int)) = true := decide_eq_true (by omega)
        go_wp2_with (at_lookup; refine wpList_lookup_own_ok_int _ rfl _ _ 114 rfl 3 3 .i64 law3P Try.underlying114 Try.underlying3 (zero3P _) bm n D rfl ho _ _ rfl hkey ?_; rw [hh]; intro z hat hwc; have hz : z = (f : Int) := (by rw [hf1] at hat; injection hat with hat; injection hat with e1 e2; exact e2.symm); subst hz; clear hat hwc)
        go_ret2
        exact repP_no HB2.out
      · have hd : decide ((65535 : Int) < (at_ : Int) - (f : Int)) = false := decide_eq_false (by omega)
        have hsub2 : IntKind.i64.wrap ((bs.length : Int) - (at_ : Int)) = (bs.length : Int) - (at_ : Int) := by rw [IntKind.wrap_i64]; omega
        obtain ⟨M, hM⟩ : ∃ M : Nat, M = min 130 (bs.length - at_) := ⟨_, rfl⟩
        have hM4 : 4 ≤ M := by omega
        have hM130 : M ≤ 130 := by omega
        have hMl : at_ + M ≤ bs.length := by omega
        have hmn : (if (bs.length : Int) - (at_ : Int) < 130 then (bs.length : Int) - (at_ : Int) else 130) = (M : Int) := by split <;> omega
        have t0 : w2.cell? ⟨g, 0, none⟩ = some (.slice (some ⟨ab, ao, none⟩) bs.length c) := HG2.out.cell 0
        have HBK : Hid (at_ - f ≤ 65535) := Lib.hid (by omega)
        clear hM hbk hf2 hf4 hxx
        go_wp2_with (at_lookup; refine wpList_lookup_own_ok_int _ rfl _ _ 114 rfl 3 3 .i64 law3P Try.underlying114 Try.underlying3 (zero3P _) bm n D rfl ho _ _ rfl hkey ?_; rw [hh]; intro z hat hwc; have hz : z = (f : Int) := (by rw [hf1] at hat; injection hat with hat; injection hat with e1 e2; exact e2.symm); subst hz; clear hat hwc)
        go_quiet (fail)
        go_wp2
        clear hd
        go_loopw [7] (fun i wr => ∃ k : Nat, i = .int .i64 k ∧ 4 ≤ k ∧ k ≤ M ∧ Hid (∀ i, i < k → at8 bs (f + i) = at8 bs (at_ + i)) ∧ Hid (Below w.heap.size w wr)) (fun i _ => M - (intOf i).toNat)
        case atStart => exact ⟨4, rfl, Nat.le_refl _, hM4, HEQ, Lib.hid (below_drewN HB2.out _)⟩
        case round =>
          obtain ⟨k, rfl, hk4, hkM, HE, HW⟩ := hrel
          have hgr := HG.out.below HW.out hgl
          have r0 : wr.cell? ⟨g, 0, none⟩ = some (.slice (some ⟨ab, ao, none⟩) bs.length c) := hgr.cell 0
          have r1 : wr.cell? ⟨g, 1, none⟩ = some (.int .i64 at_) := hgr.cell 1
          clear hgr t0 t1 t2
          by_cases hlt : k < M
          · have hd1 : decide ((k : Int) < (M : Int)) = true := decide_eq_true (by omega)
            have hd2 : decide (k < M) = true := decide_eq_true hlt
            have x0 : wr.cell? ⟨ab, ao + (f + k), none⟩ = some (.int .u8 (at8 bs (f + k) : Nat)) := (HW.out.cell (p := ⟨ab, ao + (f + k), none⟩) (by show ab < w.heap.size; omega)).trans (HCL.out (f + k) (by omega))
            have x1 : wr.cell? ⟨ab, ao + (at_ + k), none⟩ = some (.int .u8 (at8 bs (at_ + k) : Nat)) := (HW.out.cell (p := ⟨ab, ao + (at_ + k), none⟩) (by show ab < w.heap.size; omega)).trans (HCL.out (at_ + k) (by omega))
            have ha1 : IntKind.i64.wrap ((f : Int) + (k : Int)) = (f : Int) + (k : Int) := by rw [IntKind.wrap_i64]; omega
            have ha2 : IntKind.i64.wrap ((at_ : Int) + (k : Int)) = (at_ : Int) + (k : Int) := by rw [IntKind.wrap_i64]; omega
            have ha3 : IntKind.i64.wrap ((k : Int) + 1) = (k : Int) + 1 := by rw [IntKind.wrap_i64]; omega
            have p0 : (0 : Int) ≤ (f : Int) + (k : Int) := by omega
            have p1 : (f : Int) + (k : Int) < (bs.length : Int) := by omega
            have p2 : (0 : Int) ≤ (at_ : Int) + (k : Int) := by omega
            have p3 : (at_ : Int) + (k : Int) < (bs.length : Int) := by omega
            have p4 : f + k < bs.length := by omega
            have p5 : at_ + k < bs.length := by omega
            obtain ⟨u, hu⟩ : ∃ u, at8 bs (f + k) = u := ⟨_, rfl⟩
            obtain ⟨v, hv⟩ : ∃ v, at8 bs (at_ + k) = v := ⟨_, rfl⟩
            have HUV : Hid (at8 bs (f + k) = u ∧ at8 bs (at_ + k) = v) := Lib.hid ⟨hu, hv⟩
            rw [hu] at x0
            rw [hv] at x1
            clear hu hv
            by_cases huv : u = v
            · have d3 : ((u : Int) == (v : Int)) = true := by simp [huv]
              have HE2 : Hid (∀ i, i < k + 1 → at8 bs (f + i) = at8 bs (at_ + i)) := Lib.hid (fun i hi => by
                by_cases hik : i < k
                · exact HE.out i hik
                · have : i = k := by omega
                  subst this
                  rw [HUV.out.1, HUV.out.2, huv])
              clear huv
              go_wp2_with fail
              go_quiet (fail)
              go_wp2
              go_roundw
              case rel => exact ⟨k + 1, by go_num, by omega, by omega, HE2, Lib.hid (below_drewN HW.out _)⟩
              case measure => simp [intOf]; omega
            · have d3 : ((u : Int) == (v : Int)) = false := by rw [beq_eq_false_iff_ne]; omega
              clear huv
              go_wp2_with fail
              go_quiet (fail)
              go_wp2_with fail
              go_quiet (fail)
              go_wp2
              go_ret2
              refine ⟨k, at_ - f, ?_, Or.inr ⟨hk4, by omega, by omega, f, hf3, rfl, HBK.out, HE.out⟩, below_drewN (below_drewN HW.out _) _⟩
              rw [show ((at_ - f : Nat) : Int) = (at_ : Int) - (f : Int) by omega]
              rfl
          · have hd1 : decide ((k : Int) < (M : Int)) = false := decide_eq_false (by omega)
            have hd2 : decide (k < M) = false := decide_eq_false hlt
            clear hlt
            go_wp2_with fail
            go_quiet (fail)
            go_wp2_with fail
            go_quiet (fail)
            go_wp2
            go_ret2
            refine ⟨k, at_ - f, ?_, Or.inr ⟨hk4, by omega, by omega, f, hf3, rfl, HBK.out, HE.out⟩, below_drewN (below_drewN HW.out _) _⟩
            rw [show ((at_ - f : Nat) : Int) = (at_ : Int) - (f : Int) by omega]
            rfl
end Go.Proofs.Ytghdilmlfficlaa
