/- fitsOld. -/
import Derived.Test.YtlimkckomdipkaaRJn
namespace Go.Proofs.Ytlimkckomdipkaa
open Go.RowKit

theorem okay4 {c : Cap} (he : errV c = 0) : c.faces.length ≤ 4 ∧ c.pkts.length ≤ 100 := by
  have h := of_decide_eq_false (errV_ok he).2
  omega
theorem time4 {c : Cap} (he : errV c = 0) : ∀ p ∈ c.pkts, 0 ≤ p.time ∧ p.time ≤ 1000000000000000 := by
  intro p hp
  obtain ⟨hc, _⟩ := errV_ok he
  simp only [capB, partsB, Bool.and_eq_true, List.all_eq_true] at hc
  have := hc.2.2.2.2 p hp
  simp only [pktB, pktS, Bool.and_eq_true, within_iff] at this
  exact this.2.2.1

set_option maxRecDepth 100000 in
set_option maxHeartbeats 4000000 in
theorem fits_any {w : World} {p : Pl} {c : Cap} (hm : CapM w w.heap.size p c) (he : errV c = 0) :
    Calls Try.prog 30 #[capV p c] w fun e w' => e = .returned (.bool (eqB c (plainC c))) ∧ Below w.heap.size w w' := by
  obtain ⟨pf, cf, pn, cn, ps, cs, pp, cp⟩ := p
  obtain ⟨B, hB⟩ : ∃ B, w.heap.size = B := ⟨_, rfl⟩
  obtain ⟨W0, hW0⟩ : ∃ W0, w.alloc (.cells #[.string c.note, .slice pf c.faces.length cf, .slice pn c.names.length cn, .slice ps c.secs.length cs, .slice pp c.pkts.length cp] 27) = W0 := ⟨_, rfl⟩
  have HK0 : Hid (Blk W0 B 27 #[.string c.note, .slice pf c.faces.length cf, .slice pn c.names.length cn, .slice ps c.secs.length cs, .slice pp c.pkts.length cp] ∧ Below B w W0) := Lib.hid (by rw [← hW0, ← hB]; exact ⟨Blk.new _ _ _, (Below.refl _ w).alloc (Nat.le_refl _) _⟩)
  have HM := Lib.hid (show CapM w B ⟨pf, cf, pn, cn, ps, cs, pp, cp⟩ c by rw [← hB]; exact hm)
  have HE := Lib.hid he
  have HBE := Lib.hid hB
  rw [hB]
  have lf : c.faces.length ≤ 4 := (okay4 he).1
  have lp : c.pkts.length ≤ 100 := (okay4 he).2
  have q0 : W0.cell? ⟨B, 0, none⟩ = some (.string c.note) := HK0.out.1.cell 0
  have q1 : W0.cell? ⟨B, 1, none⟩ = some (.slice pf c.faces.length cf) := HK0.out.1.cell 1
  have q2 : W0.cell? ⟨B, 2, none⟩ = some (.slice pn c.names.length cn) := HK0.out.1.cell 2
  have q3 : W0.cell? ⟨B, 3, none⟩ = some (.slice ps c.secs.length cs) := HK0.out.1.cell 3
  have q4 : W0.cell? ⟨B, 4, none⟩ = some (.slice pp c.pkts.length cp) := HK0.out.1.cell 4
  clear hm he
  by_cases h1 : c.faces.length = 1
  rotate_left
  · have HR : Hid (eqB c (plainC c) = false) := Lib.hid (eqB_false fun e => h1 (plain_parts e).1)
    have x1 : ((c.faces.length : Int) != 1) = true := by simp; omega
    clear h1
    go_enter Try.func30, Try.ntmps30
    go_wp2
    go_ret
    exact ⟨ret_bool HR.out.symm, HK0.out.2⟩
  have x1 : ((c.faces.length : Int) != 1) = false := by simp [h1]
  have hlen0 : 0 < c.faces.length := by omega
  have H1 := Lib.hid h1
  obtain ⟨bf, of_, hA, hbl, vs, _, ⟨rfl, hbg⟩, hcell⟩ := (HM.out.faces.keep facK HK0.out.2 (Nat.le_refl _)).row 0 hlen0
  change pf = _ at hA
  subst hA
  have f0 : W0.cell? ⟨bf, of_, none⟩ = some (.string c.faces[0].name) := hcell 0 _ rfl
  clear hcell
  have hf0 : (0 : Int) < (c.faces.length : Int) := by omega
  clear hbg hbl h1
  obtain ⟨nm, hnm⟩ : ∃ nm, c.faces[0].name = nm := ⟨_, rfl⟩
  have HNM := Lib.hid hnm
  rw [hnm] at f0
  by_cases h2 : nm.size = 0
  rotate_left
  · have HR : Hid (eqB c (plainC c) = false) := Lib.hid (eqB_false fun e => h2 (by rw [← HNM.out]; exact noT_iff.1 ((plain_parts e).2.1 _ (List.getElem_mem _))))
    obtain ⟨y1, y2⟩ := str_some h2
    clear h2 hnm
    go_enter Try.func30, Try.ntmps30
    go_wp2
    go_ret
    exact ⟨ret_bool HR.out.symm, HK0.out.2⟩
  have y1 := empty_toList h2
  have H2 := Lib.hid h2
  clear h2 hnm
  by_cases h3 : c.note.size = 0
  rotate_left
  · have HR : Hid (eqB c (plainC c) = false) := Lib.hid (eqB_false fun e => h3 (noT_iff.1 (plain_parts e).2.2.1))
    obtain ⟨z1, z2⟩ := str_some h3
    clear h3
    go_enter Try.func30, Try.ntmps30
    go_wp2
    go_ret
    exact ⟨ret_bool HR.out.symm, HK0.out.2⟩
  have z1 := empty_toList h3
  have H3 := Lib.hid h3
  clear h3
  by_cases h4 : c.names.length = 0
  rotate_left
  · have HR : Hid (eqB c (plainC c) = false) := Lib.hid (eqB_false fun e => h4 (by rw [(plain_parts e).2.2.2.1]; rfl))
    have x2 : decide (0 < c.names.length) = true := decide_eq_true (by omega)
    clear h4
    go_enter Try.func30, Try.ntmps30
    go_wp2
    go_ret
    exact ⟨ret_bool HR.out.symm, HK0.out.2⟩
  have x2 : decide (0 < c.names.length) = false := decide_eq_false (by omega)
  have H4 := Lib.hid h4
  clear h4
  by_cases h5 : c.secs.length = 0
  rotate_left
  · have HR : Hid (eqB c (plainC c) = false) := Lib.hid (eqB_false fun e => h5 (by rw [(plain_parts e).2.2.2.2.1]; rfl))
    have x3 : decide (0 < c.secs.length) = true := decide_eq_true (by omega)
    clear h5
    go_enter Try.func30, Try.ntmps30
    go_wp2
    go_ret
    exact ⟨ret_bool HR.out.symm, HK0.out.2⟩
  have x3 : decide (0 < c.secs.length) = false := decide_eq_false (by omega)
  have H5 := Lib.hid h5
  clear h5
  go_enter Try.func30, Try.ntmps30
  go_wp2
  go_loopw [3] (fun i wr => ∃ k : Nat, i = .int .i64 k ∧ k ≤ c.pkts.length ∧ wr = W0 ∧ Hid (∀ p ∈ c.pkts.take k, p.note = noT)) (fun i _ => c.pkts.length - (intOf i).toNat)
  case atStart => exact ⟨0, rfl, Nat.zero_le _, rfl, Lib.hid (by simp)⟩
  case round =>
    obtain ⟨k, rfl, hk, rfl, HN⟩ := hrel
    by_cases hlt : k < c.pkts.length
    · obtain ⟨b, o, hA, hb, vs, _, ⟨A2, cp2, rfl, _, _, _, _, _⟩, hcell⟩ := (HM.out.pkts.keep pktK HK0.out.2 (Nat.le_refl _)).row k hlt
      change pp = _ at hA
      subst hA
      have c0 : wr.cell? ⟨b, o + k * 5, none⟩ = _ := hcell 0 _ rfl
      have c4 := hcell 4 _ rfl
      clear hcell
      obtain ⟨tm, htm, htm2⟩ : ∃ q : Nat, c.pkts[k].time = q ∧ q ≤ 1000000000000000 := by
        obtain ⟨u1, u2⟩ := time4 HE.out _ (List.getElem_mem hlt)
        exact ⟨c.pkts[k].time.toNat, by omega, by omega⟩
      rw [htm] at c0
      by_cases hn : c.pkts[k].note.size = 0
      · have s1 := empty_toList hn
        have HN1 : Hid (∀ p ∈ c.pkts.take (k + 1), p.note = noT) := Lib.hid (by
          rw [List.take_succ_eq_append_getElem hlt]
          intro p hp
          rcases List.mem_append.1 hp with h | h
          · exact HN.out p h
          · obtain rfl := List.mem_singleton.1 h
            exact noT_iff.2 hn)
        obtain ⟨tq, htq⟩ : ∃ q : Nat, tm / 1000000 = q := ⟨_, rfl⟩
        have htq' : (tm : Int) / 1000000 = (tq : Int) := by omega
        have hge : ¬ ((4294967296 : Int) ≤ (tq : Int)) := by omega
        have hge2 : (tq : Int) < 4294967296 := by omega
        generalize c.pkts[k].note = note at s1 c4
        clear hn htm htq
        go_wp2
        go_roundw
        case rel => exact ⟨k + 1, by go_num, by omega, trivial, HN1⟩
        case measure => simp [intOf]; omega
      · have HR : Hid (eqB c (plainC c) = false) := Lib.hid (eqB_false fun e => hn (noT_iff.1 ((plain_parts e).2.2.2.2.2 _ (List.getElem_mem hlt))))
        obtain ⟨s1, s2⟩ := str_some hn
        generalize c.pkts[k].note = note at s1 s2 c4
        clear hn htm
        go_wp2
        go_ret
        exact ⟨ret_bool HR.out.symm, HK0.out.2⟩
    · have hkn : k = c.pkts.length := by omega
      subst hkn
      have HR : Hid (eqB c (plainC c) = true) := Lib.hid (eqB_true (plain_of_parts HE.out H1.out (fun f hf => by
        obtain ⟨i, hi, rfl⟩ := List.mem_iff_getElem.1 hf
        have hi0 : i = 0 := by have := H1.out; omega
        subst hi0
        rw [HNM.out]
        exact noT_iff.2 H2.out) (noT_iff.2 H3.out) (List.eq_nil_of_length_eq_zero H4.out) (List.eq_nil_of_length_eq_zero H5.out) (by have := HN.out; rw [List.take_length] at this; exact this)))
      go_wp2
      go_ret
      exact ⟨ret_bool HR.out.symm, HK0.out.2⟩
end Go.Proofs.Ytlimkckomdipkaa
