/- Rows of captures: what is wrong with them, one by one. -/
import Derived.Test.YtghdilmlfficlaaVald
import Derived.Test.YtghdilmlfficlaaCopy
namespace Go.Proofs.Ytghdilmlfficlaa
open Go.RowKit

/-- A capture among others: five cells. -/
def CapE (c : Cap) (w : World) (B : Nat) (vs : List Value) : Prop :=
  ∃ p : Pl, vs = [.string c.note, .slice p.pf c.faces.length p.cf, .slice p.pn c.names.length p.cn, .slice p.ps c.secs.length p.cs, .slice p.pp c.pkts.length p.cp] ∧ CapM w B p c
theorem capK : Kept CapE := fun _ _ _ _ _ _ ⟨p, e, h⟩ hb hB => ⟨p, e, h.keep hb hB⟩
/-- What is wrong with the first that is wrong. -/
def errL : List Cap → Int
  | [] => 0
  | c :: l => if errV c = 0 then errL l else errV c
theorem errL_drop (l : List Cap) (k : Nat) (h : k < l.length) : errL (l.drop k) = if errV l[k] = 0 then errL (l.drop (k + 1)) else errV l[k] := by
  rw [List.drop_eq_getElem_cons h]; rfl

set_option maxRecDepth 100000 in
set_option maxHeartbeats 4000000 in
theorem vall_any {w : World} {A : Option Addr} {c : Nat} {l : List Cap} (hm : Els 5 CapE w w.heap.size A l) (hl : l.length ≤ 140737488355328) :
    Calls Try.prog 49 #[.slice A l.length c] w fun e w' => e = .returned (.int .i64 (errL l)) ∧ Below w.heap.size w w' := by
  have HM := Lib.hid hm
  clear hm
  obtain ⟨B, hB⟩ : ∃ B, w.heap.size = B := ⟨_, rfl⟩
  have HB := Lib.hid hB
  rw [hB] at HM ⊢
  clear hB
  go_enter Try.func49, Try.ntmps49
  go_wp2
  go_loopw [8] (fun i wr => ∃ k : Nat, i = .int .i64 k ∧ k ≤ l.length ∧ Hid (errL l = errL (l.drop k)) ∧ Hid (Below B w wr ∧ B ≤ wr.heap.size)) (fun i _ => l.length - (intOf i).toNat)
  case atStart => exact ⟨0, rfl, Nat.zero_le _, Lib.hid rfl, Lib.hid ⟨Below.refl _ _, by rw [HB.out]; exact Nat.le_refl _⟩⟩
  case round =>
    obtain ⟨k, rfl, hk, HE, HW⟩ := hrel
    by_cases hlt : k < l.length
    · obtain ⟨b, o, hA, hb, vs, hvl, ⟨⟨pf, cf, pn, cn, ps, cs, pp, cp⟩, rfl, hcap⟩, hcell⟩ := (HM.out.keep capK HW.out.1 (Nat.le_refl _)).row k hlt
      subst hA
      have c0 : wr.cell? ⟨b, o + k * 5, none⟩ = _ := hcell 0 _ rfl
      have c1 := hcell 1 _ rfl
      have c2 := hcell 2 _ rfl
      have c3 := hcell 3 _ rfl
      have c4 := hcell 4 _ rfl
      clear hcell
      have HD : Hid (errL (l.drop k) = if errV l[k] = 0 then errL (l.drop (k + 1)) else errV l[k]) := Lib.hid (errL_drop l k hlt)
      obtain ⟨x, hx⟩ : ∃ x, l[k] = x := ⟨_, rfl⟩
      rw [hx] at c0 c1 c2 c3 c4 hcap HD
      clear hx
      obtain ⟨W1, hW1⟩ : ∃ W1, wr.alloc (.cells #[.string x.note, .slice pf x.faces.length cf, .slice pn x.names.length cn, .slice ps x.secs.length cs, .slice pp x.pkts.length cp] 31) = W1 := ⟨_, rfl⟩
      have HB1 : Hid (Below B w W1 ∧ B ≤ W1.heap.size) := Lib.hid (by
        rw [← hW1]; exact ⟨HW.out.1.alloc HW.out.2 _, by rw [alloc_size]; have := HW.out.2; omega⟩)
      have HC : Hid (CapM W1 W1.heap.size ⟨pf, cf, pn, cn, ps, cs, pp, cp⟩ x) := Lib.hid (by
        rw [← hW1]
        exact hcap.keep ((Below.refl _ _).alloc HW.out.2 _) (by rw [alloc_size]; have := HW.out.2; omega))
      have HV := Lib.hid (vald_any HC.out)
      clear hcap HC
      have hK : Blk W1 wr.heap.size 31 #[.string x.note, .slice pf x.faces.length cf, .slice pn x.names.length cn, .slice ps x.secs.length cs, .slice pp x.pkts.length cp] := by rw [← hW1]; exact Blk.new _ _ _
      have q0 := hK.cell 0
      have q1 := hK.cell 1
      have q2 := hK.cell 2
      have q3 := hK.cell 3
      have q4 := hK.cell 4
      clear hK
      by_cases he : errV x = 0
      · have HD2 : Hid (errL l = errL (l.drop (k + 1))) := Lib.hid (by rw [HE.out, HD.out, if_pos he])
        rw [he] at HV
        clear he HD HE
        go_wp2_with fail
        clear hW1
        refine HV.out.mono ?_
        rintro e w1 ⟨rfl, hb1⟩
        have HW1 : Hid (Below B w w1 ∧ B ≤ w1.heap.size) := Lib.hid ⟨HB1.out.1.trans (hb1.mono HB1.out.2), Nat.le_trans HB1.out.2 hb1.size⟩
        clear hb1 c0 c1 c2 c3 c4 q0 q1 q2 q3 q4
        go_wp2
        go_roundw
        case rel => exact ⟨k + 1, by go_num, by omega, HD2, HW1⟩
        case measure => simp [intOf]; omega
      · have HD2 : Hid (errL l = errV x) := Lib.hid (by rw [HE.out, HD.out, if_neg he])
        obtain ⟨E, hE⟩ : ∃ E, errV x = E := ⟨_, rfl⟩
        rw [hE] at HV HD2 he
        have hd : (E != 0) = true := by simpa using he
        clear hE he HD HE
        go_wp2_with fail
        clear hW1
        refine HV.out.mono ?_
        rintro e w1 ⟨rfl, hb1⟩
        have HW1 : Hid (Below B w w1 ∧ B ≤ w1.heap.size) := Lib.hid ⟨HB1.out.1.trans (hb1.mono HB1.out.2), Nat.le_trans HB1.out.2 hb1.size⟩
        clear hb1 c0 c1 c2 c3 c4 q0 q1 q2 q3 q4
        go_wp2
        go_ret
        exact ⟨ret_int HD2.out.symm, HW1.out.1⟩
    · have HR : Hid (errL l = 0) := Lib.hid (by rw [HE.out, List.drop_eq_nil_of_le (by omega)]; rfl)
      go_wp2
      go_ret
      exact ⟨ret_int HR.out.symm, HW.out.1⟩
end Go.Proofs.Ytghdilmlfficlaa
