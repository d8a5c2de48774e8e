/- slices.Equal at faces. -/
import Derived.Test.YtlimkckomdipkaaEq
namespace Go.Proofs.Ytlimkckomdipkaa
open Go.RowKit
abbrev facL (f : Fac) : Array Value := #[.string f.name, .int .i64 f.link, .int .i64 f.snap]
set_option maxRecDepth 20000 in
theorem neq_fac (f g : Fac) (w : World) : Sem.run Try.prog (binOp .neq 54 (.agg (facL f)) (.agg (facL g))) w = .ok (.bool (!eqB f g)) w := by
  have u3 := Try.underlying3
  have u9 := Try.underlying9
  have a3 := Try.isAgg3
  have a9 := Try.isAgg9
  have z3 := Try.sizeOf3
  have z9 := Try.sizeOf9
  have hS : Try.prog.underlying 54 = some (.struct (Try.prog.fieldsOf 54)) := by kernel_rfl
  have hp : Try.prog.stoodInHeld 54 = false := by kernel_rfl
  rw [run_neq_struct, show (10000 : Nat) = 9999 + 1 from rfl, run_equalIn_agg w 9999 54 _ _ hS hp]
  simp only [Program.fieldsOf, Try.underlying54]
  go_simp
  by_cases h1 : f.name = g.name
  rotate_left
  · have h1' : ¬ f.name.toList = g.name.toList := beq_eq_false_iff_ne.1 (str_ne h1)
    rw [eqB_false (fun e => h1 (by rw [e]))]; simp [h1']
  by_cases h2 : f.link = g.link
  rotate_left
  · rw [eqB_false (fun e => h2 (by rw [e])), h1]; simp [h2]
  by_cases h3 : f.snap = g.snap
  rotate_left
  · rw [eqB_false (fun e => h3 (by rw [e])), h1]; simp [h2, h3]
  rw [eqB_true (by cases f; cases g; simp only at h1 h2 h3; rw [h1, h2, h3]), h1]
  simp [h2, h3]
theorem grd_fac (f g : Fac) (a b : Operand) (w : World) : (eqGuard .neq 54 a b (.agg (facL f)) (.agg (facL g))).run Try.prog w = .ok () w :=
  run_eqGuard_agg w .neq 54 a b _ _ (by kernel_rfl)

set_option maxRecDepth 100000 in
set_option maxHeartbeats 4000000 in
theorem facsq_any {w : World} {A1 A2 : Option Addr} {c1 c2 : Nat} {xs ys : List Fac} (h1 : Els 3 FacE w w.heap.size A1 xs) (h2 : Els 3 FacE w w.heap.size A2 ys) (l1 : xs.length ≤ 140737488355328) :
    Calls Try.prog 45 #[.slice A1 xs.length c1, .slice A2 ys.length c2] w fun e w' => e = .returned (.bool (eqB xs ys)) ∧ Below w.heap.size w w' := by
  by_cases hlen : xs.length = ys.length
  rotate_left
  · have HR : Hid (eqB xs ys = false) := Lib.hid (eqB_false (fun e => hlen (by rw [e])))
    have hne : ((xs.length : Int) != (ys.length : Int)) = true := by rw [bne_iff_ne]; omega
    clear hlen
    go_enter Try.func45, Try.ntmps45
    go_wp2
    go_ret
    exact ⟨ret_bool HR.out.symm, Below.refl _ _⟩
  obtain ⟨B, hB⟩ : ∃ B, w.heap.size = B := ⟨_, rfl⟩
  have HB := Lib.hid hB
  obtain ⟨n, hn⟩ : ∃ n, ys.length = n := ⟨_, rfl⟩
  have HL1 := Lib.hid (hlen.trans hn)
  have HL2 := Lib.hid hn
  have H1 := Lib.hid h1
  have H2 := Lib.hid h2
  rw [hlen, hn]
  rw [hB] at H1 H2 ⊢
  rw [hlen, hn] at l1
  clear hB hn hlen h1 h2
  go_enter Try.func45, Try.ntmps45
  go_wp2
  go_loopw [5, 13] (fun _ i wr => ∃ k : Nat, i = .int .i64 k ∧ k ≤ n ∧ Hid (xs.take k = ys.take k) ∧ Hid (Below B w wr)) (fun _ i _ => n - (intOf i).toNat)
  case atStart => exact ⟨0, rfl, Nat.zero_le _, Lib.hid (by simp), Lib.hid (Below.refl _ _)⟩
  case round =>
    obtain ⟨k, rfl, hk, HE, HW⟩ := hrel
    by_cases hlt : k < n
    · have hk1 : k < xs.length := by rw [HL1.out]; exact hlt
      have hk2 : k < ys.length := by rw [HL2.out]; exact hlt
      obtain ⟨b1, o1, hA1, hb1, vs1, hl1, ⟨rfl, _, _, _⟩, hcx⟩ := (H1.out.keep facK HW.out (Nat.le_refl _)).row k hk1
      obtain ⟨b2, o2, hA2, hb2, vs2, hl2, ⟨rfl, _, _, _⟩, hcy⟩ := (H2.out.keep facK HW.out (Nat.le_refl _)).row k hk2
      have x0 : wr.cell? ⟨b1, o1 + k * 3, none⟩ = _ := hcx 0 _ rfl
      have y0 : wr.cell? ⟨b2, o2 + k * 3, none⟩ = _ := hcy 0 _ rfl
      have x1 := hcx 1 _ rfl
      have y1 := hcy 1 _ rfl
      have x2 := hcx 2 _ rfl
      have y2 := hcy 2 _ rfl
      have hnq := fun w => neq_fac xs[k] ys[k] w
      have hgd := fun a b w => grd_fac xs[k] ys[k] a b w
      unfold facL at hnq hgd
      subst hA1
      subst hA2
      clear hcx hcy
      cases hq : eqB xs[k] ys[k] with
      | false =>
        have HR : Hid (eqB xs ys = false) := Lib.hid (by
          refine eqB_false (fun e => ?_)
          have : xs[k] = ys[k] := by simp only [e]
          rw [eqB_true this] at hq; cases hq)
        rw [hq] at hnq
        clear hq
        go_wp2
        go_quiet (fail)
        go_wp2
        go_ret
        exact ⟨ret_bool HR.out.symm, below_drewN HW.out _⟩
      | true =>
        have HE2 : Hid (xs.take (k + 1) = ys.take (k + 1)) := Lib.hid (by
          rw [List.take_succ_eq_append_getElem hk1, List.take_succ_eq_append_getElem hk2, HE.out, eqB_iff.1 hq])
        rw [hq] at hnq
        clear hq
        go_wp2
        go_quiet (fail)
        go_wp2
        go_roundw
        case rel => exact ⟨k + 1, by go_num, by omega, HE2, Lib.hid (below_drewN HW.out _)⟩
        case measure => simp [intOf]; omega
    · have hkn : k = n := by omega
      have HR : Hid (eqB xs ys = true) := Lib.hid (eqB_true (by
        have := HE.out
        rw [List.take_of_length_le (by rw [HL1.out, hkn]; exact Nat.le_refl _), List.take_of_length_le (by rw [HL2.out, hkn]; exact Nat.le_refl _)] at this
        exact this))
      go_wp2
      go_ret
      exact ⟨ret_bool HR.out.symm, HW.out⟩
end Go.Proofs.Ytlimkckomdipkaa
