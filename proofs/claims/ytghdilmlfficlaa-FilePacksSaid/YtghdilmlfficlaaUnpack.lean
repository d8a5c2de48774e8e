/- Unpack. -/
import Derived.Test.YtghdilmlfficlaaPart
import Derived.Test.YtghdilmlfficlaaS1Uns2
import Derived.Test.YtghdilmlfficlaaS1Uns3
namespace Go.Proofs.Ytghdilmlfficlaa
open Go.RowKit

noncomputable def unsV (b : List Nat) : Option (Nat × Nat) := by
  classical exact if h : ∃ t, S1.Ends b t ∧ S1.unsOk b t then some (S1.uv b (h.choose + 1), h.choose + 1) else none
theorem unsV_some {b : List Nat} {t : Nat} (h : S1.Ends b t) (o : S1.unsOk b t) : unsV b = some (S1.uv b (t + 1), t + 1) := by
  have hx : ∃ t, S1.Ends b t ∧ S1.unsOk b t := ⟨t, h, o⟩
  unfold unsV
  rw [dif_pos hx]
  have e := hx.choose_spec.1.same h
  rw [e]
def unsVal : Option (Nat × Nat) → Value
  | some (x, u) => .tuple #[.int .i64 x, .int .i64 u, .int .i64 0]
  | none => S1.unsBad
theorem unsR_val {b : List Nat} {v : Value} (h : S1.UnsR b v) : v = unsVal (unsV b) := by
  rcases S1.ends_or b with e | ⟨t, e⟩
  · have hx : ¬ ∃ t, S1.Ends b t ∧ S1.unsOk b t := fun ⟨t, e2, _⟩ => e2.not_never e
    unfold unsV
    rw [dif_neg hx]
    exact h.1 e
  · by_cases o : S1.unsOk b t
    · rw [unsV_some e o, (h.2 t e).1 o]; rfl
    · have hx : ¬ ∃ t, S1.Ends b t ∧ S1.unsOk b t := fun ⟨s, e2, o2⟩ => by
        have := e2.same e
        subst this
        exact o o2
      unfold unsV
      rw [dif_neg hx]
      exact (h.2 t e).2 o
theorem unsV_le {b : List Nat} {x u : Nat} (h : unsV b = some (x, u)) : 0 < u ∧ u ≤ b.length ∧ x < 281474976710656 := by
  unfold unsV at h
  split at h
  · next hx =>
    injection h with h
    injection h with h1 h2
    subst h1; subst h2
    exact ⟨by omega, hx.choose_spec.1.lt, hx.choose_spec.2.1⟩
  · cases h
theorem s1byt {w : World} {B : Nat} {A : Option Addr} {b : List Nat} (h : Byt w B A b) : S1.Byt w B A b := ⟨h.lt, h.cells⟩
/-- The parts, one by one. -/
def runU : Nat → Nat → List Nat → List Nat → Option (List Nat)
  | 0, _, _, _ => none
  | n + 1, size, out, b => if b.length = 0 then (if out.length = size then some out else none) else match partU out b with
    | none => none
    | some (o, u) => if size < o.length then none else runU n size o (b.drop u)
theorem partU_le {out b o : List Nat} {u : Nat} (h : partU out b = some (o, u)) : 2 ≤ u ∧ u ≤ b.length := by
  unfold partU at h
  split at h
  · split at h
    · injection h with h; injection h with h1 h2; subst h1; subst h2
      exact ⟨by omega, by omega⟩
    · cases h
  · split at h
    · cases h
    · split at h
      · cases h
      · injection h with h; injection h with h1 h2; subst h1; subst h2
        exact ⟨by omega, by omega⟩
theorem partU_len {out b o : List Nat} {u : Nat} (h : partU out b = some (o, u)) (h0 : at8 b 0 < 256) : o.length ≤ out.length + 200 := by
  unfold partU at h
  split at h
  · split at h
    · injection h with h; injection h with h1 h2; subst h1; simp; omega
    · cases h
  · split at h
    · cases h
    · split at h
      · cases h
      · injection h with h; injection h with h1 h2; subst h1; rw [repU_len]; omega
theorem partU_lt {out b o : List Nat} {u : Nat} (h : partU out b = some (o, u)) (h1 : ∀ x ∈ out, x < 256) (h2 : ∀ x ∈ b, x < 256) : ∀ x ∈ o, x < 256 := by
  unfold partU at h
  split at h
  · split at h
    · injection h with h; injection h with h3 h4; subst h3
      intro x hx
      rcases List.mem_append.1 hx with hx | hx
      · exact h1 x hx
      · exact h2 x (List.mem_of_mem_drop (List.mem_of_mem_take hx))
    · cases h
  · split at h
    · cases h
    · split at h
      · cases h
      · injection h with h; injection h with h3 h4; subst h3; exact repU_lt h1 _
theorem runU_fuel : ∀ (n m size : Nat) (out b : List Nat), b.length < n → b.length < m → runU n size out b = runU m size out b
  | n + 1, m + 1, size, out, b, h1, h2 => by
    rw [runU, runU]
    by_cases h0 : b.length = 0
    · rw [if_pos h0, if_pos h0]
    · rw [if_neg h0, if_neg h0]
      cases hp : partU out b with
      | none => rfl
      | some r =>
        obtain ⟨o, u⟩ := r
        have hu := partU_le hp
        simp only
        split
        · rfl
        · exact runU_fuel n m size o (b.drop u) (by rw [List.length_drop]; omega) (by rw [List.length_drop]; omega)
theorem runU_step {size u : Nat} {out b o : List Nat} (h : partU out b = some (o, u)) (hs : ¬ size < o.length) (h0 : ¬ b.length = 0) : runU (b.length + 1) size out b = runU ((b.drop u).length + 1) size o (b.drop u) := by
  have hu := partU_le h
  rw [runU, if_neg h0, h]
  simp only [if_neg hs]
  exact runU_fuel _ _ _ _ _ (by rw [List.length_drop]; omega) (Nat.lt_succ_self _)
theorem runU_none {size : Nat} {out b : List Nat} (h : partU out b = none) (h0 : ¬ b.length = 0) : runU (b.length + 1) size out b = none := by
  rw [runU, if_neg h0, h]
theorem runU_big {size u : Nat} {out b o : List Nat} (h : partU out b = some (o, u)) (hs : size < o.length) (h0 : ¬ b.length = 0) : runU (b.length + 1) size out b = none := by
  rw [runU, if_neg h0, h]
  simp only [if_pos hs]
theorem runU_end {size : Nat} {out : List Nat} : runU 1 size out [] = if out.length = size then some out else none := by rw [runU]; rfl
/-- What Unpack answers. -/
noncomputable def unpackR (b : List Nat) : List Nat × Int :=
  if 262144 < b.length then ([], 3) else match unsV b with
    | none => ([], 11)
    | some (x, u) => if 131072 < x then ([], 3) else match runU ((b.drop u).length + 1) x [] (b.drop u) with
      | none => ([], 11)
      | some o => (o, 0)
def UnpP (w : World) (r : List Nat × Int) (e : Ending) (w' : World) : Prop :=
  ∃ A c, e = .returned (.tuple #[.slice A r.1.length c, .int .i64 r.2]) ∧ w'.ownsRow w.heap.size 5 1 (.slice A r.1.length c) r.1.length (r.1.map u8) ∧ (∀ x ∈ r.1, x < 256) ∧ Below w.heap.size w w'
theorem unpP_nil {w w' : World} {k : Int} (h : Below w.heap.size w w') : UnpP w ([], k) (.returned (.tuple #[.slice none 0 0, .int .i64 k])) w' :=
  ⟨none, 0, rfl, World.ownsRow_nil _ _ _ _, by simp, h⟩
theorem byt_drop {w : World} {B bb ob u : Nat} {b : List Nat} (h : Byt w B (some ⟨bb, ob, none⟩) b) (h0 : 0 < b.length) : Byt w B (some ⟨bb, ob + u, none⟩) (b.drop u) := by
  refine ⟨fun x hx => h.lt x (List.mem_of_mem_drop hx), fun hn => ?_⟩
  obtain ⟨b', o', e, hb, hc⟩ := h.cells h0
  injection e with e
  injection e with e1 e2
  subst e1; subst e2
  rw [List.length_drop] at hn
  refine ⟨bb, ob + u, rfl, hb, fun k hk => ?_⟩
  rw [List.length_drop] at hk
  have hc' := hc (u + k) (by omega)
  have e : at8 (b.drop u) k = at8 b (u + k) := by
    unfold at8
    rw [List.getElem?_drop]
  rw [e, show ob + u + k = ob + (u + k) by omega]
  exact hc'

def lenS : Value → Nat
  | .slice _ n _ => n
  | _ => 0
set_option maxRecDepth 100000 in
set_option maxHeartbeats 8000000 in
theorem unpack_any {w : World} {A : Option Addr} {c : Nat} {b : List Nat} (hb : Byt w w.heap.size A b) (hc : b.length ≤ c) (hbl : b.length ≤ 1000000) :
    Calls Try.prog 37 #[.slice A b.length c] w (UnpP w (unpackR b)) := by
  obtain ⟨L, hL⟩ : ∃ L, b.length = L := ⟨_, rfl⟩
  by_cases h1 : 262144 < L
  · have HR : Hid (unpackR b = ([], 3)) := Lib.hid (by unfold unpackR; rw [hL, if_pos h1])
    rw [hL] at hc hbl ⊢
    have hd1 : decide ((262144 : Int) < (L : Int)) = true := decide_eq_true (by omega)
    clear hb hL h1
    go_enter Try.func37, Try.ntmps37
    go_wp2
    go_ret2
    rw [HR.out]
    exact unpP_nil (Below.refl _ _)
  · have hd1 : decide ((262144 : Int) < (L : Int)) = false := decide_eq_false (by omega)
    have HU : Hid (Calls Try.prog 81 #[.slice A L c] w fun e w' => e = .returned (unsVal (unsV b)) ∧ Below w.heap.size w w') := Lib.hid (by
      have h := callsIn_wide.1 (S1.unseven_in A b c w (s1byt hb) hc hbl)
      rw [hL] at h
      refine h.mono ?_
      rintro e w' ⟨⟨v, rfl, hv⟩, hbw⟩
      exact ⟨by rw [unsR_val hv], hbw⟩)
    cases hu : unsV b with
    | none =>
      have HR : Hid (unpackR b = ([], 11)) := Lib.hid (by unfold unpackR; rw [hL, if_neg h1, hu])
      rw [hu] at HU
      unfold unsVal S1.unsBad at HU
      rw [hL]
      clear hb hL h1 hu
      go_enter Try.func37, Try.ntmps37
      go_wp2_with fail
      with_reducible refine HU.out.mono ?_
      rintro e w1 ⟨rfl, hb1⟩
      have HB1 := Lib.hid hb1
      clear hb1
      go_wp2
      go_ret2
      rw [HR.out]
      exact unpP_nil HB1.out
    | some r =>
      obtain ⟨x, u⟩ := r
      have hux := unsV_le hu
      rw [hu] at HU
      unfold unsVal at HU
      by_cases h2 : 131072 < x
      · have HR : Hid (unpackR b = ([], 3)) := Lib.hid (by unfold unpackR; rw [hL, if_neg h1, hu]; simp only [if_pos h2])
        have hd2 : decide ((131072 : Int) < (x : Int)) = true := decide_eq_true (by omega)
        rw [hL]
        clear hb hL h1 hu h2
        go_enter Try.func37, Try.ntmps37
        go_wp2_with fail
        with_reducible refine HU.out.mono ?_
        rintro e w1 ⟨rfl, hb1⟩
        have HB1 := Lib.hid hb1
        clear hb1
        go_wp2
        go_ret2
        rw [HR.out]
        exact unpP_nil HB1.out
      · have hd2 : decide ((131072 : Int) < (x : Int)) = false := decide_eq_false (by omega)
        have HR : Hid (unpackR b = match runU ((b.drop u).length + 1) x [] (b.drop u) with | none => ([], 11) | some o => (o, 0)) := Lib.hid (by unfold unpackR; rw [hL, if_neg h1, hu]; simp only [if_neg h2])
        obtain ⟨bb, ob, hA, hbb, _⟩ := hb.cells (by omega)
        subst hA
        have hx : x ≤ 131072 := by omega
        have huL : (u : Int) ≤ (L : Int) := by omega
        have hu0 : (0 : Int) ≤ (u : Int) := by omega
        have HDL : Hid ((b.drop u).length = L - u) := Lib.hid (by rw [List.length_drop, hL])
        have HBN : Hid (c = u → ∀ A, Byt w w.heap.size A (b.drop u)) := Lib.hid (fun e A => by
          have : b.drop u = [] := List.drop_eq_nil_of_le (by omega)
          rw [this]; exact Byt.nil _ _ _)
        have HBD : Hid (Byt w w.heap.size (some ⟨bb, ob + u, none⟩) (b.drop u)) := Lib.hid (byt_drop hb (by omega))
        have HLB := Lib.hid hb.lt
        rw [hL] at hc ⊢
        have hLs : L ≤ 262144 := by omega
        clear hb hL h1 hu h2 hux
        go_enter Try.func37, Try.ntmps37
        go_wp2_with fail
        with_reducible refine HU.out.mono ?_
        rintro e w1 ⟨rfl, hb1⟩
        have HB1 := Lib.hid hb1
        clear hb1
        obtain ⟨B, hB⟩ : ∃ B, w.heap.size = B := ⟨_, rfl⟩
        have HBS := Lib.hid hB
        rw [hB] at HB1 HBN HBD hbb
        obtain ⟨R0, hR0⟩ : ∃ R0, runU ((b.drop u).length + 1) x [] (b.drop u) = R0 := ⟨_, rfl⟩
        have HR0 := Lib.hid hR0
        rw [hR0] at HR
        clear hB hR0
        go_wp2
        all_goals
          go_loopw [0, 7] (fun t0 t7 wr => ∃ (rest out : List Nat) (Ab : Option Addr) (cb rl : Nat) (Ao : Option Addr) (co ol : Nat), t0 = .slice Ab rl cb ∧ t7 = .slice Ao ol co ∧ rl ≤ cb ∧ rl ≤ 262144 ∧ ol ≤ 131072 ∧ Hid (rest.length = rl) ∧ Hid (out.length = ol) ∧ Hid (Byt wr B Ab rest) ∧ Hid (wr.ownsRow B 5 1 (.slice Ao ol co) ol (out.map u8)) ∧ Hid (∀ y ∈ out, y < 256) ∧ Hid (R0 = runU (rl + 1) x out rest) ∧ Hid (Below B w wr)) (fun t0 _ _ => lenS t0)
          case atStart =>
            first
              | exact ⟨b.drop u, [], _, _, L - u, none, 0, 0, rfl, rfl, by omega, by omega, by omega, HDL, Lib.hid rfl, Lib.hid (HBD.out.below HB1.out), Lib.hid (World.ownsRow_nil _ _ _ _), Lib.hid (by simp), Lib.hid (by rw [← HR0.out, HDL.out]), HB1⟩
              | exact ⟨b.drop u, [], _, _, L - u, none, 0, 0, rfl, rfl, by omega, by omega, by omega, HDL, Lib.hid rfl, Lib.hid ((HBN.out (by first | assumption | (symm; assumption)) _).below HB1.out), Lib.hid (World.ownsRow_nil _ _ _ _), Lib.hid (by simp), Lib.hid (by rw [← HR0.out, HDL.out]), HB1⟩
          case round =>
            obtain ⟨rest, out, Ab, cb, rl, Ao, co, ol, rfl, rfl, hle, hrl, hol, HRL, HOL, HBY, HOW, HLO, HEQ, HBW⟩ := hrel
            have hBw : B ≤ wr.heap.size := by have := HBW.out.size; have := HBS.out; omega
            by_cases h0 : 0 < rl
            · have hd0 : decide ((0 : Int) < (rl : Int)) = true := decide_eq_true (by omega)
              obtain ⟨b2, o2, hA2, hb2, _⟩ := HBY.out.cells (by rw [HRL.out]; exact h0)
              subst hA2
              have hr0 : 0 < rest.length := by rw [HRL.out]; exact h0
              have HNZ : Hid (¬ rest.length = 0) := Lib.hid (by omega)
              have HPA : Hid (Calls Try.prog 82 #[.slice Ao ol co, .slice (some ⟨b2, o2, none⟩) rl cb] wr (PartP wr B (partU out rest))) := Lib.hid (by
                have h := part_any (w := wr) (base := B) (co := co) (c := cb) (Ao := Ao) (A := some ⟨b2, o2, none⟩) (out := out) (b := rest) (by rw [HOL.out]; exact HOW.out) HLO.out HBY.out (by rw [HRL.out]; exact hle) hr0 hBw (by rw [HOL.out]; omega) (by rw [HRL.out]; omega)
                rw [HOL.out, HRL.out] at h
                exact h)
              have hx8 := at8_lt HBY.out.lt 0
              cases hp : partU out rest with
              | none =>
                have HR2 : Hid (R0 = none) := Lib.hid (by rw [HEQ.out, ← HRL.out]; exact runU_none hp HNZ.out)
                rw [hp] at HPA
                unfold PartP at HPA
                dsimp only at HPA
                clear hp
                go_wp2_with fail
                with_reducible refine HPA.out.mono ?_
                rintro e w2 ⟨rfl, hb2'⟩
                have HB2 : Hid (Below B w w2) := Lib.hid (HBW.out.trans hb2')
                clear hb2'
                go_wp2
                go_ret2
                rw [HR.out, HR2.out]
                exact unpP_nil (by rw [HBS.out]; exact HB2.out)
              | some r =>
                obtain ⟨o, u2⟩ := r
                have hu2 := partU_le hp
                have hu3 := partU_len hp hx8
                have HLO2 := Lib.hid (partU_lt hp HLO.out HBY.out.lt)
                rw [HRL.out] at hu2
                rw [HOL.out] at hu3
                rw [hp] at HPA
                unfold PartP at HPA
                dsimp only at HPA
                have hz : ((u2 : Int) == 0) = false := by rw [beq_eq_false_iff_ne]; omega
                obtain ⟨ol2, hol2⟩ : ∃ ol2, o.length = ol2 := ⟨_, rfl⟩
                have HOL2 := Lib.hid hol2
                rw [hol2] at hu3 HPA
                by_cases hs : x < ol2
                · have HR2 : Hid (R0 = none) := Lib.hid (by rw [HEQ.out, ← HRL.out]; exact runU_big hp (by rw [hol2]; exact hs) HNZ.out)
                  have hds : decide ((x : Int) < (ol2 : Int)) = true := decide_eq_true (by omega)
                  clear hp hol2
                  go_wp2_with fail
                  with_reducible refine HPA.out.mono ?_
                  rintro e w2 ⟨A3, c3, rfl, ho3, hb3⟩
                  have HB2 : Hid (Below B w w2) := Lib.hid (HBW.out.trans hb3)
                  clear ho3 hb3
                  go_wp2
                  go_ret2
                  rw [HR.out, HR2.out]
                  exact unpP_nil (by rw [HBS.out]; exact HB2.out)
                · have HE2 : Hid (R0 = runU (rl - u2 + 1) x o (rest.drop u2)) := Lib.hid (by
                    have h := runU_step hp (by rw [hol2]; exact hs) HNZ.out
                    rw [List.length_drop, HRL.out] at h
                    rw [HEQ.out]; exact h)
                  have hds : decide ((x : Int) < (ol2 : Int)) = false := decide_eq_false (by omega)
                  have HDL2 : Hid ((rest.drop u2).length = rl - u2) := Lib.hid (by rw [List.length_drop, HRL.out])
                  have HBN2 : Hid (cb = u2 → ∀ A, Byt wr B A (rest.drop u2)) := Lib.hid (fun e A => by
                    have : rest.drop u2 = [] := List.drop_eq_nil_of_le (by rw [HRL.out]; omega)
                    rw [this]; exact Byt.nil _ _ _)
                  have HBD2 : Hid (Byt wr B (some ⟨b2, o2 + u2, none⟩) (rest.drop u2)) := Lib.hid (byt_drop HBY.out hr0)
                  have hur : (u2 : Int) ≤ (rl : Int) := by omega
                  have hu0' : (0 : Int) ≤ (u2 : Int) := by omega
                  clear hp hol2
                  go_wp2_with fail
                  with_reducible refine HPA.out.mono ?_
                  rintro e w2 ⟨A3, c3, rfl, ho3, hb3⟩
                  have HB2 : Hid (Below B w w2) := Lib.hid (HBW.out.trans hb3)
                  have HO3 := Lib.hid ho3
                  have HB3 := Lib.hid hb3
                  clear ho3 hb3
                  by_cases hcu : cb = u2
                  all_goals
                    go_wp2
                    go_roundw
                    case rel =>
                      first
                        | exact ⟨rest.drop u2, o, _, _, rl - u2, A3, c3, ol2, rfl, rfl, by omega, by omega, by omega, HDL2, HOL2, Lib.hid (HBD2.out.below HB3.out), HO3, HLO2, HE2, HB2⟩
                        | exact ⟨rest.drop u2, o, _, _, rl - u2, A3, c3, ol2, rfl, rfl, by omega, by omega, by omega, HDL2, HOL2, Lib.hid ((HBN2.out hcu _).below HB3.out), HO3, HLO2, HE2, HB2⟩
                    case measure => simp [lenS]; omega
            · have hrl0 : rl = 0 := by omega
              subst hrl0
              have HRN : Hid (rest = []) := Lib.hid (List.length_eq_zero_iff.1 HRL.out)
              have hd0 : decide ((0 : Int) < ((0 : Nat) : Int)) = false := rfl
              by_cases hsz : ol = x
              · have HR2 : Hid (R0 = some out) := Lib.hid (by rw [HEQ.out, HRN.out, runU_end, if_pos (by rw [HOL.out]; exact hsz)])
                have hds : ((ol : Int) != (x : Int)) = false := by rw [hsz]; simp
                clear hsz
                go_wp2
                go_ret2
                rw [HR.out, HR2.out]
                exact ⟨Ao, co, by rw [HOL.out]; rfl, by rw [HBS.out]; simp only [HOL.out]; exact HOW.out, HLO.out, by rw [HBS.out]; exact HBW.out⟩
              · have HR2 : Hid (R0 = none) := Lib.hid (by rw [HEQ.out, HRN.out, runU_end, if_neg (by rw [HOL.out]; exact hsz)])
                have hds : ((ol : Int) != (x : Int)) = true := by rw [bne_iff_ne]; omega
                clear hsz
                go_wp2
                go_ret2
                rw [HR.out, HR2.out]
                exact unpP_nil (by rw [HBS.out]; exact HBW.out)
end Go.Proofs.Ytghdilmlfficlaa
