/- Tokens of any kind, as arguments: Same, the program's. -/
import Derived.Test.YtnaopgajinbnmaaGreatDoorSame
namespace Go.Proofs.YtnaopgajinbnmaaGreatDoor
open Go.RowKit

/-- A token of any kind and number. -/
structure ATk where
  k : Int
  n : Int
  a : Int
  s : ByteArray
def ofTok (t : Tok) : ATk := ⟨(t.kind : Nat), (t.num : Nat), (t.at_ : Nat), ⟨t.text.toArray⟩⟩
def ATokAt (w : World) (A : Option Addr) (ts : List ATk) : Prop := 0 < ts.length → ∃ b o, A = some ⟨b, o, none⟩ ∧ b < w.heap.size ∧
  ∀ i (h : i < ts.length), w.cell? ⟨b, o + i * 4, none⟩ = some (.int .i64 ts[i].k) ∧ w.cell? ⟨b, o + i * 4 + 1, none⟩ = some (.int .i64 ts[i].n) ∧
    w.cell? ⟨b, o + i * 4 + 2, none⟩ = some (.int .i64 ts[i].a) ∧ w.cell? ⟨b, o + i * 4 + 3, none⟩ = some (.string ts[i].s)
theorem ATokAt.below {w w' : World} {A : Option Addr} {ts : List ATk} (h : ATokAt w A ts) (hb : Below w.heap.size w w') : ATokAt w' A ts := fun h0 => by
  obtain ⟨b, o, e, hlt, hc⟩ := h h0
  have key : ∀ j, w'.cell? ⟨b, j, none⟩ = w.cell? ⟨b, j, none⟩ := fun j => hb.cell (p := ⟨b, j, none⟩) hlt
  exact ⟨b, o, e, Nat.lt_of_lt_of_le hlt hb.size, fun i hi => ⟨(key _).trans (hc i hi).1, (key _).trans (hc i hi).2.1, (key _).trans (hc i hi).2.2.1, (key _).trans (hc i hi).2.2.2⟩⟩
theorem aTok_of {w : World} {A : Option Addr} {ts : List Tok} (h : TokAt w A ts) : ATokAt w A (ts.map ofTok) := fun h0 => by
  rw [List.length_map] at h0
  obtain ⟨b, o, e, hlt, hc⟩ := h h0
  refine ⟨b, o, e, hlt, fun i hi => ?_⟩
  rw [List.length_map] at hi
  rw [List.getElem_map]
  exact hc i hi

/-- Whether two tokens are the same. -/
def sameA (x y : ATk) : Bool := x.k == y.k && (x.n == y.n && x.s.toList == y.s.toList)
def sameAL : List ATk → List ATk → Bool
  | [], [] => true
  | x :: r, y :: q => sameA x y && sameAL r q
  | _, _ => false
theorem sameAL_len : ∀ (a b : List ATk), a.length ≠ b.length → sameAL a b = false
  | [], [], h => absurd rfl h
  | [], _ :: _, _ => rfl
  | _ :: _, [], _ => rfl
  | x :: r, y :: q, h => by rw [sameAL, sameAL_len r q (by simpa using h), Bool.and_false]
theorem sameAL_refl : ∀ (a : List ATk), sameAL a a = true
  | [] => rfl
  | x :: r => by rw [sameAL, sameAL_refl r]; simp [sameA]

abbrev aVV (t : ATk) : Value := .agg #[.int .i64 t.k, .int .i64 t.n, .int .i64 t.a, .string t.s]
set_option maxRecDepth 100000 in
set_option maxHeartbeats 4000000 in
theorem asame1_any (x y : ATk) (w : World) : Calls Tryz.prog 18 #[aVV x, aVV y] w fun e w' => e = .returned (.bool (sameA x y)) ∧ Below w.heap.size w w' := by
  obtain ⟨xk, xn, xa, xt⟩ := x
  obtain ⟨yk, yn, ya, yt⟩ := y
  by_cases h1 : xk = yk
  · have e1 : ((xk : Int) == (yk : Int)) = true := by simp [h1]
    by_cases h2 : xn = yn
    · have e2 : ((xn : Int) == (yn : Int)) = true := by simp [h2]
      have HF : Hid (sameA ⟨xk, xn, xa, xt⟩ ⟨yk, yn, ya, yt⟩ = (xt.toList == yt.toList)) := Lib.hid (by simp [sameA, h1, h2])
      clear h1 h2
      go_enter Tryz.func18, Tryz.ntmps18
      go_wp2
      go_ret
      exact ⟨ret_bool HF.out.symm, ((Below.refl _ w).alloc (Nat.le_refl _) _).alloc (by simp) _⟩
    · have e2 : ((xn : Int) == (yn : Int)) = false := by simp; omega
      have HF : Hid (sameA ⟨xk, xn, xa, xt⟩ ⟨yk, yn, ya, yt⟩ = false) := Lib.hid (by simp [sameA, h2])
      clear h1 h2
      go_enter Tryz.func18, Tryz.ntmps18
      go_wp2
      go_ret
      exact ⟨ret_bool HF.out.symm, ((Below.refl _ w).alloc (Nat.le_refl _) _).alloc (by simp) _⟩
  · have e1 : ((xk : Int) == (yk : Int)) = false := by simp; omega
    have HF : Hid (sameA ⟨xk, xn, xa, xt⟩ ⟨yk, yn, ya, yt⟩ = false) := Lib.hid (by simp [sameA, h1])
    clear h1
    go_enter Tryz.func18, Tryz.ntmps18
    go_wp2
    go_ret
    exact ⟨ret_bool HF.out.symm, ((Below.refl _ w).alloc (Nat.le_refl _) _).alloc (by simp) _⟩

theorem sameAL_drop (xs ys : List ATk) (k : Nat) (h1 : k < xs.length) (h2 : k < ys.length) : sameAL (xs.drop k) (ys.drop k) = (sameA xs[k] ys[k] && sameAL (xs.drop (k + 1)) (ys.drop (k + 1))) := by
  rw [List.drop_eq_getElem_cons h1, List.drop_eq_getElem_cons h2, sameAL]

set_option maxRecDepth 100000 in
set_option maxHeartbeats 8000000 in
theorem aequal_any (xs ys : List ATk) (A C : Option Addr) (c1 c2 : Nat) (hx : xs.length ≤ 1048576) (hy : ys.length ≤ 1048576) {w : World} (hA : ATokAt w A xs) (hC : ATokAt w C ys) :
    Calls Tryz.prog 17 #[.slice A xs.length c1, .slice C ys.length c2, .func (.func 18) #[] #[]] w fun e w' => e = .returned (.bool (sameAL xs ys)) ∧ Below w.heap.size w w' := by
  by_cases hlen : xs.length = ys.length
  · obtain ⟨n, hn⟩ : ∃ n, xs.length = n := ⟨_, rfl⟩
    have hn2 : ys.length = n := by omega
    have HN := Lib.hid (And.intro hn hn2)
    rw [hn] at hx ⊢
    rw [hn2]
    clear hn hn2 hlen hy
    go_enter Tryz.func17, Tryz.ntmps17
    go_wp2
    go_loopw [17] (fun i wr => ∃ k : Nat, i = .int .i64 k ∧ k ≤ n ∧ Hid (sameAL xs ys = sameAL (xs.drop k) (ys.drop k) ∧ Below w.heap.size w wr)) (fun i _ => n - (intOf i).toNat)
    case atStart => exact ⟨0, rfl, Nat.zero_le _, Lib.hid ⟨rfl, Below.refl _ _⟩⟩
    case round =>
      obtain ⟨k, rfl, hk, HW⟩ := hrel
      by_cases hlt : k < n
      · have hkx : k < xs.length := by rw [HN.out.1]; exact hlt
        have hky : k < ys.length := by rw [HN.out.2]; exact hlt
        obtain ⟨b, o, rfl, hbl, hc⟩ := hA.below HW.out.2 (by omega)
        obtain ⟨b', o', rfl, hbl', hc'⟩ := hC.below HW.out.2 (by omega)
        obtain ⟨p0, p1, p2, p3⟩ := hc k hkx
        obtain ⟨r0, r1, r2, r3⟩ := hc' k hky
        have HS := Lib.hid (sameAL_drop xs ys k hkx hky)
        generalize xs[k] = x at p0 p1 p2 p3 HS
        generalize ys[k] = y at r0 r1 r2 r3 HS
        obtain ⟨xk, xn, xa, xt⟩ := x
        obtain ⟨yk, yn, ya, yt⟩ := y
        have hd : decide ((k : Int) < (n : Int)) = true := decide_eq_true (by omega)
        have hE := fun w => asame1_any ⟨xk, xn, xa, xt⟩ ⟨yk, yn, ya, yt⟩ w
        obtain ⟨bb, hbb⟩ : ∃ bb, sameA ⟨xk, xn, xa, xt⟩ ⟨yk, yn, ya, yt⟩ = bb := ⟨_, rfl⟩
        rw [hbb] at hE HS
        clear hc hc' hA hC hbb
        go_wp2_with (go_at_call 18; refine (hE _).mono ?_)
        rintro e w2 rfl hb2
        have hA2 := ((Below.refl wr.heap.size wr).alloc (Nat.le_refl _) (.cells #[.int .i64 xk, .int .i64 xn, .int .i64 xa, .string xt] 32)).alloc (by simp) (.cells #[.int .i64 yk, .int .i64 yn, .int .i64 ya, .string yt] 32)
        have hB2 : Below w.heap.size w w2 := HW.out.2.trans ((hA2.trans (hb2.mono (by omega))).mono HW.out.2.size)
        cases bb with
        | true =>
          have HN2 : Hid (sameAL xs ys = sameAL (xs.drop (k + 1)) (ys.drop (k + 1)) ∧ Below w.heap.size w w2) := Lib.hid ⟨by rw [HW.out.1, HS.out, Bool.true_and], hB2⟩
          go_wp2
          exact ⟨⟨k + 1, by go_num, by omega, HN2⟩, by simp [intOf]; omega⟩
        | false =>
          have HF : Hid (sameAL xs ys = false) := Lib.hid (by rw [HW.out.1, HS.out, Bool.false_and])
          go_wp2
          go_ret
          exact ⟨ret_bool HF.out.symm, hB2⟩
      · have hkn : k = n := by omega
        subst hkn
        have HF : Hid (sameAL xs ys = true) := Lib.hid (by rw [HW.out.1, List.drop_eq_nil_of_le (by rw [HN.out.1]; omega), List.drop_eq_nil_of_le (by rw [HN.out.2]; omega)]; rfl)
        go_wp2
        go_ret
        exact ⟨ret_bool HF.out.symm, HW.out.2⟩
  · have HF : Hid (sameAL xs ys = false) := Lib.hid (sameAL_len _ _ hlen)
    obtain ⟨n, hn⟩ : ∃ n, xs.length = n := ⟨_, rfl⟩
    obtain ⟨m, hm⟩ : ∃ m, ys.length = m := ⟨_, rfl⟩
    rw [hn] at hlen hx ⊢
    rw [hm] at hlen hy ⊢
    have hne : ((n : Int) == (m : Int)) = false := by simp; omega
    clear hn hm
    go_enter Tryz.func17, Tryz.ntmps17
    go_wp2
    go_ret
    exact ⟨ret_bool HF.out.symm, Below.refl _ _⟩

set_option maxHeartbeats 4000000 in
theorem asame_any (xs ys : List ATk) (A C : Option Addr) (c1 c2 : Nat) (hx : xs.length ≤ 1048576) (hy : ys.length ≤ 1048576) {w : World} (hA : ATokAt w A xs) (hC : ATokAt w C ys) :
    Calls Tryz.prog 8 #[.slice A xs.length c1, .slice C ys.length c2] w fun e w' => e = .returned (.bool (sameAL xs ys)) ∧ Below w.heap.size w w' := by
  have hE := aequal_any xs ys A C c1 c2 hx hy hA hC
  go_enter Tryz.func8, Tryz.ntmps8
  go_wp2_with (go_at_call 17; refine hE.mono ?_)
  rintro e w2 ⟨rfl, hb2⟩
  go_wp2
  go_ret
  exact ⟨rfl, hb2⟩
end Go.Proofs.YtnaopgajinbnmaaGreatDoor
