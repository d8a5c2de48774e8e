/- Same: tokens that are the same, wherever they stand. -/
import Derived.Test.YtnaopgajinbnmaaGreatDoorKnown
namespace Go.Proofs.YtnaopgajinbnmaaGreatDoor
open Go.RowKit

/-- Tokens that lie in memory, below the heap's end. -/
def TokAt (w : World) (A : Option Addr) (ts : List Tok) : Prop := 0 < ts.length → ∃ b o, A = some ⟨b, o, none⟩ ∧ b < w.heap.size ∧
  ∀ i (h : i < ts.length), w.cell? ⟨b, o + i * 4, none⟩ = some (.int .i64 (ts[i].kind : Nat)) ∧ w.cell? ⟨b, o + i * 4 + 1, none⟩ = some (.int .i64 (ts[i].num : Nat)) ∧
    w.cell? ⟨b, o + i * 4 + 2, none⟩ = some (.int .i64 (ts[i].at_ : Nat)) ∧ w.cell? ⟨b, o + i * 4 + 3, none⟩ = some (.string ⟨ts[i].text.toArray⟩)
theorem TokAt.below {w w' : World} {A : Option Addr} {ts : List Tok} (h : TokAt w A ts) (hb : Below w.heap.size w w') : TokAt w' A ts := fun h0 => by
  obtain ⟨b, o, e, hlt, hc⟩ := h h0
  have key : ∀ j, w'.cell? ⟨b, j, none⟩ = w.cell? ⟨b, j, none⟩ := fun j => hb.cell (p := ⟨b, j, none⟩) hlt
  exact ⟨b, o, e, Nat.lt_of_lt_of_le hlt hb.size, fun i hi => ⟨(key _).trans (hc i hi).1, (key _).trans (hc i hi).2.1, (key _).trans (hc i hi).2.2.1, (key _).trans (hc i hi).2.2.2⟩⟩
theorem flat_get (ts : List Tok) (i j : Nat) (hi : i < ts.length) (hj : j < 4) : (ts.flatMap cellsT)[i * 4 + j]? = (cellsT ts[i])[j]? := by
  induction ts generalizing i with
  | nil => simp at hi
  | cons t ts ih =>
    rw [List.flatMap_cons]
    have hl : (cellsT t).length = 4 := rfl
    cases i with
    | zero => rw [List.getElem?_append_left (by rw [hl]; omega)]; simp
    | succ i =>
      rw [List.getElem?_append_right (by rw [hl]; omega), hl, show (i + 1) * 4 + j - 4 = i * 4 + j by omega, ih i (by simpa using hi)]
      simp
theorem tokAt_own {w : World} {base n cp : Nat} {A : Option Addr} {ts : List Tok} (h : w.ownsRow base 32 4 (.slice A n cp) ts.length (ts.flatMap cellsT)) : TokAt w A ts ∧ n = ts.length ∧ (0 < ts.length → n ≤ cp) ∧ (A = none ∨ ∃ g, A = some ⟨g, 0, none⟩) := by
  rcases h.2 with ⟨e, h0⟩ | ⟨g, cap, cur, e, hg, hh, hn, hc⟩
  · injection e with e1 e2 e3
    subst e1
    exact ⟨fun hp => by omega, by omega, fun hp => by omega, .inl rfl⟩
  · injection e with e1 e2 e3
    subst e1; subst e2; subst e3
    have h1 : w.ownsRow base 32 4 (.slice (some ⟨g, 0, none⟩) ts.length cp) ts.length (ts.flatMap cellsT) := h
    refine ⟨fun _ => ⟨g, 0, rfl, ?_, fun i hi => ?_⟩, rfl, fun _ => hn, .inr ⟨g, rfl⟩⟩
    · rcases Nat.lt_or_ge g w.heap.size with hl | hl
      · exact hl
      · rw [Array.getElem?_eq_none hl] at hh; cases hh
    · have key : ∀ j, j < 4 → w.cell? ⟨g, 0 + i * 4 + j, none⟩ = (cellsT ts[i])[j]? := fun j hj => by
        rw [Nat.zero_add, h1.cellAt (i * 4 + j) (by omega), flat_get ts i j hi hj]
      exact ⟨key 0 (by omega), key 1 (by omega), key 2 (by omega), key 3 (by omega)⟩

/-- Whether two tokens are the same. -/
def sameT (x y : Tok) : Bool := x.kind == y.kind && (x.num == y.num && x.text == y.text)
def sameL : List Tok → List Tok → Bool
  | [], [] => true
  | x :: r, y :: q => sameT x y && sameL r q
  | _, _ => false
theorem sameL_len : ∀ (a b : List Tok), a.length ≠ b.length → sameL a b = false
  | [], [], h => absurd rfl h
  | [], _ :: _, _ => rfl
  | _ :: _, [], _ => rfl
  | x :: r, y :: q, h => by rw [sameL, sameL_len r q (by simpa using h), Bool.and_false]
theorem sameL_refl : ∀ (a : List Tok), sameL a a = true
  | [] => rfl
  | x :: r => by rw [sameL, sameL_refl r]; simp [sameT]

abbrev tokVV (t : Tok) : Value := .agg #[.int .i64 (t.kind : Nat), .int .i64 (t.num : Nat), .int .i64 (t.at_ : Nat), .string ⟨t.text.toArray⟩]
theorem text_eq (x y : List UInt8) : ((⟨x.toArray⟩ : ByteArray).toList == (⟨y.toArray⟩ : ByteArray).toList) = (x == y) := by
  rw [Lib.toList_data, Lib.toList_data]

set_option maxRecDepth 100000 in
set_option maxHeartbeats 4000000 in
theorem same1_any (x y : Tok) (w : World) : Calls Tryz.prog 18 #[tokVV x, tokVV y] w fun e w' => e = .returned (.bool (sameT x y)) ∧ Below w.heap.size w w' := by
  obtain ⟨xk, xn, xa, xt⟩ := x
  obtain ⟨yk, yn, ya, yt⟩ := y
  by_cases h1 : xk = yk
  · have e1 : ((xk : Int) == (yk : Int)) = true := by simp [h1]
    by_cases h2 : xn = yn
    · have e2 : ((xn : Int) == (yn : Int)) = true := by simp [h2]
      have e3 := text_eq xt yt
      have HF : Hid (sameT ⟨xk, xn, xa, xt⟩ ⟨yk, yn, ya, yt⟩ = (xt == yt)) := Lib.hid (by simp [sameT, h1, h2])
      clear h1 h2
      go_enter Tryz.func18, Tryz.ntmps18
      go_wp2
      go_ret
      exact ⟨ret_bool HF.out.symm, ((Below.refl _ w).alloc (Nat.le_refl _) _).alloc (by simp) _⟩
    · have e2 : ((xn : Int) == (yn : Int)) = false := by simp; omega
      have HF : Hid (sameT ⟨xk, xn, xa, xt⟩ ⟨yk, yn, ya, yt⟩ = false) := Lib.hid (by simp [sameT, h2])
      clear h1 h2
      go_enter Tryz.func18, Tryz.ntmps18
      go_wp2
      go_ret
      exact ⟨ret_bool HF.out.symm, ((Below.refl _ w).alloc (Nat.le_refl _) _).alloc (by simp) _⟩
  · have e1 : ((xk : Int) == (yk : Int)) = false := by simp; omega
    have HF : Hid (sameT ⟨xk, xn, xa, xt⟩ ⟨yk, yn, ya, yt⟩ = false) := Lib.hid (by simp [sameT, h1])
    clear h1
    go_enter Tryz.func18, Tryz.ntmps18
    go_wp2
    go_ret
    exact ⟨ret_bool HF.out.symm, ((Below.refl _ w).alloc (Nat.le_refl _) _).alloc (by simp) _⟩

theorem sameL_drop (xs ys : List Tok) (k : Nat) (h1 : k < xs.length) (h2 : k < ys.length) : sameL (xs.drop k) (ys.drop k) = (sameT xs[k] ys[k] && sameL (xs.drop (k + 1)) (ys.drop (k + 1))) := by
  rw [List.drop_eq_getElem_cons h1, List.drop_eq_getElem_cons h2, sameL]

set_option maxRecDepth 100000 in
set_option maxHeartbeats 8000000 in
theorem equal_any (xs ys : List Tok) (A C : Option Addr) (c1 c2 : Nat) (hx : xs.length ≤ 1048576) (hy : ys.length ≤ 1048576) {w : World} (hA : TokAt w A xs) (hC : TokAt w C ys) :
    Calls Tryz.prog 17 #[.slice A xs.length c1, .slice C ys.length c2, .func (.func 18) #[] #[]] w fun e w' => e = .returned (.bool (sameL xs ys)) ∧ Below w.heap.size w w' := by
  by_cases hlen : xs.length = ys.length
  · obtain ⟨n, hn⟩ : ∃ n, xs.length = n := ⟨_, rfl⟩
    have hn2 : ys.length = n := by omega
    have HN := Lib.hid (And.intro hn hn2)
    rw [hn] at hx ⊢
    rw [hn2]
    clear hn hn2 hlen hy
    go_enter Tryz.func17, Tryz.ntmps17
    go_wp2
    go_loopw [17] (fun i wr => ∃ k : Nat, i = .int .i64 k ∧ k ≤ n ∧ Hid (sameL xs ys = sameL (xs.drop k) (ys.drop k) ∧ Below w.heap.size w wr)) (fun i _ => n - (intOf i).toNat)
    case atStart => exact ⟨0, rfl, Nat.zero_le _, Lib.hid ⟨rfl, Below.refl _ _⟩⟩
    case round =>
      obtain ⟨k, rfl, hk, HW⟩ := hrel
      by_cases hlt : k < n
      · have hkx : k < xs.length := by rw [HN.out.1]; exact hlt
        have hky : k < ys.length := by rw [HN.out.2]; exact hlt
        obtain ⟨b, o, rfl, hbl, hc⟩ := hA.below HW.out.2 (by omega)
        obtain ⟨b', o', rfl, hbl', hc'⟩ := hC.below HW.out.2 (by omega)
        obtain ⟨p0, p1, p2, p3⟩ := hc k hkx
        obtain ⟨r0, r1, r2, r3⟩ := hc' k hky
        have HS := Lib.hid (sameL_drop xs ys k hkx hky)
        generalize xs[k] = x at p0 p1 p2 p3 HS
        generalize ys[k] = y at r0 r1 r2 r3 HS
        obtain ⟨xk, xn, xa, xt⟩ := x
        obtain ⟨yk, yn, ya, yt⟩ := y
        have hd : decide ((k : Int) < (n : Int)) = true := decide_eq_true (by omega)
        have hE := fun w => same1_any ⟨xk, xn, xa, xt⟩ ⟨yk, yn, ya, yt⟩ w
        obtain ⟨bb, hbb⟩ : ∃ bb, sameT ⟨xk, xn, xa, xt⟩ ⟨yk, yn, ya, yt⟩ = bb := ⟨_, rfl⟩
        rw [hbb] at hE HS
        clear hc hc' hA hC hbb
        go_wp2_with (go_at_call 18; refine (hE _).mono ?_)
        rintro e w2 rfl hb2
        have hA2 := ((Below.refl wr.heap.size wr).alloc (Nat.le_refl _) (.cells #[.int .i64 xk, .int .i64 xn, .int .i64 xa, .string ⟨xt.toArray⟩] 32)).alloc (by simp) (.cells #[.int .i64 yk, .int .i64 yn, .int .i64 ya, .string ⟨yt.toArray⟩] 32)
        have hB2 : Below w.heap.size w w2 := HW.out.2.trans ((hA2.trans (hb2.mono (by omega))).mono HW.out.2.size)
        cases bb with
        | true =>
          have HN2 : Hid (sameL xs ys = sameL (xs.drop (k + 1)) (ys.drop (k + 1)) ∧ Below w.heap.size w w2) := Lib.hid ⟨by rw [HW.out.1, HS.out, Bool.true_and], hB2⟩
          go_wp2
          exact ⟨⟨k + 1, by go_num, by omega, HN2⟩, by simp [intOf]; omega⟩
        | false =>
          have HF : Hid (sameL xs ys = false) := Lib.hid (by rw [HW.out.1, HS.out, Bool.false_and])
          go_wp2
          go_ret
          exact ⟨ret_bool HF.out.symm, hB2⟩
      · have hkn : k = n := by omega
        subst hkn
        have HF : Hid (sameL xs ys = true) := Lib.hid (by rw [HW.out.1, List.drop_eq_nil_of_le (by rw [HN.out.1]; omega), List.drop_eq_nil_of_le (by rw [HN.out.2]; omega)]; rfl)
        go_wp2
        go_ret
        exact ⟨ret_bool HF.out.symm, HW.out.2⟩
  · have HF : Hid (sameL xs ys = false) := Lib.hid (sameL_len _ _ hlen)
    obtain ⟨n, hn⟩ : ∃ n, xs.length = n := ⟨_, rfl⟩
    obtain ⟨m, hm⟩ : ∃ m, ys.length = m := ⟨_, rfl⟩
    rw [hn] at hlen hx ⊢
    rw [hm] at hlen hy ⊢
    have hne : ((n : Int) == (m : Int)) = false := by simp; omega
    clear hn hm
    go_enter Tryz.func17, Tryz.ntmps17
    go_wp2
    go_ret
    exact ⟨ret_bool HF.out.symm, Below.refl _ _⟩

set_option maxHeartbeats 4000000 in
theorem same_any (xs ys : List Tok) (A C : Option Addr) (c1 c2 : Nat) (hx : xs.length ≤ 1048576) (hy : ys.length ≤ 1048576) {w : World} (hA : TokAt w A xs) (hC : TokAt w C ys) :
    Calls Tryz.prog 8 #[.slice A xs.length c1, .slice C ys.length c2] w fun e w' => e = .returned (.bool (sameL xs ys)) ∧ Below w.heap.size w w' := by
  have hE := equal_any xs ys A C c1 c2 hx hy hA hC
  go_enter Tryz.func8, Tryz.ntmps8
  go_wp2_with (go_at_call 17; refine hE.mono ?_)
  rintro e w2 ⟨rfl, hb2⟩
  go_wp2
  go_ret
  exact ⟨rfl, hb2⟩
end Go.Proofs.YtnaopgajinbnmaaGreatDoor
