/- Text: the program's. -/
import Derived.Test.YtnaopgajinbnmaaGreatDoorWritten
import Derived.Lib.BufferKept
namespace Go.Proofs.YtnaopgajinbnmaaGreatDoor
open Go.RowKit

theorem lexR_cases (l : List UInt8) : (∃ ts, lexL l = (ts, none) ∧ l.length ≤ 6000 ∧ ts.length ≤ 2000 ∧ lexR l = (ts, ts.length, 0)) ∨ (∃ n e, lexR l = ([], n, e) ∧ (e = 2 ∨ e = 3)) := by
  unfold lexR
  by_cases h1 : 6000 < l.length
  · exact .inr ⟨0, 3, by rw [if_pos h1], .inr rfl⟩
  · rw [if_neg h1]
    cases hl : lexL l with
    | mk ts e =>
      cases e with
      | some p => exact .inr ⟨p, 2, rfl, .inl rfl⟩
      | none =>
        by_cases h2 : 2000 < ts.length
        · exact .inr ⟨0, 3, by simp [h2], .inr rfl⟩
        · exact .inl ⟨ts, rfl, by omega, by omega, by simp [h2]⟩
def wrL (t : ATk) : List UInt8 := bl (wrS t)
def flatT (ts : List ATk) : List UInt8 := ts.flatMap fun t => 32 :: wrL t
def joinT (ts : List ATk) : List UInt8 := (flatT ts).drop 1
theorem flatT_snoc (ts : List ATk) (k : Nat) (h : k < ts.length) : flatT (ts.take (k + 1)) = flatT (ts.take k) ++ 32 :: wrL ts[k] := by
  unfold flatT
  rw [List.take_succ_eq_append_getElem h, List.flatMap_append]
  simp
theorem joinT_first (ts : List ATk) (h : 0 < ts.length) : joinT (ts.take 1) = wrL ts[0] := by
  unfold joinT
  rw [show (1 : Nat) = 0 + 1 from rfl, flatT_snoc ts 0 h]
  rfl
theorem joinT_snoc (ts : List ATk) (k : Nat) (h : k < ts.length) (hk : 0 < k) : joinT (ts.take (k + 1)) = joinT (ts.take k) ++ 32 :: wrL ts[k] := by
  unfold joinT
  rw [flatT_snoc ts k h]
  have : 1 ≤ (flatT (ts.take k)).length := by
    obtain ⟨j, rfl⟩ : ∃ j, k = j + 1 := ⟨k - 1, by omega⟩
    rw [flatT_snoc ts j (by omega)]; simp; omega
  rw [List.drop_append_of_le_length this]
theorem joinT_le (ts : List ATk) (k : Nat) : (joinT (ts.take k)).length ≤ (joinT ts).length := by
  unfold joinT
  have h : flatT ts = flatT (ts.take k) ++ flatT (ts.drop k) := by
    unfold flatT; rw [← List.flatMap_append, List.take_append_drop]
  rw [List.length_drop, List.length_drop, h, List.length_append]; omega
theorem flatT_size (ts : List ATk) (h : ∀ t ∈ ts, t.ok) : (flatT ts).length ≤ 22 * ts.length + 4 * sumS ts := by
  induction ts with
  | nil => simp [flatT]
  | cons t r ih =>
    have h1 := ih fun x hx => h x (by simp [hx])
    have h2 := wrS_size t (h t (by simp))
    rw [sumS_cons]
    have e : flatT (t :: r) = 32 :: wrL t ++ flatT r := rfl
    have e2 : (wrL t).length = (wrS t).size := bl_len _
    rw [e, List.length_append, List.length_cons, List.length_cons, e2]
    omega
theorem joinT_size (ts : List ATk) (h : ∀ t ∈ ts, t.ok) : (joinT ts).length ≤ 22 * ts.length + 4 * sumS ts := by
  have := flatT_size ts h
  unfold joinT; rw [List.length_drop]; omega

/-- What Text answers. -/
def textR (ts : List ATk) : List UInt8 × Nat :=
  if (lexR (joinT ts)).2.2 = 0 then (if sameAL ((lexR (joinT ts)).1.map ofTok) ts then (joinT ts, 0) else ([], 1)) else ([], (lexR (joinT ts)).2.2)
abbrev textV (r : List UInt8 × Nat) : Value := .tuple #[.string ⟨r.1.toArray⟩, .int .i64 (r.2 : Nat)]

theorem isBF_below {B b : Nat} {bs : List Value} {w w' : World} (h : Lib.IsBuilderF 36 5 B b bs w) (hb : Below w.heap.size w w') : Lib.IsBuilderF 36 5 B b bs w' := by
  have key : ∀ {p : Value}, Lib.BuilderAtF 36 5 B b p bs w → Lib.BuilderAtF 36 5 B b p bs w' := by
    rintro p ⟨hB, v, hbk, hown, hne⟩
    have lt : ∀ {k : Nat} {o : Obj}, w.heap[k]? = some o → k < w.heap.size := fun {k o} hk => by
      rcases Nat.lt_or_ge k w.heap.size with h' | h'
      · exact h'
      · rw [Array.getElem?_eq_none h'] at hk; cases hk
    refine ⟨hB, v, (hb.block b (lt hbk)).trans hbk, ⟨hown.1, ?_⟩, hne⟩
    rcases hown.2 with hn | ⟨g, cap, cur, fz, hv, hbg, hg, rest⟩
    · exact .inl hn
    · exact .inr ⟨g, cap, cur, fz, hv, hbg, (hb.block g (lt hg)).trans hg, rest⟩
  exact h.elim (fun x => .inl (key x)) (fun x => .inr (key x))
theorem bytes_len (l : List UInt8) : (Lib.byteCells l).length = l.length := Lib.byteCells_length l
theorem blk_kept {w w' : World} {B g : Nat} {cs : Array Value} (h : Blk w g 32 cs) (hk : Lib.OthersKept 5 (some B) w w') (hne : g ≠ B) : Blk w' g 32 cs :=
  hk g _ h (fun e => hne (by injection e)) (fun c fz e => by injection e with _ e2 _; cases e2)

set_option maxRecDepth 100000 in
set_option maxHeartbeats 16000000 in
theorem text_any (ts : List ATk) (A : Option Addr) (c : Nat) (hl : ts.length ≤ 1048576) (hok : ∀ t ∈ ts, t.ok ∧ t.s.size ≤ 48000) (hJ : (joinT ts).length ≤ 1000000) {w : World} (hA : ATokAt w A ts) (hL : Laid w) :
    Calls Tryz.prog 6 #[.slice A ts.length c] w fun e w' => e = .returned (textV (textR ts)) ∧ Below w.heap.size w w' := by
  have hb0 : Below w.heap.size w (w.alloc (.cells #[.pointer none, .slice none 0 0] 36)) := (Below.refl _ w).alloc (Nat.le_refl _) _
  have hf0 : Lib.IsBuilderF 36 5 w.heap.size w.heap.size [] (w.alloc (.cells #[.pointer none, .slice none 0 0] 36)) := Lib.IsBuilderF.of (Lib.fresh_isBuilder 36 5 w)
  have H0 := Lib.hid (And.intro hb0 hf0)
  obtain ⟨B, hB⟩ : ∃ B, w.heap.size = B := ⟨_, rfl⟩
  have HB := Lib.hid hB
  obtain ⟨n, hn⟩ : ∃ n, ts.length = n := ⟨_, rfl⟩
  have HN := Lib.hid hn
  have HJ := Lib.hid hJ
  have HOK := Lib.hid hok
  have HL := Lib.hid hL
  have HA := Lib.hid hA
  rw [hn] at hl ⊢
  clear hb0 hf0 hn hB hJ hok hL hA
  go_enter Tryz.func6, Tryz.ntmps6
  go_wp2
  rw [HB.out]
  go_loopw [13] (fun i wr => ∃ k : Nat, i = .int .i64 k ∧ k ≤ n ∧ Hid (Lib.IsBuilderF 36 5 B B (Lib.byteCells (joinT (ts.take k))) wr ∧ Below B w wr)) (fun i _ => n - (intOf i).toNat)
  case atStart =>
    have h := H0.out
    rw [HB.out] at h
    exact ⟨0, rfl, Nat.zero_le _, Lib.hid ⟨h.2, h.1⟩⟩
  case round =>
    clear H0
    obtain ⟨k, rfl, hk, HW⟩ := hrel
    have hlt0 : B < wr.heap.size := by
      rcases HW.out.1 with h | h
      · exact h.lt
      · exact h.lt
    by_cases hlt : k < n
    · have hkx : k < ts.length := by rw [HN.out]; exact hlt
      obtain ⟨b, o, rfl, hbl, hc⟩ := (HA.out.below (HB.out.symm ▸ HW.out.2)) (by omega)
      obtain ⟨p0, p1, p2, p3⟩ := hc k hkx
      have hxo := HOK.out ts[k] (List.getElem_mem hkx)
      have hPl := Nat.le_trans (joinT_le ts k) HJ.out
      have hNl := Nat.le_trans (joinT_le ts (k + 1)) HJ.out
      have hd : decide ((k : Int) < (n : Int)) = true := decide_eq_true (by omega)
      have h3 : (k : Int) < (n : Int) := by omega
      have hb0 := HW.out.1
      have hbw := HW.out.2
      by_cases hk0 : 0 < k
      · have hJn := joinT_snoc ts k hkx hk0
        generalize ts[k] = x at p0 p1 p2 p3 hxo hJn
        obtain ⟨P, hP⟩ : ∃ P, joinT (ts.take k) = P := ⟨_, rfl⟩
        rw [hP] at hJn hPl hb0
        obtain ⟨xk, xn, xa, xs⟩ := x
        simp only at p0 p1 p2 p3
        rw [hJn] at hNl
        have hxs : P.length + (wrS ⟨xk, xn, xa, xs⟩).size + 1 ≤ 1000000 := by
          have e : (wrL ⟨xk, xn, xa, xs⟩).length = (wrS ⟨xk, xn, xa, xs⟩).size := bl_len _
          simp at hNl; omega
        have HX := Lib.hid (And.intro hxo.1 (And.intro hxo.2 hJn))
        have hd0 : (0 : Int) < (k : Int) := by omega
        obtain ⟨W1, hW1⟩ : ∃ W, wr.alloc (.cells #[.int .i64 xk, .int .i64 xn, .int .i64 xa, .string xs] 32) = W := ⟨_, rfl⟩
        have hy : Blk W1 wr.heap.size 32 #[.int .i64 xk, .int .i64 xn, .int .i64 xa, .string xs] := hW1 ▸ Blk.new _ _ _
        have hbld : Lib.IsBuilderF 36 5 B B (Lib.byteCells P) W1 := hW1 ▸ hb0.alloc _
        have hbW1 : Below B w W1 := hW1 ▸ hbw.alloc (by omega) _
        have hBW1 : B ≤ W1.heap.size := by rw [← hW1, World.size_alloc]; omega
        have hne : wr.heap.size ≠ B := by omega
        clear hc hxo hPl hNl hJn hP hb0 hbw
        have hWB := Tryz.Builder_WriteByte_k B B (Lib.byteCells P) 32 W1 hbld (by rw [bytes_len]; omega) hBW1
        go_wp2_with (go_at_call 11; (try rw [hW1]); refine hWB.mono ?_)
        rintro e w2 rfl hbd hbe hoth
        have hbd2 : Lib.IsBuilderF 36 5 B B (Lib.byteCells P ++ [.int .u8 32]) w2 := .inr hbd
        have hy2 := blk_kept hy hoth hne
        have hB2 : Below B w w2 := hbW1.trans hbe
        clear hWB hbd hbe hoth
        obtain ⟨z0, z1, z2, z3, -⟩ := tok_facts hy2
        have hs2 := hB2.size
        rw [HB.out] at hs2
        have hWr := written_any ⟨xk, xn, xa, xs⟩ HX.out.1 HX.out.2.1 (HL.out.below (HB.out.symm ▸ hB2))
        go_wp2_with (go_at_call 13; (try rw [hW1]); refine hWr.mono ?_)
        rintro e w3 ⟨rfl, hb3⟩
        have hbd3 := isBF_below hbd2 hb3
        have hs3 := hb3.size
        have hWS := Tryz.Builder_WriteString_k B B (Lib.byteCells P ++ [.int .u8 32]) (wrS ⟨xk, xn, xa, xs⟩) w3 hbd3 (by simp only [List.length_append, List.length_singleton, bytes_len]; omega) (by omega)
        go_wp2_with (go_at_call 12; refine hWS.mono ?_)
        rintro e w4 ⟨rfl, hbd4, hbe4, -⟩
        have hB4 : Below B w w4 := (hB2.trans (hb3.mono hs2)).trans hbe4
        have HN2 : Hid (Lib.IsBuilderF 36 5 B B (Lib.byteCells (joinT (ts.take (k + 1)))) w4 ∧ Below B w w4) := Lib.hid ⟨by
          rw [HX.out.2.2]
          have h := hbd4
          rw [Lib.strCells_eq] at h
          refine .inr ?_
          simpa [Lib.byteCells, wrL, bl] using h, hB4⟩
        clear hbd4 hbe4 hbd3 hWS hWr hB4 hbd2
        go_wp2
        exact ⟨⟨k + 1, by go_num, by omega, HN2⟩, by simp [intOf]; omega⟩
      · obtain rfl : k = 0 := by omega
        have hJn := joinT_first ts hkx
        generalize ts[0] = x at p0 p1 p2 p3 hxo hJn
        obtain ⟨P, hP⟩ : ∃ P : List UInt8, [] = P := ⟨_, rfl⟩
        have hb1 : Lib.IsBuilderF 36 5 B B (Lib.byteCells P) wr := hP ▸ hb0
        have hPl2 : P.length = 0 := by rw [← hP]; rfl
        have hJn2 : joinT (ts.take 1) = P ++ wrL x := by rw [hJn, ← hP]; rfl
        obtain ⟨xk, xn, xa, xs⟩ := x
        simp only at p0 p1 p2 p3
        simp only [Nat.zero_mul, Nat.add_zero] at p0 p1 p2 p3
        rw [hJn] at hNl
        have hxs : P.length + (wrS ⟨xk, xn, xa, xs⟩).size + 1 ≤ 1000001 := by
          have e : (wrL ⟨xk, xn, xa, xs⟩).length = (wrS ⟨xk, xn, xa, xs⟩).size := bl_len _
          omega
        have HX : Hid (ATk.ok ⟨xk, xn, xa, xs⟩ ∧ xs.size ≤ 48000 ∧ joinT (ts.take (0 + 1)) = P ++ wrL ⟨xk, xn, xa, xs⟩) := Lib.hid ⟨hxo.1, hxo.2, hJn2⟩
        obtain ⟨W1, hW1⟩ : ∃ W, wr.alloc (.cells #[.int .i64 xk, .int .i64 xn, .int .i64 xa, .string xs] 32) = W := ⟨_, rfl⟩
        have hy : Blk W1 wr.heap.size 32 #[.int .i64 xk, .int .i64 xn, .int .i64 xa, .string xs] := hW1 ▸ Blk.new _ _ _
        have hbld : Lib.IsBuilderF 36 5 B B (Lib.byteCells P) W1 := hW1 ▸ hb1.alloc _
        have hbW1 : Below B w W1 := hW1 ▸ hbw.alloc (by omega) _
        clear hc hxo hPl hNl hJn hJn2 hP hk0 hb0 hb1 hbw
        obtain ⟨w2, hw2⟩ : ∃ w2, W1 = w2 := ⟨_, rfl⟩
        rw [hw2] at hW1 hy hbld hbW1
        have hbd2 : Lib.IsBuilderF 36 5 B B (Lib.byteCells P) w2 := hbld
        have hy2 := hy
        have hB2 := hbW1
        clear hw2 W1
        obtain ⟨z0, z1, z2, z3, -⟩ := tok_facts hy2
        have hs2 := hB2.size
        rw [HB.out] at hs2
        have hWr := written_any ⟨xk, xn, xa, xs⟩ HX.out.1 HX.out.2.1 (HL.out.below (HB.out.symm ▸ hB2))
        go_wp2_with (go_at_call 13; (try rw [hW1]); refine hWr.mono ?_)
        rintro e w3 ⟨rfl, hb3⟩
        have hbd3 := isBF_below hbd2 hb3
        have hs3 := hb3.size
        have hWS := Tryz.Builder_WriteString_k B B (Lib.byteCells P) (wrS ⟨xk, xn, xa, xs⟩) w3 hbd3 (by rw [bytes_len]; omega) (by omega)
        go_wp2_with (go_at_call 12; refine hWS.mono ?_)
        rintro e w4 ⟨rfl, hbd4, hbe4, -⟩
        have hB4 : Below B w w4 := (hB2.trans (hb3.mono hs2)).trans hbe4
        have HN2 : Hid (Lib.IsBuilderF 36 5 B B (Lib.byteCells (joinT (ts.take (0 + 1)))) w4 ∧ Below B w w4) := Lib.hid ⟨by
          rw [HX.out.2.2]
          have h := hbd4
          rw [Lib.strCells_eq] at h
          refine .inr ?_
          simpa [Lib.byteCells, wrL, bl] using h, hB4⟩
        clear hbd4 hbe4 hbd3 hWS hWr hB4 hbd2
        go_wp2
        exact ⟨⟨0 + 1, by go_num, by omega, HN2⟩, by simp [intOf]; omega⟩
    · obtain rfl : k = n := by omega
      have hT := HW.out.1
      have hbw := HW.out.2
      rw [List.take_of_length_le (by rw [HN.out]; omega)] at hT
      have HF : Hid (textR ts = if (lexR (joinT ts)).2.2 = 0 then (if sameAL ((lexR (joinT ts)).1.map ofTok) ts then (joinT ts, 0) else ([], 1)) else ([], (lexR (joinT ts)).2.2)) := Lib.hid rfl
      obtain ⟨T, hTT⟩ : ∃ T, joinT ts = T := ⟨_, rfl⟩
      rw [hTT] at hT HF
      obtain ⟨S, hS⟩ : ∃ S : ByteArray, ⟨T.toArray⟩ = S := ⟨_, rfl⟩
      have hbS : bl S = T := by rw [← hS]; simp [bl]
      have hTS := Lib.hid hS
      have hSt := Tryz.Builder_String_any_k B B T wr hT (by omega)
      rw [hS] at hSt
      have hlx := fun (w : World) (hL : Laid w) => lex_any S w hL
      rw [hbS] at hlx
      obtain ⟨⟨us, m, e0⟩, hR⟩ : ∃ R, lexR T = R := ⟨_, rfl⟩
      rw [hR] at hlx HF
      have hus : us.length ≤ 2000 := by
        rcases lexR_cases T with ⟨ts', _, _, h, e⟩ | ⟨n', e', h, _⟩
        · rw [hR] at e; cases e; exact h
        · rw [hR] at h; cases h; simp
      simp only at HF
      clear hlt hT hTT hS hbS hR
      go_wp2_with (go_at_call 14; refine hSt.mono ?_)
      rintro e w2 ⟨rfl, -, hbe, -⟩
      have hB2 : Below B w w2 := hbw.trans hbe
      have hs2 := hB2.size
      rw [HB.out] at hs2
      have hL2 : Laid w2 := HL.out.below (HB.out.symm ▸ hB2)
      go_wp2_with (go_at_call 10; refine (hlx _ hL2).mono ?_)
      rintro e w3 ⟨v, rfl, hrow, hb3⟩
      obtain ⟨A2, cp, rfl, -⟩ := own_form hrow
      have hT1 := aTok_of (tokAt_own hrow).1
      have hB3 : Below B w w3 := hB2.trans (hb3.mono hs2)
      have HB3 := Lib.hid (show Below w.heap.size w w3 from HB.out.symm ▸ hB3)
      clear hrow hbe hB2 hB3
      by_cases he0 : e0 = 0
      · subst he0
        have hSm := asame_any (us.map ofTok) ts A2 A cp c (by rw [List.length_map]; omega) (by rw [HN.out]; exact hl) hT1 (HA.out.below HB3.out)
        rw [List.length_map, HN.out] at hSm
        obtain ⟨sb, hsb⟩ : ∃ sb, sameAL (us.map ofTok) ts = sb := ⟨_, rfl⟩
        rw [hsb] at hSm HF
        clear hsb
        go_wp2_with (go_at_call 8; refine hSm.mono ?_)
        rintro e w4 ⟨rfl, hb4⟩
        cases sb with
        | true =>
          go_wp2
          go_ret2
          refine ⟨?_, HB3.out.trans (hb4.mono HB3.out.size)⟩
          rw [HF.out]
          show Ending.returned (.tuple #[.string S, .int .i64 0]) = Ending.returned (.tuple #[.string ⟨T.toArray⟩, .int .i64 ((0 : Nat) : Int)])
          rw [hTS.out]; rfl
        | false =>
          go_wp2
          go_ret2
          refine ⟨?_, HB3.out.trans (hb4.mono HB3.out.size)⟩
          rw [HF.out]
          rfl
      · have e1 : ((e0 : Int) == 0) = false := by simp; omega
        rw [if_neg he0] at HF
        clear he0
        go_wp2
        go_ret2
        refine ⟨?_, HB3.out⟩
        rw [HF.out]; rfl
end Go.Proofs.YtnaopgajinbnmaaGreatDoor
