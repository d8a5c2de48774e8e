/- textOf: the text behind a quote. -/
import Derived.Test.YtnaopgajinbnmaaGreatDoorEsc
import Derived.Lib.AppendZerosOnto
namespace Go.Proofs.YtnaopgajinbnmaaGreatDoor
open Go.RowKit

/-- Bytes as values. -/
abbrev byt (c : UInt8) : Value := .int .u8 (c.toNat : Nat)
theorem info5 : (Tryz.prog.info? 5).map (fun i => (i.zero, i.size, i.bytes)) = some (some (.int .u8 0), 1, 1) := by kernel_rfl

/-- An own row of bytes as a text. -/
theorem conv_own {w : World} {base : Nat} {v : Value} {l : List UInt8} (h : w.ownsRow base 5 1 v l.length (l.map byt)) :
    (convert 34 9 v).run Tryz.prog w = .ok (.string ⟨l.toArray⟩) w := by
  rcases h.2 with ⟨rfl, h0⟩ | ⟨g, cap, cur, rfl, hg, hh, hn, hc⟩
  · have : l = [] := List.length_eq_zero_iff.1 h0
    subst this
    have e := run_convert_bytes_string (P := Tryz.prog) w 34 9 5 none 0 0 Tryz.underlying34 Tryz.underlying5 Tryz.underlying9
    rw [e]
    simp [Conv.bytesToString]
    rfl
  · refine run_convert_bytes_back w 34 9 5 ⟨g, 0, none⟩ cap l Tryz.underlying34 Tryz.underlying5 Tryz.underlying9 (fun j hj => ?_)
    have h1 : w.ownsRow base 5 1 (.slice (some ⟨g, 0, none⟩) l.length cap) l.length (l.map byt) := ⟨by simp, .inr ⟨g, cap, cur, rfl, hg, hh, hn, hc⟩⟩
    have h2 := h1.cellAt j (by omega)
    rw [show (⟨g, 0, none⟩ : Addr).add j = ⟨g, j, none⟩ from by simp [Addr.add]; omega, h2]
    simp [hj]

theorem own_below {w w' : World} {base e size n : Nat} {v : Value} {xs : List Value} (h : w.ownsRow base e size v n xs) (hb : Below w.heap.size w w') : w'.ownsRow base e size v n xs := by
  refine ⟨h.1, ?_⟩
  rcases h.2 with h | ⟨g, cap, cur, e1, e2, e3, r⟩
  · exact .inl h
  · have hlt : g < w.heap.size := by
      rcases Nat.lt_or_ge g w.heap.size with h | h
      · exact h
      · rw [Array.getElem?_eq_none h] at e3; cases e3
    exact .inr ⟨g, cap, cur, e1, e2, (hb.block g hlt).trans e3, r⟩
theorem own_form {w : World} {base e size n : Nat} {v : Value} {xs : List Value} (h : w.ownsRow base e size v n xs) : ∃ A cp, v = .slice A n cp ∧ (A = none → n = 0) := by
  rcases h.2 with ⟨rfl, rfl⟩ | ⟨g, cap, cur, rfl, _⟩
  · exact ⟨_, _, rfl, fun _ => rfl⟩
  · exact ⟨_, _, rfl, fun h => by cases h⟩
/-- A text, what is read before it put ahead. -/
def preT (o : List UInt8) (m : Nat) : Option (List UInt8 × Nat) → Option (List UInt8 × Nat)
  | none => none
  | some (t, n) => some (o ++ t, m + n)
abbrev txtV : Option (List UInt8 × Nat) → Value
  | none => .tuple #[tokB 0 0 0 ⟨#[]⟩, .int .i64 0, .bool false]
  | some (t, m) => .tuple #[tokB 2 0 0 ⟨t.toArray⟩, .int .i64 (m + 1 : Nat), .bool (decide (t.length ≤ 200))]
theorem byteL_le (l : List UInt8) : (byteL l).2 ≤ l.length := by
  unfold byteL
  match l with
  | [] => simp
  | [c] => simp; split <;> try split
           all_goals simp
  | [c, d] => simp; repeat' split
              all_goals simp
  | [c, d, a] => simp; repeat' split
                 all_goals simp
  | c :: d :: a :: b :: r => simp; repeat' split
                             all_goals simp; try omega

set_option maxRecDepth 100000 in
set_option maxHeartbeats 8000000 in
theorem textOf_any (s : ByteArray) (h0 : 0 < s.size) (hz : s.size ≤ 1048576) {w : World} (hL : Laid w) :
    Calls Tryz.prog 40 #[.string s] w fun e w' => e = .returned (txtV (textGo s.size ((bl s).drop 1))) ∧ Below w.heap.size w w' := by
  obtain ⟨i0, hi, hz0, hz1, hz2⟩ := info_parts info5
  obtain ⟨W1, hW1⟩ : ∃ W, w.alloc (.cells #[.int .i64 0, .int .i64 0, .int .i64 0, .string ⟨#[]⟩] 32) = W := ⟨_, rfl⟩
  have hb1 : Below w.heap.size w W1 := hW1 ▸ (Below.refl _ w).alloc (Nat.le_refl _) _
  have hy : Blk W1 w.heap.size 32 #[.int .i64 0, .int .i64 0, .int .i64 0, .string ⟨#[]⟩] := hW1 ▸ Blk.new _ _ _
  have HL := Lib.hid hL
  have HB1 := Lib.hid hb1
  have HY := Lib.hid hy
  clear hL hb1 hy
  obtain ⟨B, hB⟩ : ∃ B, w.heap.size = B := ⟨_, rfl⟩
  have HB := Lib.hid hB
  rw [hB] at HB1 HY ⊢
  obtain ⟨R, hR⟩ : ∃ R, textGo s.size ((bl s).drop 1) = R := ⟨_, rfl⟩
  have HR := Lib.hid hR
  rw [hR]
  clear hR
  go_enter Tryz.func40, Tryz.ntmps40
  go_wp2
  clear hB hW1
  go_loopw [5, 6] (fun v i wr => ∃ (out : List UInt8) (a f : Nat), i = .int .i64 a ∧ 1 ≤ a ∧ a ≤ s.size ∧ out.length ≤ a ∧ wr.ownsRow (B + 1) 5 1 v out.length (out.map byt) ∧
      Hid (Blk wr B 32 #[.int .i64 0, .int .i64 0, .int .i64 0, .string ⟨#[]⟩] ∧ Below B w wr) ∧ Hid (s.size - a < f ∧ R = preT out (a - 1) (textGo f ((bl s).drop a))))
    (fun _ i _ => s.size - (intOf i).toNat)
  case atStart => exact ⟨[], 1, s.size, rfl, by omega, by omega, by simp, World.ownsRow_nil _ _ _ _, Lib.hid ⟨HY.out, HB1.out⟩, Lib.hid ⟨by omega, by
    rw [← HR.out]; cases textGo s.size ((bl s).drop 1) with
    | none => rfl
    | some p => obtain ⟨t, n⟩ := p; simp [preT]⟩⟩
  case round =>
    obtain ⟨out, a, f, rfl, ha1, has, hol, hown, HW, HT⟩ := hrel
    have hLr : Laid wr := HL.out.below (by rw [HB.out]; exact HW.out.2)
    have HLR := Lib.hid hLr
    have hsz := HW.out.2.size
    rw [HB.out] at hsz
    have hlt := HW.out.1.lt
    clear hLr
    obtain ⟨z0, z1, z2, z3, q0, q1, q2, q3⟩ := tok_facts HW.out.1
    by_cases hal : a < s.size
    · have hfs : ∃ g, f = g + 1 := ⟨f - 1, by have := HT.out.1; omega⟩
      obtain ⟨g, rfl⟩ := hfs
      have hA := bl_at s a hal
      have hQ := is_any HLR.out.tab s[a] 4 (by decide)
      rw [isB_quote] at hQ
      have hdl : decide ((a : Int) < (s.size : Int)) = true := decide_eq_true (by omega)
      by_cases h34 : s[a].toNat = 34
      · rw [show (s[a].toNat == 34) = true by rw [h34]; rfl] at hQ
        have HF : Hid (R = some (out, a)) := Lib.hid (by rw [HT.out.2, hA, textGo, if_pos h34]; simp [preT]; omega)
        have hcv := conv_own hown
        obtain ⟨A, cp, rfl, -⟩ := own_form hown
        clear hA h34
        obtain ⟨y0, y1, y2, y3, -⟩ := tok_facts (tokPut_blk HW.out.1 (.int .i64 2) (.int .i64 0) (.int .i64 0) (.string ⟨out.toArray⟩))
        have hb3 := tokPut_below HW.out.2 (Nat.le_refl _) (.int .i64 2) (.int .i64 0) (.int .i64 0) (.string ⟨out.toArray⟩)
        unfold tokPut at y0 y1 y2 y3 hb3
        go_wp2_with (go_at_call 37; refine hQ.mono ?_; rintro e w' ⟨rfl, rfl⟩)
        refine bodyPost_ret (v := txtV (some (out, a))) (by simp [results, Tryz.results40, go_sem, y0, y1, y2, y3, txtV]; omega) rfl ⟨by rw [HF.out], hb3⟩
      · rw [show (s[a].toNat == 34) = false by simpa using h34] at hQ
        obtain ⟨bb, n, hbn⟩ : ∃ bb n, byteL ((bl s).drop a) = (bb, n) := ⟨_, _, rfl⟩
        have hE := byteOf_any (s.extract a s.size) (by simp; omega) (by simp; omega) HLR.out
        rw [bl_from, hbn] at hE
        have hnl : n ≤ s.size - a := by have := byteL_le ((bl s).drop a); rw [hbn, List.length_drop, bl_len] at this; exact this
        have hT2 : textGo (g + 1) ((bl s).drop a) = match (bb, n) with
            | (_, 0) => none
            | (b, m + 1) => match textGo g ((bl s).drop (a + (m + 1))) with
              | none => none
              | some (t, k) => some (b :: t, k + m + 1) := by
          have h1 : textGo (g + 1) (s[a] :: (bl s).drop (a + 1)) = match byteL (s[a] :: (bl s).drop (a + 1)) with
            | (_, 0) => none
            | (b, n + 1) => match textGo g ((s[a] :: (bl s).drop (a + 1)).drop (n + 1)) with
              | none => none
              | some (t, m) => some (b :: t, m + n + 1) := by rw [textGo, if_neg h34]; rfl
          rw [← hA, hbn] at h1
          rw [h1]
          simp only [List.drop_drop]
        clear hbn hA h34
        have hTT := HT.out.2
        rw [hT2] at hTT
        have hfu := HT.out.1
        clear hT2
        cases n with
        | zero =>
          have HF : Hid (R = none) := Lib.hid (by rw [hTT]; rfl)
          clear hTT
          go_wp2_with (go_at_call 37; refine hQ.mono ?_; rintro e w' ⟨rfl, rfl⟩)
          go_wp2_with (go_at_call 55; refine hE.mono ?_)
          rintro e w2 ⟨rfl, hb2⟩
          have hy2 := HW.out.1.below hb2 hlt
          clear z0 z1 z2 z3 q0 q1 q2 q3
          obtain ⟨z0, z1, z2, z3, q0, q1, q2, q3⟩ := tok_facts hy2
          obtain ⟨y0, y1, y2, y3, -⟩ := tok_facts (tokPut_blk hy2 (.int .i64 0) (.int .i64 0) (.int .i64 0) (.string ⟨#[]⟩))
          have hb3 := tokPut_below (HW.out.2.trans (hb2.mono hsz)) (Nat.le_refl _) (.int .i64 0) (.int .i64 0) (.int .i64 0) (.string ⟨#[]⟩)
          unfold tokPut at y0 y1 y2 y3 hb3
          go_wp2
          refine bodyPost_ret (v := txtV none) (by simp [results, Tryz.results40, go_sem, y0, y1, y2, y3, txtV]) rfl ⟨by rw [HF.out], hb3⟩
        | succ n =>
          have HF : Hid (s.size - (a + (n + 1)) < g ∧ R = preT (out ++ [bb]) (a + (n + 1) - 1) (textGo g ((bl s).drop (a + (n + 1))))) := Lib.hid ⟨by omega, by
            rw [hTT]
            show preT out (a - 1) (match textGo g ((bl s).drop (a + (n + 1))) with | none => none | some (t, k) => some (bb :: t, k + n + 1)) = _
            cases textGo g ((bl s).drop (a + (n + 1))) with
            | none => rfl
            | some p => obtain ⟨t, k⟩ := p; simp [preT]; omega⟩
          clear hTT
          have b1 : out.length + 1 ≤ maxLen := by unfold maxLen; omega
          have b2 : (out.length + 1) * 1 ≤ 140737488355328 := by omega
          go_wp2_with (go_at_call 37; refine hQ.mono ?_; rintro e w' ⟨rfl, rfl⟩)
          go_wp2_with (go_at_call 55; refine hE.mono ?_)
          rintro e w2 ⟨rfl, hb2⟩
          have hy2 := HW.out.1.below hb2 hlt
          have hB2 := HW.out.2.trans (hb2.mono hsz)
          have hs2 := hb2.size
          have ho2 := own_below hown hb2
          clear z0 z1 z2 z3 q0 q1 q2 q3
          have HB2 := Lib.hid hB2
          have HY2 := Lib.hid hy2
          clear hB2 hy2 hb2
          go_wp2_with (at_builtin; refine wpList_append_own _ rfl _ _ 34 rfl (B + 1) 5 i0 (.int .u8 0) 1 1 Tryz.underlying34 hi hz0 hz1 hz2 rfl (by decide) _ _ _ rfl (ho2.alloc _) ⟨w2.heap.size, 0, none⟩ 1 1 [byt bb] rfl rfl (cell_one_new _ _ _) (by simp [Value.oneCell']) b1 b2 (by simp; omega) ?_; intro v' w1 hown' hgrow _)
          have hBl : Blk w1 B 32 #[.int .i64 0, .int .i64 0, .int .i64 0, .string ⟨#[]⟩] := (HY2.out.alloc _).grown hgrow (fun h => by have := (ho2.lt B h.symm).1; omega)
          have hBe : Below B w w1 := (HB2.out.alloc (by omega) _).grown hgrow (by simp; omega) (fun g hg => by have := (ho2.lt g hg).1; omega)
          exact ⟨⟨out ++ [bb], a + (n + 1), g, by go_num, by omega, by omega, by simp; omega, by simpa using hown', Lib.hid ⟨hBl, hBe⟩, HF⟩, by simp [intOf]; omega⟩
    · have HF : Hid (R = none) := Lib.hid (by
        rw [HT.out.2, List.drop_eq_nil_of_le (by rw [bl_len]; omega)]
        cases f with
        | zero => rfl
        | succ f => rfl)
      have hdl : decide ((a : Int) < (s.size : Int)) = false := decide_eq_false (by omega)
      obtain ⟨y0, y1, y2, y3, -⟩ := tok_facts (tokPut_blk HW.out.1 (.int .i64 0) (.int .i64 0) (.int .i64 0) (.string ⟨#[]⟩))
      have hb3 := tokPut_below HW.out.2 (Nat.le_refl _) (.int .i64 0) (.int .i64 0) (.int .i64 0) (.string ⟨#[]⟩)
      unfold tokPut at y0 y1 y2 y3 hb3
      go_wp2
      refine bodyPost_ret (v := txtV none) (by simp [results, Tryz.results40, go_sem, y0, y1, y2, y3, txtV]) rfl ⟨by rw [HF.out], hb3⟩
end Go.Proofs.YtnaopgajinbnmaaGreatDoor
