/- CopyPacket: the reference's. -/
import Derived.Test.YtlimkckomdipkaaSet
import Derived.Test.YtlimkckomdipkaaPlS
namespace Go.Proofs.Ytlimkckomdipkaa
open Go.RowKit

theorem run_app_nil (w : World) : (Builtin.append_ #[30, 30] 30 #[.slice none 0 0, .slice none 0 0]).run Try.prog w = .ok (.slice none 0 0) w := by
  simp [Builtin.append_, go_sem]
/-- 'append([]byte(nil), l...)'. -/
theorem run_app_byt (w : World) (base : Nat) {A : Option Addr} {c : Nat} {bs : List Nat} (hm : Byc w w.heap.size A bs c) (hb : base ≤ w.heap.size) :
    ∃ A' c' w', (Builtin.append_ #[30, 30] 30 #[.slice none 0 0, .slice A bs.length c]).run Try.prog w = .ok (.slice A' bs.length c') w' ∧ w'.ownsRow base 5 1 (.slice A' bs.length c') bs.length (bs.map u8) ∧ w.grownBy w' none := by
  cases A with
  | none =>
    have hc0 := hm.nil rfl
    have hl := hm.le
    have hb : bs = [] := List.length_eq_zero_iff.1 (by omega)
    subst hb
    subst hc0
    exact ⟨none, 0, w, run_app_nil w, World.ownsRow_nil _ _ _ _, World.grownBy.refl _ _⟩
  | some a =>
    obtain ⟨v', w', hrun, hown, hgr⟩ := run_own_byt_big w base (.slice none 0 0) (World.ownsRow_nil _ _ _ _) c hm.byt hm.cap hb
    obtain ⟨A2, c2, hv⟩ := own_form hown
    subst hv
    exact ⟨A2, c2, w', hrun, hown, hgr⟩
theorem own5_set {w : World} {base n g t i : Nat} {v u : Value} {xs : List Value} {cs : Array Value} (h : w.ownsRow base 5 1 v n xs) (hb : Blk w g t cs) (ht : 5 ≠ t) : (w.setCell ⟨g, i, none⟩ u).ownsRow base 5 1 v n xs :=
  own5_keep h (grown_set w g i u) (other_blk hb ht)

set_option maxRecDepth 100000 in
set_option maxHeartbeats 4000000 in
theorem copyp_any {w : World} {A : Option Addr} {c : Nat} {p : Pkt} (hm : Byc w w.heap.size A p.data c) :
    Calls Try.prog 43 #[.agg #[.int .i64 p.time, .int .i64 p.face, .int .i64 p.real, .slice A p.data.length c, .string p.note]] w fun e w' => ∃ A' c', e = .returned (.agg #[.int .i64 p.time, .int .i64 p.face, .int .i64 p.real, .slice A' p.data.length c', .string p.note]) ∧ w'.ownsRow w.heap.size 5 1 (.slice A' p.data.length c') p.data.length (p.data.map u8) ∧ Below w.heap.size w w' := by
  obtain ⟨B, hB⟩ : ∃ B, w.heap.size = B := ⟨_, rfl⟩
  have hm0 := (hm.below ((((Below.refl _ w).alloc (Nat.le_refl _) (.cells #[.int .i64 p.time, .int .i64 p.face, .int .i64 p.real, .slice A p.data.length c, .string p.note] 47)).alloc (by rw [alloc_size]; omega) (.cells #[.int .i64 0, .int .i64 0, .int .i64 0, .slice none 0 0, .string ⟨#[]⟩] 47)))).more (B' := ((w.alloc (.cells #[.int .i64 p.time, .int .i64 p.face, .int .i64 p.real, .slice A p.data.length c, .string p.note] 47)).alloc (.cells #[.int .i64 0, .int .i64 0, .int .i64 0, .slice none 0 0, .string ⟨#[]⟩] 47)).heap.size) (by rw [alloc_size, alloc_size]; omega)
  have hr0 := run_app_byt _ B hm0 (by rw [alloc_size, alloc_size]; omega)
  obtain ⟨L, hL⟩ : ∃ L, p.data.length = L := ⟨_, rfl⟩
  rw [hL] at hr0 ⊢
  have HBy : Hid (∃ bs, p.data = bs) := Lib.hid ⟨_, rfl⟩
  obtain ⟨W0, hW0⟩ : ∃ W0, (w.alloc (.cells #[.int .i64 p.time, .int .i64 p.face, .int .i64 p.real, .slice A L c, .string p.note] 47)).alloc (.cells #[.int .i64 0, .int .i64 0, .int .i64 0, .slice none 0 0, .string ⟨#[]⟩] 47) = W0 := ⟨_, rfl⟩
  rw [hW0] at hr0
  have HK0 : Hid (Blk W0 B 47 #[.int .i64 p.time, .int .i64 p.face, .int .i64 p.real, .slice A L c, .string p.note] ∧ Below B w W0) := Lib.hid (by rw [← hW0, ← hB]; exact ⟨(Blk.new _ _ _).alloc _, ((Below.refl _ w).alloc (Nat.le_refl _) _).alloc (by rw [alloc_size]; omega) _⟩)
  have HZ0 : Hid (Blk W0 (B + 1) 47 #[.int .i64 0, .int .i64 0, .int .i64 0, .slice none 0 0, .string ⟨#[]⟩]) := Lib.hid (by
    have h := Blk.new (w.alloc (.cells #[.int .i64 p.time, .int .i64 p.face, .int .i64 p.real, .slice A L c, .string p.note] 47)) 47 #[.int .i64 0, .int .i64 0, .int .i64 0, .slice none 0 0, .string ⟨#[]⟩]
    rw [alloc_size, hB] at h
    rw [← hW0]; exact h)
  obtain ⟨A1, c1, w1, hrun, ho1, hg1⟩ := hr0
  have k1 : Blk w1 B 47 #[.int .i64 p.time, .int .i64 p.face, .int .i64 p.real, .slice A L c, .string p.note] := HK0.out.1.grown hg1 (by simp)
  have z1 : Blk w1 (B + 1) 47 #[.int .i64 0, .int .i64 0, .int .i64 0, .slice none 0 0, .string ⟨#[]⟩] := HZ0.out.grown hg1 (by simp)
  have b1 : Below B w w1 := HK0.out.2.grown hg1 (by have := HK0.out.1.lt; omega) (fun k h => by cases h)
  have s1 := k1.set_ 3 (.slice A1 L c1)
  have y1 : Blk (w1.setCell ⟨B, 3, none⟩ (.slice A1 L c1)) (B + 1) 47 #[.int .i64 0, .int .i64 0, .int .i64 0, .slice none 0 0, .string ⟨#[]⟩] := z1.far (p := ⟨B, 3, none⟩) (by show B + 1 ≠ B; omega) _
  have o1 : (w1.setCell ⟨B, 3, none⟩ (.slice A1 L c1)).ownsRow B 5 1 (.slice A1 L c1) L (p.data.map u8) := own5_set ho1 k1 (by decide)
  have e1 : Below B w (w1.setCell ⟨B, 3, none⟩ (.slice A1 L c1)) := b1.setCell (p := ⟨B, 3, none⟩) (Nat.le_refl B) _
  have y2 := y1.set_ 0 (.int .i64 p.time)
  have y3 := y2.set_ 1 (.int .i64 p.face)
  have y4 := y3.set_ 2 (.int .i64 p.real)
  have y5 := y4.set_ 3 (.slice A1 L c1)
  have y6 := y5.set_ 4 (.string p.note)
  have o6 := own5_set (i := 4) (u := .string p.note) (own5_set (i := 3) (u := .slice A1 L c1) (own5_set (i := 2) (u := .int .i64 p.real) (own5_set (i := 1) (u := .int .i64 p.face) (own5_set (i := 0) (u := .int .i64 p.time) o1 y1 (by decide)) y2 (by decide)) y3 (by decide)) y4 (by decide)) y5 (by decide)
  have hge : ∀ i, B ≤ (⟨B + 1, i, none⟩ : Addr).block := fun i => Nat.le_succ B
  have e6 := ((((e1.setCell (hge 0) (.int .i64 p.time)).setCell (hge 1) (.int .i64 p.face)).setCell (hge 2) (.int .i64 p.real)).setCell (hge 3) (.slice A1 L c1)).setCell (hge 4) (.string p.note)
  have HEND : Hid (Blk ((((((w1.setCell ⟨B, 3, none⟩ (.slice A1 L c1)).setCell ⟨B + 1, 0, none⟩ (.int .i64 p.time)).setCell ⟨B + 1, 1, none⟩ (.int .i64 p.face)).setCell ⟨B + 1, 2, none⟩ (.int .i64 p.real)).setCell ⟨B + 1, 3, none⟩ (.slice A1 L c1)).setCell ⟨B + 1, 4, none⟩ (.string p.note)) (B + 1) 47 #[.int .i64 p.time, .int .i64 p.face, .int .i64 p.real, .slice A1 L c1, .string p.note] ∧ World.ownsRow ((((((w1.setCell ⟨B, 3, none⟩ (.slice A1 L c1)).setCell ⟨B + 1, 0, none⟩ (.int .i64 p.time)).setCell ⟨B + 1, 1, none⟩ (.int .i64 p.face)).setCell ⟨B + 1, 2, none⟩ (.int .i64 p.real)).setCell ⟨B + 1, 3, none⟩ (.slice A1 L c1)).setCell ⟨B + 1, 4, none⟩ (.string p.note)) B 5 1 (.slice A1 L c1) L (p.data.map u8) ∧ Below B w ((((((w1.setCell ⟨B, 3, none⟩ (.slice A1 L c1)).setCell ⟨B + 1, 0, none⟩ (.int .i64 p.time)).setCell ⟨B + 1, 1, none⟩ (.int .i64 p.face)).setCell ⟨B + 1, 2, none⟩ (.int .i64 p.real)).setCell ⟨B + 1, 3, none⟩ (.slice A1 L c1)).setCell ⟨B + 1, 4, none⟩ (.string p.note))) := Lib.hid ⟨by simpa using y6, o6, e6⟩
  have q3 : W0.cell? ⟨B, 3, none⟩ = some (.slice A L c) := HK0.out.1.cell 3
  have r0 : w1.cell? ⟨B, 0, none⟩ = some (.int .i64 p.time) := k1.cell 0
  have r1 : w1.cell? ⟨B, 1, none⟩ = some (.int .i64 p.face) := k1.cell 1
  have r2 : w1.cell? ⟨B, 2, none⟩ = some (.int .i64 p.real) := k1.cell 2
  have r3 : w1.cell? ⟨B, 3, none⟩ = some (.slice A L c) := k1.cell 3
  have r4 : w1.cell? ⟨B, 4, none⟩ = some (.string p.note) := k1.cell 4
  have rf : w1.frozen? ⟨B, 3, none⟩ = false := k1.frozen 3
  have t0 : w1.cell? ⟨B + 1, 0, none⟩ = some (.int .i64 0) := z1.cell 0
  have tf0 : w1.frozen? ⟨B + 1, 0, none⟩ = false := z1.frozen 0
  have t1 : w1.cell? ⟨B + 1, 1, none⟩ = some (.int .i64 0) := z1.cell 1
  have tf1 : w1.frozen? ⟨B + 1, 1, none⟩ = false := z1.frozen 1
  have t2 : w1.cell? ⟨B + 1, 2, none⟩ = some (.int .i64 0) := z1.cell 2
  have tf2 : w1.frozen? ⟨B + 1, 2, none⟩ = false := z1.frozen 2
  have t3 : w1.cell? ⟨B + 1, 3, none⟩ = some (.slice none 0 0) := z1.cell 3
  have tf3 : w1.frozen? ⟨B + 1, 3, none⟩ = false := z1.frozen 3
  have t4 : w1.cell? ⟨B + 1, 4, none⟩ = some (.string ⟨#[]⟩) := z1.cell 4
  have tf4 : w1.frozen? ⟨B + 1, 4, none⟩ = false := z1.frozen 4
  rw [hB]
  clear hm hm0 HK0 HZ0 ho1 hg1 k1 z1 b1 s1 y1 o1 e1 y2 y3 y4 y5 y6 o6 e6 hge hL HBy
  go_enter Try.func43, Try.ntmps43
  go_wp2_with (at_builtin; refine Lib.wpList_append_run _ rfl _ _ _ _ rfl _ _ rfl rfl _ _ hrun ?_)
  generalize hW9 : (((((w1.setCell ⟨B, 3, none⟩ (.slice A1 L c1)).setCell ⟨B + 1, 0, none⟩ (.int .i64 p.time)).setCell ⟨B + 1, 1, none⟩ (.int .i64 p.face)).setCell ⟨B + 1, 2, none⟩ (.int .i64 p.real)).setCell ⟨B + 1, 3, none⟩ (.slice A1 L c1)).setCell ⟨B + 1, 4, none⟩ (.string p.note) = W9 at HEND ⊢
  obtain ⟨hb9, ho9, hw9⟩ := HEND.out
  have g0 : W9.cell? ⟨B + 1, 0, none⟩ = some (.int .i64 p.time) := hb9.cell 0
  have g1 : W9.cell? ⟨B + 1, 1, none⟩ = some (.int .i64 p.face) := hb9.cell 1
  have g2 : W9.cell? ⟨B + 1, 2, none⟩ = some (.int .i64 p.real) := hb9.cell 2
  have g3 : W9.cell? ⟨B + 1, 3, none⟩ = some (.slice A1 L c1) := hb9.cell 3
  have g4 : W9.cell? ⟨B + 1, 4, none⟩ = some (.string p.note) := hb9.cell 4
  exact bodyPost_ret (v := .agg #[.int .i64 p.time, .int .i64 p.face, .int .i64 p.real, .slice A1 L c1, .string p.note]) (by simp [results, Try.results43, go_sem, g0, g1, g2, g3, g4]) rfl ⟨A1, c1, rfl, ho9, hw9⟩
end Go.Proofs.Ytlimkckomdipkaa
namespace Go.Proofs.Ytlimkckomdipkaa
open Go.RowKit
theorem plain_step2 {w W : World} {B g f L c5 b5 : Nat} {v x0 x1 x2 x3 : Value} {xs : List Pkt} {rows : List (List Value)} {p : Pkt} {A5 : Option Addr} {FC ZC CC : Array Value}
    (hL : p.data.length = L) (HL4 : OwnP W (B + 2) v xs rows) (HO4 : Blk W g 27 #[x0, x1, x2, x3, v]) (HF4 : Blk W f 54 FC) (HZ4 : Blk W (B + 1) 27 ZC) (HW4 : Blk W B 27 CC ∧ Below B w W)
    (hg2 : B + 2 ≤ g)
    (ho5 : W.ownsRow b5 5 1 (.slice A5 L c5) L (p.data.map u8)) (hbyt : ∀ x ∈ p.data, x < 256) (hd : L ≤ 400) (hx : xs.length ≤ 100)
    (ht : -9223372036854775808 ≤ p.time ∧ p.time ≤ 9223372036854775807) (hr : -9223372036854775808 ≤ p.real ∧ p.real ≤ 9223372036854775807) :
    ∃ A7 n7 c7 w7, (Builtin.append_ #[25, 25] 25 #[v, .slice (some ⟨W.heap.size, 0, none⟩) 1 1]).run Try.prog (W.alloc (.cells #[.int .i64 p.time, .int .i64 0, .int .i64 p.real, .slice A5 L c5, .string ⟨#[]⟩] 47)) = .ok (.slice A7 n7 c7) w7 ∧
      Blk w7 g 27 #[x0, x1, x2, x3, v] ∧
      ∃ r, OwnP (w7.setCell ⟨g, 4, none⟩ (.slice A7 n7 c7)) (B + 2) (.slice A7 n7 c7) (xs ++ [⟨p.time, 0, p.real, p.data, ⟨#[]⟩⟩]) (rows ++ [r]) ∧ Blk (w7.setCell ⟨g, 4, none⟩ (.slice A7 n7 c7)) g 27 #[x0, x1, x2, x3, .slice A7 n7 c7] ∧ Blk (w7.setCell ⟨g, 4, none⟩ (.slice A7 n7 c7)) f 54 FC ∧ Blk (w7.setCell ⟨g, 4, none⟩ (.slice A7 n7 c7)) (B + 1) 27 ZC ∧ Blk (w7.setCell ⟨g, 4, none⟩ (.slice A7 n7 c7)) B 27 CC ∧ Below B w (w7.setCell ⟨g, 4, none⟩ (.slice A7 n7 c7)) := by
  subst hL
  have hl0 := HW4.1.lt
  have hl1 := HZ4.lt
  obtain ⟨v7, w7, hrun, ho7, hg7, _⟩ := run_own_struct W (B + 2) 47 5 64 25 _ Try.underlying25 info47 (by rfl) (by decide) v _ _ HL4.own [.int .i64 p.time, .int .i64 0, .int .i64 p.real, .slice A5 p.data.length c5, .string ⟨#[]⟩] rfl (by
    intro u hu; simp only [List.mem_cons, List.not_mem_nil, or_false] at hu; rcases hu with rfl | rfl | rfl | rfl | rfl <;> rfl) (by unfold maxLen; omega) (by omega) (by omega)
  obtain ⟨A7, n7, c7, rfl⟩ : ∃ A n c, v7 = .slice A n c := by
    rcases ho7.2 with ⟨e, _⟩ | ⟨g, cap, _, e, _⟩
    · exact ⟨_, _, _, e⟩
    · exact ⟨_, _, _, e⟩
  refine ⟨A7, n7, c7, w7, hrun, ?_⟩
  have hne : ∀ (k t : Nat) (cs : Array Value), Blk W k t cs → 47 ≠ t → Blk w7 k t cs := fun k t cs h hk =>
    (h.alloc _).grown hg7 (fun e => own_blk_ne HL4.own h hk e.symm)
  have hO7 := hne g 27 _ HO4 (by decide)
  have HL7 : OwnP w7 (B + 2) (.slice A7 n7 c7) (xs ++ [⟨p.time, 0, p.real, p.data, ⟨#[]⟩⟩]) (rows ++ [[.int .i64 p.time, .int .i64 0, .int .i64 p.real, .slice A5 p.data.length c5, .string ⟨#[]⟩]]) := by
    have HL6 : OwnP (W.alloc (.cells #[.int .i64 p.time, .int .i64 0, .int .i64 p.real, .slice A5 p.data.length c5, .string ⟨#[]⟩] 47)) (B + 2) v xs rows := OwnP.below HL4 ((Below.refl _ W).alloc (Nat.le_refl _) _)
    exact OwnP.snoc HL6 ho7 hg7 rfl ⟨A5, c5, rfl, own_mono (ho5.alloc _) (Nat.zero_le _), hbyt, Nat.le_trans hd (by decide), by show ByteArray.size ⟨#[]⟩ ≤ _; simp [ByteArray.size], ht, ⟨(by decide : (-9223372036854775808 : Int) ≤ 0), (by decide : (0 : Int) ≤ 9223372036854775807)⟩, hr⟩ (by
      intro u hu; simp only [List.mem_cons, List.not_mem_nil, or_false] at hu; rcases hu with rfl | rfl | rfl | rfl | rfl <;> rfl)
  refine ⟨hO7, _, OwnP.set HL7 hO7, by simpa using hO7.set_ 4 (.slice A7 n7 c7), (hne f 54 _ HF4 (by decide)).far (p := ⟨g, 4, none⟩) (fun e => ?_) _, (hne (B + 1) 27 _ HZ4 (by decide)).far (p := ⟨g, 4, none⟩) (by show B + 1 ≠ g; omega) _, (hne B 27 _ HW4.1 (by decide)).far (p := ⟨g, 4, none⟩) (by show B ≠ g; omega) _, ?_⟩
  · have h1 := hne f 54 _ HF4 (by decide)
    have e' : f = g := e
    subst e'
    unfold Blk at h1 hO7
    rw [h1] at hO7
    injection hO7 with h; injection h with _ h; cases h
  · have h7 : Below B w w7 := ((HW4.2.alloc (by omega) _).grown hg7 (by rw [alloc_size]; omega) (fun k hk => by have := (HL4.own.lt _ hk).1; omega))
    exact h7.setCell (p := ⟨g, 4, none⟩) (by show B ≤ g; omega) _
end Go.Proofs.Ytlimkckomdipkaa
