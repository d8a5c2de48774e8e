/- parse, of a file of blocks. -/
import Derived.Test.YtlimkckomdipkaaRd3
import Derived.Test.YtlimkckomdipkaaW10
namespace Go.Proofs.Ytlimkckomdipkaa
open Go.RowKit

abbrev cap0 : Cap := ⟨⟨#[]⟩, [], [], [], []⟩
abbrev pl0 : Pl := ⟨none, 0, none, 0, none, 0, none, 0⟩
theorem capO_nil (w : World) (b : Nat) : CapO w b pl0 cap0 :=
  ⟨by show ByteArray.size ⟨#[]⟩ ≤ _; simp [ByteArray.size], ⟨[], OwnL.nil w b 54 3 FacE⟩, ⟨w, [], OwnM.nil namKd w w b⟩, ⟨w, [], OwnM.nil secKd w w b⟩, ⟨w, [], OwnM.nil pktKd w w b⟩, (by decide : 0 * 32 ≤ 140737488355328), (by decide : 0 * 40 ≤ 140737488355328), (by decide : 0 * 40 ≤ 140737488355328), (by decide : 0 * 64 ≤ 140737488355328)⟩
theorem rd_new {w : World} {R : Nat} {O : Value} (h : Blk w R 70 #[O, .string ⟨#[]⟩, .slice none 0 0, .slice none 0 0, .slice none 0 0, .slice none 0 0, .slice none 0 0, .int .i64 0]) : Rd w R R O pl0 none 0 [] cap0 0 0 :=
  ⟨h, capO_nil w R, World.ownsRow_nil w R 109 3, Nat.le_refl _⟩

abbrev zero8 : Array Value := #[.nilIface, .string ⟨#[]⟩, .slice none 0 0, .slice none 0 0, .slice none 0 0, .slice none 0 0, .slice none 0 0, .int .i64 0]
theorem facL_mono {w : World} {b b' : Nat} {v : Value} {xs : List Fac} {rows : List (List Value)} (h : OwnL w b 54 3 FacE v xs rows) (hb : b' ≤ b) : OwnL w b' 54 3 FacE v xs rows := ⟨h.own.mono hb, h.len, h.each, h.one⟩
theorem OwnM.mono {α : Type} {κ : Kind α} {w0 w : World} {b b' k : Nat} {v : Value} {xs : List α} {rows : List (List Value)} (h : OwnM κ w0 w b v xs rows k) (hb : b' ≤ b) : OwnM κ w0 w b' v xs rows k :=
  ⟨h.own.mono hb, h.len, fun i h1 h2 hk => by
    obtain ⟨A, c, e, ho, r⟩ := h.done i h1 h2 hk
    exact ⟨A, c, e, ho.mono hb, r⟩, h.rest⟩
theorem CapO.mono {w : World} {b b' : Nat} {q : Pl} {c : Cap} (h : CapO w b q c) (hb : b' ≤ b) : CapO w b' q c := by
  obtain ⟨hn, ⟨rf, hf⟩, ⟨w1, rn, hn1⟩, ⟨w2, rs, hs1⟩, ⟨w3, rp, hp1⟩, a1, a2, a3, a4⟩ := h
  exact ⟨hn, ⟨rf, facL_mono hf hb⟩, ⟨w1, rn, hn1.mono hb⟩, ⟨w2, rs, hs1.mono hb⟩, ⟨w3, rp, hp1.mono hb⟩, a1, a2, a3, a4⟩
/-- Eight cells of a block written anew. -/
theorem set8 {w : World} {g T : Nat} {z0 z1 z2 z3 z4 z5 z6 z7 : Value} (h : Blk w g T #[z0, z1, z2, z3, z4, z5, z6, z7]) (u0 u1 u2 u3 u4 u5 u6 u7 : Value) :
    Blk ((((((((w.setCell ⟨g, 0, none⟩ u0).setCell ⟨g, 1, none⟩ u1).setCell ⟨g, 2, none⟩ u2).setCell ⟨g, 3, none⟩ u3).setCell ⟨g, 4, none⟩ u4).setCell ⟨g, 5, none⟩ u5).setCell ⟨g, 6, none⟩ u6).setCell ⟨g, 7, none⟩ u7) g T #[u0, u1, u2, u3, u4, u5, u6, u7] ∧
    AlikeT T w ((((((((w.setCell ⟨g, 0, none⟩ u0).setCell ⟨g, 1, none⟩ u1).setCell ⟨g, 2, none⟩ u2).setCell ⟨g, 3, none⟩ u3).setCell ⟨g, 4, none⟩ u4).setCell ⟨g, 5, none⟩ u5).setCell ⟨g, 6, none⟩ u6).setCell ⟨g, 7, none⟩ u7) ∧
    ∀ B w0, Below B w0 w → B ≤ g → Below B w0 ((((((((w.setCell ⟨g, 0, none⟩ u0).setCell ⟨g, 1, none⟩ u1).setCell ⟨g, 2, none⟩ u2).setCell ⟨g, 3, none⟩ u3).setCell ⟨g, 4, none⟩ u4).setCell ⟨g, 5, none⟩ u5).setCell ⟨g, 6, none⟩ u6).setCell ⟨g, 7, none⟩ u7) := by
  have b0 := h.set_ 0 u0
  have b1 := b0.set_ 1 u1
  have b2 := b1.set_ 2 u2
  have b3 := b2.set_ 3 u3
  have b4 := b3.set_ 4 u4
  have b5 := b4.set_ 5 u5
  have b6 := b5.set_ 6 u6
  have b7 := b6.set_ 7 u7
  refine ⟨by simpa using b7, (((((((AlikeT.set h u0).trans (AlikeT.set b0 u1)).trans (AlikeT.set b1 u2)).trans (AlikeT.set b2 u3)).trans (AlikeT.set b3 u4)).trans (AlikeT.set b4 u5)).trans (AlikeT.set b5 u6)).trans (AlikeT.set b6 u7), fun B w0 hb hB => ?_⟩
  exact (((((((hb.setCell (p := ⟨g, 0, none⟩) hB _).setCell (p := ⟨g, 1, none⟩) hB _).setCell (p := ⟨g, 2, none⟩) hB _).setCell (p := ⟨g, 3, none⟩) hB _).setCell (p := ⟨g, 4, none⟩) hB _).setCell (p := ⟨g, 5, none⟩) hB _).setCell (p := ⟨g, 6, none⟩) hB _).setCell (p := ⟨g, 7, none⟩) hB _

/-- What parse leaves. -/
def ParsePost (w : World) (low ok : Bool) (c : Cap) (n T : Nat) (e : Ending) (w' : World) : Prop :=
  Below w.heap.size w w' ∧ ((ok = true ∧ ∃ q A cp, e = .returned (.tuple #[.agg (rdV (ordV low) q c A n cp T), .int .i64 0]) ∧ CapO w' w.heap.size q c) ∨
    (ok = false ∧ e = .returned (.tuple #[.agg zero8, .int .i64 11])))
set_option maxRecDepth 100000 in
set_option maxHeartbeats 4000000 in
theorem parse_new {w : World} {b0 o N C n T : Nat} {low ok : Bool} {c : Cap} (hN : N ≤ 131072)
    (hk : ∀ w', Below w.heap.size w w' → Calls Try.prog 15 #[.slice (some ⟨b0, o, none⟩) N C] w' fun e w2 => e = .returned (.tuple #[.bool false, .bool low, .int .i64 0]) ∧ Below w'.heap.size w' w2)
    (hbl : ∀ w' R, Below w.heap.size w w' → w.heap.size < R → Rd w' R R (ordV low) pl0 none 0 [] cap0 0 0 → Calls Try.prog 71 #[.pointer (some ⟨R, 0, none⟩), .slice (some ⟨b0, o, none⟩) N C] w' fun e w2 => e = .returned (.bool ok) ∧ (∃ q A cp xs, Rd w2 R R (ordV low) q A cp xs c n T) ∧ Below R w' w2) :
    Calls Try.prog 40 #[.slice (some ⟨b0, o, none⟩) N C] w (ParsePost w low ok c n T) := by
  have HOR : Hid (∀ w : World, Calls Try.prog 27 #[.bool low] w fun e w' => e = .returned (ordV low) ∧ w' = w) := Lib.hid (fun w => order_any w low)
  obtain ⟨T', hO⟩ : ∃ T' : Nat, ordV low = .iface T' (.agg #[]) := by cases low <;> exact ⟨_, rfl⟩
  rw [hO] at hbl HOR
  obtain ⟨B, hB⟩ : ∃ B, w.heap.size = B := ⟨_, rfl⟩
  obtain ⟨W0, hW0⟩ : ∃ W0, w.alloc (.cells #[.nilIface, .string ⟨#[]⟩, .slice none 0 0, .slice none 0 0, .slice none 0 0, .slice none 0 0, .slice none 0 0, .int .i64 0] 70) = W0 := ⟨_, rfl⟩
  have HK0 : Hid (Blk W0 B 70 #[.nilIface, .string ⟨#[]⟩, .slice none 0 0, .slice none 0 0, .slice none 0 0, .slice none 0 0, .slice none 0 0, .int .i64 0] ∧ Below B w W0) := Lib.hid (by rw [← hW0, ← hB]; exact ⟨Blk.new _ _ _, (Below.refl _ w).alloc (Nat.le_refl _) _⟩)
  rw [hB] at hk hbl
  have HK := Lib.hid (hk W0 HK0.out.2)
  have HBL := Lib.hid hbl
  have HO := Lib.hid hO
  have HBB := Lib.hid hB
  clear hk hbl hO
  have hg : decide ((131072 : Int) < (N : Int)) = false := by simp; omega
  go_enter Try.func40, Try.ntmps40
  go_wp2_with fail
  refine HK.out.mono ?_
  rintro e w1 ⟨rfl, hb1⟩
  have HK1 : Hid (Blk w1 B 70 #[.nilIface, .string ⟨#[]⟩, .slice none 0 0, .slice none 0 0, .slice none 0 0, .slice none 0 0, .slice none 0 0, .int .i64 0] ∧ Below B w w1) := Lib.hid ⟨HK0.out.1.below hb1 HK0.out.1.lt, HK0.out.2.trans (hb1.mono (Nat.le_of_lt HK0.out.1.lt))⟩
  clear hb1 hW0
  go_wp2_with fail
  refine (HOR.out _).mono ?_
  rintro e w2 ⟨rfl, rfl⟩
  clear hB
  go_wp2_with fail
  have HW2 : Hid (∀ R, w2.heap.size = R → ∀ W2, w2.alloc (.cells #[.iface T' (.agg #[]), .string ⟨#[]⟩, .slice none 0 0, .slice none 0 0, .slice none 0 0, .slice none 0 0, .slice none 0 0, .int .i64 0] 70) = W2 → B < R ∧ (Blk W2 B 70 zero8 ∧ Below B w W2) ∧ Rd W2 R R (.iface T' (.agg #[])) pl0 none 0 [] cap0 0 0) := Lib.hid (by
    rintro R hR W2 hW2
    have hBR : B < R := by rw [← hR]; exact HK1.out.1.lt
    exact ⟨hBR, by rw [← hW2]; exact ⟨HK1.out.1.alloc _, HK1.out.2.alloc (by omega) _⟩, rd_new (by rw [← hW2, ← hR]; exact Blk.new _ _ _)⟩)
  generalize hW2 : w2.alloc (.cells #[.iface T' (.agg #[]), .string ⟨#[]⟩, .slice none 0 0, .slice none 0 0, .slice none 0 0, .slice none 0 0, .slice none 0 0, .int .i64 0] 70) = W2
  generalize hR : w2.heap.size = R
  obtain ⟨hBR, hK2, hR2⟩ := HW2.out R hR W2 hW2
  have HK2 := Lib.hid hK2
  have HB2 := Lib.hid (HBL.out W2 R hK2.2 hBR hR2)
  clear HW2 hW2 hR hK2 hR2 HBL HK1 HOR
  refine HB2.out.mono ?_
  rintro e w3 ⟨rfl, ⟨q, A, cp, xs, h3⟩, hb3⟩
  have H3 := Lib.hid h3
  have HK3 : Hid (Blk w3 B 70 zero8 ∧ Below B w w3) := Lib.hid ⟨HK2.out.1.below hb3 hBR, HK2.out.2.trans (hb3.mono (Nat.le_of_lt hBR))⟩
  have z0 : w3.cell? ⟨B, 0, none⟩ = some (.nilIface) := HK3.out.1.cell 0
  have zf0 : w3.frozen? ⟨B, 0, none⟩ = false := HK3.out.1.frozen 0
  have z1 : w3.cell? ⟨B, 1, none⟩ = some (.string ⟨#[]⟩) := HK3.out.1.cell 1
  have zf1 : w3.frozen? ⟨B, 1, none⟩ = false := HK3.out.1.frozen 1
  have z2 : w3.cell? ⟨B, 2, none⟩ = some (.slice none 0 0) := HK3.out.1.cell 2
  have zf2 : w3.frozen? ⟨B, 2, none⟩ = false := HK3.out.1.frozen 2
  have z3 : w3.cell? ⟨B, 3, none⟩ = some (.slice none 0 0) := HK3.out.1.cell 3
  have zf3 : w3.frozen? ⟨B, 3, none⟩ = false := HK3.out.1.frozen 3
  have z4 : w3.cell? ⟨B, 4, none⟩ = some (.slice none 0 0) := HK3.out.1.cell 4
  have zf4 : w3.frozen? ⟨B, 4, none⟩ = false := HK3.out.1.frozen 4
  have z5 : w3.cell? ⟨B, 5, none⟩ = some (.slice none 0 0) := HK3.out.1.cell 5
  have zf5 : w3.frozen? ⟨B, 5, none⟩ = false := HK3.out.1.frozen 5
  have z6 : w3.cell? ⟨B, 6, none⟩ = some (.slice none 0 0) := HK3.out.1.cell 6
  have zf6 : w3.frozen? ⟨B, 6, none⟩ = false := HK3.out.1.frozen 6
  have z7 : w3.cell? ⟨B, 7, none⟩ = some (.int .i64 0) := HK3.out.1.cell 7
  have zf7 : w3.frozen? ⟨B, 7, none⟩ = false := HK3.out.1.frozen 7
  have r0 : w3.cell? ⟨R, 0, none⟩ = some (.iface T' (.agg #[])) := H3.out.blk.cell 0
  have r1 : w3.cell? ⟨R, 1, none⟩ = some (.string c.note) := H3.out.blk.cell 1
  have r2 : w3.cell? ⟨R, 2, none⟩ = some (.slice q.pf c.faces.length q.cf) := H3.out.blk.cell 2
  have r3 : w3.cell? ⟨R, 3, none⟩ = some (.slice q.pn c.names.length q.cn) := H3.out.blk.cell 3
  have r4 : w3.cell? ⟨R, 4, none⟩ = some (.slice q.ps c.secs.length q.cs) := H3.out.blk.cell 4
  have r5 : w3.cell? ⟨R, 5, none⟩ = some (.slice q.pp c.pkts.length q.cp) := H3.out.blk.cell 5
  have r6 : w3.cell? ⟨R, 6, none⟩ = some (.slice A n cp) := H3.out.blk.cell 6
  have r7 : w3.cell? ⟨R, 7, none⟩ = some (.int .i64 (T : Int)) := H3.out.blk.cell 7
  clear h3 hb3 HB2 HK2
  cases ok with
  | true =>
    have HEND := Lib.hid (set8 HK3.out.1 (.iface T' (.agg #[])) (.string c.note) (.slice q.pf c.faces.length q.cf) (.slice q.pn c.names.length q.cn) (.slice q.ps c.secs.length q.cs) (.slice q.pp c.pkts.length q.cp) (.slice A n cp) (.int .i64 (T : Int)))
    go_wp2_with fail
    generalize hW9 : ((((((((w3.setCell ⟨B, 0, none⟩ (.iface T' (.agg #[]))).setCell ⟨B, 1, none⟩ (.string c.note)).setCell ⟨B, 2, none⟩ (.slice q.pf c.faces.length q.cf)).setCell ⟨B, 3, none⟩ (.slice q.pn c.names.length q.cn)).setCell ⟨B, 4, none⟩ (.slice q.ps c.secs.length q.cs)).setCell ⟨B, 5, none⟩ (.slice q.pp c.pkts.length q.cp)).setCell ⟨B, 6, none⟩ (.slice A n cp)).setCell ⟨B, 7, none⟩ (.int .i64 (T : Int))) = W9 at HEND ⊢
    obtain ⟨hb9, ha9, hw9⟩ := HEND.out
    have y0 : W9.cell? ⟨B, 0, none⟩ = some (.iface T' (.agg #[])) := hb9.cell 0
    have y1 : W9.cell? ⟨B, 1, none⟩ = some (.string c.note) := hb9.cell 1
    have y2 : W9.cell? ⟨B, 2, none⟩ = some (.slice q.pf c.faces.length q.cf) := hb9.cell 2
    have y3 : W9.cell? ⟨B, 3, none⟩ = some (.slice q.pn c.names.length q.cn) := hb9.cell 3
    have y4 : W9.cell? ⟨B, 4, none⟩ = some (.slice q.ps c.secs.length q.cs) := hb9.cell 4
    have y5 : W9.cell? ⟨B, 5, none⟩ = some (.slice q.pp c.pkts.length q.cp) := hb9.cell 5
    have y6 : W9.cell? ⟨B, 6, none⟩ = some (.slice A n cp) := hb9.cell 6
    have y7 : W9.cell? ⟨B, 7, none⟩ = some (.int .i64 (T : Int)) := hb9.cell 7
    exact bodyPost_ret (v := .tuple #[.agg (rdV (.iface T' (.agg #[])) q c A n cp T), .int .i64 0]) (by simp [results, Try.results40, go_sem, y0, y1, y2, y3, y4, y5, y6, y7, rdV]) rfl (by unfold ParsePost; rw [HBB.out]; exact ⟨hw9 B w HK3.out.2 (Nat.le_refl _), Or.inl ⟨rfl, q, A, cp, by rw [HO.out], (H3.out.cap.mono (Nat.le_of_lt hBR)).alike ha9 (by decide)⟩⟩)
  | false =>
    have HEND := Lib.hid (set8 HK3.out.1 (.nilIface) (.string ⟨#[]⟩) (.slice none 0 0) (.slice none 0 0) (.slice none 0 0) (.slice none 0 0) (.slice none 0 0) (.int .i64 0))
    go_wp2_with fail
    generalize hW9 : ((((((((w3.setCell ⟨B, 0, none⟩ (.nilIface)).setCell ⟨B, 1, none⟩ (.string ⟨#[]⟩)).setCell ⟨B, 2, none⟩ (.slice none 0 0)).setCell ⟨B, 3, none⟩ (.slice none 0 0)).setCell ⟨B, 4, none⟩ (.slice none 0 0)).setCell ⟨B, 5, none⟩ (.slice none 0 0)).setCell ⟨B, 6, none⟩ (.slice none 0 0)).setCell ⟨B, 7, none⟩ (.int .i64 0)) = W9 at HEND ⊢
    obtain ⟨hb9, ha9, hw9⟩ := HEND.out
    have y0 : W9.cell? ⟨B, 0, none⟩ = some (.nilIface) := hb9.cell 0
    have y1 : W9.cell? ⟨B, 1, none⟩ = some (.string ⟨#[]⟩) := hb9.cell 1
    have y2 : W9.cell? ⟨B, 2, none⟩ = some (.slice none 0 0) := hb9.cell 2
    have y3 : W9.cell? ⟨B, 3, none⟩ = some (.slice none 0 0) := hb9.cell 3
    have y4 : W9.cell? ⟨B, 4, none⟩ = some (.slice none 0 0) := hb9.cell 4
    have y5 : W9.cell? ⟨B, 5, none⟩ = some (.slice none 0 0) := hb9.cell 5
    have y6 : W9.cell? ⟨B, 6, none⟩ = some (.slice none 0 0) := hb9.cell 6
    have y7 : W9.cell? ⟨B, 7, none⟩ = some (.int .i64 0) := hb9.cell 7
    exact bodyPost_ret (v := .tuple #[.agg zero8, .int .i64 11]) (by simp [results, Try.results40, go_sem, y0, y1, y2, y3, y4, y5, y6, y7, zero8]) rfl (by unfold ParsePost; rw [HBB.out]; exact ⟨hw9 B w HK3.out.2 (Nat.le_refl _), Or.inr ⟨rfl, rfl⟩⟩)
set_option maxRecDepth 100000 in
set_option maxHeartbeats 4000000 in
theorem parse_old {w : World} {b0 o N C n T : Nat} {low ok : Bool} {c : Cap} (hN : N ≤ 131072)
    (hk : ∀ w', Below w.heap.size w w' → Calls Try.prog 15 #[.slice (some ⟨b0, o, none⟩) N C] w' fun e w2 => e = .returned (.tuple #[.bool true, .bool low, .int .i64 0]) ∧ Below w'.heap.size w' w2)
    (hbl : ∀ w' R, Below w.heap.size w w' → w.heap.size < R → Rd w' R R (ordV low) pl0 none 0 [] cap0 0 0 → Calls Try.prog 70 #[.pointer (some ⟨R, 0, none⟩), .slice (some ⟨b0, o, none⟩) N C] w' fun e w2 => e = .returned (.bool ok) ∧ (∃ q A cp xs, Rd w2 R R (ordV low) q A cp xs c n T) ∧ Below R w' w2) :
    Calls Try.prog 40 #[.slice (some ⟨b0, o, none⟩) N C] w (ParsePost w low ok c n T) := by
  have HOR : Hid (∀ w : World, Calls Try.prog 27 #[.bool low] w fun e w' => e = .returned (ordV low) ∧ w' = w) := Lib.hid (fun w => order_any w low)
  obtain ⟨T', hO⟩ : ∃ T' : Nat, ordV low = .iface T' (.agg #[]) := by cases low <;> exact ⟨_, rfl⟩
  rw [hO] at hbl HOR
  obtain ⟨B, hB⟩ : ∃ B, w.heap.size = B := ⟨_, rfl⟩
  obtain ⟨W0, hW0⟩ : ∃ W0, w.alloc (.cells #[.nilIface, .string ⟨#[]⟩, .slice none 0 0, .slice none 0 0, .slice none 0 0, .slice none 0 0, .slice none 0 0, .int .i64 0] 70) = W0 := ⟨_, rfl⟩
  have HK0 : Hid (Blk W0 B 70 #[.nilIface, .string ⟨#[]⟩, .slice none 0 0, .slice none 0 0, .slice none 0 0, .slice none 0 0, .slice none 0 0, .int .i64 0] ∧ Below B w W0) := Lib.hid (by rw [← hW0, ← hB]; exact ⟨Blk.new _ _ _, (Below.refl _ w).alloc (Nat.le_refl _) _⟩)
  rw [hB] at hk hbl
  have HK := Lib.hid (hk W0 HK0.out.2)
  have HBL := Lib.hid hbl
  have HO := Lib.hid hO
  have HBB := Lib.hid hB
  clear hk hbl hO
  have hg : decide ((131072 : Int) < (N : Int)) = false := by simp; omega
  go_enter Try.func40, Try.ntmps40
  go_wp2_with fail
  refine HK.out.mono ?_
  rintro e w1 ⟨rfl, hb1⟩
  have HK1 : Hid (Blk w1 B 70 #[.nilIface, .string ⟨#[]⟩, .slice none 0 0, .slice none 0 0, .slice none 0 0, .slice none 0 0, .slice none 0 0, .int .i64 0] ∧ Below B w w1) := Lib.hid ⟨HK0.out.1.below hb1 HK0.out.1.lt, HK0.out.2.trans (hb1.mono (Nat.le_of_lt HK0.out.1.lt))⟩
  clear hb1 hW0
  go_wp2_with fail
  refine (HOR.out _).mono ?_
  rintro e w2 ⟨rfl, rfl⟩
  clear hB
  go_wp2_with fail
  have HW2 : Hid (∀ R, w2.heap.size = R → ∀ W2, w2.alloc (.cells #[.iface T' (.agg #[]), .string ⟨#[]⟩, .slice none 0 0, .slice none 0 0, .slice none 0 0, .slice none 0 0, .slice none 0 0, .int .i64 0] 70) = W2 → B < R ∧ (Blk W2 B 70 zero8 ∧ Below B w W2) ∧ Rd W2 R R (.iface T' (.agg #[])) pl0 none 0 [] cap0 0 0) := Lib.hid (by
    rintro R hR W2 hW2
    have hBR : B < R := by rw [← hR]; exact HK1.out.1.lt
    exact ⟨hBR, by rw [← hW2]; exact ⟨HK1.out.1.alloc _, HK1.out.2.alloc (by omega) _⟩, rd_new (by rw [← hW2, ← hR]; exact Blk.new _ _ _)⟩)
  generalize hW2 : w2.alloc (.cells #[.iface T' (.agg #[]), .string ⟨#[]⟩, .slice none 0 0, .slice none 0 0, .slice none 0 0, .slice none 0 0, .slice none 0 0, .int .i64 0] 70) = W2
  generalize hR : w2.heap.size = R
  obtain ⟨hBR, hK2, hR2⟩ := HW2.out R hR W2 hW2
  have HK2 := Lib.hid hK2
  have HB2 := Lib.hid (HBL.out W2 R hK2.2 hBR hR2)
  clear HW2 hW2 hR hK2 hR2 HBL HK1 HOR
  refine HB2.out.mono ?_
  rintro e w3 ⟨rfl, ⟨q, A, cp, xs, h3⟩, hb3⟩
  have H3 := Lib.hid h3
  have HK3 : Hid (Blk w3 B 70 zero8 ∧ Below B w w3) := Lib.hid ⟨HK2.out.1.below hb3 hBR, HK2.out.2.trans (hb3.mono (Nat.le_of_lt hBR))⟩
  have z0 : w3.cell? ⟨B, 0, none⟩ = some (.nilIface) := HK3.out.1.cell 0
  have zf0 : w3.frozen? ⟨B, 0, none⟩ = false := HK3.out.1.frozen 0
  have z1 : w3.cell? ⟨B, 1, none⟩ = some (.string ⟨#[]⟩) := HK3.out.1.cell 1
  have zf1 : w3.frozen? ⟨B, 1, none⟩ = false := HK3.out.1.frozen 1
  have z2 : w3.cell? ⟨B, 2, none⟩ = some (.slice none 0 0) := HK3.out.1.cell 2
  have zf2 : w3.frozen? ⟨B, 2, none⟩ = false := HK3.out.1.frozen 2
  have z3 : w3.cell? ⟨B, 3, none⟩ = some (.slice none 0 0) := HK3.out.1.cell 3
  have zf3 : w3.frozen? ⟨B, 3, none⟩ = false := HK3.out.1.frozen 3
  have z4 : w3.cell? ⟨B, 4, none⟩ = some (.slice none 0 0) := HK3.out.1.cell 4
  have zf4 : w3.frozen? ⟨B, 4, none⟩ = false := HK3.out.1.frozen 4
  have z5 : w3.cell? ⟨B, 5, none⟩ = some (.slice none 0 0) := HK3.out.1.cell 5
  have zf5 : w3.frozen? ⟨B, 5, none⟩ = false := HK3.out.1.frozen 5
  have z6 : w3.cell? ⟨B, 6, none⟩ = some (.slice none 0 0) := HK3.out.1.cell 6
  have zf6 : w3.frozen? ⟨B, 6, none⟩ = false := HK3.out.1.frozen 6
  have z7 : w3.cell? ⟨B, 7, none⟩ = some (.int .i64 0) := HK3.out.1.cell 7
  have zf7 : w3.frozen? ⟨B, 7, none⟩ = false := HK3.out.1.frozen 7
  have r0 : w3.cell? ⟨R, 0, none⟩ = some (.iface T' (.agg #[])) := H3.out.blk.cell 0
  have r1 : w3.cell? ⟨R, 1, none⟩ = some (.string c.note) := H3.out.blk.cell 1
  have r2 : w3.cell? ⟨R, 2, none⟩ = some (.slice q.pf c.faces.length q.cf) := H3.out.blk.cell 2
  have r3 : w3.cell? ⟨R, 3, none⟩ = some (.slice q.pn c.names.length q.cn) := H3.out.blk.cell 3
  have r4 : w3.cell? ⟨R, 4, none⟩ = some (.slice q.ps c.secs.length q.cs) := H3.out.blk.cell 4
  have r5 : w3.cell? ⟨R, 5, none⟩ = some (.slice q.pp c.pkts.length q.cp) := H3.out.blk.cell 5
  have r6 : w3.cell? ⟨R, 6, none⟩ = some (.slice A n cp) := H3.out.blk.cell 6
  have r7 : w3.cell? ⟨R, 7, none⟩ = some (.int .i64 (T : Int)) := H3.out.blk.cell 7
  clear h3 hb3 HB2 HK2
  cases ok with
  | true =>
    have HEND := Lib.hid (set8 HK3.out.1 (.iface T' (.agg #[])) (.string c.note) (.slice q.pf c.faces.length q.cf) (.slice q.pn c.names.length q.cn) (.slice q.ps c.secs.length q.cs) (.slice q.pp c.pkts.length q.cp) (.slice A n cp) (.int .i64 (T : Int)))
    go_wp2_with fail
    generalize hW9 : ((((((((w3.setCell ⟨B, 0, none⟩ (.iface T' (.agg #[]))).setCell ⟨B, 1, none⟩ (.string c.note)).setCell ⟨B, 2, none⟩ (.slice q.pf c.faces.length q.cf)).setCell ⟨B, 3, none⟩ (.slice q.pn c.names.length q.cn)).setCell ⟨B, 4, none⟩ (.slice q.ps c.secs.length q.cs)).setCell ⟨B, 5, none⟩ (.slice q.pp c.pkts.length q.cp)).setCell ⟨B, 6, none⟩ (.slice A n cp)).setCell ⟨B, 7, none⟩ (.int .i64 (T : Int))) = W9 at HEND ⊢
    obtain ⟨hb9, ha9, hw9⟩ := HEND.out
    have y0 : W9.cell? ⟨B, 0, none⟩ = some (.iface T' (.agg #[])) := hb9.cell 0
    have y1 : W9.cell? ⟨B, 1, none⟩ = some (.string c.note) := hb9.cell 1
    have y2 : W9.cell? ⟨B, 2, none⟩ = some (.slice q.pf c.faces.length q.cf) := hb9.cell 2
    have y3 : W9.cell? ⟨B, 3, none⟩ = some (.slice q.pn c.names.length q.cn) := hb9.cell 3
    have y4 : W9.cell? ⟨B, 4, none⟩ = some (.slice q.ps c.secs.length q.cs) := hb9.cell 4
    have y5 : W9.cell? ⟨B, 5, none⟩ = some (.slice q.pp c.pkts.length q.cp) := hb9.cell 5
    have y6 : W9.cell? ⟨B, 6, none⟩ = some (.slice A n cp) := hb9.cell 6
    have y7 : W9.cell? ⟨B, 7, none⟩ = some (.int .i64 (T : Int)) := hb9.cell 7
    exact bodyPost_ret (v := .tuple #[.agg (rdV (.iface T' (.agg #[])) q c A n cp T), .int .i64 0]) (by simp [results, Try.results40, go_sem, y0, y1, y2, y3, y4, y5, y6, y7, rdV]) rfl (by unfold ParsePost; rw [HBB.out]; exact ⟨hw9 B w HK3.out.2 (Nat.le_refl _), Or.inl ⟨rfl, q, A, cp, by rw [HO.out], (H3.out.cap.mono (Nat.le_of_lt hBR)).alike ha9 (by decide)⟩⟩)
  | false =>
    have HEND := Lib.hid (set8 HK3.out.1 (.nilIface) (.string ⟨#[]⟩) (.slice none 0 0) (.slice none 0 0) (.slice none 0 0) (.slice none 0 0) (.slice none 0 0) (.int .i64 0))
    go_wp2_with fail
    generalize hW9 : ((((((((w3.setCell ⟨B, 0, none⟩ (.nilIface)).setCell ⟨B, 1, none⟩ (.string ⟨#[]⟩)).setCell ⟨B, 2, none⟩ (.slice none 0 0)).setCell ⟨B, 3, none⟩ (.slice none 0 0)).setCell ⟨B, 4, none⟩ (.slice none 0 0)).setCell ⟨B, 5, none⟩ (.slice none 0 0)).setCell ⟨B, 6, none⟩ (.slice none 0 0)).setCell ⟨B, 7, none⟩ (.int .i64 0)) = W9 at HEND ⊢
    obtain ⟨hb9, ha9, hw9⟩ := HEND.out
    have y0 : W9.cell? ⟨B, 0, none⟩ = some (.nilIface) := hb9.cell 0
    have y1 : W9.cell? ⟨B, 1, none⟩ = some (.string ⟨#[]⟩) := hb9.cell 1
    have y2 : W9.cell? ⟨B, 2, none⟩ = some (.slice none 0 0) := hb9.cell 2
    have y3 : W9.cell? ⟨B, 3, none⟩ = some (.slice none 0 0) := hb9.cell 3
    have y4 : W9.cell? ⟨B, 4, none⟩ = some (.slice none 0 0) := hb9.cell 4
    have y5 : W9.cell? ⟨B, 5, none⟩ = some (.slice none 0 0) := hb9.cell 5
    have y6 : W9.cell? ⟨B, 6, none⟩ = some (.slice none 0 0) := hb9.cell 6
    have y7 : W9.cell? ⟨B, 7, none⟩ = some (.int .i64 0) := hb9.cell 7
    exact bodyPost_ret (v := .tuple #[.agg zero8, .int .i64 11]) (by simp [results, Try.results40, go_sem, y0, y1, y2, y3, y4, y5, y6, y7, zero8]) rfl (by unfold ParsePost; rw [HBB.out]; exact ⟨hw9 B w HK3.out.2 (Nat.le_refl _), Or.inr ⟨rfl, rfl⟩⟩)
set_option maxRecDepth 100000 in
set_option maxHeartbeats 4000000 in
theorem parse_bad {w : World} {b0 o N C : Nat} (hN : N ≤ 131072)
    (hk : ∀ w', Below w.heap.size w w' → Calls Try.prog 15 #[.slice (some ⟨b0, o, none⟩) N C] w' fun e w2 => e = .returned (.tuple #[.bool false, .bool false, .int .i64 11]) ∧ Below w'.heap.size w' w2) :
    Calls Try.prog 40 #[.slice (some ⟨b0, o, none⟩) N C] w (ParsePost w false false cap0 0 0) := by
  obtain ⟨B, hB⟩ : ∃ B, w.heap.size = B := ⟨_, rfl⟩
  obtain ⟨W0, hW0⟩ : ∃ W0, w.alloc (.cells #[.nilIface, .string ⟨#[]⟩, .slice none 0 0, .slice none 0 0, .slice none 0 0, .slice none 0 0, .slice none 0 0, .int .i64 0] 70) = W0 := ⟨_, rfl⟩
  have HK0 : Hid (Blk W0 B 70 #[.nilIface, .string ⟨#[]⟩, .slice none 0 0, .slice none 0 0, .slice none 0 0, .slice none 0 0, .slice none 0 0, .int .i64 0] ∧ Below B w W0) := Lib.hid (by rw [← hW0, ← hB]; exact ⟨Blk.new _ _ _, (Below.refl _ w).alloc (Nat.le_refl _) _⟩)
  rw [hB] at hk
  have HK := Lib.hid (hk W0 HK0.out.2)
  have HBB := Lib.hid hB
  clear hk
  have hg : decide ((131072 : Int) < (N : Int)) = false := by simp; omega
  go_enter Try.func40, Try.ntmps40
  go_wp2_with fail
  refine HK.out.mono ?_
  rintro e w1 ⟨rfl, hb1⟩
  have HK1 : Hid (Blk w1 B 70 #[.nilIface, .string ⟨#[]⟩, .slice none 0 0, .slice none 0 0, .slice none 0 0, .slice none 0 0, .slice none 0 0, .int .i64 0] ∧ Below B w w1) := Lib.hid ⟨HK0.out.1.below hb1 HK0.out.1.lt, HK0.out.2.trans (hb1.mono (Nat.le_of_lt HK0.out.1.lt))⟩
  clear hb1 hW0
  have z0 : w1.cell? ⟨B, 0, none⟩ = some (.nilIface) := HK1.out.1.cell 0
  have zf0 : w1.frozen? ⟨B, 0, none⟩ = false := HK1.out.1.frozen 0
  have z1 : w1.cell? ⟨B, 1, none⟩ = some (.string ⟨#[]⟩) := HK1.out.1.cell 1
  have zf1 : w1.frozen? ⟨B, 1, none⟩ = false := HK1.out.1.frozen 1
  have z2 : w1.cell? ⟨B, 2, none⟩ = some (.slice none 0 0) := HK1.out.1.cell 2
  have zf2 : w1.frozen? ⟨B, 2, none⟩ = false := HK1.out.1.frozen 2
  have z3 : w1.cell? ⟨B, 3, none⟩ = some (.slice none 0 0) := HK1.out.1.cell 3
  have zf3 : w1.frozen? ⟨B, 3, none⟩ = false := HK1.out.1.frozen 3
  have z4 : w1.cell? ⟨B, 4, none⟩ = some (.slice none 0 0) := HK1.out.1.cell 4
  have zf4 : w1.frozen? ⟨B, 4, none⟩ = false := HK1.out.1.frozen 4
  have z5 : w1.cell? ⟨B, 5, none⟩ = some (.slice none 0 0) := HK1.out.1.cell 5
  have zf5 : w1.frozen? ⟨B, 5, none⟩ = false := HK1.out.1.frozen 5
  have z6 : w1.cell? ⟨B, 6, none⟩ = some (.slice none 0 0) := HK1.out.1.cell 6
  have zf6 : w1.frozen? ⟨B, 6, none⟩ = false := HK1.out.1.frozen 6
  have z7 : w1.cell? ⟨B, 7, none⟩ = some (.int .i64 0) := HK1.out.1.cell 7
  have zf7 : w1.frozen? ⟨B, 7, none⟩ = false := HK1.out.1.frozen 7
  have HEND := Lib.hid (set8 HK1.out.1 (.nilIface) (.string ⟨#[]⟩) (.slice none 0 0) (.slice none 0 0) (.slice none 0 0) (.slice none 0 0) (.slice none 0 0) (.int .i64 0))
  go_wp2_with fail
  generalize hW9 : ((((((((w1.setCell ⟨B, 0, none⟩ (.nilIface)).setCell ⟨B, 1, none⟩ (.string ⟨#[]⟩)).setCell ⟨B, 2, none⟩ (.slice none 0 0)).setCell ⟨B, 3, none⟩ (.slice none 0 0)).setCell ⟨B, 4, none⟩ (.slice none 0 0)).setCell ⟨B, 5, none⟩ (.slice none 0 0)).setCell ⟨B, 6, none⟩ (.slice none 0 0)).setCell ⟨B, 7, none⟩ (.int .i64 0)) = W9 at HEND ⊢
  obtain ⟨hb9, ha9, hw9⟩ := HEND.out
  have y0 : W9.cell? ⟨B, 0, none⟩ = some (.nilIface) := hb9.cell 0
  have y1 : W9.cell? ⟨B, 1, none⟩ = some (.string ⟨#[]⟩) := hb9.cell 1
  have y2 : W9.cell? ⟨B, 2, none⟩ = some (.slice none 0 0) := hb9.cell 2
  have y3 : W9.cell? ⟨B, 3, none⟩ = some (.slice none 0 0) := hb9.cell 3
  have y4 : W9.cell? ⟨B, 4, none⟩ = some (.slice none 0 0) := hb9.cell 4
  have y5 : W9.cell? ⟨B, 5, none⟩ = some (.slice none 0 0) := hb9.cell 5
  have y6 : W9.cell? ⟨B, 6, none⟩ = some (.slice none 0 0) := hb9.cell 6
  have y7 : W9.cell? ⟨B, 7, none⟩ = some (.int .i64 0) := hb9.cell 7
  exact bodyPost_ret (v := .tuple #[.agg zero8, .int .i64 11]) (by simp [results, Try.results40, go_sem, y0, y1, y2, y3, y4, y5, y6, y7, zero8]) rfl (by unfold ParsePost; rw [HBB.out]; exact ⟨hw9 B w HK1.out.2 (Nat.le_refl _), Or.inr ⟨rfl, rfl⟩⟩)
end Go.Proofs.Ytlimkckomdipkaa
