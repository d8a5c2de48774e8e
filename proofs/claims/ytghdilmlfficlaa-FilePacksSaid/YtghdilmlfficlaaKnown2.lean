/- Known's two calls. -/
import Derived.Test.YtghdilmlfficlaaKnown
namespace Go.Proofs.Ytghdilmlfficlaa
open Go.RowKit

theorem k_step {w : World} {B : Nat} (hB : w.heap.size = B) (cs : Array Value) (t : TypeId) :
    ∃ w0, w.alloc (.cells cs t) = w0 ∧ w0.heap.size = B + 1 ∧ Blk w0 B t cs ∧ Below B w w0 ∧ ∀ g t' cs', Blk w g t' cs' → Blk w0 g t' cs' := by
  subst hB
  exact ⟨_, rfl, alloc_size _ _, Blk.new _ _ _, (Below.refl _ _).alloc (Nat.le_refl _) _, fun g t' cs' h => h.alloc _⟩

theorem k_els {W : World} {B : Nat} (s : W.heap.size = B + 8) (f0 : Blk W B 79 (facW kF)) (f1 : Blk W (B + 1) 50 (pk2 1 3)) (f3 : Blk W (B + 3) 79 (facW kF)) (f4 : Blk W (B + 4) 50 (pk2 2 2))
    (f6 : Blk W (B + 6) 31 #[.string ⟨#[]⟩, .slice (some ⟨B, 0, none⟩) 1 1, .slice none 0 0, .slice none 0 0, .slice (some ⟨B + 1, 0, none⟩) 2 2, .string ⟨#[]⟩, .slice (some ⟨B + 3, 0, none⟩) 1 1, .slice none 0 0, .slice none 0 0, .slice (some ⟨B + 4, 0, none⟩) 2 2]) :
    Els 5 CapE W W.heap.size (some ⟨B + 6, 0, none⟩) [kC 1 3, kC 2 2] := by
  intro _
  refine ⟨B + 6, 0, rfl, by omega, fun i hi => ?_⟩
  have hi2 : i < 2 := hi
  have hc1 := k_cap f0 f1 (B := W.heap.size) (by omega) (by omega) (a := 1) (b := 3) ⟨by omega, by omega⟩ ⟨by omega, by omega⟩
  have hc2 := k_cap f3 f4 (B := W.heap.size) (by omega) (by omega) (a := 2) (b := 2) ⟨by omega, by omega⟩ ⟨by omega, by omega⟩
  rcases (by omega : i = 0 ∨ i = 1) with rfl | rfl
  · refine ⟨_, rfl, ⟨_, rfl, hc1⟩, fun j v hj => ?_⟩
    have hj5 : j < 5 := by
      rcases Nat.lt_or_ge j 5 with h | h
      · exact h
      · rw [List.getElem?_eq_none (by simpa using h)] at hj; cases hj
    rw [f6.cell, ← Array.getElem?_toList, ← hj]
    rcases (by omega : j = 0 ∨ j = 1 ∨ j = 2 ∨ j = 3 ∨ j = 4) with e | e | e | e | e <;> subst e <;> rfl
  · refine ⟨_, rfl, ⟨_, rfl, hc2⟩, fun j v hj => ?_⟩
    have hj5 : j < 5 := by
      rcases Nat.lt_or_ge j 5 with h | h
      · exact h
      · rw [List.getElem?_eq_none (by simpa using h)] at hj; cases hj
    rw [f6.cell, ← Array.getElem?_toList, ← hj]
    rcases (by omega : j = 0 ∨ j = 1 ∨ j = 2 ∨ j = 3 ∨ j = 4) with e | e | e | e | e <;> subst e <;> rfl

theorem k_merge {w : World} {B : Nat} (hB : w.heap.size = B) :
    Calls Try.prog 15 #[.slice (some ⟨B + 1 + 1 + 1 + 1 + 1 + 1, 0, none⟩) 2 2, .slice (some ⟨B + 1 + 1 + 1 + 1 + 1 + 1 + 1, 0, none⟩) 2 2]
      ((((((((w.alloc (.cells #[.string ⟨#[]⟩, .int .i64 0, .int .i64 0] 79)).alloc (.cells (pk2 1 3) 50)).alloc (.cells #[.string ⟨#[]⟩, .slice (some ⟨B, 0, none⟩) 1 1, .slice none 0 0, .slice none 0 0, .slice (some ⟨B + 1, 0, none⟩) 2 2] 31)).alloc (.cells #[.string ⟨#[]⟩, .int .i64 0, .int .i64 0] 79)).alloc (.cells (pk2 2 2) 50)).alloc
        (.cells #[.string ⟨#[]⟩, .slice (some ⟨B + 1 + 1 + 1, 0, none⟩) 1 1, .slice none 0 0, .slice none 0 0, .slice (some ⟨B + 1 + 1 + 1 + 1, 0, none⟩) 2 2] 31)).alloc
        (.cells #[.string ⟨#[]⟩, .slice (some ⟨B, 0, none⟩) 1 1, .slice none 0 0, .slice none 0 0, .slice (some ⟨B + 1, 0, none⟩) 2 2, .string ⟨#[]⟩, .slice (some ⟨B + 1 + 1 + 1, 0, none⟩) 1 1, .slice none 0 0, .slice none 0 0, .slice (some ⟨B + 1 + 1 + 1 + 1, 0, none⟩) 2 2] 31)).alloc (.cells #[.int .i64 0, .int .i64 0] 3))
      fun e w' => ∃ A cF b o cP, e = .returned (.tuple #[.agg #[.string ⟨#[]⟩, .slice A 1 cF, .slice none 0 0, .slice none 0 0, .slice (some ⟨b, o, none⟩) 4 cP], .int .i64 0]) ∧ b < w'.heap.size ∧
        w'.cell? ⟨b, o, none⟩ = some (.int .i64 1) ∧ w'.cell? ⟨b, o + 5, none⟩ = some (.int .i64 2) ∧ w'.cell? ⟨b, o + 10, none⟩ = some (.int .i64 2) ∧ w'.cell? ⟨b, o + 15, none⟩ = some (.int .i64 3) ∧ Below B w w' := by
  obtain ⟨w0, e0, s0, g0, b0, k0⟩ := k_step hB #[.string ⟨#[]⟩, .int .i64 0, .int .i64 0] 79
  obtain ⟨w1, e1, s1, g1, b1, k1⟩ := k_step s0 (pk2 1 3) 50
  obtain ⟨w2, e2, s2, g2, b2, k2⟩ := k_step s1 #[.string ⟨#[]⟩, .slice (some ⟨B, 0, none⟩) 1 1, .slice none 0 0, .slice none 0 0, .slice (some ⟨B + 1, 0, none⟩) 2 2] 31
  obtain ⟨w3, e3, s3, g3, b3, k3⟩ := k_step s2 #[.string ⟨#[]⟩, .int .i64 0, .int .i64 0] 79
  obtain ⟨w4, e4, s4, g4, b4, k4⟩ := k_step s3 (pk2 2 2) 50
  obtain ⟨w5, e5, s5, g5, b5, k5⟩ := k_step s4 #[.string ⟨#[]⟩, .slice (some ⟨B + 1 + 1 + 1, 0, none⟩) 1 1, .slice none 0 0, .slice none 0 0, .slice (some ⟨B + 1 + 1 + 1 + 1, 0, none⟩) 2 2] 31
  obtain ⟨w6, e6, s6, g6, b6, k6⟩ := k_step s5 #[.string ⟨#[]⟩, .slice (some ⟨B, 0, none⟩) 1 1, .slice none 0 0, .slice none 0 0, .slice (some ⟨B + 1, 0, none⟩) 2 2, .string ⟨#[]⟩, .slice (some ⟨B + 1 + 1 + 1, 0, none⟩) 1 1, .slice none 0 0, .slice none 0 0, .slice (some ⟨B + 1 + 1 + 1 + 1, 0, none⟩) 2 2] 31
  obtain ⟨w7, e7, s7, g7, b7, k7⟩ := k_step s6 #[.int .i64 0, .int .i64 0] 3
  rw [e0, e1, e2, e3, e4, e5, e6, e7]
  have hb : Below B w w7 := (((((((b0.trans (b1.mono (by omega))).trans (b2.mono (by omega))).trans (b3.mono (by omega))).trans (b4.mono (by omega))).trans (b5.mono (by omega))).trans (b6.mono (by omega))).trans (b7.mono (by omega)))
  have hEl := k_els (W := w7) (B := B) (by omega) (k7 _ _ _ (k6 _ _ _ (k5 _ _ _ (k4 _ _ _ (k3 _ _ _ (k2 _ _ _ (k1 _ _ _ g0))))))) (k7 _ _ _ (k6 _ _ _ (k5 _ _ _ (k4 _ _ _ (k3 _ _ _ (k2 _ _ _ g1)))))) (k7 _ _ _ (k6 _ _ _ (k5 _ _ _ (k4 _ _ _ g3)))) (k7 _ _ _ (k6 _ _ _ (k5 _ _ _ g4))) (k7 _ _ _ g6)
  have hM := merge_ok (w := w7) (c := 2) (cd := 2) (bd := B + 7) (od := 0) (ds := [0, 0]) hEl rfl (fun i hi => by
      have hi2 : i < 2 := hi
      refine ⟨?_, ?_⟩
      · rw [Nat.zero_add, g7.cell]
        rcases (by omega : i = 0 ∨ i = 1) with rfl | rfl <;> rfl
      · rcases (by omega : i = 0 ∨ i = 1) with rfl | rfl <;> exact ⟨by show _ ≤ (0:Int); omega, by show (0:Int) ≤ _; omega⟩) (by omega) (by decide) (by decide) k_errL
    (fun i h h' => by
      have hi2 : i < 2 := h
      rcases (by omega : i = 0 ∨ i = 1) with rfl | rfl
      · show errSh (kC 1 3) 0 = 0
        decide +kernel
      · show errSh (kC 2 2) 0 = 0
        decide +kernel)
    (by
      rw [k_mov]
      intro x hx
      have hx' : x = kC 1 3 ∨ x = kC 2 2 := by simpa using hx
      rcases hx' with rfl | rfl
      · exact ⟨by decide +kernel, rfl, rfl⟩
      · exact ⟨by decide +kernel, rfl, rfl⟩)
    (by rw [k_mov]; decide)
    (by
      rw [k_mov]
      intro k hk h0
      rw [k_tog k hk h0]
      decide +kernel)
  refine hM.mono ?_
  rintro e w' ⟨A, cF, AP, cP, he, hT, hb2⟩
  have hlen : (mergeQ (tot (quL [kC 1 3, kC 2 2] [0, 0]) + 1) (quL [kC 1 3, kC 2 2] [0, 0])).length = 4 := by
    have := congrArg List.length k_times
    rw [List.length_map] at this
    exact this
  rw [k_mov, k_tog _ (by decide) (by decide), hlen] at he
  have hti := k_times
  generalize mergeQ (tot (quL [kC 1 3, kC 2 2] [0, 0]) + 1) (quL [kC 1 3, kC 2 2] [0, 0]) = R at hT hlen hti
  obtain ⟨b, o, rfl, hlt, hc⟩ := hT (by omega)
  have hcell : ∀ i (h : i < R.length), w'.cell? ⟨b, o + i * 5, none⟩ = some (.int .i64 R[i].time) := fun i h => by
    obtain ⟨vs, hv, hE, hj⟩ := hc i h
    have := hj 0 _ hE
    rwa [Nat.add_zero] at this
  have ht : ∀ i (h : i < R.length), some R[i].time = ([1, 2, 2, 3] : List Int)[i]? := fun i h => by
    rw [← hti, List.getElem?_map, List.getElem?_eq_getElem h]; rfl
  have hk : ∀ i (h : i < R.length) (x : Int), ([1, 2, 2, 3] : List Int)[i]? = some x → w'.cell? ⟨b, o + i * 5, none⟩ = some (.int .i64 x) := fun i h x hx => by
    rw [hcell i h]
    have := ht i h
    rw [hx] at this
    rw [Option.some.inj this]
  refine ⟨A, cF, b, o, cP, he, hlt, ?_, ?_, ?_, ?_, hb.trans (hb2.mono (by omega))⟩
  · exact hk 0 (by omega) 1 rfl
  · exact hk 1 (by omega) 2 rfl
  · exact hk 2 (by omega) 2 rfl
  · exact hk 3 (by omega) 3 rfl

set_option maxRecDepth 100000 in
theorem k_unp {v1 : World} {C : Nat} (hC : v1.heap.size = C) (cs : Array Value) :
    Calls Try.prog 37 #[.slice (some ⟨C + 1, 0, none⟩) 6 6] ((v1.alloc (.cells cs 31)).alloc (.cells #[.int .u8 6, .int .u8 0, .int .u8 97, .int .u8 130, .int .u8 0, .int .u8 1] 5)) fun e v2 =>
      ∃ A c, e = .returned (.tuple #[.slice A 6 c, .int .i64 0]) ∧ Blk v2 C 31 cs ∧ (convert 48 9 (.slice A 6 c)).run Try.prog v2 = .ok (.string ⟨#[97, 97, 97, 97, 97, 97]⟩) v2 ∧ Below C v1 v2 := by
  obtain ⟨w0, e0, s0, g0, b0, k0⟩ := k_step hC cs 31
  rw [e0]
  have hN0 := S1.byt_new w0 [6, 0, 97, 130, 0, 1] (by decide)
  have hN : Byt (w0.alloc (.cells #[.int .u8 6, .int .u8 0, .int .u8 97, .int .u8 130, .int .u8 0, .int .u8 1] 5)) (w0.heap.size + 1) (some ⟨w0.heap.size, 0, none⟩) [6, 0, 97, 130, 0, 1] := ⟨hN0.lt, hN0.cells⟩
  have hs1 : (w0.alloc (.cells #[.int .u8 6, .int .u8 0, .int .u8 97, .int .u8 130, .int .u8 0, .int .u8 1] 5)).heap.size = C + 2 := by rw [alloc_size, s0]
  have hU := unpack_any (w := w0.alloc (.cells #[.int .u8 6, .int .u8 0, .int .u8 97, .int .u8 130, .int .u8 0, .int .u8 1] 5)) (A := some ⟨C + 1, 0, none⟩) (c := 6) (b := [6, 0, 97, 130, 0, 1]) (by rw [hs1]; rw [s0] at hN; exact hN) (by decide) (by decide)
  rw [k_uns] at hU
  refine hU.mono ?_
  rintro e v2 ⟨A, c, rfl, ho, hlt, hb⟩
  rw [hs1] at hb
  have hb1 : Below C v1 v2 := (b0.trans ((Below.refl _ _).alloc (by omega) _)).trans (hb.mono (by omega))
  refine ⟨A, c, rfl, (g0.alloc _).below hb (by omega), ?_, hb1⟩
  obtain ⟨A', c', hv, hcc, hB⟩ := S1.Byt.of_own hlt ho
  injection hv with e1 e2 e3
  subst e1; subst e3
  have hB' : S1.Byt v2 v2.heap.size A [97, 97, 97, 97, 97, 97] := hB
  have hc := S1.conv_any hB' c
  have hs : S1.strB [97, 97, 97, 97, 97, 97] = ⟨#[97, 97, 97, 97, 97, 97]⟩ := by decide +kernel
  rw [hs] at hc
  exact hc

set_option maxRecDepth 100000 in
set_option maxHeartbeats 8000000 in
theorem known_any (w : World) : Calls Try.prog 14 #[] w fun e w' => e = .returned (.bool true) ∧ Below w.heap.size w w' := by
  obtain ⟨B, hB⟩ : ∃ B, w.heap.size = B := ⟨_, rfl⟩
  have HM := Lib.hid (k_merge hB)
  have HB := Lib.hid hB
  rw [hB]
  go_enter Try.func14, Try.ntmps14
  go_wp2_with fail
  with_reducible refine HM.out.mono ?_
  rintro e v1 ⟨A, cF, b, o, cP, rfl, h⟩
  clear HM hB
  obtain ⟨C, hC⟩ : ∃ C, v1.heap.size = C := ⟨_, rfl⟩
  have hBC : B ≤ C := by have := h.2.2.2.2.2.size; rw [HB.out, hC] at this; exact this
  have HV : Hid (b < C ∧ v1.cell? ⟨b, o, none⟩ = some (.int .i64 1) ∧ v1.cell? ⟨b, o + 5, none⟩ = some (.int .i64 2) ∧ v1.cell? ⟨b, o + 10, none⟩ = some (.int .i64 2) ∧ v1.cell? ⟨b, o + 15, none⟩ = some (.int .i64 3) ∧ Below B w v1) := Lib.hid (by rw [← hC]; exact h)
  clear h
  have HU := Lib.hid (k_unp hC #[.string ⟨#[]⟩, .slice A 1 cF, .slice none 0 0, .slice none 0 0, .slice (some ⟨b, o, none⟩) 4 cP])
  go_wp2_with fail
  with_reducible refine HU.out.mono ?_
  rintro e v2 ⟨A2, c2, rfl, hbx, hcv, hb2⟩
  clear HU hC
  obtain ⟨hbC, h1, h2, h3, h4, hb1⟩ := HV.out
  have l4 : v2.cell? ⟨C, 4, none⟩ = some (.slice (some ⟨b, o, none⟩) 4 cP) := hbx.cell 4
  have l1 : v2.cell? ⟨C, 1, none⟩ = some (.slice A 1 cF) := hbx.cell 1
  have t1 : v2.cell? ⟨b, o, none⟩ = some (.int .i64 1) := (hb2.cell (p := ⟨b, o, none⟩) hbC).trans h1
  have t2 : v2.cell? ⟨b, o + 5, none⟩ = some (.int .i64 2) := (hb2.cell (p := ⟨b, o + 5, none⟩) hbC).trans h2
  have t3 : v2.cell? ⟨b, o + 10, none⟩ = some (.int .i64 2) := (hb2.cell (p := ⟨b, o + 10, none⟩) hbC).trans h3
  have t4 : v2.cell? ⟨b, o + 15, none⟩ = some (.int .i64 3) := (hb2.cell (p := ⟨b, o + 15, none⟩) hbC).trans h4
  have HE : Hid (Below B w v2) := Lib.hid (hb1.trans (hb2.mono hBC))
  clear HV hbC h1 h2 h3 h4 hb1 hb2 hbx
  go_wp2_with fail
  go_ret
  exact ⟨rfl, HE.out⟩
end Go.Proofs.Ytghdilmlfficlaa
