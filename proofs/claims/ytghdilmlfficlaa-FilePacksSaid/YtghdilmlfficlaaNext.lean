/- The next packet of queues: that with the least time. -/
import Derived.Test.YtghdilmlfficlaaTurn
namespace Go.Proofs.Ytghdilmlfficlaa
open Go.RowKit

/-- The time of the first packet of a queue. -/
def hdT (rs : List (List Pkt)) (i : Nat) : Option Int := (rs[i]?.bind List.head?).map Pkt.time
/-- Of the first k queues the one whose first packet has the least time. -/
def bst (rs : List (List Pkt)) : Nat → Option Nat
  | 0 => none
  | k + 1 => match hdT rs k with
    | none => bst rs k
    | some t => match bst rs k with
      | none => some k
      | some f => if t < (hdT rs f).getD 0 then some k else some f
def encO : Option Nat → Int
  | none => -1
  | some f => (f : Int)
theorem bst_some (rs : List (List Pkt)) : ∀ (k f : Nat), bst rs k = some f → f < k ∧ ∃ t, hdT rs f = some t
  | k + 1, f, h => by
    rw [bst] at h
    cases h1 : hdT rs k with
    | none =>
      rw [h1] at h
      obtain ⟨a, b⟩ := bst_some rs k f h
      exact ⟨by omega, b⟩
    | some t =>
      rw [h1] at h
      cases h2 : bst rs k with
      | none => rw [h2] at h; injection h with h; subst h; exact ⟨by omega, t, h1⟩
      | some g =>
        rw [h2] at h
        simp only at h
        split at h
        · injection h with h; subst h; exact ⟨by omega, t, h1⟩
        · injection h with h; subst h
          obtain ⟨a, b⟩ := bst_some rs k g h2
          exact ⟨by omega, b⟩
theorem hdT_cons {rs : List (List Pkt)} {i : Nat} (h : i < rs.length) (hp : 0 < rs[i].length) : hdT rs i = some (rs[i][0]).time := by
  unfold hdT
  rw [List.getElem?_eq_getElem h, Option.bind_some, List.head?_eq_getElem?, List.getElem?_eq_getElem hp]
  rfl
theorem hdT_nil {rs : List (List Pkt)} {i : Nat} (h : i < rs.length) (hp : rs[i].length = 0) : hdT rs i = none := by
  unfold hdT
  rw [List.getElem?_eq_getElem h, Option.bind_some, List.head?_eq_getElem?, List.getElem?_eq_none (by omega)]
  rfl
theorem hdT_some {rs : List (List Pkt)} {i : Nat} {t : Int} (h : i < rs.length) (ht : hdT rs i = some t) : ∃ hp : 0 < rs[i].length, (rs[i][0]).time = t := by
  rcases Nat.eq_zero_or_pos rs[i].length with h0 | h0
  · rw [hdT_nil h h0] at ht; cases ht
  · rw [hdT_cons h h0] at ht; injection ht with ht; exact ⟨h0, ht⟩
/-- The cells of a queue's first packet. -/
theorem Qs.at {w : World} {B M i : Nat} {rs : List (List Pkt)} (h : Qs w B M rs) (hi : i < rs.length) : ∃ A c, w.cell? ⟨M, i, none⟩ = some (.slice A rs[i].length c) ∧ rs[i].length ≤ c ∧ rs[i].length * 64 ≤ 140737488355328 ∧ Els 5 PktE w B A rs[i] := by
  obtain ⟨qs, hb, hs, hi'⟩ := h
  obtain ⟨A, c, e, r⟩ := hi' i hi
  exact ⟨A, c, by rw [hb.cell]; exact e, r⟩
theorem Qs.below {w w' : World} {B M : Nat} {rs : List (List Pkt)} (h : Qs w B M rs) (hb : Below w.heap.size w w') (hB : B ≤ w.heap.size) : Qs w' B M rs := by
  obtain ⟨qs, h1, hs, hi'⟩ := h
  refine ⟨qs, h1.below hb h1.lt, hs, fun i hi => ?_⟩
  obtain ⟨A, c, e, a, b, r⟩ := hi' i hi
  exact ⟨A, c, e, a, b, r.keep pktK (hb.mono hB) (Nat.le_refl _)⟩
/-- What is left of a queue. -/
theorem els_tail {w : World} {B b o : Nat} {xs : List Pkt} (h : Els 5 PktE w B (some ⟨b, o, none⟩) xs) : Els 5 PktE w B (some ⟨b, o + 5, none⟩) xs.tail := by
  intro h0
  rw [List.length_tail] at h0
  obtain ⟨b', o', e, hb, hi⟩ := h (by omega)
  injection e with e
  injection e with e1 e2
  subst e1; subst e2
  refine ⟨b, o + 5, rfl, hb, fun i hx => ?_⟩
  rw [List.length_tail] at hx
  obtain ⟨vs, hl, hE, hc⟩ := hi (i + 1) (by omega)
  refine ⟨vs, hl, by rw [List.getElem_tail]; exact hE, fun j v hv => ?_⟩
  have := hc j v hv
  rw [show o + 5 + (i * 5 + j) = o + ((i + 1) * 5 + j) by omega]
  exact this
theorem Qs.step {w : World} {B M f A' c' : Nat} {A : Option Addr} {rs : List (List Pkt)} (h : Qs w B M rs) (hBM : B ≤ M) (hf : f < rs.length) (hle : (rs[f]).tail.length ≤ c') (he : Els 5 PktE w B A rs[f].tail) (hA : A' = rs[f].tail.length) :
    Qs (w.setCell ⟨M, f, none⟩ (.slice A A' c')) B M (rs.set f rs[f].tail) := by
  subst hA
  obtain ⟨qs, h1, hs, hi'⟩ := h
  have hkeep : Below B w (w.setCell ⟨M, f, none⟩ (.slice A rs[f].tail.length c')) := (Below.refl _ _).setCell (p := ⟨M, f, none⟩) hBM _
  refine ⟨_, h1.set_ f _, by simp [hs], fun i hi => ?_⟩
  have hi0 : i < rs.length := by rw [List.length_set] at hi; exact hi
  by_cases e : i = f
  · subst e
    simp only [List.getElem_set_self]
    obtain ⟨A2, c2, e2, a, b, r⟩ := hi' i hi0
    exact ⟨A, c', by rw [Array.getElem?_setIfInBounds_self_of_lt (by rw [hs]; exact hi0)], hle, by rw [List.length_tail]; omega, he.keep pktK hkeep (Nat.le_refl _)⟩
  · simp only [List.getElem_set_ne (fun h => e h.symm)]
    obtain ⟨A2, c2, e2, a, b, r⟩ := hi' i hi0
    exact ⟨A2, c2, by rw [Array.getElem?_setIfInBounds_ne (fun h => e h.symm)]; exact e2, a, b, r.keep pktK hkeep (Nat.le_refl _)⟩

set_option maxRecDepth 100000 in
set_option maxHeartbeats 8000000 in
theorem next_none {w : World} {B M Q : Nat} {rs : List (List Pkt)} (hq : Blk w Q 75 #[.slice (some ⟨M, 0, none⟩) rs.length rs.length]) (hr : Qs w B M rs) (hB : B ≤ w.heap.size) (hl : rs.length ≤ 100000) (hbest : bst rs rs.length = none) :
    Calls Try.prog 101 #[.pointer (some ⟨Q, 0, none⟩)] w fun e w' => e = .returned (.tuple #[.agg #[.int .i64 0, .int .i64 0, .int .i64 0, .slice none 0 0, .string ⟨#[]⟩], .bool false]) ∧ Below w.heap.size w w' := by
  obtain ⟨N0, hN0⟩ : ∃ N0, w.heap.size = N0 := ⟨_, rfl⟩
  obtain ⟨W0, hW0⟩ : ∃ W0, w.alloc (.cells #[.int .i64 0, .int .i64 0, .int .i64 0, .slice none 0 0, .string ⟨#[]⟩] 50) = W0 := ⟨_, rfl⟩
  have hb0 : Below w.heap.size w W0 := by rw [← hW0]; exact (Below.refl _ _).alloc (Nat.le_refl _) _
  have HZ0 : Hid (Blk W0 N0 50 #[.int .i64 0, .int .i64 0, .int .i64 0, .slice none 0 0, .string ⟨#[]⟩]) := Lib.hid (by rw [← hW0, ← hN0]; exact Blk.new _ _ _)
  have HQ0 : Hid (Blk W0 Q 75 #[.slice (some ⟨M, 0, none⟩) rs.length rs.length]) := Lib.hid (hq.below hb0 hq.lt)
  have HR0 : Hid (Qs W0 B M rs) := Lib.hid (hr.below hb0 hB)
  have HB0 := Lib.hid hb0
  have HBB := Lib.hid hB
  have HBest := Lib.hid hbest
  have hQ : Q < N0 := by rw [← hN0]; exact hq.lt
  have hM : M < N0 := by rw [← hN0]; obtain ⟨_, h, _⟩ := hr; exact h.lt
  have q0 : W0.cell? ⟨Q, 0, none⟩ = some (.slice (some ⟨M, 0, none⟩) rs.length rs.length) := HQ0.out.cell 0
  have HNZ : Hid (w.heap.size ≤ N0) := Lib.hid (by rw [hN0]; exact Nat.le_refl _)
  clear hq hr hb0 hB hbest
  go_enter Try.func101, Try.ntmps101
  go_wp2
  clear hW0 hN0 q0
  go_loopw [3, 9] (fun f i wr => ∃ (k : Nat) (fi : Int), i = .int .i64 k ∧ f = .int .i64 fi ∧ k ≤ rs.length ∧ Hid (fi = encO (bst rs k)) ∧ Hid (Below W0.heap.size W0 wr)) (fun _ i _ => rs.length - (intOf i).toNat)
  case atStart => exact ⟨0, -1, rfl, rfl, Nat.zero_le _, Lib.hid rfl, Lib.hid (Below.refl _ _)⟩
  case round =>
    obtain ⟨k, fi, rfl, rfl, hk, HF, HW⟩ := hrel
    by_cases hlt : k < rs.length
    · have hQr := HQ0.out.below HW.out HQ0.out.lt
      have hRr := HR0.out.below HW.out (by have := HBB.out; have := HZ0.out.lt; have := HNZ.out; omega)
      have q0 := hQr.cell 0
      obtain ⟨A, c, m0, hle, hbig, hels⟩ := hRr.at hlt
      have HBS : Hid (bst rs (k + 1) = match hdT rs k with | none => bst rs k | some t => match bst rs k with | none => some k | some f => if t < (hdT rs f).getD 0 then some k else some f) := Lib.hid rfl
      rcases Nat.eq_zero_or_pos rs[k].length with hz | hz
      · have HN : Hid (fi = encO (bst rs (k + 1))) := Lib.hid (by rw [HBS.out, hdT_nil hlt hz]; exact HF.out)
        rw [hz] at m0
        have hd : decide ((0 : Int) < 0) = false := rfl
        clear hels hQr hRr HBS
        go_wp2
        go_quiet (fail)
        go_wp2
        go_roundw
        case rel => exact ⟨k + 1, fi, by go_num, rfl, by omega, HN, Lib.hid (below_drewN HW.out _)⟩
        case measure => simp [intOf]; omega
      · have hT := hdT_cons hlt hz
        obtain ⟨b, o, hA, _, vs, _, ⟨A2, c2, rfl, _⟩, hcell⟩ := hels.row 0 hz
        subst hA
        have c0 : wr.cell? ⟨b, o, none⟩ = some (.int .i64 (rs[k][0]).time) := by have := hcell 0 _ rfl; simpa using this
        obtain ⟨L, hL⟩ : ∃ L, rs[k].length = L := ⟨_, rfl⟩
        obtain ⟨t, ht⟩ : ∃ t, (rs[k][0]).time = t := ⟨_, rfl⟩
        rw [ht] at c0 hT
        rw [hL] at m0 hz hbig hle
        have hd : decide ((0 : Int) < (L : Int)) = true := decide_eq_true (by omega)
        have hd0 : (0 : Int) < (L : Int) := by omega
        clear hcell hels hL ht
        cases hb : bst rs k with
        | none =>
          have hfi : fi = -1 := by rw [HF.out, hb]; rfl
          subst hfi
          have HN : Hid ((k : Int) = encO (bst rs (k + 1))) := Lib.hid (by rw [HBS.out, hT, hb]; rfl)
          clear hQr hRr HBS hb hT
          go_wp2
          go_quiet (fail)
          go_wp2
          go_roundw
          case rel => exact ⟨k + 1, k, by go_num, rfl, by omega, HN, Lib.hid (below_drewN HW.out _)⟩
          case measure => simp [intOf]; omega
        | some g =>
          have hfi : fi = (g : Int) := by rw [HF.out, hb]; rfl
          subst hfi
          obtain ⟨hgk, tg, htg⟩ := bst_some rs k g hb
          have hgl : g < rs.length := by omega
          obtain ⟨A3, c3, m3, hle3, hbig3, hels3⟩ := hRr.at hgl
          obtain ⟨hp3, ht3⟩ := hdT_some hgl htg
          obtain ⟨b3, o3, hA3, _, vs3, _, ⟨A4, c4, rfl, _⟩, hcell3⟩ := hels3.row 0 hp3
          subst hA3
          have d0 : wr.cell? ⟨b3, o3, none⟩ = some (.int .i64 tg) := by have := hcell3 0 _ rfl; rw [ht3] at this; simpa using this
          obtain ⟨L3, hL3⟩ : ∃ L, rs[g].length = L := ⟨_, rfl⟩
          rw [hL3] at m3 hp3 hbig3 hle3
          have hd3 : (0 : Int) < (L3 : Int) := by omega
          have hgi : decide ((g : Int) < 0) = false := decide_eq_false (by omega)
          have hgr : (g : Int) < (rs.length : Int) := by omega
          have hg0 : (0 : Int) ≤ (g : Int) := by omega
          have HN : Hid (encO (bst rs (k + 1)) = if t < tg then (k : Int) else (g : Int)) := Lib.hid (by
            rw [HBS.out, hT, hb]
            simp only [htg, Option.getD_some]
            split <;> rfl)
          clear hcell3 hels3 hL3 hQr hRr HBS hb hT htg ht3
          by_cases htt : t < tg
          · have hdd : decide (t < tg) = true := decide_eq_true htt
            have HN2 : Hid ((k : Int) = encO (bst rs (k + 1))) := Lib.hid (by rw [HN.out, if_pos htt])
            clear HN htt
            go_wp2
            go_quiet (fail)
            go_wp2
            go_roundw
            case rel => exact ⟨k + 1, k, by go_num, rfl, by omega, HN2, Lib.hid (below_drewN HW.out _)⟩
            case measure => simp [intOf]; omega
          · have hdd : decide (t < tg) = false := decide_eq_false htt
            have HN2 : Hid ((g : Int) = encO (bst rs (k + 1))) := Lib.hid (by rw [HN.out, if_neg htt])
            clear HN htt
            go_wp2
            go_quiet (fail)
            go_wp2
            go_roundw
            case rel => exact ⟨k + 1, g, by go_num, rfl, by omega, HN2, Lib.hid (below_drewN HW.out _)⟩
            case measure => simp [intOf]; omega
    · have hkn : k = rs.length := by omega
      subst hkn
      have hfi := HF.out
      rw [HBest.out] at hfi
      have hfi2 : fi = -1 := hfi
      subst hfi2
      have hZ := HZ0.out.below HW.out HZ0.out.lt
      have z0 : wr.cell? ⟨N0, 0, none⟩ = some (.int .i64 0) := hZ.cell 0
      have z1 : wr.cell? ⟨N0, 1, none⟩ = some (.int .i64 0) := hZ.cell 1
      have z2 : wr.cell? ⟨N0, 2, none⟩ = some (.int .i64 0) := hZ.cell 2
      have z3 : wr.cell? ⟨N0, 3, none⟩ = some (.slice none 0 0) := hZ.cell 3
      have z4 : wr.cell? ⟨N0, 4, none⟩ = some (.string ⟨#[]⟩) := hZ.cell 4
      have f0 := hZ.frozen 0
      have f1 := hZ.frozen 1
      have f2 := hZ.frozen 2
      have f3 := hZ.frozen 3
      have f4 := hZ.frozen 4
      have HEND := Lib.hid (set5 hZ (.int .i64 0) (.int .i64 0) (.int .i64 0) (.slice none 0 0) (.string ⟨#[]⟩))
      have HWB : Hid (Below w.heap.size w wr) := Lib.hid (HB0.out.trans (HW.out.mono HB0.out.size))
      have HNS : Hid (w.heap.size ≤ N0) := HNZ
      clear hZ hfi HF
      go_wp2
      generalize hW9 : ((((wr.setCell ⟨N0, 0, none⟩ (.int .i64 0)).setCell ⟨N0, 1, none⟩ (.int .i64 0)).setCell ⟨N0, 2, none⟩ (.int .i64 0)).setCell ⟨N0, 3, none⟩ (.slice none 0 0)).setCell ⟨N0, 4, none⟩ (.string ⟨#[]⟩) = W9 at HEND ⊢
      obtain ⟨hb9, ha9, hw9⟩ := HEND.out
      have y0 : W9.cell? ⟨N0, 0, none⟩ = some (.int .i64 0) := hb9.cell 0
      have y1 : W9.cell? ⟨N0, 1, none⟩ = some (.int .i64 0) := hb9.cell 1
      have y2 : W9.cell? ⟨N0, 2, none⟩ = some (.int .i64 0) := hb9.cell 2
      have y3 : W9.cell? ⟨N0, 3, none⟩ = some (.slice none 0 0) := hb9.cell 3
      have y4 : W9.cell? ⟨N0, 4, none⟩ = some (.string ⟨#[]⟩) := hb9.cell 4
      exact bodyPost_ret (v := .tuple #[.agg #[.int .i64 0, .int .i64 0, .int .i64 0, .slice none 0 0, .string ⟨#[]⟩], .bool false]) (by simp [results, Try.results101, go_sem, y0, y1, y2, y3, y4]) rfl ⟨rfl, hw9 _ _ HWB.out HNS.out⟩
theorem pkt_back {p : Pkt} {w w1 W : World} {B : Nat} {vs : List Value} (h : PktE p w1 B vs) (h1 : Below B w w1) (hW : Below B w W) : PktE p W B vs := by
  obtain ⟨A, c, e, ⟨hb, r1, r2, r3⟩, r⟩ := h
  exact ⟨A, c, e, ⟨hb.keep fun b o hp => (hW.cell (p := ⟨b, o, none⟩) hp).trans (h1.cell (p := ⟨b, o, none⟩) hp).symm, r1, r2, r3⟩, r⟩

set_option maxRecDepth 100000 in
set_option maxHeartbeats 16000000 in
theorem next_some {w : World} {B M Q f : Nat} {rs : List (List Pkt)} (hq : Blk w Q 75 #[.slice (some ⟨M, 0, none⟩) rs.length rs.length]) (hr : Qs w B M rs) (hB : B ≤ w.heap.size) (hBM : B ≤ M) (hl : rs.length ≤ 100000) (hbest : bst rs rs.length = some f) :
    Calls Try.prog 101 #[.pointer (some ⟨Q, 0, none⟩)] w fun e w' => ∃ (p : Pkt) (A2 : Option Addr) (c2 : Nat) (tl : List Pkt), rs[f]? = some (p :: tl) ∧ e = .returned (.tuple #[.agg #[.int .i64 p.time, .int .i64 p.face, .int .i64 p.real, .slice A2 p.data.length c2, .string p.note], .bool true]) ∧ (∀ W, Below B w W → PktE p W B [.int .i64 p.time, .int .i64 p.face, .int .i64 p.real, .slice A2 p.data.length c2, .string p.note]) ∧ Qs w' B M (rs.set f tl) ∧ Below B w w' ∧ ∀ g t cs, g ≠ M → Blk w g t cs → Blk w' g t cs := by
  obtain ⟨N0, hN0⟩ : ∃ N0, w.heap.size = N0 := ⟨_, rfl⟩
  obtain ⟨W0, hW0⟩ : ∃ W0, w.alloc (.cells #[.int .i64 0, .int .i64 0, .int .i64 0, .slice none 0 0, .string ⟨#[]⟩] 50) = W0 := ⟨_, rfl⟩
  have hb0 : Below w.heap.size w W0 := by rw [← hW0]; exact (Below.refl _ _).alloc (Nat.le_refl _) _
  have HZ0 : Hid (Blk W0 N0 50 #[.int .i64 0, .int .i64 0, .int .i64 0, .slice none 0 0, .string ⟨#[]⟩]) := Lib.hid (by rw [← hW0, ← hN0]; exact Blk.new _ _ _)
  have HQ0 : Hid (Blk W0 Q 75 #[.slice (some ⟨M, 0, none⟩) rs.length rs.length]) := Lib.hid (hq.below hb0 hq.lt)
  have HR0 : Hid (Qs W0 B M rs) := Lib.hid (hr.below hb0 hB)
  have HB0 := Lib.hid hb0
  have HBB := Lib.hid hB
  have HBest := Lib.hid hbest
  have hQ : Q < N0 := by rw [← hN0]; exact hq.lt
  have hM : M < N0 := by rw [← hN0]; obtain ⟨_, h, _⟩ := hr; exact h.lt
  have q0 : W0.cell? ⟨Q, 0, none⟩ = some (.slice (some ⟨M, 0, none⟩) rs.length rs.length) := HQ0.out.cell 0
  have HNZ : Hid (w.heap.size ≤ N0) := Lib.hid (by rw [hN0]; exact Nat.le_refl _)
  clear hq hr hb0 hB hbest
  go_enter Try.func101, Try.ntmps101
  go_wp2
  clear hW0 hN0 q0
  go_loopw [3, 9] (fun f i wr => ∃ (k : Nat) (fi : Int), i = .int .i64 k ∧ f = .int .i64 fi ∧ k ≤ rs.length ∧ Hid (fi = encO (bst rs k)) ∧ Hid (Below W0.heap.size W0 wr)) (fun _ i _ => rs.length - (intOf i).toNat)
  case atStart => exact ⟨0, -1, rfl, rfl, Nat.zero_le _, Lib.hid rfl, Lib.hid (Below.refl _ _)⟩
  case round =>
    obtain ⟨k, fi, rfl, rfl, hk, HF, HW⟩ := hrel
    by_cases hlt : k < rs.length
    · have hQr := HQ0.out.below HW.out HQ0.out.lt
      have hRr := HR0.out.below HW.out (by have := HBB.out; have := HZ0.out.lt; have := HNZ.out; omega)
      have q0 := hQr.cell 0
      obtain ⟨A, c, m0, hle, hbig, hels⟩ := hRr.at hlt
      have HBS : Hid (bst rs (k + 1) = match hdT rs k with | none => bst rs k | some t => match bst rs k with | none => some k | some f => if t < (hdT rs f).getD 0 then some k else some f) := Lib.hid rfl
      rcases Nat.eq_zero_or_pos rs[k].length with hz | hz
      · have HN : Hid (fi = encO (bst rs (k + 1))) := Lib.hid (by rw [HBS.out, hdT_nil hlt hz]; exact HF.out)
        rw [hz] at m0
        have hd : decide ((0 : Int) < 0) = false := rfl
        clear hels hQr hRr HBS
        go_wp2
        go_quiet (fail)
        go_wp2
        go_roundw
        case rel => exact ⟨k + 1, fi, by go_num, rfl, by omega, HN, Lib.hid (below_drewN HW.out _)⟩
        case measure => simp [intOf]; omega
      · have hT := hdT_cons hlt hz
        obtain ⟨b, o, hA, _, vs, _, ⟨A2, c2, rfl, _⟩, hcell⟩ := hels.row 0 hz
        subst hA
        have c0 : wr.cell? ⟨b, o, none⟩ = some (.int .i64 (rs[k][0]).time) := by have := hcell 0 _ rfl; simpa using this
        obtain ⟨L, hL⟩ : ∃ L, rs[k].length = L := ⟨_, rfl⟩
        obtain ⟨t, ht⟩ : ∃ t, (rs[k][0]).time = t := ⟨_, rfl⟩
        rw [ht] at c0 hT
        rw [hL] at m0 hz hbig hle
        have hd : decide ((0 : Int) < (L : Int)) = true := decide_eq_true (by omega)
        have hd0 : (0 : Int) < (L : Int) := by omega
        clear hcell hels hL ht
        cases hb : bst rs k with
        | none =>
          have hfi : fi = -1 := by rw [HF.out, hb]; rfl
          subst hfi
          have HN : Hid ((k : Int) = encO (bst rs (k + 1))) := Lib.hid (by rw [HBS.out, hT, hb]; rfl)
          clear hQr hRr HBS hb hT
          go_wp2
          go_quiet (fail)
          go_wp2
          go_roundw
          case rel => exact ⟨k + 1, k, by go_num, rfl, by omega, HN, Lib.hid (below_drewN HW.out _)⟩
          case measure => simp [intOf]; omega
        | some g =>
          have hfi : fi = (g : Int) := by rw [HF.out, hb]; rfl
          subst hfi
          obtain ⟨hgk, tg, htg⟩ := bst_some rs k g hb
          have hgl : g < rs.length := by omega
          obtain ⟨A3, c3, m3, hle3, hbig3, hels3⟩ := hRr.at hgl
          obtain ⟨hp3, ht3⟩ := hdT_some hgl htg
          obtain ⟨b3, o3, hA3, _, vs3, _, ⟨A4, c4, rfl, _⟩, hcell3⟩ := hels3.row 0 hp3
          subst hA3
          have d0 : wr.cell? ⟨b3, o3, none⟩ = some (.int .i64 tg) := by have := hcell3 0 _ rfl; rw [ht3] at this; simpa using this
          obtain ⟨L3, hL3⟩ : ∃ L, rs[g].length = L := ⟨_, rfl⟩
          rw [hL3] at m3 hp3 hbig3 hle3
          have hd3 : (0 : Int) < (L3 : Int) := by omega
          have hgi : decide ((g : Int) < 0) = false := decide_eq_false (by omega)
          have hgr : (g : Int) < (rs.length : Int) := by omega
          have hg0 : (0 : Int) ≤ (g : Int) := by omega
          have HN : Hid (encO (bst rs (k + 1)) = if t < tg then (k : Int) else (g : Int)) := Lib.hid (by
            rw [HBS.out, hT, hb]
            simp only [htg, Option.getD_some]
            split <;> rfl)
          clear hcell3 hels3 hL3 hQr hRr HBS hb hT htg ht3
          by_cases htt : t < tg
          · have hdd : decide (t < tg) = true := decide_eq_true htt
            have HN2 : Hid ((k : Int) = encO (bst rs (k + 1))) := Lib.hid (by rw [HN.out, if_pos htt])
            clear HN htt
            go_wp2
            go_quiet (fail)
            go_wp2
            go_roundw
            case rel => exact ⟨k + 1, k, by go_num, rfl, by omega, HN2, Lib.hid (below_drewN HW.out _)⟩
            case measure => simp [intOf]; omega
          · have hdd : decide (t < tg) = false := decide_eq_false htt
            have HN2 : Hid ((g : Int) = encO (bst rs (k + 1))) := Lib.hid (by rw [HN.out, if_neg htt])
            clear HN htt
            go_wp2
            go_quiet (fail)
            go_wp2
            go_roundw
            case rel => exact ⟨k + 1, g, by go_num, rfl, by omega, HN2, Lib.hid (below_drewN HW.out _)⟩
            case measure => simp [intOf]; omega
    · have hkn : k = rs.length := by omega
      subst hkn
      have hfi := HF.out
      rw [HBest.out] at hfi
      have hfi2 : fi = (f : Int) := hfi
      subst hfi2
      obtain ⟨hfl, t, htf⟩ := bst_some rs rs.length f HBest.out
      have hBN : B ≤ N0 := by have := HBB.out; have := HNZ.out; omega
      have hN0w : N0 < wr.heap.size := by have := HZ0.out.lt; have := HW.out.size; omega
      have hRr := HR0.out.below HW.out (by have := HZ0.out.lt; omega)
      obtain ⟨A, c, m0, hle, hbig, hels⟩ := hRr.at hfl
      obtain ⟨hp, _⟩ := hdT_some hfl htf
      obtain ⟨b, o, hA, hbB, vs, _, hEE, hcell⟩ := hels.row 0 hp
      subst hA
      have HE0 := Lib.hid hEE
      obtain ⟨A2, c2, rfl, hrest⟩ := hEE
      obtain ⟨p, hpp⟩ : ∃ p, rs[f][0] = p := ⟨_, rfl⟩
      have HP : Hid (rs[f]? = some (p :: rs[f].tail)) := Lib.hid (by
        rw [List.getElem?_eq_getElem hfl]
        congr 1
        cases hrf : rs[f] with
        | nil => rw [hrf] at hp; simp at hp
        | cons a l => simp only [hrf, List.getElem_cons_zero] at hpp; rw [hpp]; rfl)
      rw [hpp] at hcell hrest HE0
      obtain ⟨dl, hdl⟩ : ∃ dl, p.data.length = dl := ⟨_, rfl⟩
      have HDL := Lib.hid hdl
      have c0 : wr.cell? ⟨b, o, none⟩ = some (.int .i64 p.time) := by have := hcell 0 _ rfl; simpa using this
      have c1 : wr.cell? ⟨b, o + 1, none⟩ = some (.int .i64 p.face) := by have := hcell 1 _ rfl; simpa using this
      have c2_ : wr.cell? ⟨b, o + 2, none⟩ = some (.int .i64 p.real) := by have := hcell 2 _ rfl; simpa using this
      have c3 : wr.cell? ⟨b, o + 3, none⟩ = some (.slice A2 dl c2) := by have := hcell 3 _ rfl; rw [← hdl]; simpa using this
      have c4 : wr.cell? ⟨b, o + 4, none⟩ = some (.string p.note) := by have := hcell 4 _ rfl; simpa using this
      have HE : Hid (∀ W, Below B w W → PktE p W B [.int .i64 p.time, .int .i64 p.face, .int .i64 p.real, .slice A2 p.data.length c2, .string p.note]) := Lib.hid (fun W hW => by
        refine pkt_back HE0.out ?_ hW
        exact (HB0.out.mono (by have := HBB.out; omega)).trans (HW.out.mono (by have := HZ0.out.lt; omega)))
      clear hcell hrest HE0 hpp hdl
      obtain ⟨L, hL⟩ : ∃ L, rs[f].length = L := ⟨_, rfl⟩
      have HLL := Lib.hid hL
      rw [hL] at m0 hp hbig hle
      have hQr := HQ0.out.below HW.out HQ0.out.lt
      have q0 := hQr.cell 0
      have hgi : decide ((f : Int) < 0) = false := decide_eq_false (by omega)
      have hgr : (f : Int) < (rs.length : Int) := by omega
      have hg0 : (0 : Int) ≤ (f : Int) := by omega
      have hL0 : (0 : Int) < (L : Int) := by omega
      have hL1 : (1 : Int) ≤ (L : Int) := by omega
      obtain ⟨P, hP⟩ : ∃ P, wr.heap.size = P := ⟨_, rfl⟩
      obtain ⟨W1, hW1⟩ : ∃ W1, wr.alloc (.cells #[.int .i64 p.time, .int .i64 p.face, .int .i64 p.real, .slice A2 dl c2, .string p.note] 50) = W1 := ⟨_, rfl⟩
      have hb1 : Below wr.heap.size wr W1 := by rw [← hW1]; exact (Below.refl _ _).alloc (Nat.le_refl _) _
      have hk1 : Blk W1 P 50 #[.int .i64 p.time, .int .i64 p.face, .int .i64 p.real, .slice A2 dl c2, .string p.note] := by rw [← hW1, ← hP]; exact Blk.new _ _ _
      have k0 := hk1.cell 0
      have k1 := hk1.cell 1
      have k2 := hk1.cell 2
      have k3 := hk1.cell 3
      have k4 := hk1.cell 4
      have hQ1 := hQr.below hb1 hQr.lt
      have q1 := hQ1.cell 0
      have h1 : Qs W1 B M rs := hRr.below hb1 (by omega)
      have n1 : W1.cell? ⟨M, f, none⟩ = some (.slice (some ⟨b, o, none⟩) L c) := (hb1.cell (p := ⟨M, f, none⟩) (cell_lt m0)).trans m0
      have fM1 : W1.frozen? ⟨M, f, none⟩ = false := by obtain ⟨qs, hh, _⟩ := h1; exact hh.frozen f
      have HZ1 : Hid (Blk W1 N0 50 #[.int .i64 0, .int .i64 0, .int .i64 0, .slice none 0 0, .string ⟨#[]⟩]) := Lib.hid ((HZ0.out.below HW.out HZ0.out.lt).below hb1 hN0w)
      have HB1 : Hid (Below w.heap.size w W1) := Lib.hid ((HB0.out.trans (HW.out.mono HB0.out.size)).trans (hb1.mono (by have := HNZ.out; omega)))
      have hels1 : Els 5 PktE W1 B (some ⟨b, o, none⟩) rs[f] := hels.keep pktK (hb1.mono (by omega)) (Nat.le_refl _)
      have hPW : P < W1.heap.size := hk1.lt
      have hNP : N0 < P := by omega
      have hMP : M < P := by omega
      obtain ⟨L2, hL2⟩ : ∃ L2, L - 1 = L2 := ⟨_, rfl⟩
      have HL2 := Lib.hid hL2
      clear hb1 hk1 hQ1 hQr hRr hfi HF hels
      by_cases hc1 : c = 1
      · have hLs : L2 = 0 := by omega
        have HT0 : Hid (rs[f].tail = []) := Lib.hid (List.length_eq_zero_iff.1 (by rw [List.length_tail]; omega))
        subst hc1
        have HQS : Hid (∀ W2, Below W1.heap.size W1 W2 → Qs (W2.setCell ⟨M, f, none⟩ (.slice (some ⟨b, o, none⟩) 0 0)) B M (rs.set f rs[f].tail)) := Lib.hid (fun W2 h2 => Qs.step (h1.below h2 (by omega)) hBM hfl (by rw [List.length_tail]; omega) (((by rw [HT0.out]; exact els_nil : Els 5 PktE W1 B (some ⟨b, o, none⟩) rs[f].tail)).keep pktK (h2.mono (by omega)) (Nat.le_refl _)) (by rw [List.length_tail]; omega))
        clear h1 hels1 hL
        go_wp2_with fail
        clear hW1 c0 c1 c2_ c3 c4 m0 q0 hP
        go_still_tail 8, (by kernel_rfl)
        change wpList _ _ _ _ _ W1.drew
        have HD : Hid (Below W1.heap.size W1 W1.drew) := Lib.hid (Below.drew (Below.refl _ _))
        have k0 : W1.drew.cell? ⟨P, 0, none⟩ = some (.int .i64 p.time) := k0
        have k1 : W1.drew.cell? ⟨P, 1, none⟩ = some (.int .i64 p.face) := k1
        have k2 : W1.drew.cell? ⟨P, 2, none⟩ = some (.int .i64 p.real) := k2
        have k3 : W1.drew.cell? ⟨P, 3, none⟩ = some (.slice A2 dl c2) := k3
        have k4 : W1.drew.cell? ⟨P, 4, none⟩ = some (.string p.note) := k4
        have n1 : W1.drew.cell? ⟨M, f, none⟩ = some (.slice (some ⟨b, o, none⟩) L 1) := n1
        have fM1 : W1.drew.frozen? ⟨M, f, none⟩ = false := fM1
        generalize W1.drew = W2 at HD k0 k1 k2 k3 k4 n1 fM1 ⊢
        obtain ⟨W3, hW3⟩ : ∃ W3, W2.setCell ⟨M, f, none⟩ (.slice (some ⟨b, o, none⟩) 0 0) = W3 := ⟨_, rfl⟩
        have HZ3 : Hid (Blk W3 N0 50 #[.int .i64 0, .int .i64 0, .int .i64 0, .slice none 0 0, .string ⟨#[]⟩]) := Lib.hid (by rw [← hW3]; exact (HZ1.out.below HD.out (by omega)).far (p := ⟨M, f, none⟩) (by show N0 ≠ M; omega) _)
        have HQ3 : Hid (Qs W3 B M (rs.set f rs[f].tail)) := Lib.hid (by rw [← hW3]; exact HQS.out W2 HD.out)
        have HW3 : Hid (Below B w W3 ∧ ∀ g t cs, g ≠ M → Blk w g t cs → Blk W3 g t cs) := Lib.hid (by
          rw [← hW3]
          refine ⟨(HB1.out.mono HBB.out).trans ((HD.out.mono (by omega)).setCell (p := ⟨M, f, none⟩) hBM _), fun g t cs hg hb => ((hb.below HB1.out hb.lt).below HD.out (by have := hb.lt; have := HB1.out.size; omega)).far (p := ⟨M, f, none⟩) hg _⟩)
        have HW3E := Lib.hid hW3
        clear hW3
        have zz0 : W2.cell? ⟨N0, 0, none⟩ = some (.int .i64 0) := (HZ1.out.below HD.out (by omega)).cell 0
        have ff0 : W2.frozen? ⟨N0, 0, none⟩ = false := (HZ1.out.below HD.out (by omega)).frozen 0
        have zz1 : W2.cell? ⟨N0, 1, none⟩ = some (.int .i64 0) := (HZ1.out.below HD.out (by omega)).cell 1
        have ff1 : W2.frozen? ⟨N0, 1, none⟩ = false := (HZ1.out.below HD.out (by omega)).frozen 1
        have zz2 : W2.cell? ⟨N0, 2, none⟩ = some (.int .i64 0) := (HZ1.out.below HD.out (by omega)).cell 2
        have ff2 : W2.frozen? ⟨N0, 2, none⟩ = false := (HZ1.out.below HD.out (by omega)).frozen 2
        have zz3 : W2.cell? ⟨N0, 3, none⟩ = some (.slice none 0 0) := (HZ1.out.below HD.out (by omega)).cell 3
        have ff3 : W2.frozen? ⟨N0, 3, none⟩ = false := (HZ1.out.below HD.out (by omega)).frozen 3
        have zz4 : W2.cell? ⟨N0, 4, none⟩ = some (.string ⟨#[]⟩) := (HZ1.out.below HD.out (by omega)).cell 4
        have ff4 : W2.frozen? ⟨N0, 4, none⟩ = false := (HZ1.out.below HD.out (by omega)).frozen 4
        have hn1 : ¬ N0 = M := by omega
        have hn2 : ¬ M = N0 := by omega
        have hn3 : ¬ P = M := by omega
        have hn4 : ¬ M = P := by omega
        have hn5 : ¬ N0 = P := by omega
        have hn6 : ¬ P = N0 := by omega
        have HEND := Lib.hid (set5 HZ3.out (.int .i64 p.time) (.int .i64 p.face) (.int .i64 p.real) (.slice A2 dl c2) (.string p.note))
        go_wp2
        rw [HW3E.out]
        generalize hW9 : ((((W3.setCell ⟨N0, 0, none⟩ (.int .i64 p.time)).setCell ⟨N0, 1, none⟩ (.int .i64 p.face)).setCell ⟨N0, 2, none⟩ (.int .i64 p.real)).setCell ⟨N0, 3, none⟩ (.slice A2 dl c2)).setCell ⟨N0, 4, none⟩ (.string p.note) = W9 at HEND ⊢
        obtain ⟨hb9, ha9, hw9⟩ := HEND.out
        have y0 : W9.cell? ⟨N0, 0, none⟩ = some (.int .i64 p.time) := hb9.cell 0
        have y1 : W9.cell? ⟨N0, 1, none⟩ = some (.int .i64 p.face) := hb9.cell 1
        have y2 : W9.cell? ⟨N0, 2, none⟩ = some (.int .i64 p.real) := hb9.cell 2
        have y3 : W9.cell? ⟨N0, 3, none⟩ = some (.slice A2 dl c2) := hb9.cell 3
        have y4 : W9.cell? ⟨N0, 4, none⟩ = some (.string p.note) := hb9.cell 4
        refine bodyPost_ret (v := .tuple #[.agg #[.int .i64 p.time, .int .i64 p.face, .int .i64 p.real, .slice A2 dl c2, .string p.note], .bool true]) (by simp [results, Try.results101, go_sem, y0, y1, y2, y3, y4]) rfl ⟨p, A2, c2, rs[f].tail, ?_, by rw [HDL.out], ?_, ?_, ?_, ?_⟩
        · exact HP.out
        · exact HE.out
        · obtain ⟨qs, g1, g2, g3⟩ := HQ3.out
          exact ⟨qs, ha9.2 _ _ _ (by decide) g1, g2, fun i hi => by
            obtain ⟨A9, c9, e9, r1, r2, r3⟩ := g3 i hi
            exact ⟨A9, c9, e9, r1, r2, r3.keep pktK (hw9 _ _ (Below.refl _ _) (by omega)) (Nat.le_refl _)⟩⟩
        · exact hw9 _ _ HW3.out.1 (by omega)
        · intro g t cs hg hb
          exact (HW3.out.2 g t cs hg hb).below (hw9 N0 W3 (Below.refl _ _) (Nat.le_refl _)) (by have := hb.lt; have := HNZ.out; omega)
      · have HQS : Hid (∀ W2, Below W1.heap.size W1 W2 → Qs (W2.setCell ⟨M, f, none⟩ (.slice (some ⟨b, o + 5, none⟩) L2 (c - 1))) B M (rs.set f rs[f].tail)) := Lib.hid (fun W2 h2 => Qs.step (h1.below h2 (by omega)) hBM hfl (by rw [List.length_tail]; omega) ((els_tail hels1).keep pktK (h2.mono (by omega)) (Nat.le_refl _)) (by rw [List.length_tail]; omega))
        clear h1 hels1 hL
        go_wp2_with fail
        clear hW1 c0 c1 c2_ c3 c4 m0 q0 hP
        go_still_tail 8, (by kernel_rfl)
        change wpList _ _ _ _ _ W1.drew
        have HD : Hid (Below W1.heap.size W1 W1.drew) := Lib.hid (Below.drew (Below.refl _ _))
        have k0 : W1.drew.cell? ⟨P, 0, none⟩ = some (.int .i64 p.time) := k0
        have k1 : W1.drew.cell? ⟨P, 1, none⟩ = some (.int .i64 p.face) := k1
        have k2 : W1.drew.cell? ⟨P, 2, none⟩ = some (.int .i64 p.real) := k2
        have k3 : W1.drew.cell? ⟨P, 3, none⟩ = some (.slice A2 dl c2) := k3
        have k4 : W1.drew.cell? ⟨P, 4, none⟩ = some (.string p.note) := k4
        have n1 : W1.drew.cell? ⟨M, f, none⟩ = some (.slice (some ⟨b, o, none⟩) L c) := n1
        have fM1 : W1.drew.frozen? ⟨M, f, none⟩ = false := fM1
        generalize W1.drew = W2 at HD k0 k1 k2 k3 k4 n1 fM1 ⊢
        obtain ⟨W3, hW3⟩ : ∃ W3, W2.setCell ⟨M, f, none⟩ (.slice (some ⟨b, o + 5, none⟩) L2 (c - 1)) = W3 := ⟨_, rfl⟩
        have HZ3 : Hid (Blk W3 N0 50 #[.int .i64 0, .int .i64 0, .int .i64 0, .slice none 0 0, .string ⟨#[]⟩]) := Lib.hid (by rw [← hW3]; exact (HZ1.out.below HD.out (by omega)).far (p := ⟨M, f, none⟩) (by show N0 ≠ M; omega) _)
        have HQ3 : Hid (Qs W3 B M (rs.set f rs[f].tail)) := Lib.hid (by rw [← hW3]; exact HQS.out W2 HD.out)
        have HW3 : Hid (Below B w W3 ∧ ∀ g t cs, g ≠ M → Blk w g t cs → Blk W3 g t cs) := Lib.hid (by
          rw [← hW3]
          refine ⟨(HB1.out.mono HBB.out).trans ((HD.out.mono (by omega)).setCell (p := ⟨M, f, none⟩) hBM _), fun g t cs hg hb => ((hb.below HB1.out hb.lt).below HD.out (by have := hb.lt; have := HB1.out.size; omega)).far (p := ⟨M, f, none⟩) hg _⟩)
        have HW3E := Lib.hid hW3
        clear hW3
        have zz0 : W2.cell? ⟨N0, 0, none⟩ = some (.int .i64 0) := (HZ1.out.below HD.out (by omega)).cell 0
        have ff0 : W2.frozen? ⟨N0, 0, none⟩ = false := (HZ1.out.below HD.out (by omega)).frozen 0
        have zz1 : W2.cell? ⟨N0, 1, none⟩ = some (.int .i64 0) := (HZ1.out.below HD.out (by omega)).cell 1
        have ff1 : W2.frozen? ⟨N0, 1, none⟩ = false := (HZ1.out.below HD.out (by omega)).frozen 1
        have zz2 : W2.cell? ⟨N0, 2, none⟩ = some (.int .i64 0) := (HZ1.out.below HD.out (by omega)).cell 2
        have ff2 : W2.frozen? ⟨N0, 2, none⟩ = false := (HZ1.out.below HD.out (by omega)).frozen 2
        have zz3 : W2.cell? ⟨N0, 3, none⟩ = some (.slice none 0 0) := (HZ1.out.below HD.out (by omega)).cell 3
        have ff3 : W2.frozen? ⟨N0, 3, none⟩ = false := (HZ1.out.below HD.out (by omega)).frozen 3
        have zz4 : W2.cell? ⟨N0, 4, none⟩ = some (.string ⟨#[]⟩) := (HZ1.out.below HD.out (by omega)).cell 4
        have ff4 : W2.frozen? ⟨N0, 4, none⟩ = false := (HZ1.out.below HD.out (by omega)).frozen 4
        have hn1 : ¬ N0 = M := by omega
        have hn2 : ¬ M = N0 := by omega
        have hn3 : ¬ P = M := by omega
        have hn4 : ¬ M = P := by omega
        have hn5 : ¬ N0 = P := by omega
        have hn6 : ¬ P = N0 := by omega
        have HEND := Lib.hid (set5 HZ3.out (.int .i64 p.time) (.int .i64 p.face) (.int .i64 p.real) (.slice A2 dl c2) (.string p.note))
        go_wp2
        rw [HW3E.out]
        generalize hW9 : ((((W3.setCell ⟨N0, 0, none⟩ (.int .i64 p.time)).setCell ⟨N0, 1, none⟩ (.int .i64 p.face)).setCell ⟨N0, 2, none⟩ (.int .i64 p.real)).setCell ⟨N0, 3, none⟩ (.slice A2 dl c2)).setCell ⟨N0, 4, none⟩ (.string p.note) = W9 at HEND ⊢
        obtain ⟨hb9, ha9, hw9⟩ := HEND.out
        have y0 : W9.cell? ⟨N0, 0, none⟩ = some (.int .i64 p.time) := hb9.cell 0
        have y1 : W9.cell? ⟨N0, 1, none⟩ = some (.int .i64 p.face) := hb9.cell 1
        have y2 : W9.cell? ⟨N0, 2, none⟩ = some (.int .i64 p.real) := hb9.cell 2
        have y3 : W9.cell? ⟨N0, 3, none⟩ = some (.slice A2 dl c2) := hb9.cell 3
        have y4 : W9.cell? ⟨N0, 4, none⟩ = some (.string p.note) := hb9.cell 4
        refine bodyPost_ret (v := .tuple #[.agg #[.int .i64 p.time, .int .i64 p.face, .int .i64 p.real, .slice A2 dl c2, .string p.note], .bool true]) (by simp [results, Try.results101, go_sem, y0, y1, y2, y3, y4]) rfl ⟨p, A2, c2, rs[f].tail, ?_, by rw [HDL.out], ?_, ?_, ?_, ?_⟩
        · exact HP.out
        · exact HE.out
        · obtain ⟨qs, g1, g2, g3⟩ := HQ3.out
          exact ⟨qs, ha9.2 _ _ _ (by decide) g1, g2, fun i hi => by
            obtain ⟨A9, c9, e9, r1, r2, r3⟩ := g3 i hi
            exact ⟨A9, c9, e9, r1, r2, r3.keep pktK (hw9 _ _ (Below.refl _ _) (by omega)) (Nat.le_refl _)⟩⟩
        · exact hw9 _ _ HW3.out.1 (by omega)
        · intro g t cs hg hb
          exact (HW3.out.2 g t cs hg hb).below (hw9 N0 W3 (Below.refl _ _) (Nat.le_refl _)) (by have := hb.lt; have := HNZ.out; omega)
end Go.Proofs.Ytghdilmlfficlaa
