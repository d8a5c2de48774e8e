/- Merge, where nothing is wrong: captures without names and secrets. -/
import Derived.Test.YtghdilmlfficlaaNext
import Derived.Deep.LoopGhost
import Derived.Deep.LoopGhost
import Derived.Deep.LoopGhost
namespace Go.Proofs.Ytghdilmlfficlaa
open Go.RowKit

theorem capInfo : (Try.prog.info? 31).map (fun i => (i.zero, i.size, i.bytes)) = some (some (.agg #[.string ⟨#[]⟩, .slice none 0 0, .slice none 0 0, .slice none 0 0, .slice none 0 0]), 5, 112) := by kernel_rfl
theorem run_make_caps (n : Nat) (hn : n ≤ 100000) (w : World) : (Instr.makeSlice 22 (.int .i64 (n : Int)) (.int .i64 (n : Int))).run Try.prog w = .ok (.slice (some ⟨w.heap.size, 0, none⟩) n n) (w.alloc (.cells (madeCells #[.string ⟨#[]⟩, .slice none 0 0, .slice none 0 0, .slice none 0 0, .slice none 0 0] (n * 5)) 31)) := by
  obtain ⟨i, hi, hzz⟩ := Option.map_eq_some_iff.1 capInfo
  simp only [Prod.mk.injEq] at hzz
  obtain ⟨hz, hs, hb⟩ := hzz
  have hr := run_make (P := Try.prog) w 22 31 i _ Try.underlying22 hi hz .i64 .i64 n n (by omega) (Int.le_refl _) (by rw [hb]; omega) (by omega)
  rw [hs] at hr
  simp only [Int.toNat_natCast] at hr
  exact hr
/-- Captures that are moved, one by one. -/
def movL (l : List Cap) (ds : List Int) : List Cap := List.zipWith shR l ds
theorem movL_len {l : List Cap} {ds : List Int} (h : ds.length = l.length) : (movL l ds).length = l.length := by unfold movL; rw [List.length_zipWith, h, Nat.min_self]
theorem movL_at {l : List Cap} {ds : List Int} {k : Nat} (h1 : k < l.length) (h2 : k < ds.length) (h3 : k < (movL l ds).length) : (movL l ds)[k] = shR l[k] ds[k] := List.getElem_zipWith
def upd (q : Nat → Pl) (k : Nat) (p : Pl) : Nat → Pl := fun i => if i = k then p else q i
theorem upd_same (q : Nat → Pl) (k : Nat) (p : Pl) : upd q k p k = p := if_pos rfl
theorem upd_other {q : Nat → Pl} {k i : Nat} {p : Pl} (h : i ≠ k) : upd q k p i = q i := if_neg h

theorem row5 {w : World} {g T a : Nat} {cs : Array Value} (h : Blk w g T cs) (ha : a + 5 ≤ cs.size) (u0 u1 u2 u3 u4 : Value) :
    ∃ cs2, Blk (((((w.setCell ⟨g, a, none⟩ u0).setCell ⟨g, a + 1, none⟩ u1).setCell ⟨g, a + 2, none⟩ u2).setCell ⟨g, a + 3, none⟩ u3).setCell ⟨g, a + 4, none⟩ u4) g T cs2 ∧ cs2.size = cs.size ∧ (∀ j v, [u0, u1, u2, u3, u4][j]? = some v → cs2[a + j]? = some v) ∧ (∀ i, i < a → cs2[i]? = cs[i]?) ∧
      AlikeT T w (((((w.setCell ⟨g, a, none⟩ u0).setCell ⟨g, a + 1, none⟩ u1).setCell ⟨g, a + 2, none⟩ u2).setCell ⟨g, a + 3, none⟩ u3).setCell ⟨g, a + 4, none⟩ u4) ∧
      ∀ B w0, Below B w0 w → B ≤ g → Below B w0 (((((w.setCell ⟨g, a, none⟩ u0).setCell ⟨g, a + 1, none⟩ u1).setCell ⟨g, a + 2, none⟩ u2).setCell ⟨g, a + 3, none⟩ u3).setCell ⟨g, a + 4, none⟩ u4) := by
  have b0 := h.set_ a u0
  have b1 := b0.set_ (a + 1) u1
  have b2 := b1.set_ (a + 2) u2
  have b3 := b2.set_ (a + 3) u3
  have b4 := b3.set_ (a + 4) u4
  refine ⟨_, b4, by simp, fun j v hj => ?_, fun i hi => ?_, ((((AlikeT.set h u0).trans (AlikeT.set b0 u1)).trans (AlikeT.set b1 u2)).trans (AlikeT.set b2 u3)).trans (AlikeT.set b3 u4), fun B w0 hb hB => ?_⟩
  · have hj5 : j < 5 := by
      rcases Nat.lt_or_ge j 5 with h | h
      · exact h
      · rw [List.getElem?_eq_none (by simpa using h)] at hj; cases hj
    simp only [Array.getElem?_setIfInBounds, Array.size_setIfInBounds]
    rcases (by omega : j = 0 ∨ j = 1 ∨ j = 2 ∨ j = 3 ∨ j = 4) with e | e | e | e | e <;> subst e <;> simp at hj <;> subst hj <;> (repeat (first | (rw [if_neg (by omega)]) | (rw [if_pos (by omega)]) )) <;> rfl
  · simp only [Array.getElem?_setIfInBounds, Array.size_setIfInBounds]
    rw [if_neg (by omega), if_neg (by omega), if_neg (by omega), if_neg (by omega), if_neg (by omega)]
  · exact ((((hb.setCell (p := ⟨g, a, none⟩) hB _).setCell (p := ⟨g, a + 1, none⟩) hB _).setCell (p := ⟨g, a + 2, none⟩) hB _).setCell (p := ⟨g, a + 3, none⟩) hB _).setCell (p := ⟨g, a + 4, none⟩) hB _
theorem capO_pp {w : World} {b : Nat} {ad : Addr} {q : Pl} {c : Cap} (h : CapO w b q c) (hp : q.pp = some ad) : b ≤ ad.block ∧ ad.block < w.heap.size := by
  obtain ⟨w0, rows, hp1⟩ := h.pkts
  rcases hp1.own.2 with ⟨e, _⟩ | ⟨g, cap, cur, e, hb, hg, _⟩
  · injection e with e _ _
    rw [hp] at e; cases e
  · injection e with e _ _
    rw [hp] at e
    injection e with e
    subst e
    exact ⟨hb, (show Blk w g 50 cur from hg).lt⟩
/-- What Merge gives: what is put together, and the packets in turn. -/
def mergeQ : Nat → List (List Pkt) → List Pkt
  | 0, _ => []
  | n + 1, rs => match bst rs rs.length with
    | none => []
    | some f => match rs[f]? with
      | some (p :: tl) => p :: mergeQ n (rs.set f tl)
      | _ => []
def tot (rs : List (List Pkt)) : Nat := (rs.map List.length).sum
noncomputable def quL (l : List Cap) (ds : List Int) : List (List Pkt) := (List.range l.length).map fun i => ((movL l ds)[i]?.map (togP (movL l ds) l.length i)).getD []
theorem own_keepB {w w' : World} {base e size n M : Nat} {v : Value} {xs : List Value} (h : w.ownsRow base e size v n xs) (hk : ∀ g t cs, g ≠ M → Blk w g t cs → Blk w' g t cs) (hM : ∃ t cs, Blk w M t cs ∧ e ≠ t) : w'.ownsRow base e size v n xs := by
  obtain ⟨h1, h | ⟨g, cap, cur, e1, e2, e3, e4⟩⟩ := h
  · exact ⟨h1, Or.inl h⟩
  · obtain ⟨t, cs, hb, ht⟩ := hM
    exact ⟨h1, Or.inr ⟨g, cap, cur, e1, e2, hk g e cur (blk_ne (show Blk w g e cur from e3) hb ht) e3, e4⟩⟩
theorem own_far5 {w : World} {base e size n g : Nat} {v : Value} {xs : List Value} (h : w.ownsRow base e size v n xs) (hne : v.ownBlock ≠ some g) (u0 u1 u2 u3 u4 : Value) :
    (((((w.setCell ⟨g, 0, none⟩ u0).setCell ⟨g, 1, none⟩ u1).setCell ⟨g, 2, none⟩ u2).setCell ⟨g, 3, none⟩ u3).setCell ⟨g, 4, none⟩ u4).ownsRow base e size v n xs :=
  ((((h.kept (grown_set _ g 0 u0) (.inr hne)).kept (grown_set _ g 1 u1) (.inr hne)).kept (grown_set _ g 2 u2) (.inr hne)).kept (grown_set _ g 3 u3) (.inr hne)).kept (grown_set _ g 4 u4) (.inr hne)
def TimE (p : Pkt) (_ : World) (_ : Nat) (vs : List Value) : Prop := vs[0]? = some (.int .i64 p.time)
theorem ownE_snoc {α : Type} {Ep : α → List Value → Prop} {e K : Nat} {w w7 : World} {base : Nat} {v v7 : Value} {xs : List α} {rows : List (List Value)} {x : α} {r : List Value} (h : OwnL w base e K (fun p _ _ vs => Ep p vs) v xs rows)
    (ho : w7.ownsRow base e K v7 (xs.length + 1) (rows.flatten ++ r)) (hr : r.length = K) (hE : Ep x r) (h1 : ∀ u ∈ r, u.oneCell' = true) : OwnL w7 base e K (fun p _ _ vs => Ep p vs) v7 (xs ++ [x]) (rows ++ [r]) := by
  refine ⟨by simpa using ho, by simp [h.len], fun j h1' h2' => ?_, fun q hq u hu => ?_⟩
  · by_cases hj : j < xs.length
    · have hjr : j < rows.length := by rw [h.len]; exact hj
      rw [List.getElem_append_left hj, List.getElem_append_left hjr]
      exact h.each j hj hjr
    · have hje : j = xs.length := by rw [List.length_append] at h1'; simp at h1'; omega
      subst hje
      rw [List.getElem_append_right (Nat.le_refl _), List.getElem_append_right (by rw [h.len]; exact Nat.le_refl _)]
      simp only [h.len, Nat.sub_self, List.getElem_cons_zero]
      exact ⟨hr, hE⟩
  · rcases List.mem_append.1 hq with hq | hq
    · exact h.one q hq u hu
    · rw [List.mem_singleton] at hq; subst hq; exact h1 u hu
theorem quL_tot {l : List Cap} {ds : List Int} {n : Nat} (h1 : l.length = n) (h2 : (movL l ds).length = n) (h3 : ∀ x ∈ movL l ds, x.pkts.length ≤ 100) (h4 : n ≤ 1000) : tot (quL l ds) ≤ 100000 := by
  have key : ∀ (is : List Nat), (∀ i ∈ is, i < n) → tot (is.map fun i => ((movL l ds)[i]?.map (togP (movL l ds) l.length i)).getD []) ≤ is.length * 100 := by
    intro is
    induction is with
    | nil => intro _; simp [tot]
    | cons i is ih =>
      intro h
      have hi := h i List.mem_cons_self
      have h5 := ih (fun j hj => h j (List.mem_cons_of_mem _ hj))
      have hi2 : i < (movL l ds).length := by rw [h2]; exact hi
      have h6 := h3 _ (List.getElem_mem hi2)
      unfold tot at h5 ⊢
      simp only [List.map_cons, List.sum_cons, List.length_cons, List.getElem?_eq_getElem hi2, Option.map_some, Option.getD_some, togP_len]
      rw [Nat.succ_mul]
      omega
  have := key (List.range l.length) (fun i hi => by rw [h1] at hi; exact List.mem_range.1 hi)
  rw [List.length_range] at this
  unfold quL
  omega
def NextP (w : World) (B M : Nat) (rs : List (List Pkt)) (e : Ending) (w' : World) : Prop :=
  ∃ (ok : Bool) (p : Pkt) (A2 : Option Addr) (c2 : Nat) (rs' : List (List Pkt)), e = .returned (.tuple #[.agg #[.int .i64 p.time, .int .i64 p.face, .int .i64 p.real, .slice A2 p.data.length c2, .string p.note], .bool ok]) ∧ Qs w' B M rs' ∧ rs'.length = rs.length ∧ Below B w w' ∧ (∀ g t cs, g ≠ M → Blk w g t cs → Blk w' g t cs) ∧
    (ok = false → mergeQ (tot rs + 1) rs = []) ∧ (ok = true → mergeQ (tot rs + 1) rs = p :: mergeQ (tot rs' + 1) rs' ∧ tot rs' + 1 = tot rs ∧ ∀ W, Below B w W → PktE p W B [.int .i64 p.time, .int .i64 p.face, .int .i64 p.real, .slice A2 p.data.length c2, .string p.note])
theorem tot_set {rs : List (List Pkt)} {f : Nat} {p : Pkt} {tl : List Pkt} (h : rs[f]? = some (p :: tl)) : tot (rs.set f tl) + 1 = tot rs := by
  induction rs generalizing f with
  | nil => simp at h
  | cons a rs ih =>
    cases f with
    | zero =>
      simp at h
      subst h
      simp [tot]; omega
    | succ f =>
      have := ih (f := f) (by simpa using h)
      simp only [tot, List.set_cons_succ, List.map_cons, List.sum_cons] at this ⊢
      omega
theorem mergeQ_none {rs : List (List Pkt)} {n : Nat} (h : bst rs rs.length = none) : mergeQ n rs = [] := by
  cases n with
  | zero => rfl
  | succ n => rw [mergeQ, h]
theorem mergeQ_some {rs : List (List Pkt)} {n f : Nat} {p : Pkt} {tl : List Pkt} (h : bst rs rs.length = some f) (hp : rs[f]? = some (p :: tl)) : mergeQ (n + 1) rs = p :: mergeQ n (rs.set f tl) := by
  rw [mergeQ, h]
  simp only [hp]
theorem next_any {w : World} {B M Q : Nat} {rs : List (List Pkt)} (hq : Blk w Q 75 #[.slice (some ⟨M, 0, none⟩) rs.length rs.length]) (hr : Qs w B M rs) (hB : B ≤ w.heap.size) (hBM : B ≤ M) (hl : rs.length ≤ 100000) :
    Calls Try.prog 101 #[.pointer (some ⟨Q, 0, none⟩)] w (NextP w B M rs) := by
  cases hb : bst rs rs.length with
  | none =>
    refine (next_none hq hr hB hl hb).mono ?_
    rintro e w' ⟨he, hbw⟩
    exact ⟨false, ⟨0, 0, 0, [], ⟨#[]⟩⟩, none, 0, rs, he, hr.below hbw hB, rfl, hbw.mono hB, fun g t cs _ h => h.below hbw h.lt, fun _ => mergeQ_none hb, fun h => by cases h⟩
  | some f =>
    refine (next_some hq hr hB hBM hl hb).mono ?_
    rintro e w' ⟨p, A2, c2, tl, hp, he, hE, hs, hbw, hk⟩
    have ht := tot_set hp
    refine ⟨true, p, A2, c2, rs.set f tl, he, hs, List.length_set, hbw, hk, (fun h => by cases h), fun _ => ⟨?_, ht, hE⟩⟩
    rw [mergeQ_some hb hp, ht]
def MergeP (w : World) (l : List Cap) (ds : List Int) (e : Ending) (w' : World) : Prop :=
  ∃ A cF AP cP, e = .returned (.tuple #[.agg #[.string (togA (movL l ds) l.length).note, .slice A (togA (movL l ds) l.length).faces.length cF, .slice none 0 0, .slice none 0 0, .slice AP (mergeQ (tot (quL l ds) + 1) (quL l ds)).length cP], .int .i64 0]) ∧
    Els 5 TimE w' w'.heap.size AP (mergeQ (tot (quL l ds) + 1) (quL l ds)) ∧ Below w.heap.size w w'

set_option maxRecDepth 100000 in
set_option maxHeartbeats 16000000 in
theorem merge_ok {w : World} {A : Option Addr} {c bd od cd : Nat} {l : List Cap} {ds : List Int} (hm : Els 5 CapE w w.heap.size A l) (hdl : ds.length = l.length) (hd : ∀ i (h : i < ds.length), w.cell? ⟨bd, od + i, none⟩ = some (.int .i64 ds[i]) ∧ -9223372036854775808 ≤ ds[i] ∧ ds[i] ≤ 9223372036854775807) (hbd : bd < w.heap.size)
    (h0 : 0 < l.length) (hl : l.length ≤ 1000) (hv : errL l = 0) (hE : ∀ i (h : i < l.length) (h' : i < ds.length), errSh l[i] ds[i] = 0)
    (hL : ∀ x ∈ movL l ds, errV x = 0 ∧ x.names = [] ∧ x.secs = []) (hsum : sumP (movL l ds) ≤ 100) (htog : ∀ k, k ≤ (movL l ds).length → 0 < k → errV (togA (movL l ds) k) = 0) :
    Calls Try.prog 15 #[.slice A l.length c, .slice (some ⟨bd, od, none⟩) l.length cd] w fun e w' => MergeP w l ds e w' := by
  obtain ⟨B, hB⟩ : ∃ B, w.heap.size = B := ⟨_, rfl⟩
  obtain ⟨n, hn⟩ : ∃ n, l.length = n := ⟨_, rfl⟩
  have HN := Lib.hid hn
  have HLN : Hid ((movL l ds).length = n) := Lib.hid (by rw [movL_len hdl, hn])
  have HDL := Lib.hid (hdl.trans hn)
  have HM := Lib.hid hm
  have HD := Lib.hid hd
  have HE := Lib.hid hE
  have HL := Lib.hid hL
  have HSUM := Lib.hid hsum
  have HTOG := Lib.hid htog
  obtain ⟨W0, hW0⟩ : ∃ W0, w.alloc (.cells #[.string ⟨#[]⟩, .slice none 0 0, .slice none 0 0, .slice none 0 0, .slice none 0 0] 31) = W0 := ⟨_, rfl⟩
  have hb0 : Below w.heap.size w W0 := by rw [← hW0]; exact (Below.refl _ w).alloc (Nat.le_refl _) _
  have HZ0 : Hid (Blk W0 B 31 #[.string ⟨#[]⟩, .slice none 0 0, .slice none 0 0, .slice none 0 0, .slice none 0 0] ∧ Below B w W0) := Lib.hid ⟨by rw [← hW0, ← hB]; exact Blk.new _ _ _, by rw [← hB]; exact hb0⟩
  have HV := Lib.hid (vall_any (w := W0) (c := c) (hm.keep capK hb0 hb0.size) (by omega))
  rw [hv, hn] at HV
  have hne : ((n : Int) != (n : Int)) = false := by simp
  have hn0 : ((n : Int) == 0) = false := by rw [beq_eq_false_iff_ne]; omega
  have hn1 : 0 < n := by rw [← hn]; exact h0
  have hn2 : n ≤ 1000 := by rw [← hn]; exact hl
  have hmk := run_make_caps n (by omega)
  have hbdB : bd < B := by rw [← hB]; exact hbd
  rw [hn]
  clear hm hd hE hL hsum htog hdl hn hv hb0 h0 hl
  go_enter Try.func15, Try.ntmps15
  go_wp2_with fail
  clear hW0
  with_reducible refine HV.out.mono ?_
  rintro e v1 ⟨rfl, hb1⟩
  have HZ1 : Hid (Blk v1 B 31 #[.string ⟨#[]⟩, .slice none 0 0, .slice none 0 0, .slice none 0 0, .slice none 0 0] ∧ Below B w v1) := Lib.hid ⟨HZ0.out.1.below hb1 HZ0.out.1.lt, HZ0.out.2.trans (hb1.mono (Nat.le_of_lt HZ0.out.1.lt))⟩
  have hBw : Hid (w.heap.size = B) := Lib.hid hB
  clear hb1 HZ0 HV hB hbd
  obtain ⟨Mv, hMv⟩ : ∃ Mv, v1.heap.size = Mv := ⟨_, rfl⟩
  have hBM : B < Mv := by rw [← hMv]; exact HZ1.out.1.lt
  obtain ⟨W1, hW1⟩ : ∃ W1, v1.alloc (.cells (madeCells #[.string ⟨#[]⟩, .slice none 0 0, .slice none 0 0, .slice none 0 0, .slice none 0 0] (n * 5)) 31) = W1 := ⟨_, rfl⟩
  have hb1 : Below v1.heap.size v1 W1 := by rw [← hW1]; exact (Below.refl _ _).alloc (Nat.le_refl _) _
  have HM1 : Hid (Blk W1 Mv 31 (madeCells #[.string ⟨#[]⟩, .slice none 0 0, .slice none 0 0, .slice none 0 0, .slice none 0 0] (n * 5))) := Lib.hid (by rw [← hW1, ← hMv]; exact Blk.new _ _ _)
  have HZ2 : Hid (Blk W1 B 31 #[.string ⟨#[]⟩, .slice none 0 0, .slice none 0 0, .slice none 0 0, .slice none 0 0] ∧ Below B w W1) := Lib.hid ⟨HZ1.out.1.below hb1 HZ1.out.1.lt, HZ1.out.2.trans (hb1.mono (by omega))⟩
  clear hb1 HZ1
  go_wp2
  clear hW1 hMv hmk hne hn0
  go_loopw [38] (fun i wr => ∃ (k : Nat) (cs : Array Value) (q : Nat → Pl), i = .int .i64 k ∧ k ≤ n ∧ Hid (Blk wr Mv 31 cs ∧ cs.size = n * 5 ∧ ∀ i (h : i < (movL l ds).length), i < k → ∀ j v, (capL (q i) (movL l ds)[i])[j]? = some v → cs[i * 5 + j]? = some v) ∧ Hid (∀ i (h : i < (movL l ds).length), i < k → CapO wr B (q i) (movL l ds)[i]) ∧ Hid (Apart k q) ∧ Hid (Blk wr B 31 #[.string ⟨#[]⟩, .slice none 0 0, .slice none 0 0, .slice none 0 0, .slice none 0 0] ∧ Below B w wr)) (fun i _ => n - (intOf i).toNat)
  case atStart => exact ⟨0, _, fun _ => ⟨none, 0, none, 0, none, 0, none, 0⟩, rfl, Nat.zero_le _, Lib.hid ⟨HM1.out, size_madeCells _ _, fun i _ h => absurd h (Nat.not_lt_zero i)⟩, Lib.hid (fun i _ h => absurd h (Nat.not_lt_zero i)), Lib.hid (fun i j h => absurd h (Nat.not_lt_zero i)), HZ2⟩
  case round =>
    obtain ⟨k, cs, q, rfl, hk, HR, HC, HA, HZ⟩ := hrel
    by_cases hlt : k < n
    · have hlk : k < l.length := by rw [HN.out]; exact hlt
      have hdk : k < ds.length := by rw [HDL.out]; exact hlt
      have hLk : k < (movL l ds).length := by rw [HLN.out]; exact hlt
      have HAT := Lib.hid (movL_at hlk hdk hLk)
      have hbw : B ≤ wr.heap.size := Nat.le_of_lt HZ.out.1.lt
      obtain ⟨b, o, hAe, hb, vs, hvl, ⟨⟨pf, cf, pn, cn, ps, cs', pp, cp⟩, rfl, hcap⟩, hcell⟩ := (HM.out.keep (B' := B) capK (by rw [hBw.out]; exact HZ.out.2) (by rw [hBw.out]; exact Nat.le_refl _)).row k hlk
      subst hAe
      have hdc := (HD.out k hdk)
      have HES := Lib.hid (HE.out k hlk hdk)
      obtain ⟨x, hx⟩ : ∃ x, l[k] = x := ⟨_, rfl⟩
      obtain ⟨d, hdd⟩ : ∃ d, ds[k] = d := ⟨_, rfl⟩
      rw [hx, hdd] at HES HAT
      rw [hdd] at hdc
      have c0 : wr.cell? ⟨b, o + k * 5, none⟩ = some (.string x.note) := by rw [← hx]; exact hcell 0 _ rfl
      have c1 : wr.cell? ⟨b, o + k * 5 + 1, none⟩ = some (.slice pf x.faces.length cf) := by rw [← hx]; exact hcell 1 _ rfl
      have c2 : wr.cell? ⟨b, o + k * 5 + 2, none⟩ = some (.slice pn x.names.length cn) := by rw [← hx]; exact hcell 2 _ rfl
      have c3 : wr.cell? ⟨b, o + k * 5 + 3, none⟩ = some (.slice ps x.secs.length cs') := by rw [← hx]; exact hcell 3 _ rfl
      have c4 : wr.cell? ⟨b, o + k * 5 + 4, none⟩ = some (.slice pp x.pkts.length cp) := by rw [← hx]; exact hcell 4 _ rfl
      rw [hx] at hcap
      have hdr : wr.cell? ⟨bd, od + k, none⟩ = some (.int .i64 d) := (HZ.out.2.cell (p := ⟨bd, od + k, none⟩) hbdB).trans hdc.1
      have HDB := Lib.hid hdc.2
      obtain ⟨C, hC⟩ : ∃ C, wr.heap.size = C := ⟨_, rfl⟩
      obtain ⟨W2, hW2⟩ : ∃ W2, wr.alloc (.cells #[.string x.note, .slice pf x.faces.length cf, .slice pn x.names.length cn, .slice ps x.secs.length cs', .slice pp x.pkts.length cp] 31) = W2 := ⟨_, rfl⟩
      have hb2 : Below wr.heap.size wr W2 := by rw [← hW2]; exact (Below.refl _ _).alloc (Nat.le_refl _) _
      have hk2 : Blk W2 C 31 #[.string x.note, .slice pf x.faces.length cf, .slice pn x.names.length cn, .slice ps x.secs.length cs', .slice pp x.pkts.length cp] := by rw [← hW2, ← hC]; exact Blk.new _ _ _
      have x0 := hk2.cell 0
      have x1 := hk2.cell 1
      have x2 := hk2.cell 2
      have x3 := hk2.cell 3
      have x4 := hk2.cell 4
      have d1 : W2.cell? ⟨bd, od + k, none⟩ = some (.int .i64 d) := (hb2.cell (p := ⟨bd, od + k, none⟩) (by show bd < wr.heap.size; omega)).trans hdr
      have HCM0 : Hid (CapM W2 W2.heap.size ⟨pf, cf, pn, cn, ps, cs', pp, cp⟩ x) := Lib.hid (hcap.keep (hb2.mono hbw) (Nat.le_trans hbw hb2.size))
      have HCM : Hid (CapM W2.drew W2.drew.heap.size ⟨pf, cf, pn, cn, ps, cs', pp, cp⟩ x) := Lib.hid (hcap.keep ((hb2.mono hbw).drew) (Nat.le_trans hbw hb2.size))
      have HR2 : Hid (Blk W2 Mv 31 cs) := Lib.hid (HR.out.1.below hb2 HR.out.1.lt)
      have HC2 : Hid (∀ i (h : i < (movL l ds).length), i < k → CapO W2 B (q i) (movL l ds)[i]) := Lib.hid (fun i h hik => (HC.out i h hik).below hb2)
      have HZ2 : Hid (Blk W2 B 31 #[.string ⟨#[]⟩, .slice none 0 0, .slice none 0 0, .slice none 0 0, .slice none 0 0] ∧ Below B w W2) := Lib.hid ⟨HZ.out.1.below hb2 HZ.out.1.lt, HZ.out.2.trans (hb2.mono hbw)⟩
      have HCS := Lib.hid HR.out.2
      have HSH := Lib.hid (shift_any (d := d) HCM.out HDB.out)
      rw [HES.out] at HSH
      have hk0 : (0 : Int) ≤ (k : Int) := by omega
      have hkn : (k : Int) < (n : Int) := by omega
      have hCW2 : C < W2.heap.size := hk2.lt
      have hwW2 : wr.heap.size ≤ W2.heap.size := hb2.size
      clear hcell hcap hdc hx hdd hb2 hk2 HR HC HZ
      go_wp2_with fail
      clear hW2 c0 c1 c2 c3 c4 hdr hC

      obtain ⟨y, hy⟩ : ∃ y, shR x d = y := ⟨_, rfl⟩
      rw [hy] at HSH HAT
      have HWA : Hid (Below W2.heap.size W2 ((W2.alloc (.cells #[.string ⟨#[]⟩, .slice none 0 0, .slice none 0 0, .slice none 0 0, .slice none 0 0] 31)).drew)) := Lib.hid (((Below.refl _ W2).alloc (Nat.le_refl _) _).drew)
      have HXA : Hid (Blk ((W2.alloc (.cells #[.string ⟨#[]⟩, .slice none 0 0, .slice none 0 0, .slice none 0 0, .slice none 0 0] 31)).drew) W2.heap.size 31 #[.string ⟨#[]⟩, .slice none 0 0, .slice none 0 0, .slice none 0 0, .slice none 0 0]) := Lib.hid (Blk.drewN (Blk.new W2 31 #[.string ⟨#[]⟩, .slice none 0 0, .slice none 0 0, .slice none 0 0, .slice none 0 0]) 1)
      have HSH2 := Lib.hid (shift_any (w := (W2.alloc (.cells #[.string ⟨#[]⟩, .slice none 0 0, .slice none 0 0, .slice none 0 0, .slice none 0 0] 31)).drew) (p := ⟨pf, cf, pn, cn, ps, cs', pp, cp⟩) (c := x) (d := d) (HCM0.out.keep HWA.out HWA.out.size) HDB.out)
      rw [HES.out, hy] at HSH2
      clear hy
      have s0 : W2.drew.cell? ⟨C, 0, none⟩ = some (.string x.note) := x0
      have s1 : W2.drew.cell? ⟨C, 1, none⟩ = some (.slice pf x.faces.length cf) := x1
      have s2 : W2.drew.cell? ⟨C, 2, none⟩ = some (.slice pn x.names.length cn) := x2
      have s3 : W2.drew.cell? ⟨C, 3, none⟩ = some (.slice ps x.secs.length cs') := x3
      have s4 : W2.drew.cell? ⟨C, 4, none⟩ = some (.slice pp x.pkts.length cp) := x4
      have s5 : W2.drew.cell? ⟨bd, od + k, none⟩ = some (.int .i64 d) := d1
      have a0 : ((W2.alloc (.cells #[.string ⟨#[]⟩, .slice none 0 0, .slice none 0 0, .slice none 0 0, .slice none 0 0] 31)).drew).cell? ⟨C, 0, none⟩ = some (.string x.note) := (HWA.out.cell (p := ⟨C, 0, none⟩) (by show C < W2.heap.size; omega)).trans s0
      have a1 : ((W2.alloc (.cells #[.string ⟨#[]⟩, .slice none 0 0, .slice none 0 0, .slice none 0 0, .slice none 0 0] 31)).drew).cell? ⟨C, 1, none⟩ = some (.slice pf x.faces.length cf) := (HWA.out.cell (p := ⟨C, 1, none⟩) (by show C < W2.heap.size; omega)).trans s1
      have a2 : ((W2.alloc (.cells #[.string ⟨#[]⟩, .slice none 0 0, .slice none 0 0, .slice none 0 0, .slice none 0 0] 31)).drew).cell? ⟨C, 2, none⟩ = some (.slice pn x.names.length cn) := (HWA.out.cell (p := ⟨C, 2, none⟩) (by show C < W2.heap.size; omega)).trans s2
      have a3 : ((W2.alloc (.cells #[.string ⟨#[]⟩, .slice none 0 0, .slice none 0 0, .slice none 0 0, .slice none 0 0] 31)).drew).cell? ⟨C, 3, none⟩ = some (.slice ps x.secs.length cs') := (HWA.out.cell (p := ⟨C, 3, none⟩) (by show C < W2.heap.size; omega)).trans s3
      have a4 : ((W2.alloc (.cells #[.string ⟨#[]⟩, .slice none 0 0, .slice none 0 0, .slice none 0 0, .slice none 0 0] 31)).drew).cell? ⟨C, 4, none⟩ = some (.slice pp x.pkts.length cp) := (HWA.out.cell (p := ⟨C, 4, none⟩) (by show C < W2.heap.size; omega)).trans s4
      have a5 : ((W2.alloc (.cells #[.string ⟨#[]⟩, .slice none 0 0, .slice none 0 0, .slice none 0 0, .slice none 0 0] 31)).drew).cell? ⟨bd, od + k, none⟩ = some (.int .i64 d) := (HWA.out.cell (p := ⟨bd, od + k, none⟩) (by show bd < W2.heap.size; omega)).trans s5
      obtain ⟨X2, hX2⟩ : ∃ X, W2.heap.size = X := ⟨_, rfl⟩
      refine wp_region_held_drew (S := (fun w' => w'.cell? ⟨C, 0, none⟩ = some (.string x.note) ∧ w'.cell? ⟨C, 1, none⟩ = some (.slice pf x.faces.length cf) ∧ w'.cell? ⟨C, 2, none⟩ = some (.slice pn x.names.length cn) ∧ w'.cell? ⟨C, 3, none⟩ = some (.slice ps x.secs.length cs') ∧ w'.cell? ⟨C, 4, none⟩ = some (.slice pp x.pkts.length cp) ∧ w'.cell? ⟨bd, od + k, none⟩ = some (.int .i64 d))) (by kernel_rfl) ⟨s0, s1, s2, s3, s4, s5⟩ (fun hHeld => ?_)
      refine wpAnyH_take (i := 0) (oi := { dst := some 44, op := Go.Op.load 31 (Go.Operand.tmp 9), type := 31, pos := "merge.go:24", after := #[], guard := none }) (v := ?_) rfl (by kernel_rfl) (by kernel_rfl) (by kernel_rfl) (fun _ _ _ h => h) (Or.inl ⟨by rfl, ?_⟩) (by assumption) ?_
      rotate_left 1
      · intro w hSw; (try dsimp only at hSw); go_simp; try with_reducible rfl
      try simp only [Act.put, List.setIfInBounds_toArray, List.set_cons_zero, List.set_cons_succ]
      refine wpAnyH_take (i := 1) (oi := { dst := some 45, op := Go.Op.move (Go.Operand.tmp 1), type := 23, pos := "merge.go:24", after := #[], guard := none }) (v := ?_) rfl (by kernel_rfl) (by kernel_rfl) (by kernel_rfl) (fun _ _ _ h => h) (Or.inl ⟨by rfl, ?_⟩) (by assumption) ?_
      rotate_left 1
      · intro w hSw; (try dsimp only at hSw); go_simp; try with_reducible rfl
      try simp only [Act.put, List.setIfInBounds_toArray, List.set_cons_zero, List.set_cons_succ]
      refine wpAnyH_take (i := 2) (oi := { dst := some 46, op := Go.Op.move (Go.Operand.tmp 8), type := 3, pos := "merge.go:24", after := #[], guard := none }) (v := ?_) rfl (by kernel_rfl) (by kernel_rfl) (by kernel_rfl) (fun _ _ _ h => h) (Or.inl ⟨by rfl, ?_⟩) (by assumption) ?_
      rotate_left 1
      · intro w hSw; (try dsimp only at hSw); go_simp; try with_reducible rfl
      try simp only [Act.put, List.setIfInBounds_toArray, List.set_cons_zero, List.set_cons_succ]
      refine wpAnyH_take (i := 3) (oi := { dst := some 47, op := Go.Op.indexAddr 23 (Go.Operand.tmp 45) (Go.Operand.tmp 46), type := 0, pos := "merge.go:24", after := #[{ on := 1, ground := Go.Ground.data }, { on := 2, ground := Go.Ground.data }], guard := none }) (v := ?_) rfl (by kernel_rfl) (by kernel_rfl) (by kernel_rfl) (fun _ _ _ h => h) (Or.inl ⟨by rfl, ?_⟩) (by assumption) ?_
      rotate_left 1
      · intro w hSw; (try dsimp only at hSw); go_simp; try with_reducible rfl
      try simp only [Act.put, List.setIfInBounds_toArray, List.set_cons_zero, List.set_cons_succ]
      refine wpAnyH_take (i := 4) (oi := { dst := some 48, op := Go.Op.load 3 (Go.Operand.tmp 47), type := 3, pos := "merge.go:24", after := #[{ on := 3, ground := Go.Ground.data }], guard := none }) (v := ?_) rfl (by kernel_rfl) (by kernel_rfl) (by kernel_rfl) (fun _ _ _ h => h) (Or.inl ⟨by rfl, ?_⟩) (by assumption) ?_
      rotate_left 1
      · intro w hSw; (try dsimp only at hSw); go_simp; try with_reducible rfl
      try simp only [Act.put, List.setIfInBounds_toArray, List.set_cons_zero, List.set_cons_succ]
      refine wpAnyH_ready (rs := [5, 9]) (by kernel_rfl) (by simp) ?_
      refine AllReadyH.cons (o := { dst := some 49, op := Go.Op.call { callee := Go.Callee.value (Go.Operand.func 19), args := #[Go.Operand.tmp 44, Go.Operand.tmp 48], argTypes := #[31, 3] }, type := 33, pos := "merge.go:24", after := #[{ on := 0, ground := Go.Ground.data }, { on := 4, ground := Go.Ground.data }], guard := none }) rfl (fun K hK => ?_) (AllReadyH.cons (o := { dst := some 10, op := Go.Op.alloc 31, type := 0, pos := "merge.go:24", after := #[], guard := none }) rfl (fun K hK => ?_) (AllReadyH.nil))
      go_simp
      go_at_call 19
      with_reducible refine HSH.out.mono ?_
      rintro e w5 ⟨⟨af, bf, an, bn, as_, bs, ap, bp⟩, rfl, hO5, hb5⟩
      have HO5 : Hid (CapO w5 W2.heap.size ⟨af, bf, an, bn, as_, bs, ap, bp⟩ y) := Lib.hid hO5
      have HB5 : Hid (Below W2.heap.size W2 w5) := Lib.hid (below_undrew hb5)
      clear hO5 hb5
      have t0 : w5.cell? ⟨C, 0, none⟩ = some (.string x.note) := (HB5.out.cell (p := ⟨C, 0, none⟩) (by show C < W2.heap.size; omega)).trans s0
      have t1 : w5.cell? ⟨C, 1, none⟩ = some (.slice pf x.faces.length cf) := (HB5.out.cell (p := ⟨C, 1, none⟩) (by show C < W2.heap.size; omega)).trans s1
      have t2 : w5.cell? ⟨C, 2, none⟩ = some (.slice pn x.names.length cn) := (HB5.out.cell (p := ⟨C, 2, none⟩) (by show C < W2.heap.size; omega)).trans s2
      have t3 : w5.cell? ⟨C, 3, none⟩ = some (.slice ps x.secs.length cs') := (HB5.out.cell (p := ⟨C, 3, none⟩) (by show C < W2.heap.size; omega)).trans s3
      have t4 : w5.cell? ⟨C, 4, none⟩ = some (.slice pp x.pkts.length cp) := (HB5.out.cell (p := ⟨C, 4, none⟩) (by show C < W2.heap.size; omega)).trans s4
      have t5 : w5.cell? ⟨bd, od + k, none⟩ = some (.int .i64 d) := (HB5.out.cell (p := ⟨bd, od + k, none⟩) (by show bd < W2.heap.size; omega)).trans s5
      have hw5 : W2.heap.size ≤ w5.heap.size := HB5.out.size
      have HBB : Hid (∀ o, Below w5.heap.size w5 (w5.alloc o)) := Lib.hid (fun o => (Below.refl _ _).alloc (Nat.le_refl _) _)
      have u0 : (w5.alloc (.cells #[.string ⟨#[]⟩, .slice none 0 0, .slice none 0 0, .slice none 0 0, .slice none 0 0] 31)).cell? ⟨C, 0, none⟩ = some (.string x.note) := ((HBB.out _).cell (p := ⟨C, 0, none⟩) (by show C < w5.heap.size; omega)).trans t0
      have u1 : (w5.alloc (.cells #[.string ⟨#[]⟩, .slice none 0 0, .slice none 0 0, .slice none 0 0, .slice none 0 0] 31)).cell? ⟨C, 1, none⟩ = some (.slice pf x.faces.length cf) := ((HBB.out _).cell (p := ⟨C, 1, none⟩) (by show C < w5.heap.size; omega)).trans t1
      have u2 : (w5.alloc (.cells #[.string ⟨#[]⟩, .slice none 0 0, .slice none 0 0, .slice none 0 0, .slice none 0 0] 31)).cell? ⟨C, 2, none⟩ = some (.slice pn x.names.length cn) := ((HBB.out _).cell (p := ⟨C, 2, none⟩) (by show C < w5.heap.size; omega)).trans t2
      have u3 : (w5.alloc (.cells #[.string ⟨#[]⟩, .slice none 0 0, .slice none 0 0, .slice none 0 0, .slice none 0 0] 31)).cell? ⟨C, 3, none⟩ = some (.slice ps x.secs.length cs') := ((HBB.out _).cell (p := ⟨C, 3, none⟩) (by show C < w5.heap.size; omega)).trans t3
      have u4 : (w5.alloc (.cells #[.string ⟨#[]⟩, .slice none 0 0, .slice none 0 0, .slice none 0 0, .slice none 0 0] 31)).cell? ⟨C, 4, none⟩ = some (.slice pp x.pkts.length cp) := ((HBB.out _).cell (p := ⟨C, 4, none⟩) (by show C < w5.heap.size; omega)).trans t4
      have u5 : (w5.alloc (.cells #[.string ⟨#[]⟩, .slice none 0 0, .slice none 0 0, .slice none 0 0, .slice none 0 0] 31)).cell? ⟨bd, od + k, none⟩ = some (.int .i64 d) := ((HBB.out _).cell (p := ⟨bd, od + k, none⟩) (by show bd < w5.heap.size; omega)).trans t5
      have g0 : (w5.alloc (.cells #[.string y.note, .slice af y.faces.length bf, .slice an y.names.length bn, .slice as_ y.secs.length bs, .slice ap y.pkts.length bp] 31)).cell? ⟨C, 0, none⟩ = some (.string x.note) := ((HBB.out _).cell (p := ⟨C, 0, none⟩) (by show C < w5.heap.size; omega)).trans t0
      have g1 : (w5.alloc (.cells #[.string y.note, .slice af y.faces.length bf, .slice an y.names.length bn, .slice as_ y.secs.length bs, .slice ap y.pkts.length bp] 31)).cell? ⟨C, 1, none⟩ = some (.slice pf x.faces.length cf) := ((HBB.out _).cell (p := ⟨C, 1, none⟩) (by show C < w5.heap.size; omega)).trans t1
      have g2 : (w5.alloc (.cells #[.string y.note, .slice af y.faces.length bf, .slice an y.names.length bn, .slice as_ y.secs.length bs, .slice ap y.pkts.length bp] 31)).cell? ⟨C, 2, none⟩ = some (.slice pn x.names.length cn) := ((HBB.out _).cell (p := ⟨C, 2, none⟩) (by show C < w5.heap.size; omega)).trans t2
      have g3 : (w5.alloc (.cells #[.string y.note, .slice af y.faces.length bf, .slice an y.names.length bn, .slice as_ y.secs.length bs, .slice ap y.pkts.length bp] 31)).cell? ⟨C, 3, none⟩ = some (.slice ps x.secs.length cs') := ((HBB.out _).cell (p := ⟨C, 3, none⟩) (by show C < w5.heap.size; omega)).trans t3
      have g4 : (w5.alloc (.cells #[.string y.note, .slice af y.faces.length bf, .slice an y.names.length bn, .slice as_ y.secs.length bs, .slice ap y.pkts.length bp] 31)).cell? ⟨C, 4, none⟩ = some (.slice pp x.pkts.length cp) := ((HBB.out _).cell (p := ⟨C, 4, none⟩) (by show C < w5.heap.size; omega)).trans t4
      have g5 : (w5.alloc (.cells #[.string y.note, .slice af y.faces.length bf, .slice an y.names.length bn, .slice as_ y.secs.length bs, .slice ap y.pkts.length bp] 31)).cell? ⟨bd, od + k, none⟩ = some (.int .i64 d) := ((HBB.out _).cell (p := ⟨bd, od + k, none⟩) (by show bd < w5.heap.size; omega)).trans t5
      dsimp only
      refine hK.out _ _ ⟨t0, t1, t2, t3, t4, t5⟩ (fun hHeld => ?_)
      clear hK K
      try simp only [Act.put, List.setIfInBounds_toArray, List.set_cons_zero, List.set_cons_succ]
      refine wpAnyH_take (i := 6) (oi := { dst := some 43, op := Go.Op.move (Go.Operand.tmp 49), type := 33, pos := "merge.go:24", after := #[{ on := 5, ground := Go.Ground.data }], guard := none }) (v := ?_) rfl (by kernel_rfl) (by kernel_rfl) (by kernel_rfl) (fun _ _ _ h => h) (Or.inl ⟨by rfl, ?_⟩) (by assumption) ?_
      rotate_left 1
      · intro w hSw; (try dsimp only at hSw); go_simp; try with_reducible rfl
      try simp only [Act.put, List.setIfInBounds_toArray, List.set_cons_zero, List.set_cons_succ]
      refine wpAnyH_take (i := 7) (oi := { dst := some 50, op := Go.Op.extract (Go.Operand.tmp 43) 0, type := 31, pos := "merge.go:24", after := #[{ on := 6, ground := Go.Ground.data }], guard := none }) (v := ?_) rfl (by kernel_rfl) (by kernel_rfl) (by kernel_rfl) (fun _ _ _ h => h) (Or.inl ⟨by rfl, ?_⟩) (by assumption) ?_
      rotate_left 1
      · intro w hSw; (try dsimp only at hSw); go_simp; try with_reducible rfl
      try simp only [Act.put, List.setIfInBounds_toArray, List.set_cons_zero, List.set_cons_succ]
      refine wpAnyH_take (i := 8) (oi := { dst := some 51, op := Go.Op.extract (Go.Operand.tmp 43) 1, type := 32, pos := "merge.go:24", after := #[{ on := 6, ground := Go.Ground.data }, { on := 10, ground := Go.Ground.gcOnly Go.Departure.lateStores }], guard := none }) (v := ?_) rfl (by kernel_rfl) (by kernel_rfl) (by kernel_rfl) (fun _ _ _ h => h) (Or.inl ⟨by rfl, ?_⟩) (by assumption) ?_
      rotate_left 1
      · intro w hSw; (try dsimp only at hSw); go_simp; try with_reducible rfl
      try simp only [Act.put, List.setIfInBounds_toArray, List.set_cons_zero, List.set_cons_succ]
      refine wpAnyH_ready (rs := [9]) (by kernel_rfl) (by simp) ?_
      refine AllReadyH.cons (o := { dst := some 10, op := Go.Op.alloc 31, type := 0, pos := "merge.go:24", after := #[], guard := none }) rfl (fun K hK => ?_) (AllReadyH.nil)
      go_simp
      refine hK.out _ _ ⟨u0, u1, u2, u3, u4, u5⟩ (fun hHeld => ?_)
      clear hK K
      try simp only [Act.put, List.setIfInBounds_toArray, List.set_cons_zero, List.set_cons_succ]
      refine wpAnyH_ready (rs := [10]) (by kernel_rfl) (by simp) ?_
      refine AllReadyH.cons (o := { dst := none, op := Go.Op.store 31 (Go.Operand.tmp 10) (Go.Operand.tmp 50), type := 0, pos := "merge.go:24", after := #[{ on := 9, ground := Go.Ground.data }, { on := 7, ground := Go.Ground.data }, { on := 5, ground := Go.Ground.chain }, { on := 0, ground := Go.Ground.phase }, { on := 1, ground := Go.Ground.phase }, { on := 2, ground := Go.Ground.phase }, { on := 3, ground := Go.Ground.phase }, { on := 4, ground := Go.Ground.phase }, { on := 5, ground := Go.Ground.phase }, { on := 6, ground := Go.Ground.phase }, { on := 7, ground := Go.Ground.phase }, { on := 8, ground := Go.Ground.textOnly Go.Departure.lateStores }, { on := 9, ground := Go.Ground.phase }], guard := none }) rfl (fun K hK => ?_) (AllReadyH.nil)
      go_simp
      refine hK.out _ _ ⟨g0, g1, g2, g3, g4, g5⟩ (fun hHeld => ?_)
      clear hK K
      try simp only [Act.put, List.setIfInBounds_toArray, List.set_cons_zero, List.set_cons_succ]
      refine wpAnyH_take (i := 11) (oi := { dst := some 11, op := Go.Op.assign (Go.Operand.tmp 51), type := 32, pos := "merge.go:24", after := #[{ on := 8, ground := Go.Ground.data }, { on := 10, ground := Go.Ground.chain }, { on := 0, ground := Go.Ground.phase }, { on := 1, ground := Go.Ground.phase }, { on := 2, ground := Go.Ground.phase }, { on := 3, ground := Go.Ground.phase }, { on := 4, ground := Go.Ground.phase }, { on := 5, ground := Go.Ground.phase }, { on := 6, ground := Go.Ground.phase }, { on := 7, ground := Go.Ground.phase }, { on := 8, ground := Go.Ground.phase }, { on := 9, ground := Go.Ground.phase }, { on := 10, ground := Go.Ground.phase }], guard := none }) (v := ?_) rfl (by kernel_rfl) (by kernel_rfl) (by kernel_rfl) (fun _ _ _ h => h) (Or.inl ⟨by rfl, ?_⟩) (by assumption) ?_
      rotate_left 1
      · intro w hSw; (try dsimp only at hSw); go_simp; try with_reducible rfl
      try simp only [Act.put, List.setIfInBounds_toArray, List.set_cons_zero, List.set_cons_succ]
      refine wpAnyH_done (by kernel_rfl) ?_ _
      rotate_left 1
      go_simp
      refine hK.out _ _ ⟨a0, a1, a2, a3, a4, a5⟩ (fun hHeld => ?_)
      clear hK K
      try simp only [Act.put, List.setIfInBounds_toArray, List.set_cons_zero, List.set_cons_succ]
      refine wpAnyH_ready (rs := [5]) (by kernel_rfl) (by simp) ?_
      refine AllReadyH.cons (o := { dst := some 49, op := Go.Op.call { callee := Go.Callee.value (Go.Operand.func 19), args := #[Go.Operand.tmp 44, Go.Operand.tmp 48], argTypes := #[31, 3] }, type := 33, pos := "merge.go:24", after := #[{ on := 0, ground := Go.Ground.data }, { on := 4, ground := Go.Ground.data }], guard := none }) rfl (fun K hK => ?_) (AllReadyH.nil)
      go_simp
      go_at_call 19
      with_reducible refine HSH2.out.mono ?_
      rintro e w5 ⟨⟨af, bf, an, bn, as_, bs, ap, bp⟩, rfl, hO5, hb5⟩
      have HB5 : Hid (Below W2.heap.size W2 w5 ∧ Below ((W2.alloc (.cells #[.string ⟨#[]⟩, .slice none 0 0, .slice none 0 0, .slice none 0 0, .slice none 0 0] 31)).drew).heap.size ((W2.alloc (.cells #[.string ⟨#[]⟩, .slice none 0 0, .slice none 0 0, .slice none 0 0, .slice none 0 0] 31)).drew) w5) := Lib.hid ⟨HWA.out.trans (hb5.mono HWA.out.size), hb5⟩
      have HO5 : Hid (CapO w5 W2.heap.size ⟨af, bf, an, bn, as_, bs, ap, bp⟩ y) := Lib.hid (hO5.mono HWA.out.size)
      clear hO5 hb5
      have t0 : w5.cell? ⟨C, 0, none⟩ = some (.string x.note) := (HB5.out.1.cell (p := ⟨C, 0, none⟩) (by show C < W2.heap.size; omega)).trans s0
      have t1 : w5.cell? ⟨C, 1, none⟩ = some (.slice pf x.faces.length cf) := (HB5.out.1.cell (p := ⟨C, 1, none⟩) (by show C < W2.heap.size; omega)).trans s1
      have t2 : w5.cell? ⟨C, 2, none⟩ = some (.slice pn x.names.length cn) := (HB5.out.1.cell (p := ⟨C, 2, none⟩) (by show C < W2.heap.size; omega)).trans s2
      have t3 : w5.cell? ⟨C, 3, none⟩ = some (.slice ps x.secs.length cs') := (HB5.out.1.cell (p := ⟨C, 3, none⟩) (by show C < W2.heap.size; omega)).trans s3
      have t4 : w5.cell? ⟨C, 4, none⟩ = some (.slice pp x.pkts.length cp) := (HB5.out.1.cell (p := ⟨C, 4, none⟩) (by show C < W2.heap.size; omega)).trans s4
      have t5 : w5.cell? ⟨bd, od + k, none⟩ = some (.int .i64 d) := (HB5.out.1.cell (p := ⟨bd, od + k, none⟩) (by show bd < W2.heap.size; omega)).trans s5
      have HXB : Hid (Blk w5 X2 31 #[.string ⟨#[]⟩, .slice none 0 0, .slice none 0 0, .slice none 0 0, .slice none 0 0]) := Lib.hid (by rw [← hX2]; exact HXA.out.below HB5.out.2 HXA.out.lt)
      have z0 : w5.cell? ⟨X2, 0, none⟩ = some (.string ⟨#[]⟩) := HXB.out.cell 0
      have f0 : w5.frozen? ⟨X2, 0, none⟩ = false := HXB.out.frozen 0
      have z1 : w5.cell? ⟨X2, 1, none⟩ = some (.slice none 0 0) := HXB.out.cell 1
      have f1 : w5.frozen? ⟨X2, 1, none⟩ = false := HXB.out.frozen 1
      have z2 : w5.cell? ⟨X2, 2, none⟩ = some (.slice none 0 0) := HXB.out.cell 2
      have f2 : w5.frozen? ⟨X2, 2, none⟩ = false := HXB.out.frozen 2
      have z3 : w5.cell? ⟨X2, 3, none⟩ = some (.slice none 0 0) := HXB.out.cell 3
      have f3 : w5.frozen? ⟨X2, 3, none⟩ = false := HXB.out.frozen 3
      have z4 : w5.cell? ⟨X2, 4, none⟩ = some (.slice none 0 0) := HXB.out.cell 4
      have f4 : w5.frozen? ⟨X2, 4, none⟩ = false := HXB.out.frozen 4
      have HS5 := Lib.hid (set5 HXB.out (.string y.note) (.slice af y.faces.length bf) (.slice an y.names.length bn) (.slice as_ y.secs.length bs) (.slice ap y.pkts.length bp))
      have g0 : (((((w5.setCell ⟨X2, 0, none⟩ (.string y.note)).setCell ⟨X2, 1, none⟩ (.slice af y.faces.length bf)).setCell ⟨X2, 2, none⟩ (.slice an y.names.length bn)).setCell ⟨X2, 3, none⟩ (.slice as_ y.secs.length bs)).setCell ⟨X2, 4, none⟩ (.slice ap y.pkts.length bp)).cell? ⟨C, 0, none⟩ = some (.string x.note) := ((HS5.out.2.2 X2 _ (Below.refl _ _) (Nat.le_refl _)).cell (p := ⟨C, 0, none⟩) (by show C < X2; omega)).trans t0
      have g1 : (((((w5.setCell ⟨X2, 0, none⟩ (.string y.note)).setCell ⟨X2, 1, none⟩ (.slice af y.faces.length bf)).setCell ⟨X2, 2, none⟩ (.slice an y.names.length bn)).setCell ⟨X2, 3, none⟩ (.slice as_ y.secs.length bs)).setCell ⟨X2, 4, none⟩ (.slice ap y.pkts.length bp)).cell? ⟨C, 1, none⟩ = some (.slice pf x.faces.length cf) := ((HS5.out.2.2 X2 _ (Below.refl _ _) (Nat.le_refl _)).cell (p := ⟨C, 1, none⟩) (by show C < X2; omega)).trans t1
      have g2 : (((((w5.setCell ⟨X2, 0, none⟩ (.string y.note)).setCell ⟨X2, 1, none⟩ (.slice af y.faces.length bf)).setCell ⟨X2, 2, none⟩ (.slice an y.names.length bn)).setCell ⟨X2, 3, none⟩ (.slice as_ y.secs.length bs)).setCell ⟨X2, 4, none⟩ (.slice ap y.pkts.length bp)).cell? ⟨C, 2, none⟩ = some (.slice pn x.names.length cn) := ((HS5.out.2.2 X2 _ (Below.refl _ _) (Nat.le_refl _)).cell (p := ⟨C, 2, none⟩) (by show C < X2; omega)).trans t2
      have g3 : (((((w5.setCell ⟨X2, 0, none⟩ (.string y.note)).setCell ⟨X2, 1, none⟩ (.slice af y.faces.length bf)).setCell ⟨X2, 2, none⟩ (.slice an y.names.length bn)).setCell ⟨X2, 3, none⟩ (.slice as_ y.secs.length bs)).setCell ⟨X2, 4, none⟩ (.slice ap y.pkts.length bp)).cell? ⟨C, 3, none⟩ = some (.slice ps x.secs.length cs') := ((HS5.out.2.2 X2 _ (Below.refl _ _) (Nat.le_refl _)).cell (p := ⟨C, 3, none⟩) (by show C < X2; omega)).trans t3
      have g4 : (((((w5.setCell ⟨X2, 0, none⟩ (.string y.note)).setCell ⟨X2, 1, none⟩ (.slice af y.faces.length bf)).setCell ⟨X2, 2, none⟩ (.slice an y.names.length bn)).setCell ⟨X2, 3, none⟩ (.slice as_ y.secs.length bs)).setCell ⟨X2, 4, none⟩ (.slice ap y.pkts.length bp)).cell? ⟨C, 4, none⟩ = some (.slice pp x.pkts.length cp) := ((HS5.out.2.2 X2 _ (Below.refl _ _) (Nat.le_refl _)).cell (p := ⟨C, 4, none⟩) (by show C < X2; omega)).trans t4
      have g5 : (((((w5.setCell ⟨X2, 0, none⟩ (.string y.note)).setCell ⟨X2, 1, none⟩ (.slice af y.faces.length bf)).setCell ⟨X2, 2, none⟩ (.slice an y.names.length bn)).setCell ⟨X2, 3, none⟩ (.slice as_ y.secs.length bs)).setCell ⟨X2, 4, none⟩ (.slice ap y.pkts.length bp)).cell? ⟨bd, od + k, none⟩ = some (.int .i64 d) := ((HS5.out.2.2 X2 _ (Below.refl _ _) (Nat.le_refl _)).cell (p := ⟨bd, od + k, none⟩) (by show bd < X2; omega)).trans t5
      dsimp only
      refine hK.out _ _ ⟨t0, t1, t2, t3, t4, t5⟩ (fun hHeld => ?_)
      clear hK K
      try simp only [Act.put, List.setIfInBounds_toArray, List.set_cons_zero, List.set_cons_succ]
      refine wpAnyH_take (i := 6) (oi := { dst := some 43, op := Go.Op.move (Go.Operand.tmp 49), type := 33, pos := "merge.go:24", after := #[{ on := 5, ground := Go.Ground.data }], guard := none }) (v := ?_) rfl (by kernel_rfl) (by kernel_rfl) (by kernel_rfl) (fun _ _ _ h => h) (Or.inl ⟨by rfl, ?_⟩) (by assumption) ?_
      rotate_left 1
      · intro w hSw; (try dsimp only at hSw); go_simp; try with_reducible rfl
      try simp only [Act.put, List.setIfInBounds_toArray, List.set_cons_zero, List.set_cons_succ]
      refine wpAnyH_take (i := 7) (oi := { dst := some 50, op := Go.Op.extract (Go.Operand.tmp 43) 0, type := 31, pos := "merge.go:24", after := #[{ on := 6, ground := Go.Ground.data }], guard := none }) (v := ?_) rfl (by kernel_rfl) (by kernel_rfl) (by kernel_rfl) (fun _ _ _ h => h) (Or.inl ⟨by rfl, ?_⟩) (by assumption) ?_
      rotate_left 1
      · intro w hSw; (try dsimp only at hSw); go_simp; try with_reducible rfl
      try simp only [Act.put, List.setIfInBounds_toArray, List.set_cons_zero, List.set_cons_succ]
      refine wpAnyH_take (i := 8) (oi := { dst := some 51, op := Go.Op.extract (Go.Operand.tmp 43) 1, type := 32, pos := "merge.go:24", after := #[{ on := 6, ground := Go.Ground.data }, { on := 10, ground := Go.Ground.gcOnly Go.Departure.lateStores }], guard := none }) (v := ?_) rfl (by kernel_rfl) (by kernel_rfl) (by kernel_rfl) (fun _ _ _ h => h) (Or.inl ⟨by rfl, ?_⟩) (by assumption) ?_
      rotate_left 1
      · intro w hSw; (try dsimp only at hSw); go_simp; try with_reducible rfl
      try simp only [Act.put, List.setIfInBounds_toArray, List.set_cons_zero, List.set_cons_succ]
      refine wpAnyH_ready (rs := [10]) (by kernel_rfl) (by simp) ?_
      refine AllReadyH.cons (o := { dst := none, op := Go.Op.store 31 (Go.Operand.tmp 10) (Go.Operand.tmp 50), type := 0, pos := "merge.go:24", after := #[{ on := 9, ground := Go.Ground.data }, { on := 7, ground := Go.Ground.data }, { on := 5, ground := Go.Ground.chain }, { on := 0, ground := Go.Ground.phase }, { on := 1, ground := Go.Ground.phase }, { on := 2, ground := Go.Ground.phase }, { on := 3, ground := Go.Ground.phase }, { on := 4, ground := Go.Ground.phase }, { on := 5, ground := Go.Ground.phase }, { on := 6, ground := Go.Ground.phase }, { on := 7, ground := Go.Ground.phase }, { on := 8, ground := Go.Ground.textOnly Go.Departure.lateStores }, { on := 9, ground := Go.Ground.phase }], guard := none }) rfl (fun K hK => ?_) (AllReadyH.nil)
      go_simp
      refine hK.out _ _ ⟨g0, g1, g2, g3, g4, g5⟩ (fun hHeld => ?_)
      clear hK K
      try simp only [Act.put, List.setIfInBounds_toArray, List.set_cons_zero, List.set_cons_succ]
      refine wpAnyH_take (i := 11) (oi := { dst := some 11, op := Go.Op.assign (Go.Operand.tmp 51), type := 32, pos := "merge.go:24", after := #[{ on := 8, ground := Go.Ground.data }, { on := 10, ground := Go.Ground.chain }, { on := 0, ground := Go.Ground.phase }, { on := 1, ground := Go.Ground.phase }, { on := 2, ground := Go.Ground.phase }, { on := 3, ground := Go.Ground.phase }, { on := 4, ground := Go.Ground.phase }, { on := 5, ground := Go.Ground.phase }, { on := 6, ground := Go.Ground.phase }, { on := 7, ground := Go.Ground.phase }, { on := 8, ground := Go.Ground.phase }, { on := 9, ground := Go.Ground.phase }, { on := 10, ground := Go.Ground.phase }], guard := none }) (v := ?_) rfl (by kernel_rfl) (by kernel_rfl) (by kernel_rfl) (fun _ _ _ h => h) (Or.inl ⟨by rfl, ?_⟩) (by assumption) ?_
      rotate_left 1
      · intro w hSw; (try dsimp only at hSw); go_simp; try with_reducible rfl
      try simp only [Act.put, List.setIfInBounds_toArray, List.set_cons_zero, List.set_cons_succ]
      refine wpAnyH_done (by kernel_rfl) ?_ _
      · have HX8 : Hid (Blk (((((w5.setCell ⟨X2, 0, none⟩ (.string y.note)).setCell ⟨X2, 1, none⟩ (.slice af y.faces.length bf)).setCell ⟨X2, 2, none⟩ (.slice an y.names.length bn)).setCell ⟨X2, 3, none⟩ (.slice as_ y.secs.length bs)).setCell ⟨X2, 4, none⟩ (.slice ap y.pkts.length bp)) X2 31 #[.string y.note, .slice af y.faces.length bf, .slice an y.names.length bn, .slice as_ y.secs.length bs, .slice ap y.pkts.length bp]) := Lib.hid HS5.out.1
        have HB8 : Hid (Below W2.heap.size W2 (((((w5.setCell ⟨X2, 0, none⟩ (.string y.note)).setCell ⟨X2, 1, none⟩ (.slice af y.faces.length bf)).setCell ⟨X2, 2, none⟩ (.slice an y.names.length bn)).setCell ⟨X2, 3, none⟩ (.slice as_ y.secs.length bs)).setCell ⟨X2, 4, none⟩ (.slice ap y.pkts.length bp))) := Lib.hid (HS5.out.2.2 _ _ HB5.out.1 (by omega))
        have HO8 : Hid (CapO (((((w5.setCell ⟨X2, 0, none⟩ (.string y.note)).setCell ⟨X2, 1, none⟩ (.slice af y.faces.length bf)).setCell ⟨X2, 2, none⟩ (.slice an y.names.length bn)).setCell ⟨X2, 3, none⟩ (.slice as_ y.secs.length bs)).setCell ⟨X2, 4, none⟩ (.slice ap y.pkts.length bp)) W2.heap.size ⟨af, bf, an, bn, as_, bs, ap, bp⟩ y) := Lib.hid (HO5.out.alike HS5.out.2.1 (by decide))
        have hw5 : W2.heap.size ≤ X2 := by omega
        clear HO5 HB5 t0 t1 t2 t3 t4 t5 g0 g1 g2 g3 g4 g5 s0 s1 s2 s3 s4 s5 a0 a1 a2 a3 a4 a5 x0 x1 x2 x3 x4 d1 hHeld HS5 HXB
        clear z0 z1 z2 z3 z4 f0 f1 f2 f3 f4
        generalize (((((w5.setCell ⟨X2, 0, none⟩ (.string y.note)).setCell ⟨X2, 1, none⟩ (.slice af y.faces.length bf)).setCell ⟨X2, 2, none⟩ (.slice an y.names.length bn)).setCell ⟨X2, 3, none⟩ (.slice as_ y.secs.length bs)).setCell ⟨X2, 4, none⟩ (.slice ap y.pkts.length bp)) = W8 at HX8 HB8 HO8 ⊢
        clear hX2 HWA HXA HSH2
        generalize X2 = X at HX8 hw5 ⊢
        have HC8 : Hid (∀ i (h : i < (movL l ds).length), i < k → CapO W8 B (q i) (movL l ds)[i]) := Lib.hid (fun i h hik => (HC2.out i h hik).below HB8.out)
        have HZ8 : Hid (Blk W8 B 31 #[.string ⟨#[]⟩, .slice none 0 0, .slice none 0 0, .slice none 0 0, .slice none 0 0] ∧ Below B w W8) := Lib.hid ⟨HZ2.out.1.below HB8.out HZ2.out.1.lt, HZ2.out.2.trans (HB8.out.mono (by omega))⟩
        have hM8 : Blk W8 Mv 31 cs := HR2.out.below HB8.out HR2.out.lt
        have x0 : W8.cell? ⟨X, 0, none⟩ = some (.string y.note) := HX8.out.cell 0
        have x1 : W8.cell? ⟨X, 1, none⟩ = some (.slice af y.faces.length bf) := HX8.out.cell 1
        have x2 : W8.cell? ⟨X, 2, none⟩ = some (.slice an y.names.length bn) := HX8.out.cell 2
        have x3 : W8.cell? ⟨X, 3, none⟩ = some (.slice as_ y.secs.length bs) := HX8.out.cell 3
        have x4 : W8.cell? ⟨X, 4, none⟩ = some (.slice ap y.pkts.length bp) := HX8.out.cell 4
        have hsz : k * 5 + 5 ≤ cs.size := by rw [HCS.out.1]; omega
        obtain ⟨m0, hm0⟩ : ∃ u, W8.cell? ⟨Mv, k * 5, none⟩ = some u := ⟨_, by rw [hM8.cell, Array.getElem?_eq_getElem (by omega)]⟩
        obtain ⟨m1, hm1⟩ : ∃ u, W8.cell? ⟨Mv, k * 5 + 1, none⟩ = some u := ⟨_, by rw [hM8.cell, Array.getElem?_eq_getElem (by omega)]⟩
        obtain ⟨m2, hm2⟩ : ∃ u, W8.cell? ⟨Mv, k * 5 + 2, none⟩ = some u := ⟨_, by rw [hM8.cell, Array.getElem?_eq_getElem (by omega)]⟩
        obtain ⟨m3, hm3⟩ : ∃ u, W8.cell? ⟨Mv, k * 5 + 3, none⟩ = some u := ⟨_, by rw [hM8.cell, Array.getElem?_eq_getElem (by omega)]⟩
        obtain ⟨m4, hm4⟩ : ∃ u, W8.cell? ⟨Mv, k * 5 + 4, none⟩ = some u := ⟨_, by rw [hM8.cell, Array.getElem?_eq_getElem (by omega)]⟩
        have fm0 := hM8.frozen (k * 5)
        have fm1 := hM8.frozen (k * 5 + 1)
        have fm2 := hM8.frozen (k * 5 + 2)
        have fm3 := hM8.frozen (k * 5 + 3)
        have fm4 := hM8.frozen (k * 5 + 4)
        have HR5 := Lib.hid (row5 (a := k * 5) hM8 hsz (.string y.note) (.slice af y.faces.length bf) (.slice an y.names.length bn) (.slice as_ y.secs.length bs) (.slice ap y.pkts.length bp))
        have HR9 : Hid (∃ cs2, Blk (((((W8.setCell ⟨Mv, k * 5, none⟩ (.string y.note)).setCell ⟨Mv, k * 5 + 1, none⟩ (.slice af y.faces.length bf)).setCell ⟨Mv, k * 5 + 2, none⟩ (.slice an y.names.length bn)).setCell ⟨Mv, k * 5 + 3, none⟩ (.slice as_ y.secs.length bs)).setCell ⟨Mv, k * 5 + 4, none⟩ (.slice ap y.pkts.length bp)) Mv 31 cs2 ∧ cs2.size = n * 5 ∧ ∀ i (h : i < (movL l ds).length), i < k + 1 → ∀ j v, (capL (upd q k ⟨af, bf, an, bn, as_, bs, ap, bp⟩ i) (movL l ds)[i])[j]? = some v → cs2[i * 5 + j]? = some v) := Lib.hid (by
          obtain ⟨cs2, g1, g2, g3, g4, _, _⟩ := HR5.out
          refine ⟨cs2, g1, by rw [g2, HCS.out.1], fun i h hik j v hj => ?_⟩
          by_cases e : i = k
          · subst e
            rw [upd_same] at hj
            have e2 : (movL l ds)[i] = y := HAT.out
            rw [e2] at hj
            exact g3 j v hj
          · rw [upd_other e] at hj
            have hj5 : j < 5 := by
              rcases Nat.lt_or_ge j 5 with h | h
              · exact h
              · rw [List.getElem?_eq_none (by simpa using h)] at hj; cases hj
            rw [g4 (i * 5 + j) (by omega)]
            exact HCS.out.2 i h (by omega) j v hj)
        have ha9 : AlikeT 31 W8 (((((W8.setCell ⟨Mv, k * 5, none⟩ (.string y.note)).setCell ⟨Mv, k * 5 + 1, none⟩ (.slice af y.faces.length bf)).setCell ⟨Mv, k * 5 + 2, none⟩ (.slice an y.names.length bn)).setCell ⟨Mv, k * 5 + 3, none⟩ (.slice as_ y.secs.length bs)).setCell ⟨Mv, k * 5 + 4, none⟩ (.slice ap y.pkts.length bp)) := by obtain ⟨cs2, _, _, _, _, g5, _⟩ := HR5.out; exact g5
        have HC9 : Hid (∀ i (h : i < (movL l ds).length), i < k + 1 → CapO (((((W8.setCell ⟨Mv, k * 5, none⟩ (.string y.note)).setCell ⟨Mv, k * 5 + 1, none⟩ (.slice af y.faces.length bf)).setCell ⟨Mv, k * 5 + 2, none⟩ (.slice an y.names.length bn)).setCell ⟨Mv, k * 5 + 3, none⟩ (.slice as_ y.secs.length bs)).setCell ⟨Mv, k * 5 + 4, none⟩ (.slice ap y.pkts.length bp)) B (upd q k ⟨af, bf, an, bn, as_, bs, ap, bp⟩ i) (movL l ds)[i]) := Lib.hid (fun i h hik => by
          by_cases e : i = k
          · subst e
            rw [upd_same]
            have e2 : (movL l ds)[i] = y := HAT.out
            rw [e2]
            exact (HO8.out.mono (by omega)).alike ha9 (by decide)
          · rw [upd_other e]
            exact (HC8.out i h (by omega)).alike ha9 (by decide))
        have HA9 : Hid (Apart (k + 1) (upd q k ⟨af, bf, an, bn, as_, bs, ap, bp⟩)) := Lib.hid (fun i j hi hj hij kk o1 r1 h1 o2 r2 h2 => by
          by_cases e1 : i = k
          · subst e1
            rw [upd_same] at h1
            rw [upd_other (fun e => hij e.symm)] at h2
            have g1 : W2.heap.size ≤ kk := (capO_pp HO8.out h1).1
            have g2 : kk < W2.heap.size := (capO_pp (HC2.out j (by omega) (by omega)) h2).2
            omega
          · rw [upd_other e1] at h1
            by_cases e2 : j = k
            · subst e2
              rw [upd_same] at h2
              have g1 : W2.heap.size ≤ kk := (capO_pp HO8.out h2).1
              have g2 : kk < W2.heap.size := (capO_pp (HC2.out i (by omega) (by omega)) h1).2
              omega
            · rw [upd_other e2] at h2
              exact HA.out i j (by omega) (by omega) hij kk o1 r1 h1 o2 r2 h2)
        have HZ9 : Hid (Blk (((((W8.setCell ⟨Mv, k * 5, none⟩ (.string y.note)).setCell ⟨Mv, k * 5 + 1, none⟩ (.slice af y.faces.length bf)).setCell ⟨Mv, k * 5 + 2, none⟩ (.slice an y.names.length bn)).setCell ⟨Mv, k * 5 + 3, none⟩ (.slice as_ y.secs.length bs)).setCell ⟨Mv, k * 5 + 4, none⟩ (.slice ap y.pkts.length bp)) B 31 #[.string ⟨#[]⟩, .slice none 0 0, .slice none 0 0, .slice none 0 0, .slice none 0 0] ∧ Below B w (((((W8.setCell ⟨Mv, k * 5, none⟩ (.string y.note)).setCell ⟨Mv, k * 5 + 1, none⟩ (.slice af y.faces.length bf)).setCell ⟨Mv, k * 5 + 2, none⟩ (.slice an y.names.length bn)).setCell ⟨Mv, k * 5 + 3, none⟩ (.slice as_ y.secs.length bs)).setCell ⟨Mv, k * 5 + 4, none⟩ (.slice ap y.pkts.length bp))) := Lib.hid (by
          obtain ⟨cs2, _, _, _, _, _, g6⟩ := HR5.out
          exact ⟨HZ8.out.1.below (g6 Mv W8 (Below.refl _ _) (Nat.le_refl _)) hBM, g6 B w HZ8.out.2 (Nat.le_of_lt hBM)⟩)
        clear ha9 hM8 HR5 HC8 HZ8
        go_wp2
        obtain ⟨cs2, hcs2⟩ := HR9.out
        go_roundw
        case rel => exact ⟨k + 1, cs2, upd q k ⟨af, bf, an, bn, as_, bs, ap, bp⟩, by go_num, by omega, Lib.hid hcs2, HC9, HA9, HZ9⟩
        case measure => simp [intOf]; omega
      · have HX8 : Hid (Blk (w5.alloc (.cells #[.string y.note, .slice af y.faces.length bf, .slice an y.names.length bn, .slice as_ y.secs.length bs, .slice ap y.pkts.length bp] 31)) w5.heap.size 31 #[.string y.note, .slice af y.faces.length bf, .slice an y.names.length bn, .slice as_ y.secs.length bs, .slice ap y.pkts.length bp]) := Lib.hid (Blk.new _ _ _)
        have HB8 : Hid (Below W2.heap.size W2 (w5.alloc (.cells #[.string y.note, .slice af y.faces.length bf, .slice an y.names.length bn, .slice as_ y.secs.length bs, .slice ap y.pkts.length bp] 31))) := Lib.hid (HB5.out.alloc hw5 _)
        have HO8 : Hid (CapO (w5.alloc (.cells #[.string y.note, .slice af y.faces.length bf, .slice an y.names.length bn, .slice as_ y.secs.length bs, .slice ap y.pkts.length bp] 31)) W2.heap.size ⟨af, bf, an, bn, as_, bs, ap, bp⟩ y) := Lib.hid (HO5.out.below (HBB.out _))
        clear HO5 HB5 HBB t0 t1 t2 t3 t4 t5 u0 u1 u2 u3 u4 u5 g0 g1 g2 g3 g4 g5 s0 s1 s2 s3 s4 s5 a0 a1 a2 a3 a4 a5 x0 x1 x2 x3 x4 d1 hHeld
        generalize (w5.alloc (.cells #[.string y.note, .slice af y.faces.length bf, .slice an y.names.length bn, .slice as_ y.secs.length bs, .slice ap y.pkts.length bp] 31)) = W8 at HX8 HB8 HO8 ⊢
        generalize w5.heap.size = X at HX8 hw5 ⊢
        have HC8 : Hid (∀ i (h : i < (movL l ds).length), i < k → CapO W8 B (q i) (movL l ds)[i]) := Lib.hid (fun i h hik => (HC2.out i h hik).below HB8.out)
        have HZ8 : Hid (Blk W8 B 31 #[.string ⟨#[]⟩, .slice none 0 0, .slice none 0 0, .slice none 0 0, .slice none 0 0] ∧ Below B w W8) := Lib.hid ⟨HZ2.out.1.below HB8.out HZ2.out.1.lt, HZ2.out.2.trans (HB8.out.mono (by omega))⟩
        have hM8 : Blk W8 Mv 31 cs := HR2.out.below HB8.out HR2.out.lt
        have x0 : W8.cell? ⟨X, 0, none⟩ = some (.string y.note) := HX8.out.cell 0
        have x1 : W8.cell? ⟨X, 1, none⟩ = some (.slice af y.faces.length bf) := HX8.out.cell 1
        have x2 : W8.cell? ⟨X, 2, none⟩ = some (.slice an y.names.length bn) := HX8.out.cell 2
        have x3 : W8.cell? ⟨X, 3, none⟩ = some (.slice as_ y.secs.length bs) := HX8.out.cell 3
        have x4 : W8.cell? ⟨X, 4, none⟩ = some (.slice ap y.pkts.length bp) := HX8.out.cell 4
        have hsz : k * 5 + 5 ≤ cs.size := by rw [HCS.out.1]; omega
        obtain ⟨m0, hm0⟩ : ∃ u, W8.cell? ⟨Mv, k * 5, none⟩ = some u := ⟨_, by rw [hM8.cell, Array.getElem?_eq_getElem (by omega)]⟩
        obtain ⟨m1, hm1⟩ : ∃ u, W8.cell? ⟨Mv, k * 5 + 1, none⟩ = some u := ⟨_, by rw [hM8.cell, Array.getElem?_eq_getElem (by omega)]⟩
        obtain ⟨m2, hm2⟩ : ∃ u, W8.cell? ⟨Mv, k * 5 + 2, none⟩ = some u := ⟨_, by rw [hM8.cell, Array.getElem?_eq_getElem (by omega)]⟩
        obtain ⟨m3, hm3⟩ : ∃ u, W8.cell? ⟨Mv, k * 5 + 3, none⟩ = some u := ⟨_, by rw [hM8.cell, Array.getElem?_eq_getElem (by omega)]⟩
        obtain ⟨m4, hm4⟩ : ∃ u, W8.cell? ⟨Mv, k * 5 + 4, none⟩ = some u := ⟨_, by rw [hM8.cell, Array.getElem?_eq_getElem (by omega)]⟩
        have fm0 := hM8.frozen (k * 5)
        have fm1 := hM8.frozen (k * 5 + 1)
        have fm2 := hM8.frozen (k * 5 + 2)
        have fm3 := hM8.frozen (k * 5 + 3)
        have fm4 := hM8.frozen (k * 5 + 4)
        have HR5 := Lib.hid (row5 (a := k * 5) hM8 hsz (.string y.note) (.slice af y.faces.length bf) (.slice an y.names.length bn) (.slice as_ y.secs.length bs) (.slice ap y.pkts.length bp))
        have HR9 : Hid (∃ cs2, Blk (((((W8.setCell ⟨Mv, k * 5, none⟩ (.string y.note)).setCell ⟨Mv, k * 5 + 1, none⟩ (.slice af y.faces.length bf)).setCell ⟨Mv, k * 5 + 2, none⟩ (.slice an y.names.length bn)).setCell ⟨Mv, k * 5 + 3, none⟩ (.slice as_ y.secs.length bs)).setCell ⟨Mv, k * 5 + 4, none⟩ (.slice ap y.pkts.length bp)) Mv 31 cs2 ∧ cs2.size = n * 5 ∧ ∀ i (h : i < (movL l ds).length), i < k + 1 → ∀ j v, (capL (upd q k ⟨af, bf, an, bn, as_, bs, ap, bp⟩ i) (movL l ds)[i])[j]? = some v → cs2[i * 5 + j]? = some v) := Lib.hid (by
          obtain ⟨cs2, g1, g2, g3, g4, _, _⟩ := HR5.out
          refine ⟨cs2, g1, by rw [g2, HCS.out.1], fun i h hik j v hj => ?_⟩
          by_cases e : i = k
          · subst e
            rw [upd_same] at hj
            have e2 : (movL l ds)[i] = y := HAT.out
            rw [e2] at hj
            exact g3 j v hj
          · rw [upd_other e] at hj
            have hj5 : j < 5 := by
              rcases Nat.lt_or_ge j 5 with h | h
              · exact h
              · rw [List.getElem?_eq_none (by simpa using h)] at hj; cases hj
            rw [g4 (i * 5 + j) (by omega)]
            exact HCS.out.2 i h (by omega) j v hj)
        have ha9 : AlikeT 31 W8 (((((W8.setCell ⟨Mv, k * 5, none⟩ (.string y.note)).setCell ⟨Mv, k * 5 + 1, none⟩ (.slice af y.faces.length bf)).setCell ⟨Mv, k * 5 + 2, none⟩ (.slice an y.names.length bn)).setCell ⟨Mv, k * 5 + 3, none⟩ (.slice as_ y.secs.length bs)).setCell ⟨Mv, k * 5 + 4, none⟩ (.slice ap y.pkts.length bp)) := by obtain ⟨cs2, _, _, _, _, g5, _⟩ := HR5.out; exact g5
        have HC9 : Hid (∀ i (h : i < (movL l ds).length), i < k + 1 → CapO (((((W8.setCell ⟨Mv, k * 5, none⟩ (.string y.note)).setCell ⟨Mv, k * 5 + 1, none⟩ (.slice af y.faces.length bf)).setCell ⟨Mv, k * 5 + 2, none⟩ (.slice an y.names.length bn)).setCell ⟨Mv, k * 5 + 3, none⟩ (.slice as_ y.secs.length bs)).setCell ⟨Mv, k * 5 + 4, none⟩ (.slice ap y.pkts.length bp)) B (upd q k ⟨af, bf, an, bn, as_, bs, ap, bp⟩ i) (movL l ds)[i]) := Lib.hid (fun i h hik => by
          by_cases e : i = k
          · subst e
            rw [upd_same]
            have e2 : (movL l ds)[i] = y := HAT.out
            rw [e2]
            exact (HO8.out.mono (by omega)).alike ha9 (by decide)
          · rw [upd_other e]
            exact (HC8.out i h (by omega)).alike ha9 (by decide))
        have HA9 : Hid (Apart (k + 1) (upd q k ⟨af, bf, an, bn, as_, bs, ap, bp⟩)) := Lib.hid (fun i j hi hj hij kk o1 r1 h1 o2 r2 h2 => by
          by_cases e1 : i = k
          · subst e1
            rw [upd_same] at h1
            rw [upd_other (fun e => hij e.symm)] at h2
            have g1 : W2.heap.size ≤ kk := (capO_pp HO8.out h1).1
            have g2 : kk < W2.heap.size := (capO_pp (HC2.out j (by omega) (by omega)) h2).2
            omega
          · rw [upd_other e1] at h1
            by_cases e2 : j = k
            · subst e2
              rw [upd_same] at h2
              have g1 : W2.heap.size ≤ kk := (capO_pp HO8.out h2).1
              have g2 : kk < W2.heap.size := (capO_pp (HC2.out i (by omega) (by omega)) h1).2
              omega
            · rw [upd_other e2] at h2
              exact HA.out i j (by omega) (by omega) hij kk o1 r1 h1 o2 r2 h2)
        have HZ9 : Hid (Blk (((((W8.setCell ⟨Mv, k * 5, none⟩ (.string y.note)).setCell ⟨Mv, k * 5 + 1, none⟩ (.slice af y.faces.length bf)).setCell ⟨Mv, k * 5 + 2, none⟩ (.slice an y.names.length bn)).setCell ⟨Mv, k * 5 + 3, none⟩ (.slice as_ y.secs.length bs)).setCell ⟨Mv, k * 5 + 4, none⟩ (.slice ap y.pkts.length bp)) B 31 #[.string ⟨#[]⟩, .slice none 0 0, .slice none 0 0, .slice none 0 0, .slice none 0 0] ∧ Below B w (((((W8.setCell ⟨Mv, k * 5, none⟩ (.string y.note)).setCell ⟨Mv, k * 5 + 1, none⟩ (.slice af y.faces.length bf)).setCell ⟨Mv, k * 5 + 2, none⟩ (.slice an y.names.length bn)).setCell ⟨Mv, k * 5 + 3, none⟩ (.slice as_ y.secs.length bs)).setCell ⟨Mv, k * 5 + 4, none⟩ (.slice ap y.pkts.length bp))) := Lib.hid (by
          obtain ⟨cs2, _, _, _, _, _, g6⟩ := HR5.out
          exact ⟨HZ8.out.1.below (g6 Mv W8 (Below.refl _ _) (Nat.le_refl _)) hBM, g6 B w HZ8.out.2 (Nat.le_of_lt hBM)⟩)
        clear ha9 hM8 HR5 HC8 HZ8
        go_wp2
        obtain ⟨cs2, hcs2⟩ := HR9.out
        go_roundw
        case rel => exact ⟨k + 1, cs2, upd q k ⟨af, bf, an, bn, as_, bs, ap, bp⟩, by go_num, by omega, Lib.hid hcs2, HC9, HA9, HZ9⟩
        case measure => simp [intOf]; omega
    · have hkn : k = n := by omega
      subst hkn
      have HROW : Hid (∀ i (h : i < (movL l ds).length) j v, (capL (q i) (movL l ds)[i])[j]? = some v → cs[i * 5 + j]? = some v) := Lib.hid (fun i h j v hj => HR.out.2.2 i h (by rw [HLN.out] at h; exact h) j v hj)
      have HMA : Hid (Calls Try.prog 50 #[.slice (some ⟨Mv, 0, none⟩) k k] wr fun e w' => e = .returned (.bool false) ∧ Below wr.heap.size wr w') := Lib.hid (by
        have h := many_any (c := k) HR.out.1 HROW.out (by rw [HLN.out]; omega) (fun x hx => errV_plen (HL.out x hx).1)
        rw [HLN.out, decide_eq_false (by have := HSUM.out; omega)] at h
        exact h)
      go_wp2_with fail
      with_reducible refine HMA.out.mono ?_
      rintro e v2 ⟨rfl, hb2⟩
      have HM2 : Hid (Blk v2 Mv 31 cs) := Lib.hid (HR.out.1.below hb2 HR.out.1.lt)
      have HC2 : Hid (∀ i (h : i < (movL l ds).length), CapO v2 B (q i) (movL l ds)[i]) := Lib.hid (fun i h => (HC.out i h (by rw [HLN.out] at h; exact h)).below hb2)
      have HZ3 : Hid (Blk v2 B 31 #[.string ⟨#[]⟩, .slice none 0 0, .slice none 0 0, .slice none 0 0, .slice none 0 0] ∧ Below B w v2) := Lib.hid ⟨HZ.out.1.below hb2 HZ.out.1.lt, HZ.out.2.trans (hb2.mono (Nat.le_of_lt HZ.out.1.lt))⟩
      clear hb2 HMA HR HC HZ
      have HTG : Hid (Calls Try.prog 51 #[.slice (some ⟨Mv, 0, none⟩) k k] v2 fun e w' => ∃ A cF rows, e = .returned (.tuple #[.agg #[.string (togA (movL l ds) k).note, .slice A (togA (movL l ds) k).faces.length cF, .slice none 0 0, .slice none 0 0, .slice none 0 0], .int .i64 0]) ∧
          OwnL w' v2.heap.size 79 3 FacE (.slice A (togA (movL l ds) k).faces.length cF) (togA (movL l ds) k).faces rows ∧ Below B v2 w' ∧ AlikeT 50 v2 w' ∧ Mov w' B Mv q (movL l ds) (fun i => ((movL l ds)[i]?.map (togP (movL l ds) k i)).getD [])) := Lib.hid (by
        have h := tog_any (w := v2) (b := B) (g := Mv) (c := k) (q := q) (l := movL l ds) ⟨⟨cs, HM2.out, HROW.out⟩, fun i h => by
            obtain ⟨w0, rows, hp⟩ := (HC2.out i h).pkts
            refine ⟨w0, rows, ?_⟩
            have e : ((movL l ds)[i]?.map Cap.pkts).getD [] = (movL l ds)[i].pkts := by simp [h]
            rw [e]
            exact hp⟩ (fun i h => ⟨HC2.out i h, HL.out _ (List.getElem_mem h)⟩) (by rw [HLN.out]; exact HA.out) HTOG.out (Nat.le_of_lt HZ3.out.1.lt) (by rw [HLN.out]; omega) (by rw [HLN.out]; omega)
        rw [HLN.out] at h
        exact h)
      go_wp2_with fail
      with_reducible refine HTG.out.mono ?_
      rintro e v3 ⟨AF, cF, frows, rfl, hof, hb3, ha3, hm3⟩
      have HMV := Lib.hid hm3
      have HZ4 : Hid (Blk v3 B 31 #[.string ⟨#[]⟩, .slice none 0 0, .slice none 0 0, .slice none 0 0, .slice none 0 0] ∧ Below B w v3) := Lib.hid ⟨ha3.2 _ _ _ (by decide) HZ3.out.1, HZ3.out.2.trans hb3⟩
      have hv23 : v2.heap.size ≤ v3.heap.size := ha3.1
      clear hof hb3 ha3 hm3 HTG HZ3 HC2 HM2 HROW
      obtain ⟨note, hnote⟩ : ∃ s, (togA (movL l ds) k).note = s := ⟨_, rfl⟩
      obtain ⟨fl, hfl⟩ : ∃ s, (togA (movL l ds) k).faces.length = s := ⟨_, rfl⟩
      have HNF := Lib.hid (And.intro hnote hfl)
      rw [hnote, hfl]
      clear hnote hfl
      obtain ⟨O, hO⟩ : ∃ O, v3.heap.size = O := ⟨_, rfl⟩
      go_wp2_with fail
      generalize hW3 : v3.alloc (.cells #[.string note, .slice AF fl cF, .slice none 0 0, .slice none 0 0, .slice none 0 0] 31) = W3
      have hBO : B < O := by rw [← hO]; exact HZ4.out.1.lt
      have hb3 : Below v3.heap.size v3 W3 := by rw [← hW3]; exact (Below.refl _ _).alloc (Nat.le_refl _) _
      have HO3 : Hid (Blk W3 O 31 #[.string note, .slice AF fl cF, .slice none 0 0, .slice none 0 0, .slice none 0 0]) := Lib.hid (by rw [← hW3, ← hO]; exact Blk.new _ _ _)
      have HZ5 : Hid (Blk W3 B 31 #[.string ⟨#[]⟩, .slice none 0 0, .slice none 0 0, .slice none 0 0, .slice none 0 0] ∧ Below B w W3) := Lib.hid ⟨HZ4.out.1.below hb3 HZ4.out.1.lt, HZ4.out.2.trans (hb3.mono (Nat.le_of_lt HZ4.out.1.lt))⟩
      have HTU : Hid (Calls Try.prog 52 #[.slice (some ⟨Mv, 0, none⟩) k k] W3 fun e w' => ∃ Q M, e = .returned (.func (.func 101) #[] #[.pointer (some ⟨Q, 0, none⟩)]) ∧ Blk w' Q 75 #[.slice (some ⟨M, 0, none⟩) k k] ∧ W3.heap.size ≤ M ∧ M ≠ Q ∧ W3.heap.size ≤ Q ∧ Qs w' O M (quL l ds) ∧ Below W3.heap.size W3 w') := Lib.hid (by
        obtain ⟨cs3, hk3, hr3⟩ := HMV.out.row
        have h := turn_any (w := W3) (g := Mv) (c := k) (q := q) (l := movL l ds) (P := fun i => ((movL l ds)[i]?.map (togP (movL l ds) k i)).getD []) (hk3.below hb3 hk3.lt) hr3 (by rw [HLN.out]; omega) (fun i h => by
          obtain ⟨w0, rows, hp⟩ := HMV.out.each i h
          have hp3 := hp.below hb3
          have e : (((movL l ds)[i]?.map (togP (movL l ds) k i)).getD []).length = (movL l ds)[i].pkts.length := by simp [h, togP_len]
          exact ⟨e, (own_bounds hp3.own).1, errV_plen (HL.out _ (List.getElem_mem h)).1, (by have h9 := hp; rw [← e] at h9; have h10 := h9.els pktR rfl; rw [hO] at h10; rw [hO] at hb3; exact h10.keep pktK hb3 (Nat.le_refl _))⟩) (by rw [hO] at hb3; exact Nat.le_of_lt HO3.out.lt)
        rw [HLN.out] at h
        have e : quL l ds = (List.range k).map (fun i => ((movL l ds)[i]?.map (togP (movL l ds) k i)).getD []) := by unfold quL; rw [HN.out]
        rw [e]
        exact h)
      have hOW : O < W3.heap.size := HO3.out.lt
      clear hb3 HMV HZ4
      clear hW3 hO
      with_reducible refine HTU.out.mono ?_
      rintro e v4 ⟨Q, M, rfl, hq4, hM4, hMQ, hQ4, hs4, hb4⟩
      have HO4 : Hid (Blk v4 O 31 #[.string note, .slice AF fl cF, .slice none 0 0, .slice none 0 0, .slice none 0 0]) := Lib.hid (HO3.out.below hb4 HO3.out.lt)
      have HZ6 : Hid (Blk v4 B 31 #[.string ⟨#[]⟩, .slice none 0 0, .slice none 0 0, .slice none 0 0, .slice none 0 0] ∧ Below B w v4) := Lib.hid ⟨HZ5.out.1.below hb4 HZ5.out.1.lt, HZ5.out.2.trans (hb4.mono (Nat.le_of_lt HZ5.out.1.lt))⟩
      have hBq4 : O ≤ v4.heap.size := Nat.le_of_lt HO4.out.lt
      have HQ4 : Hid (Blk v4 Q 75 #[.slice (some ⟨M, 0, none⟩) k k] ∧ Qs v4 O M (quL l ds)) := Lib.hid ⟨hq4, hs4⟩
      have hrl : (quL l ds).length = k := by unfold quL; simp [HN.out]
      obtain ⟨rs, hrs⟩ : ∃ rs, quL l ds = rs := ⟨_, rfl⟩
      have HRS := Lib.hid hrs
      have HTOT : Hid (tot (quL l ds) ≤ 100000) := Lib.hid (quL_tot HN.out HLN.out (fun x hx => errV_plen (HL.out x hx).1) hn2)
      rw [hrs] at HQ4 hrl HTOT
      obtain ⟨R, hR⟩ : ∃ R, mergeQ (tot rs + 1) rs = R := ⟨_, rfl⟩
      have HRR := Lib.hid hR
      have HNX := Lib.hid (next_any (w := v4) (B := O) (M := M) (Q := Q) (rs := rs) (by rw [hrl]; exact HQ4.out.1) HQ4.out.2 hBq4 (by omega) (by omega))
      have HMQ := Lib.hid hMQ
      have HRL := Lib.hid hrl
      have HBD : Hid (B < O ∧ O < M ∧ O < Q) := Lib.hid ⟨hBO, by omega, by omega⟩
      clear hq4 hs4 hb4 hrs hR hMQ hrl HTU HO3 HZ5 hOW
      go_wp2_with fail
      with_reducible refine HNX.out.mono ?_
      rintro e v5 ⟨ok, p, A2, c2, rs', rfl, hs5, hl5, hb5, hk5, hf5, ht5⟩
      obtain ⟨dl, hdl⟩ : ∃ dl, p.data.length = dl := ⟨_, rfl⟩
      have HDL2 := Lib.hid hdl
      rw [hdl]
      have HO5 : Hid (Blk v5 O 31 #[.string note, .slice AF fl cF, .slice none 0 0, .slice none 0 0, .slice none 0 0] ∧ Blk v5 B 31 #[.string ⟨#[]⟩, .slice none 0 0, .slice none 0 0, .slice none 0 0, .slice none 0 0]) := Lib.hid ⟨hk5 _ _ _ (by have := HBD.out; omega) HO4.out, hk5 _ _ _ (by have := HBD.out; omega) HZ6.out.1⟩
      have HQ5 : Hid (Blk v5 Q 75 #[.slice (some ⟨M, 0, none⟩) k k] ∧ Qs v5 O M rs') := Lib.hid ⟨hk5 _ _ _ (fun e => HMQ.out e.symm) HQ4.out.1, hs5⟩
      have HW5 : Hid (Below O v4 v5 ∧ O ≤ v5.heap.size) := Lib.hid ⟨hb5, Nat.le_trans hBq4 hb5.size⟩
      have HF5 := Lib.hid hf5
      have HT5 := Lib.hid ht5
      have HL5 : Hid (rs'.length = k) := Lib.hid (by rw [hl5, HRL.out])
      clear hdl hs5 hl5 hb5 hk5 hf5 ht5 HNX HO4 HQ4
      obtain ⟨pb, hpb⟩ : ∃ pb, v5.heap.size = pb := ⟨_, rfl⟩
      dsimp only
      go_wp2
      generalize hW6 : v5.alloc (.cells #[.int .i64 p.time, .int .i64 p.face, .int .i64 p.real, .slice A2 dl c2, .string p.note] 50) = W6
      have hb6 : Below v5.heap.size v5 W6 := by rw [← hW6]; exact (Below.refl _ _).alloc (Nat.le_refl _) _
      have HP6 : Hid (Blk W6 pb 50 #[.int .i64 p.time, .int .i64 p.face, .int .i64 p.real, .slice A2 dl c2, .string p.note]) := Lib.hid (by rw [← hW6, ← hpb]; exact Blk.new _ _ _)
      have HO6 : Hid (Blk W6 O 31 #[.string note, .slice AF fl cF, .slice none 0 0, .slice none 0 0, .slice none 0 0] ∧ Blk W6 B 31 #[.string ⟨#[]⟩, .slice none 0 0, .slice none 0 0, .slice none 0 0, .slice none 0 0]) := Lib.hid ⟨HO5.out.1.below hb6 HO5.out.1.lt, HO5.out.2.below hb6 HO5.out.2.lt⟩
      have HQ6 : Hid (Blk W6 Q 75 #[.slice (some ⟨M, 0, none⟩) k k] ∧ Qs W6 O M rs') := Lib.hid ⟨HQ5.out.1.below hb6 HQ5.out.1.lt, HQ5.out.2.below hb6 HW5.out.2⟩
      have HW6 : Hid (Below O v4 W6 ∧ O ≤ W6.heap.size) := Lib.hid ⟨HW5.out.1.trans (hb6.mono HW5.out.2), Nat.le_trans HW5.out.2 hb6.size⟩
      have hpbm : pb ≠ M := by have := HQ5.out.2; obtain ⟨_, h, _⟩ := this; have := h.lt; omega
      have HE6 : Hid (ok = true → PktE p v4 O [.int .i64 p.time, .int .i64 p.face, .int .i64 p.real, .slice A2 p.data.length c2, .string p.note]) := Lib.hid (fun h => (HT5.out h).2.2 v4 (Below.refl _ _))
      have HR6 : Hid ((ok = false → R = []) ∧ (ok = true → R = p :: mergeQ (tot rs' + 1) rs' ∧ tot rs' + 1 ≤ 100000)) := Lib.hid ⟨fun h => by rw [← HRR.out]; exact HF5.out h, fun h => ⟨by rw [← HRR.out]; exact (HT5.out h).1, by have := (HT5.out h).2.1; have := HTOT.out; omega⟩⟩
      clear hW6 hb6 hpb HO5 HQ5 HW5 HF5 HT5
      go_loopg [15, 16] (if ok then tot rs' + 1 else 0) (fun gm a15 a16 wr => ∃ (ok : Bool) (p : Pkt) (A2 : Option Addr) (c2 dl pb : Nat) (out : List Pkt) (rows : List (List Value)) (AP : Option Addr) (cP : Nat) (rs : List (List Pkt)), a15 = .pointer (some ⟨pb, 0, none⟩) ∧ a16 = .bool ok ∧ gm = (if ok then tot rs + 1 else 0) ∧ pb ≠ M ∧ out.length + gm ≤ 100000 ∧ Hid ((Value.slice AP out.length cP).ownBlock ≠ some pb) ∧ Hid (p.data.length = dl) ∧ Hid (rs.length = k) ∧ Hid (Blk wr pb 50 #[.int .i64 p.time, .int .i64 p.face, .int .i64 p.real, .slice A2 dl c2, .string p.note]) ∧ Hid (Blk wr O 31 #[.string note, .slice AF fl cF, .slice none 0 0, .slice none 0 0, .slice AP out.length cP] ∧ Blk wr B 31 #[.string ⟨#[]⟩, .slice none 0 0, .slice none 0 0, .slice none 0 0, .slice none 0 0]) ∧
          Hid (Blk wr Q 75 #[.slice (some ⟨M, 0, none⟩) k k] ∧ Qs wr O M rs) ∧ Hid (Below O v4 wr ∧ O ≤ wr.heap.size) ∧ Hid (OwnL wr O 50 5 (fun (p : Pkt) _ _ vs => PktE p v4 O vs) (.slice AP out.length cP) out rows) ∧ Hid (ok = true → PktE p v4 O [.int .i64 p.time, .int .i64 p.face, .int .i64 p.real, .slice A2 p.data.length c2, .string p.note]) ∧ Hid ((ok = false → R = out) ∧ (ok = true → R = out ++ p :: mergeQ (tot rs + 1) rs)))
      case atStart =>
        refine ⟨ok, p, A2, c2, dl, pb, [], [], none, 0, rs', rfl, rfl, rfl, hpbm, ?_, Lib.hid (by simp [Value.ownBlock]), HDL2, HL5, HP6, HO6, HQ6, HW6, Lib.hid (OwnL.nil _ _ _ _ _), HE6, Lib.hid ⟨HR6.out.1, fun h => (HR6.out.2 h).1⟩⟩
        cases ok with
        | false => simp
        | true => have := (HR6.out.2 rfl).2; simpa using this
      case round =>
        clear HR6 HE6 HW6 HQ6 HO6 HP6 HL5 HDL2 hpbm
        obtain ⟨ok, p, A2, c2, dl, pb, out, rows, AP, cP, rs, rfl, rfl, hgm, hpm, hlen, HNE, HDL2, HL5, HP, HO, HQ, HW, HR, HE2, HRE⟩ := hrel
        cases ok with
        | false =>
          have HRO : Hid (R = out) := Lib.hid (HRE.out.1 rfl)
          have z0 : wr.cell? ⟨B, 0, none⟩ = some (.string ⟨#[]⟩) := HO.out.2.cell 0
          have z1 : wr.cell? ⟨B, 1, none⟩ = some (.slice none 0 0) := HO.out.2.cell 1
          have z2 : wr.cell? ⟨B, 2, none⟩ = some (.slice none 0 0) := HO.out.2.cell 2
          have z3 : wr.cell? ⟨B, 3, none⟩ = some (.slice none 0 0) := HO.out.2.cell 3
          have z4 : wr.cell? ⟨B, 4, none⟩ = some (.slice none 0 0) := HO.out.2.cell 4
          have f0 := HO.out.2.frozen 0
          have f1 := HO.out.2.frozen 1
          have f2 := HO.out.2.frozen 2
          have f3 := HO.out.2.frozen 3
          have f4 := HO.out.2.frozen 4
          have o0 : wr.cell? ⟨O, 0, none⟩ = some (.string note) := HO.out.1.cell 0
          have o1 : wr.cell? ⟨O, 1, none⟩ = some (.slice AF fl cF) := HO.out.1.cell 1
          have o2 : wr.cell? ⟨O, 2, none⟩ = some (.slice none 0 0) := HO.out.1.cell 2
          have o3 : wr.cell? ⟨O, 3, none⟩ = some (.slice none 0 0) := HO.out.1.cell 3
          have o4 : wr.cell? ⟨O, 4, none⟩ = some (.slice AP out.length cP) := HO.out.1.cell 4
          have HEND := Lib.hid (set5 HO.out.2 (.string note) (.slice AF fl cF) (.slice none 0 0) (.slice none 0 0) (.slice AP out.length cP))
          have HZZ := Lib.hid HZ6.out.2
          clear hgm HO HQ HP HE2 HRE HNE
          go_wp2
          generalize hW9 : ((((wr.setCell ⟨B, 0, none⟩ (.string note)).setCell ⟨B, 1, none⟩ (.slice AF fl cF)).setCell ⟨B, 2, none⟩ (.slice none 0 0)).setCell ⟨B, 3, none⟩ (.slice none 0 0)).setCell ⟨B, 4, none⟩ (.slice AP out.length cP) = W9 at HEND ⊢
          obtain ⟨hb9, ha9, hw9⟩ := HEND.out
          have y0 : W9.cell? ⟨B, 0, none⟩ = some (.string note) := hb9.cell 0
          have y1 : W9.cell? ⟨B, 1, none⟩ = some (.slice AF fl cF) := hb9.cell 1
          have y2 : W9.cell? ⟨B, 2, none⟩ = some (.slice none 0 0) := hb9.cell 2
          have y3 : W9.cell? ⟨B, 3, none⟩ = some (.slice none 0 0) := hb9.cell 3
          have y4 : W9.cell? ⟨B, 4, none⟩ = some (.slice AP out.length cP) := hb9.cell 4
          have hb4 : Below B v4 wr := HW.out.1.mono (Nat.le_of_lt HBD.out.1)
          have hB9 : Below B w W9 := hw9 B w (HZZ.out.trans hb4) (Nat.le_refl _)
          have hT9 : OwnL W9 O 50 5 TimE (.slice AP out.length cP) out rows := ⟨own_alikeT HR.out.own ha9 (by decide), HR.out.len, fun i h1 h2 => ⟨(HR.out.each i h1 h2).1, by
            obtain ⟨A, c, e, _⟩ := (HR.out.each i h1 h2).2
            rw [e]; rfl⟩, HR.out.one⟩
          refine bodyPost_ret (v := .tuple #[.agg #[.string note, .slice AF fl cF, .slice none 0 0, .slice none 0 0, .slice AP out.length cP], .int .i64 0]) (by simp [results, Try.results15, go_sem, y0, y1, y2, y3, y4]) rfl ⟨AF, cF, AP, cP, ?_, ?_, by rw [hBw.out]; exact hB9⟩
          · rw [HN.out, HNF.out.1, HNF.out.2, HRS.out, HRR.out, HRO.out]
          · rw [HRS.out, HRR.out, HRO.out]
            exact OwnL.els hT9
        | true =>
          have hgm2 : gk = tot rs + 1 := hgm
          have hPb := HP.out
          have x0 := hPb.cell 0
          have x1 := hPb.cell 1
          have x2 := hPb.cell 2
          have x3 := hPb.cell 3
          have x4 := hPb.cell 4
          have o4 := HO.out.1.cell 4
          have fo4 := HO.out.1.frozen 4
          obtain ⟨v7, w7, hrun, ho7, hg7, _⟩ := run_own_struct wr O 50 5 64 29 _ Try.underlying29 info47 (by rfl) (by decide) _ _ _ HR.out.own [.int .i64 p.time, .int .i64 p.face, .int .i64 p.real, .slice A2 dl c2, .string p.note] rfl (by
            intro u hu; simp only [List.mem_cons, List.not_mem_nil, or_false] at hu; rcases hu with rfl | rfl | rfl | rfl | rfl <;> rfl) (by unfold maxLen; omega) (by omega) HW.out.2
          obtain ⟨A7, c7, rfl⟩ : ∃ A c, v7 = .slice A (out.length + 1) c := by
            rcases ho7.2 with ⟨e, h0⟩ | ⟨g, cap, _, e, _⟩
            · omega
            · exact ⟨_, _, e⟩
          have hb1 : Below wr.heap.size wr (wr.alloc (.cells #[.int .i64 p.time, .int .i64 p.face, .int .i64 p.real, .slice A2 dl c2, .string p.note] 50)) := (Below.refl _ _).alloc (Nat.le_refl _) _
          have hR1 : OwnL (wr.alloc (.cells #[.int .i64 p.time, .int .i64 p.face, .int .i64 p.real, .slice A2 dl c2, .string p.note] 50)) O 50 5 (fun (p : Pkt) _ _ vs => PktE p v4 O vs) (.slice AP out.length cP) out rows := HR.out.kept (fun _ _ _ _ _ _ h _ _ => h) hb1
          have HR7 : Hid (OwnL w7 O 50 5 (fun (p : Pkt) _ _ vs => PktE p v4 O vs) (.slice A7 (out ++ [p]).length c7) (out ++ [p]) (rows ++ [[.int .i64 p.time, .int .i64 p.face, .int .i64 p.real, .slice A2 dl c2, .string p.note]])) := Lib.hid (by
            rw [List.length_append]
            exact ownE_snoc (Ep := fun p vs => PktE p v4 O vs) hR1 ho7 rfl (by have := HE2.out rfl; rw [HDL2.out] at this; exact this) (by
              intro u hu; simp only [List.mem_cons, List.not_mem_nil, or_false] at hu; rcases hu with rfl | rfl | rfl | rfl | rfl <;> rfl))
          have hw7 : Below O wr w7 := (hb1.mono HW.out.2).grown hg7 (by rw [alloc_size]; have := HW.out.2; omega) (fun j hj => (hR1.own.lt _ hj).1)
          have hkeep : ∀ g t cs, t ≠ 50 → Blk wr g t cs → Blk w7 g t cs := fun g t cs ht hb => (hb.below hb1 hb.lt).grown hg7 (fun e => own_blk_ne hR1.own (hb.below hb1 hb.lt) (fun e => ht e.symm) e.symm)
          have hPb7 : Blk w7 pb 50 #[.int .i64 p.time, .int .i64 p.face, .int .i64 p.real, .slice A2 dl c2, .string p.note] := (hPb.below hb1 hPb.lt).grown hg7 (fun e => HNE.out e.symm)
          have HO7 : Hid (Blk (w7.setCell ⟨O, 4, none⟩ (.slice A7 (out.length + 1) c7)) O 31 #[.string note, .slice AF fl cF, .slice none 0 0, .slice none 0 0, .slice A7 (out.length + 1) c7] ∧ Blk (w7.setCell ⟨O, 4, none⟩ (.slice A7 (out.length + 1) c7)) B 31 #[.string ⟨#[]⟩, .slice none 0 0, .slice none 0 0, .slice none 0 0, .slice none 0 0]) := Lib.hid ⟨by simpa using (hkeep _ _ _ (by decide) HO.out.1).set_ 4 (.slice A7 (out.length + 1) c7), (hkeep _ _ _ (by decide) HO.out.2).far (p := ⟨O, 4, none⟩) (by have := HBD.out; show B ≠ O; omega) _⟩
          have hw8 : Below O wr (w7.setCell ⟨O, 4, none⟩ (.slice A7 (out.length + 1) c7)) := hw7.setCell (p := ⟨O, 4, none⟩) (Nat.le_refl _) _
          have hM7 : Qs (w7.setCell ⟨O, 4, none⟩ (.slice A7 (out.length + 1) c7)) O M rs := by
            obtain ⟨qs, g1, g2, g3⟩ := HQ.out.2
            refine ⟨qs, (hkeep _ _ _ (by decide) g1).far (p := ⟨O, 4, none⟩) (by have := HBD.out; show M ≠ O; omega) _, g2, fun i hi => ?_⟩
            obtain ⟨A9, c9, e9, r1, r2, r3⟩ := g3 i hi
            exact ⟨A9, c9, e9, r1, r2, r3.keep pktK hw8 (Nat.le_refl _)⟩
          have HQ7 : Hid (Blk (w7.setCell ⟨O, 4, none⟩ (.slice A7 (out.length + 1) c7)) Q 75 #[.slice (some ⟨M, 0, none⟩) k k] ∧ Qs (w7.setCell ⟨O, 4, none⟩ (.slice A7 (out.length + 1) c7)) O M rs) := Lib.hid ⟨(hkeep _ _ _ (by decide) HQ.out.1).far (p := ⟨O, 4, none⟩) (by have := HBD.out; show Q ≠ O; omega) _, hM7⟩
          have HW7 : Hid (Below O v4 (w7.setCell ⟨O, 4, none⟩ (.slice A7 (out.length + 1) c7)) ∧ O ≤ (w7.setCell ⟨O, 4, none⟩ (.slice A7 (out.length + 1) c7)).heap.size) := Lib.hid ⟨HW.out.1.trans hw8, Nat.le_trans HW.out.2 hw8.size⟩
          have HR8 : Hid (OwnL (w7.setCell ⟨O, 4, none⟩ (.slice A7 (out.length + 1) c7)) O 50 5 (fun (p : Pkt) _ _ vs => PktE p v4 O vs) (.slice A7 (out ++ [p]).length c7) (out ++ [p]) (rows ++ [[.int .i64 p.time, .int .i64 p.face, .int .i64 p.real, .slice A2 dl c2, .string p.note]])) := Lib.hid ⟨own_alikeT HR7.out.own (AlikeT.set (hkeep _ _ _ (by decide) HO.out.1) _) (by decide), HR7.out.len, HR7.out.each, HR7.out.one⟩
          have hPb8 : Blk (w7.setCell ⟨O, 4, none⟩ (.slice A7 (out.length + 1) c7)) pb 50 #[.int .i64 p.time, .int .i64 p.face, .int .i64 p.real, .slice A2 dl c2, .string p.note] := hPb7.far (p := ⟨O, 4, none⟩) (fun e => (blk_ne hPb7 (hkeep _ _ _ (by decide) HO.out.1) (by decide)) e) _
          have y0 : (w7.setCell ⟨O, 4, none⟩ (.slice A7 (out.length + 1) c7)).cell? ⟨pb, 0, none⟩ = some (.int .i64 p.time) := hPb8.cell 0
          have y1 : (w7.setCell ⟨O, 4, none⟩ (.slice A7 (out.length + 1) c7)).cell? ⟨pb, 1, none⟩ = some (.int .i64 p.face) := hPb8.cell 1
          have y2 : (w7.setCell ⟨O, 4, none⟩ (.slice A7 (out.length + 1) c7)).cell? ⟨pb, 2, none⟩ = some (.int .i64 p.real) := hPb8.cell 2
          have y3 : (w7.setCell ⟨O, 4, none⟩ (.slice A7 (out.length + 1) c7)).cell? ⟨pb, 3, none⟩ = some (.slice A2 dl c2) := hPb8.cell 3
          have y4 : (w7.setCell ⟨O, 4, none⟩ (.slice A7 (out.length + 1) c7)).cell? ⟨pb, 4, none⟩ = some (.string p.note) := hPb8.cell 4
          have hfo7 : w7.frozen? ⟨O, 4, none⟩ = false := (hkeep _ _ _ (by decide) HO.out.1).frozen 4
          have ho74 : w7.cell? ⟨O, 4, none⟩ = some (.slice AP out.length cP) := (hkeep _ _ _ (by decide) HO.out.1).cell 4
          clear hPb7 hPb8 hM7 hw8 hkeep hw7 HR7 hR1 hb1 hg7 ho7 HW HR HNE hPb
          go_wp2_with (at_builtin; refine Lib.wpList_append_run _ rfl _ _ _ _ rfl _ _ rfl rfl _ _ hrun ?_)
          clear hrun x0 x1 x2 x3 x4 o4 fo4 y0 y1 y2 y3 y4 hfo7 ho74 HP HO HQ
          have hb9 : Below (w7.setCell ⟨O, 4, none⟩ (.slice A7 (out.length + 1) c7)).heap.size (w7.setCell ⟨O, 4, none⟩ (.slice A7 (out.length + 1) c7)) ((w7.setCell ⟨O, 4, none⟩ (.slice A7 (out.length + 1) c7)).alloc (.cells #[.int .i64 p.time, .int .i64 p.face, .int .i64 p.real, .slice A2 dl c2, .string p.note] 50)) := (Below.refl _ _).alloc (Nat.le_refl _) _
          have hs8 : (w7.setCell ⟨O, 4, none⟩ (.slice A7 (out.length + 1) c7)).heap.size = w7.heap.size := size_set _ _ _
          have HP9 : Hid (Blk ((w7.setCell ⟨O, 4, none⟩ (.slice A7 (out.length + 1) c7)).alloc (.cells #[.int .i64 p.time, .int .i64 p.face, .int .i64 p.real, .slice A2 dl c2, .string p.note] 50)) w7.heap.size 50 #[.int .i64 p.time, .int .i64 p.face, .int .i64 p.real, .slice A2 dl c2, .string p.note]) := Lib.hid (by
            have h := Blk.new (w7.setCell ⟨O, 4, none⟩ (.slice A7 (out.length + 1) c7)) 50 #[.int .i64 p.time, .int .i64 p.face, .int .i64 p.real, .slice A2 dl c2, .string p.note]
            rw [hs8] at h
            exact h)
          have HO9 : Hid (Blk ((w7.setCell ⟨O, 4, none⟩ (.slice A7 (out.length + 1) c7)).alloc (.cells #[.int .i64 p.time, .int .i64 p.face, .int .i64 p.real, .slice A2 dl c2, .string p.note] 50)) O 31 #[.string note, .slice AF fl cF, .slice none 0 0, .slice none 0 0, .slice A7 (out.length + 1) c7] ∧ Blk ((w7.setCell ⟨O, 4, none⟩ (.slice A7 (out.length + 1) c7)).alloc (.cells #[.int .i64 p.time, .int .i64 p.face, .int .i64 p.real, .slice A2 dl c2, .string p.note] 50)) B 31 #[.string ⟨#[]⟩, .slice none 0 0, .slice none 0 0, .slice none 0 0, .slice none 0 0]) := Lib.hid ⟨HO7.out.1.below hb9 HO7.out.1.lt, HO7.out.2.below hb9 HO7.out.2.lt⟩
          have HQ9 : Hid (Blk ((w7.setCell ⟨O, 4, none⟩ (.slice A7 (out.length + 1) c7)).alloc (.cells #[.int .i64 p.time, .int .i64 p.face, .int .i64 p.real, .slice A2 dl c2, .string p.note] 50)) Q 75 #[.slice (some ⟨M, 0, none⟩) k k] ∧ Qs ((w7.setCell ⟨O, 4, none⟩ (.slice A7 (out.length + 1) c7)).alloc (.cells #[.int .i64 p.time, .int .i64 p.face, .int .i64 p.real, .slice A2 dl c2, .string p.note] 50)) O M rs) := Lib.hid ⟨HQ7.out.1.below hb9 HQ7.out.1.lt, HQ7.out.2.below hb9 HW7.out.2⟩
          have HW9 : Hid (Below O v4 ((w7.setCell ⟨O, 4, none⟩ (.slice A7 (out.length + 1) c7)).alloc (.cells #[.int .i64 p.time, .int .i64 p.face, .int .i64 p.real, .slice A2 dl c2, .string p.note] 50)) ∧ O ≤ ((w7.setCell ⟨O, 4, none⟩ (.slice A7 (out.length + 1) c7)).alloc (.cells #[.int .i64 p.time, .int .i64 p.face, .int .i64 p.real, .slice A2 dl c2, .string p.note] 50)).heap.size) := Lib.hid ⟨HW7.out.1.trans (hb9.mono HW7.out.2), Nat.le_trans HW7.out.2 hb9.size⟩
          have HR9 : Hid (OwnL ((w7.setCell ⟨O, 4, none⟩ (.slice A7 (out.length + 1) c7)).alloc (.cells #[.int .i64 p.time, .int .i64 p.face, .int .i64 p.real, .slice A2 dl c2, .string p.note] 50)) O 50 5 (fun (p : Pkt) _ _ vs => PktE p v4 O vs) (.slice A7 (out ++ [p]).length c7) (out ++ [p]) (rows ++ [[.int .i64 p.time, .int .i64 p.face, .int .i64 p.real, .slice A2 dl c2, .string p.note]])) := Lib.hid (HR8.out.kept (fun _ _ _ _ _ _ h _ _ => h) hb9)
          have hpm2 : w7.heap.size ≠ M := by obtain ⟨_, h, _⟩ := HQ7.out.2; have := h.lt; omega
          have HN2 : Hid ((Value.slice A7 (out ++ [p]).length c7).ownBlock ≠ some w7.heap.size) := Lib.hid (fun e => by have := (HR8.out.own.lt _ e).2; omega)
          have hOp : O ≤ w7.heap.size := by rw [← hs8]; exact HW7.out.2
          clear hb9 hs8 HO7 HQ7 HW7 HR8
          generalize (w7.setCell ⟨O, 4, none⟩ (.slice A7 (out.length + 1) c7)).alloc (.cells #[.int .i64 p.time, .int .i64 p.face, .int .i64 p.real, .slice A2 dl c2, .string p.note] 50) = W9 at HP9 HO9 HQ9 HW9 HR9 ⊢
          generalize w7.heap.size = pb2 at HP9 hpm2 HN2 hOp ⊢
          refine (next_any (w := W9) (B := O) (M := M) (Q := Q) (rs := rs) (by rw [HL5.out]; exact HQ9.out.1) HQ9.out.2 HW9.out.2 (by have := HBD.out; omega) (by rw [HL5.out]; omega)).mono ?_
          rintro e v10 ⟨ok2, p2, A3, c3, rs2, rfl, hs10, hl10, hb10, hk10, hf10, ht10⟩
          obtain ⟨dl2, hdl2⟩ : ∃ dl2, p2.data.length = dl2 := ⟨_, rfl⟩
          have HDL3 := Lib.hid hdl2
          have HT10 := Lib.hid (And.intro hf10 ht10)
          have hP10 : Blk v10 pb2 50 #[.int .i64 p.time, .int .i64 p.face, .int .i64 p.real, .slice A2 dl c2, .string p.note] := hk10 _ _ _ hpm2 HP9.out
          have x0 : v10.cell? ⟨pb2, 0, none⟩ = some (.int .i64 p.time) := hP10.cell 0
          have xf0 : v10.frozen? ⟨pb2, 0, none⟩ = false := hP10.frozen 0
          have x1 : v10.cell? ⟨pb2, 1, none⟩ = some (.int .i64 p.face) := hP10.cell 1
          have xf1 : v10.frozen? ⟨pb2, 1, none⟩ = false := hP10.frozen 1
          have x2 : v10.cell? ⟨pb2, 2, none⟩ = some (.int .i64 p.real) := hP10.cell 2
          have xf2 : v10.frozen? ⟨pb2, 2, none⟩ = false := hP10.frozen 2
          have x3 : v10.cell? ⟨pb2, 3, none⟩ = some (.slice A2 dl c2) := hP10.cell 3
          have xf3 : v10.frozen? ⟨pb2, 3, none⟩ = false := hP10.frozen 3
          have x4 : v10.cell? ⟨pb2, 4, none⟩ = some (.string p.note) := hP10.cell 4
          have xf4 : v10.frozen? ⟨pb2, 4, none⟩ = false := hP10.frozen 4
          have hset := set5 hP10 (.int .i64 p2.time) (.int .i64 p2.face) (.int .i64 p2.real) (.slice A3 dl2 c3) (.string p2.note)
          have hbW : Below O v10 (((((v10.setCell ⟨pb2, 0, none⟩ (.int .i64 p2.time)).setCell ⟨pb2, 1, none⟩ (.int .i64 p2.face)).setCell ⟨pb2, 2, none⟩ (.int .i64 p2.real)).setCell ⟨pb2, 3, none⟩ (.slice A3 dl2 c3)).setCell ⟨pb2, 4, none⟩ (.string p2.note)) := hset.2.2 O v10 (Below.refl _ _) hOp
          have HP11 : Hid (Blk (((((v10.setCell ⟨pb2, 0, none⟩ (.int .i64 p2.time)).setCell ⟨pb2, 1, none⟩ (.int .i64 p2.face)).setCell ⟨pb2, 2, none⟩ (.int .i64 p2.real)).setCell ⟨pb2, 3, none⟩ (.slice A3 dl2 c3)).setCell ⟨pb2, 4, none⟩ (.string p2.note)) pb2 50 #[.int .i64 p2.time, .int .i64 p2.face, .int .i64 p2.real, .slice A3 dl2 c3, .string p2.note]) := Lib.hid hset.1
          have HO11 : Hid (Blk (((((v10.setCell ⟨pb2, 0, none⟩ (.int .i64 p2.time)).setCell ⟨pb2, 1, none⟩ (.int .i64 p2.face)).setCell ⟨pb2, 2, none⟩ (.int .i64 p2.real)).setCell ⟨pb2, 3, none⟩ (.slice A3 dl2 c3)).setCell ⟨pb2, 4, none⟩ (.string p2.note)) O 31 #[.string note, .slice AF fl cF, .slice none 0 0, .slice none 0 0, .slice A7 (out.length + 1) c7] ∧ Blk (((((v10.setCell ⟨pb2, 0, none⟩ (.int .i64 p2.time)).setCell ⟨pb2, 1, none⟩ (.int .i64 p2.face)).setCell ⟨pb2, 2, none⟩ (.int .i64 p2.real)).setCell ⟨pb2, 3, none⟩ (.slice A3 dl2 c3)).setCell ⟨pb2, 4, none⟩ (.string p2.note)) B 31 #[.string ⟨#[]⟩, .slice none 0 0, .slice none 0 0, .slice none 0 0, .slice none 0 0]) := Lib.hid ⟨hset.2.1.2 _ _ _ (by decide) (hk10 _ _ _ (by have := HBD.out; omega) HO9.out.1), hset.2.1.2 _ _ _ (by decide) (hk10 _ _ _ (by have := HBD.out; omega) HO9.out.2)⟩
          have HQ11 : Hid (Blk (((((v10.setCell ⟨pb2, 0, none⟩ (.int .i64 p2.time)).setCell ⟨pb2, 1, none⟩ (.int .i64 p2.face)).setCell ⟨pb2, 2, none⟩ (.int .i64 p2.real)).setCell ⟨pb2, 3, none⟩ (.slice A3 dl2 c3)).setCell ⟨pb2, 4, none⟩ (.string p2.note)) Q 75 #[.slice (some ⟨M, 0, none⟩) k k] ∧ Qs (((((v10.setCell ⟨pb2, 0, none⟩ (.int .i64 p2.time)).setCell ⟨pb2, 1, none⟩ (.int .i64 p2.face)).setCell ⟨pb2, 2, none⟩ (.int .i64 p2.real)).setCell ⟨pb2, 3, none⟩ (.slice A3 dl2 c3)).setCell ⟨pb2, 4, none⟩ (.string p2.note)) O M rs2) := Lib.hid ⟨hset.2.1.2 _ _ _ (by decide) (hk10 _ _ _ (fun e => HMQ.out e.symm) HQ9.out.1), by
            obtain ⟨qs, g1, g2, g3⟩ := hs10
            refine ⟨qs, hset.2.1.2 _ _ _ (by decide) g1, g2, fun i hi => ?_⟩
            obtain ⟨A9, c9, e9, r1, r2, r3⟩ := g3 i hi
            exact ⟨A9, c9, e9, r1, r2, r3.keep pktK hbW (Nat.le_refl _)⟩⟩
          have HW11 : Hid (Below O v4 (((((v10.setCell ⟨pb2, 0, none⟩ (.int .i64 p2.time)).setCell ⟨pb2, 1, none⟩ (.int .i64 p2.face)).setCell ⟨pb2, 2, none⟩ (.int .i64 p2.real)).setCell ⟨pb2, 3, none⟩ (.slice A3 dl2 c3)).setCell ⟨pb2, 4, none⟩ (.string p2.note)) ∧ O ≤ (((((v10.setCell ⟨pb2, 0, none⟩ (.int .i64 p2.time)).setCell ⟨pb2, 1, none⟩ (.int .i64 p2.face)).setCell ⟨pb2, 2, none⟩ (.int .i64 p2.real)).setCell ⟨pb2, 3, none⟩ (.slice A3 dl2 c3)).setCell ⟨pb2, 4, none⟩ (.string p2.note)).heap.size) := Lib.hid ⟨(HW9.out.1.trans hb10).trans hbW, Nat.le_trans (Nat.le_trans HW9.out.2 hb10.size) hbW.size⟩
          have HR11 : Hid (OwnL (((((v10.setCell ⟨pb2, 0, none⟩ (.int .i64 p2.time)).setCell ⟨pb2, 1, none⟩ (.int .i64 p2.face)).setCell ⟨pb2, 2, none⟩ (.int .i64 p2.real)).setCell ⟨pb2, 3, none⟩ (.slice A3 dl2 c3)).setCell ⟨pb2, 4, none⟩ (.string p2.note)) O 50 5 (fun (p : Pkt) _ _ vs => PktE p v4 O vs) (.slice A7 (out ++ [p]).length c7) (out ++ [p]) (rows ++ [[.int .i64 p.time, .int .i64 p.face, .int .i64 p.real, .slice A2 dl c2, .string p.note]])) := Lib.hid ⟨own_far5 (own_keepB HR9.out.own hk10 (by obtain ⟨qs, g1, _⟩ := HQ9.out.2; exact ⟨29, qs, g1, by decide⟩)) HN2.out _ _ _ _ _, HR9.out.len, HR9.out.each, HR9.out.one⟩
          have HL11 : Hid (rs2.length = k) := Lib.hid (by rw [hl10, HL5.out])
          have HE11 : Hid (ok2 = true → PktE p2 v4 O [.int .i64 p2.time, .int .i64 p2.face, .int .i64 p2.real, .slice A3 p2.data.length c3, .string p2.note]) := Lib.hid (fun h => pkt_back (W := v4) (w := v4) ((HT10.out.2 h).2.2 W9 (Below.refl _ _)) HW9.out.1 (Below.refl _ _))
          have HRE2 : Hid ((ok2 = false → R = out ++ [p]) ∧ (ok2 = true → R = (out ++ [p]) ++ p2 :: mergeQ (tot rs2 + 1) rs2)) := Lib.hid ⟨fun h => by rw [HRE.out.2 (by first | rfl | trivial), HT10.out.1 h], fun h => by rw [HRE.out.2 (by first | rfl | trivial), (HT10.out.2 h).1]; simp⟩
          have HM11 : Hid ((if ok2 = true then tot rs2 + 1 else 0) < gk ∧ (out ++ [p]).length + (if ok2 = true then tot rs2 + 1 else 0) ≤ 100000) := Lib.hid (by
            rw [List.length_append, List.length_singleton]
            cases ok2 with
            | false => simp; omega
            | true => have := (HT10.out.2 rfl).2.1; simp; omega)
          have HLE : Hid ((out ++ [p]).length = out.length + 1) := Lib.hid (by simp)
          rw [hdl2]
          clear hset hbW hP10 hs10 hl10 hb10 hk10 hf10 ht10 hdl2 HP9 HO9 HQ9 HW9 HR9 HRE HE2
          dsimp only
          go_wp2
          clear x0 x1 x2 x3 x4 xf0 xf1 xf2 xf3 xf4
          go_roundg (if ok2 = true then tot rs2 + 1 else 0)
          case measure => exact HM11.out.1
          case rel =>
            refine ⟨ok2, p2, A3, c3, dl2, pb2, out ++ [p], _, A7, c7, rs2, rfl, rfl, rfl, hpm2, HM11.out.2, HN2, HDL3, HL11, HP11, ?_, HQ11, HW11, HR11, HE11, HRE2⟩
            rw [HLE.out]
            exact HO11
end Go.Proofs.Ytghdilmlfficlaa
