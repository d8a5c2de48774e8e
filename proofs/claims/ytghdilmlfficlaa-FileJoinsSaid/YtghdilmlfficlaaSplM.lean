/- Splitting: plain data; lists of captures that the call makes. -/
import Derived.Test.YtghdilmlfficlaaFull
import Derived.Test.YtghdilmlfficlaaTog
namespace Go.Proofs.Ytghdilmlfficlaa
open Go.RowKit

def splitL (f : List Pkt → Pkt → Bool) : List Pkt → List Pkt → List (List Pkt)
  | now, [] => [now]
  | now, x :: r => if now.isEmpty = false ∧ f now x = true then now :: splitL f [x] r else splitL f (now ++ [x]) r
def mkC (c : Cap) (ps : List Pkt) : Cap := ⟨c.note, c.faces, c.names, c.secs, ps⟩
noncomputable def fullR (kind n : Int) (part : List Pkt) (x : Pkt) : Bool :=
  if kind = 0 then decide (n ≤ (part.length : Int)) else if kind = 1 then decide (n < ((x.data.length + dsum part : Nat) : Int)) else match part.getLast? with
    | some y => y.time.tdiv n != x.time.tdiv n
    | none => false
noncomputable def splitC (c : Cap) (kind n : Int) : List Cap := (splitL (fullR kind n) [] c.pkts).map (mkC c)
def argB (kind n : Int) : Bool := decide (kind < 0 ∨ 2 < kind ∨ n < 1)
noncomputable def spE (c : Cap) (kind n : Int) : Int := if errV c = 0 then (if argB kind n then 1 else 0) else errV c
noncomputable def spR (c : Cap) (kind n : Int) : List Cap := if errV c = 0 then (if argB kind n then [] else splitC c kind n) else []
theorem splitL_len (f : List Pkt → Pkt → Bool) : ∀ (r now : List Pkt), (splitL f now r).length ≤ r.length + 1
  | [], now => by simp [splitL]
  | x :: r, now => by
    rw [splitL]
    split
    · have := splitL_len f r [x]; simp only [List.length_cons]; omega
    · have := splitL_len f r (now ++ [x]); simp only [List.length_cons]; omega
theorem spR_len (c : Cap) (kind n : Int) : (spR c kind n).length ≤ c.pkts.length + 1 := by
  unfold spR
  split
  · split
    · exact Nat.zero_le _
    · unfold splitC; rw [List.length_map]; exact splitL_len _ _ _
  · exact Nat.zero_le _
/-- The packets from f on and below k. -/
def seg (ps : List Pkt) (f k : Nat) : List Pkt := (ps.take k).drop f
theorem seg_len (ps : List Pkt) (f k : Nat) (hk : k ≤ ps.length) : (seg ps f k).length = k - f := by unfold seg; rw [List.length_drop, List.length_take]; omega
theorem seg_succ (ps : List Pkt) (f k : Nat) (hf : f ≤ k) (hk : k < ps.length) : seg ps f (k + 1) = seg ps f k ++ [ps[k]] := by
  unfold seg
  rw [List.take_succ_eq_append_getElem hk, List.drop_append_of_le_length (by rw [List.length_take]; omega)]
theorem seg_one (ps : List Pkt) (k : Nat) (hk : k < ps.length) : seg ps k (k + 1) = [ps[k]] := by
  rw [seg_succ ps k k (Nat.le_refl _) hk]
  unfold seg
  rw [List.drop_eq_nil_of_le (by rw [List.length_take]; omega)]; rfl
theorem seg_mem {ps : List Pkt} {f k : Nat} {x : Pkt} (h : x ∈ seg ps f k) : x ∈ ps := List.mem_of_mem_take (List.mem_of_mem_drop h)
theorem split_yes {F : List Pkt → Pkt → Bool} {ps now : List Pkt} {k : Nat} (hk : k < ps.length) (hn : now ≠ []) (h : F now ps[k] = true) : splitL F now (ps.drop k) = now :: splitL F [ps[k]] (ps.drop (k + 1)) := by
  rw [List.drop_eq_getElem_cons hk, splitL, if_pos ⟨by cases now <;> simp at hn ⊢, h⟩]
theorem split_no {F : List Pkt → Pkt → Bool} {ps now : List Pkt} {k : Nat} (hk : k < ps.length) (h : now = [] ∨ F now ps[k] = false) : splitL F now (ps.drop k) = splitL F (now ++ [ps[k]]) (ps.drop (k + 1)) := by
  rw [List.drop_eq_getElem_cons hk, splitL, if_neg]
  rintro ⟨h1, h2⟩
  rcases h with h | h
  · rw [h] at h1; simp at h1
  · rw [h] at h2; cases h2
theorem split_end {F : List Pkt → Pkt → Bool} {ps now : List Pkt} {k : Nat} (hk : ps.length ≤ k) : splitL F now (ps.drop k) = [now] := by
  rw [List.drop_eq_nil_of_le hk]; rfl
theorem split_start (F : List Pkt → Pkt → Bool) (ps : List Pkt) : splitL F [] ps = splitL F (seg ps 0 1) (ps.drop 1) := by
  cases ps with
  | nil => rfl
  | cons a l => rw [splitL, if_neg (by simp)]; rfl

theorem els_seg {w : World} {B : Nat} {b o : Nat} {ps : List Pkt} (h : Els 5 PktE w B (some ⟨b, o, none⟩) ps) (lo k : Nat) (hk : k ≤ ps.length) (hlo : lo ≤ k) : Els 5 PktE w B (some ⟨b, o + lo * 5, none⟩) (seg ps lo k) := by
  intro hn
  rw [seg_len _ _ _ hk] at hn
  obtain ⟨b', o', e, hb, hi⟩ := h (by omega)
  injection e with e; injection e with e1 e2; subst e1; subst e2
  refine ⟨b, o + lo * 5, rfl, hb, fun i hx => ?_⟩
  rw [seg_len _ _ _ hk] at hx
  obtain ⟨vs, hv, hE, hc⟩ := hi (lo + i) (by omega)
  refine ⟨vs, hv, ?_, fun j v hj => ?_⟩
  · have : (seg ps lo k)[i]'(by rw [seg_len _ _ _ hk]; omega) = ps[lo + i]'(by omega) := by unfold seg; simp
    rw [this]; exact hE
  · have := hc j v hj
    rw [show o + lo * 5 + (i * 5 + j) = o + ((lo + i) * 5 + j) by omega]
    exact this
theorem capM_seg {w : World} {B : Nat} {p : Pl} {c : Cap} {b o : Nat} (h : CapM w B p c) (hp : p.pp = some ⟨b, o, none⟩) (lo k : Nat) (hk : k ≤ c.pkts.length) (hlo : lo ≤ k) :
    CapM w B ⟨p.pf, p.cf, p.pn, p.cn, p.ps, p.cs, some ⟨b, o + lo * 5, none⟩, p.cp - lo⟩ (mkC c (seg c.pkts lo k)) := by
  have hP := h.pkts
  rw [hp] at hP
  have hl := h.lp
  refine ⟨h.note, h.faces, h.names, h.secs, els_seg hP lo k hk hlo, h.lf, h.ln, h.ls, ⟨?_, ?_, fun e => by cases e⟩⟩
  · show (seg c.pkts lo k).length ≤ p.cp - lo
    rw [seg_len _ _ _ hk]; omega
  · show (seg c.pkts lo k).length * 64 ≤ _
    rw [seg_len _ _ _ hk]; omega
theorem capM_none {w : World} {B : Nat} {p : Pl} {c : Cap} {A : Option Addr} {n : Nat} (h : CapM w B p c) (hA : A = none → n = 0) : CapM w B ⟨p.pf, p.cf, p.pn, p.cn, p.ps, p.cs, A, n⟩ (mkC c []) :=
  ⟨h.note, h.faces, h.names, h.secs, els_nil, h.lf, h.ln, h.ls, ⟨Nat.zero_le _, (by decide : 0 * 64 ≤ 140737488355328), hA⟩⟩

/-- A capture stays whatever is written at M and beyond, but into blocks that are not captures and not G. -/
def KT (M : Nat) (G : Option Nat) (w : World) (q : Pl) (x : Cap) : Prop :=
  ∀ w', Below M w w' → (∀ g t cs, t ≠ 31 → some g ≠ G → Blk w g t cs → Blk w' g t cs) → CapM w' w'.heap.size q x
def KTE (M : Nat) (G : Option Nat) (x : Cap) (w : World) (_ : Nat) (vs : List Value) : Prop := ∃ q, vs = capL q x ∧ KT M G w q x
theorem KT.capM {M : Nat} {G : Option Nat} {w : World} {q : Pl} {x : Cap} (h : KT M G w q x) : CapM w w.heap.size q x := h w (Below.refl _ _) (fun _ _ _ _ _ h => h)
theorem KT.on {M : Nat} {G G' : Option Nat} {w w' : World} {q : Pl} {x : Cap} (h : KT M G w q x) (hb : Below M w w') (hk : ∀ g t cs, t ≠ 31 → some g ≠ G → Blk w g t cs → some g ≠ G' ∧ Blk w' g t cs) : KT M G' w' q x :=
  fun w'' hb2 hk2 => h w'' (hb.trans hb2) (fun g t cs ht hg hB => by have := hk g t cs ht hg hB; exact hk2 g t cs ht this.1 this.2)
theorem KT.of_capT {M : Nat} {w : World} {q : Pl} {x : Cap} (h : CapT w q x) : KT M none w q x := fun w' hb hk => h w' ⟨hb.size, fun g t cs ht hB => hk g t cs ht (by simp) hB⟩
theorem ownC_on {M b : Nat} {G G' : Option Nat} {w w' : World} {v : Value} {xs : List Cap} {rows : List (List Value)} (h : OwnL w b 31 5 (KTE M G) v xs rows) (ho : w'.ownsRow b 31 5 v xs.length rows.flatten) (hb : Below M w w') (hk : ∀ g t cs, t ≠ 31 → some g ≠ G → Blk w g t cs → some g ≠ G' ∧ Blk w' g t cs) : OwnL w' b 31 5 (KTE M G') v xs rows :=
  ⟨ho, h.len, fun i h1 h2 => ⟨(h.each i h1 h2).1, by obtain ⟨q, e, hq⟩ := (h.each i h1 h2).2; exact ⟨q, e, hq.on hb hk⟩⟩, h.one⟩
theorem ownC_below {M b : Nat} {G : Option Nat} {w w' : World} {v : Value} {xs : List Cap} {rows : List (List Value)} (h : OwnL w b 31 5 (KTE M G) v xs rows) (hb : Below w.heap.size w w') (hM : M ≤ w.heap.size) : OwnL w' b 31 5 (KTE M G) v xs rows :=
  ownC_on h (by
    obtain ⟨h1, h2 | ⟨g, cap, cur, e1, e2, e3, e4⟩⟩ := h.own
    · exact ⟨h1, Or.inl h2⟩
    · exact ⟨h1, Or.inr ⟨g, cap, cur, e1, e2, (show Blk w g 31 cur from e3).below hb (show Blk w g 31 cur from e3).lt, e4⟩⟩) (hb.mono hM) (fun g t cs _ hg hB => ⟨hg, hB.below hb hB.lt⟩)
theorem ownC_snoc {M b : Nat} {G G' : Option Nat} {w w7 : World} {v v7 : Value} {xs : List Cap} {rows : List (List Value)} {x : Cap} {q : Pl} (h : OwnL w b 31 5 (KTE M G) v xs rows)
    (ho : w7.ownsRow b 31 5 v7 (xs.length + 1) (rows.flatten ++ capL q x)) (hx : KT M G w q x) (hb : Below M w w7) (hk : ∀ g t cs, t ≠ 31 → some g ≠ G → Blk w g t cs → some g ≠ G' ∧ Blk w7 g t cs) :
    OwnL w7 b 31 5 (KTE M G') v7 (xs ++ [x]) (rows ++ [capL q x]) := by
  refine ⟨by simpa using ho, by simp [h.len], fun j h1' h2' => ?_, fun r hr u hu => ?_⟩
  · by_cases hj : j < xs.length
    · have hjr : j < rows.length := by rw [h.len]; exact hj
      rw [List.getElem_append_left hj, List.getElem_append_left hjr]
      obtain ⟨hl, q', e, hq⟩ := h.each j hj hjr
      exact ⟨hl, q', e, hq.on hb hk⟩
    · have hje : j = xs.length := by rw [List.length_append] at h1'; simp at h1'; omega
      subst hje
      rw [List.getElem_append_right (Nat.le_refl _), List.getElem_append_right (by rw [h.len]; exact Nat.le_refl _)]
      simp only [h.len, Nat.sub_self, List.getElem_cons_zero]
      exact ⟨rfl, q, rfl, hx.on hb hk⟩
  · rcases List.mem_append.1 hr with hr | hr
    · exact h.one r hr u hu
    · rw [List.mem_singleton] at hr; subst hr
      simp only [List.mem_cons, List.not_mem_nil, or_false] at hu
      rcases hu with rfl | rfl | rfl | rfl | rfl <;> rfl
theorem ownC_els {M b c n : Nat} {G : Option Nat} {w : World} {A : Option Addr} {xs : List Cap} {rows : List (List Value)} (h : OwnL w b 31 5 (KTE M G) (.slice A n c) xs rows) : Els 5 CapE w w.heap.size A xs := by
  have h1 := h.els
  intro hn
  obtain ⟨b', o, e, hb, hi⟩ := h1 hn
  refine ⟨b', o, e, hb, fun i hx => ?_⟩
  obtain ⟨vs, hv, ⟨q, e2, hq⟩, hc⟩ := hi i hx
  exact ⟨vs, hv, ⟨q, e2, hq.capM⟩, hc⟩
theorem own_slice {w : World} {b e k n : Nat} {v : Value} {xs : List Value} (h : w.ownsRow b e k v n xs) (hn : 0 < n) : ∃ A c, v = .slice A n c := by
  rcases h.2 with ⟨_, h0⟩ | ⟨g, cap, _, e, _⟩
  · omega
  · exact ⟨_, _, e⟩

/-- What Split asks of the packets of a valid capture. -/
structure PkOk (x : Pkt) : Prop where
  t0 : 0 ≤ x.time
  t1 : x.time ≤ 1000000000000000
  d : x.data.length ≤ 400
theorem errV_pk {c : Cap} (h : errV c = 0) : ∀ x ∈ c.pkts, PkOk x := by
  intro x hx
  unfold errV at h
  cases h1 : hugeB c <;> cases h2 : capB c <;> simp [h1, h2] at h
  simp only [capB, partsB, Bool.and_eq_true, decide_eq_true_eq] at h2
  have h3 := List.all_eq_true.1 h2.2.2.2.2 x hx
  simp only [pktB, pktS, Bool.and_eq_true, within_iff, decide_eq_true_eq] at h3
  exact ⟨h3.2.2.1.1, h3.2.2.1.2, by have := h3.2.2.2.1.1; omega⟩
theorem isFull_any {w : World} {A Ax : Option Addr} {c cx : Nat} {x : Pkt} {part : List Pkt} {kind n : Int} (hp : Els 5 PktE w w.heap.size A part) (h0 : part ≠ []) (h1 : part.length ≤ 100) (hd : ∀ p ∈ part, PkOk p) (hx : PkOk x) (ha : argB kind n = false) (hz : kind = 0 → (part.length : Int) ≤ n) :
    Calls Try.prog 71 #[.slice A part.length c, pV x Ax cx, .int .i64 kind, .int .i64 n] w fun e w' => e = .returned (.bool (fullR kind n part x)) ∧ Below w.heap.size w w' := by
  have ha' := of_decide_eq_false ha
  by_cases k0 : kind = 0
  · subst k0
    refine isFull_0.mono ?_
    rintro e w' ⟨rfl, hb⟩
    refine ⟨ret_bool ?_, hb⟩
    unfold fullR
    rw [if_pos rfl]
    have := hz rfl
    rw [Bool.eq_iff_iff, beq_iff_eq, decide_eq_true_eq]; omega
  · by_cases k1 : kind = 1
    · subst k1
      refine (isFull_1 hp h1 (fun p h => (hd p h).d) hx.d).mono ?_
      rintro e w' ⟨rfl, hb⟩
      refine ⟨ret_bool ?_, hb⟩
      unfold fullR
      rw [if_neg (by decide), if_pos rfl]
    · have k2 : kind = 2 := by omega
      subst k2
      obtain ⟨y, hy⟩ : ∃ y, part.getLast? = some y := ⟨part.getLast h0, List.getLast?_eq_some_getLast h0⟩
      have hyp := hd y (List.mem_of_getLast? hy)
      refine (isFull_2 hp h1 hy (by omega) ⟨hx.t0, hx.t1⟩ ⟨hyp.t0, hyp.t1⟩).mono ?_
      rintro e w' ⟨rfl, hb⟩
      refine ⟨ret_bool ?_, hb⟩
      unfold fullR
      rw [if_neg (by decide), if_neg (by decide), hy]
theorem begins_any {w : World} {A Ax : Option Addr} {c cx : Nat} {x : Pkt} {part : List Pkt} {kind n : Int} (hp : Els 5 PktE w w.heap.size A part) (h0 : part ≠ []) (h1 : part.length ≤ 100) (hd : ∀ p ∈ part, PkOk p) (hx : PkOk x) (ha : argB kind n = false) :
    Calls Try.prog 73 #[.slice A part.length c, pV x Ax cx, .int .i64 kind, .int .i64 n] w fun e w' => e = .returned (.bool (fullR kind n part x)) ∧ Below w.heap.size w w' := by
  have ha' := of_decide_eq_false ha
  by_cases k0 : kind = 0
  · subst k0
    refine begins_0.mono ?_
    rintro e w' ⟨rfl, hb⟩
    refine ⟨ret_bool ?_, hb⟩
    unfold fullR
    rw [if_pos rfl]
  · by_cases k1 : kind = 1
    · subst k1
      refine (begins_1 hp h1 (fun p h => (hd p h).d) hx.d).mono ?_
      rintro e w' ⟨rfl, hb⟩
      refine ⟨ret_bool ?_, hb⟩
      unfold fullR
      rw [if_neg (by decide), if_pos rfl]
    · have k2 : kind = 2 := by omega
      subst k2
      obtain ⟨y, hy⟩ : ∃ y, part.getLast? = some y := ⟨part.getLast h0, List.getLast?_eq_some_getLast h0⟩
      have hyp := hd y (List.mem_of_getLast? hy)
      refine (begins_2 hp h1 hy (by omega) ⟨hx.t0, hx.t1⟩ ⟨hyp.t0, hyp.t1⟩).mono ?_
      rintro e w' ⟨rfl, hb⟩
      refine ⟨ret_bool ?_, hb⟩
      unfold fullR
      rw [if_neg (by decide), if_neg (by decide), hy]
end Go.Proofs.Ytghdilmlfficlaa
