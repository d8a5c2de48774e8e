/- What captures have beside packets, put together; the interfaces of their packets: captures without names and secrets. -/
import Derived.Test.YtghdilmlfficlaaAddF
namespace Go.Proofs.Ytghdilmlfficlaa
open Go.RowKit

/-- Five cells. -/
abbrev capL (p : Pl) (c : Cap) : List Value := [.string c.note, .slice p.pf c.faces.length p.cf, .slice p.pn c.names.length p.cn, .slice p.ps c.secs.length p.cs, .slice p.pp c.pkts.length p.cp]
noncomputable def togS (o c : Cap) : Cap := ⟨if o.note.size = 0 then c.note else o.note, addF o.faces c.faces, [], [], []⟩
/-- What the first k captures have beside packets. -/
noncomputable def togA (l : List Cap) (k : Nat) : Cap := (l.take k).foldl togS noC
theorem togA_succ (l : List Cap) (k : Nat) (h : k < l.length) : togA l (k + 1) = togS (togA l k) l[k] := by
  unfold togA
  rw [List.take_succ_eq_append_getElem h, List.foldl_append]
  rfl
/-- A packet at the interface of its own in another list. -/
noncomputable def faceP (F fs : List Fac) (p : Pkt) : Pkt := ⟨p.time, idxB (fun y => eqB (fs[p.face.toNat]?.getD ⟨⟨#[]⟩, 0, 0⟩) y) F 0, p.real, p.data, p.note⟩
noncomputable def togP (l : List Cap) (k i : Nat) (c : Cap) : List Pkt := if i < k then c.pkts.map (faceP (togA l (i + 1)).faces c.faces) else c.pkts
theorem togP_self (l : List Cap) (k : Nat) (c : Cap) : togP l k k c = c.pkts := if_neg (Nat.lt_irrefl k)
theorem togP_len (l : List Cap) (k i : Nat) (c : Cap) : (togP l k i c).length = c.pkts.length := by unfold togP; split <;> simp
/-- A row of packets is not touched where another one is written. -/
theorem OwnM.far {w0 w : World} {base G n j : Nat} {v u : Value} {xs : List Pkt} {rows : List (List Value)} {cs : Array Value} (h : OwnM pktKd w0 w base v xs rows n) (hb : Blk w G 50 cs) (hne : v.ownBlock ≠ some G) :
    OwnM pktKd w0 (w.setCell ⟨G, j, none⟩ u) base v xs rows n :=
  ⟨h.own.kept (grown_set w G j u) (.inr hne), h.len, fun i h1 h2 hk => (h.done i h1 h2 hk).alike (AlikeT.set hb u) (by decide), h.rest⟩
theorem face_step {f : Pkt → Pkt} {w0 w : World} {base n g cap k : Nat} {xs : List Pkt} {rows : List (List Value)} (hn : xs.length = n) (h : OwnM pktKd w0 w base (.slice (some ⟨g, 0, none⟩) n cap) (mapTo f k xs) rows n) (hk : k < xs.length) (t : Int) (ht : f xs[k] = ⟨xs[k].time, t, xs[k].real, xs[k].data, xs[k].note⟩) (hb : -9223372036854775808 ≤ t ∧ t ≤ 9223372036854775807) :
    ∃ rows', OwnM pktKd w0 (w.setCell ⟨g, k * 5 + 1, none⟩ (.int .i64 t)) base (.slice (some ⟨g, 0, none⟩) n cap) (mapTo f (k + 1) xs) rows' n ∧ AlikeT 50 w (w.setCell ⟨g, k * 5 + 1, none⟩ (.int .i64 t)) := by
  subst hn
  have hl : (mapTo f k xs).length = xs.length := mapTo_len
  have hk' : k < (mapTo f k xs).length := by rw [hl]; exact hk
  have e := mapTo_at (f := f) hk hk'
  have h' : OwnM pktKd w0 w base (.slice (some ⟨g, 0, none⟩) (mapTo f k xs).length cap) (mapTo f k xs) rows (mapTo f k xs).length := by rw [hl]; exact h
  obtain ⟨rows', h1, h2⟩ := h'.fset (k := k) (j := 1) (x' := f xs[k]) (u := .int .i64 t) pktR hk' (by decide) (fun v => by rw [e, ht]; rfl) (by rw [e, ht]; rfl) (fun h => by
    rw [e] at h; rw [ht]; exact ⟨h.1, h.2.1, hb, h.2.2.2⟩)
  refine ⟨rows', ?_, h2⟩
  rw [List.length_set, hl, mapTo_set hk] at h1
  exact h1
theorem size_empty (s : ByteArray) : (s.toList.isEmpty = true ∧ (!s.toList.isEmpty) = false) ∨ 0 < s.size := by
  by_cases h : 0 < s.size
  · exact Or.inr h
  · left
    have := isEmpty h
    exact ⟨this, by rw [this]; rfl⟩

theorem errV_faces {c : Cap} (h : errV c = 0) : c.faces.length ≤ 4 := by
  unfold errV at h
  cases h1 : hugeB c with
  | true => simp [h1] at h
  | false => have := of_decide_eq_false h1; omega
theorem capM_faces {w : World} {b : Nat} {A : Option Addr} {c : Nat} {F : List Fac} {note : ByteArray} {rows : List (List Value)} (h : OwnL w b 79 3 FacE (.slice A F.length c) F rows) (he : errV ⟨note, F, [], [], []⟩ = 0) : CapM w w.heap.size ⟨A, c, none, 0, none, 0, none, 0⟩ ⟨note, F, [], [], []⟩ := by
  have hf := errV_faces he
  have hb := own_bounds h.own
  have hn : note.size ≤ 200 := by
    unfold errV at he
    cases h1 : hugeB ⟨note, F, [], [], []⟩ <;> cases h2 : capB ⟨note, F, [], [], []⟩ <;> simp [h1, h2] at he
    simp only [capB, Bool.and_eq_true] at h2
    exact textB_size h2.1.2
  have hf' : F.length ≤ 4 := hf
  exact ⟨by show note.size ≤ _; omega, OwnL.els h, els_nil, els_nil, els_nil, ⟨hb.1, by show F.length * 32 ≤ _; omega, hb.2⟩, ⟨Nat.le_refl _, (by decide : 0 * 40 ≤ 140737488355328), fun _ => rfl⟩, ⟨Nat.le_refl _, (by decide : 0 * 40 ≤ 140737488355328), fun _ => rfl⟩, ⟨Nat.le_refl _, (by decide : 0 * 64 ≤ 140737488355328), fun _ => rfl⟩⟩
theorem errV_plen {c : Cap} (h : errV c = 0) : c.pkts.length ≤ 100 := by
  unfold errV at h
  cases h1 : hugeB c with
  | true => simp [h1] at h
  | false => have := of_decide_eq_false h1; omega
theorem errV_pface {c : Cap} (h : errV c = 0) : ∀ p ∈ c.pkts, 0 ≤ p.face ∧ p.face < c.faces.length := by
  intro x hx
  unfold errV at h
  cases h1 : hugeB c <;> cases h2 : capB c <;> simp [h1, h2] at h
  simp only [capB, partsB, Bool.and_eq_true, decide_eq_true_eq] at h2
  have h3 := List.all_eq_true.1 h2.2.2.2.2 x hx
  simp only [pktB, Bool.and_eq_true, within_iff] at h3
  omega
theorem blk_ne {w : World} {a b t1 t2 : Nat} {c1 c2 : Array Value} (h1 : Blk w a t1 c1) (h2 : Blk w b t2 c2) (ht : t1 ≠ t2) : a ≠ b := by
  intro e
  subst e
  unfold Blk at h1 h2
  rw [h1] at h2
  injection h2 with h2
  injection h2 with _ h2
  exact ht h2
theorem below_undrew {B : Nat} {w w' : World} (h : Below B w.drew w') : Below B w w' := ⟨h.os, h.tape, h.output, h.size, h.block⟩
theorem keepA {w W W2 : World} {t : Nat} (h : AlikeT t w W) (hb : Below w.heap.size W W2) : AlikeT t w W2 :=
  ⟨Nat.le_trans h.1 hb.size, fun _ _ _ hs hk => (h.2 _ _ _ hs hk).below hb hk.lt⟩
theorem keepS {w W : World} {t G i : Nat} {u : Value} (h : AlikeT t w W) (hG : w.heap.size ≤ G) : AlikeT t w (W.setCell ⟨G, i, none⟩ u) :=
  ⟨by rw [size_set]; exact h.1, fun k _ _ hs hk => (h.2 _ _ _ hs hk).far (p := ⟨G, i, none⟩) (by have := hk.lt; show k ≠ G; omega) u⟩
theorem facL_els_lt {w W : World} {b n c : Nat} {A : Option Addr} {xs : List Fac} {rows : List (List Value)} (h : OwnL w b 79 3 FacE (.slice A n c) xs rows) (ha : AlikeT 50 w W) : Els 3 FacE W w.heap.size A xs := by
  intro h0
  obtain ⟨b', o, e, _, hi⟩ := OwnL.els (facL_alike h ha (by decide)) h0
  refine ⟨b', o, e, ?_, fun i hx => hi i hx⟩
  rcases h.own.2 with ⟨_, h1⟩ | ⟨g, cap, cur, hv, _, hg, _⟩
  · omega
  · injection hv with hv _ _
    rw [hv] at e
    injection e with e
    injection e with e _ _
    subst e
    exact (show Blk w g 79 cur from hg).lt
set_option maxRecDepth 100000 in
set_option maxHeartbeats 1000000 in
theorem addn_nil {w : World} {A : Option Addr} {c : Nat} (v : Value) : Calls Try.prog 96 #[v, .slice A 0 c, .func (.func 97) #[] #[]] w fun e w' => e = .returned v ∧ Below w.heap.size w w' := by
  have HB := Lib.hid ((Below.refl w.heap.size w).alloc (Nat.le_refl _) (.cells #[.func (.func 97) #[] #[]] 136))
  have hlt : decide ((0 : Int) < 0) = false := rfl
  go_enter Try.func96, Try.ntmps96
  go_wp2
  refine wp_loop_rounds 1 ?_
  rw [rounds_succ]
  go_wp2
  go_ret
  exact ⟨rfl, HB.out⟩
set_option maxRecDepth 100000 in
set_option maxHeartbeats 1000000 in
theorem adds_nil {w : World} {A : Option Addr} {c : Nat} (v : Value) : Calls Try.prog 98 #[v, .slice A 0 c, .func (.func 99) #[] #[]] w fun e w' => e = .returned v ∧ Below w.heap.size w w' := by
  have HB := Lib.hid ((Below.refl w.heap.size w).alloc (Nat.le_refl _) (.cells #[.func (.func 99) #[] #[]] 138))
  have hlt : decide ((0 : Int) < 0) = false := rfl
  go_enter Try.func98, Try.ntmps98
  go_wp2
  refine wp_loop_rounds 1 ?_
  rw [rounds_succ]
  go_wp2
  go_ret
  exact ⟨rfl, HB.out⟩


/-- What together asks and leaves of a row of captures. -/
structure Mov (w : World) (b g : Nat) (q : Nat → Pl) (l : List Cap) (P : Nat → List Pkt) : Prop where
  row : ∃ cs, Blk w g 31 cs ∧ ∀ i (h : i < l.length) j v, (capL (q i) l[i])[j]? = some v → cs[i * 5 + j]? = some v
  each : ∀ i (_ : i < l.length), ∃ w0 rows, OwnM pktKd w0 w b (.slice (q i).pp l[i].pkts.length (q i).cp) (P i) rows l[i].pkts.length
def Apart (n : Nat) (q : Nat → Pl) : Prop := ∀ i j, i < n → j < n → i ≠ j → ∀ k o r, (q i).pp = some ⟨k, o, r⟩ → ∀ o' r', (q j).pp ≠ some ⟨k, o', r'⟩
theorem apart_ne {n i j m c G : Nat} {q : Nat → Pl} (h : Apart n q) (hi : i < n) (hj : j < n) (hij : i ≠ j) (hG : (q i).pp = some ⟨G, 0, none⟩) : (Value.slice (q j).pp m c).ownBlock ≠ some G := by
  intro e
  cases hq : (q j).pp with
  | none => rw [hq] at e; simp [Value.ownBlock] at e
  | some a =>
    obtain ⟨k, o, r⟩ := a
    rw [hq] at e
    have : k = G := by simpa [Value.ownBlock] using e
    subst this
    exact h i j hi hj hij k 0 none hG o r hq

set_option maxRecDepth 100000 in
set_option maxHeartbeats 16000000 in
theorem tog_any {w : World} {b g c : Nat} {q : Nat → Pl} {l : List Cap} (hm : Mov w b g q l (fun i => (l[i]?.map Cap.pkts).getD [])) (hcap : ∀ i (_ : i < l.length), CapO w b (q i) l[i] ∧ errV l[i] = 0 ∧ l[i].names = [] ∧ l[i].secs = []) (hap : Apart l.length q)
    (hok : ∀ k, k ≤ l.length → 0 < k → errV (togA l k) = 0) (hb : b ≤ w.heap.size) (hl : l.length ≤ 100000) (hl0 : 0 < l.length) :
    Calls Try.prog 51 #[.slice (some ⟨g, 0, none⟩) l.length c] w fun e w' => ∃ A cF rows, e = .returned (.tuple #[.agg #[.string (togA l l.length).note, .slice A (togA l l.length).faces.length cF, .slice none 0 0, .slice none 0 0, .slice none 0 0], .int .i64 0]) ∧
      OwnL w' w.heap.size 79 3 FacE (.slice A (togA l l.length).faces.length cF) (togA l l.length).faces rows ∧ Below b w w' ∧ AlikeT 50 w w' ∧ Mov w' b g q l (fun i => (l[i]?.map (togP l l.length i)).getD []) := by
  obtain ⟨cs, hg, hrow⟩ := hm.row
  have HMe := Lib.hid hm.each
  have HROW := Lib.hid hrow
  have HG := Lib.hid hg
  have HCAP := Lib.hid hcap
  have HAP := Lib.hid hap
  have HOK := Lib.hid hok
  clear hm hrow hg hcap hap hok
  obtain ⟨B, hB⟩ : ∃ B, w.heap.size = B := ⟨_, rfl⟩
  have HBS := Lib.hid hB
  obtain ⟨W0, hW0⟩ : ∃ W0, (w.alloc (.cells #[.string ⟨#[]⟩, .slice none 0 0, .slice none 0 0, .slice none 0 0, .slice none 0 0] 31)).alloc (.cells #[.string ⟨#[]⟩, .slice none 0 0, .slice none 0 0, .slice none 0 0, .slice none 0 0] 31) = W0 := ⟨_, rfl⟩
  have hb0 : Below w.heap.size w W0 := by rw [← hW0]; exact ((Below.refl _ w).alloc (Nat.le_refl _) _).alloc (by rw [alloc_size]; omega) _
  have HZ0 : Hid (Blk W0 B 31 #[.string ⟨#[]⟩, .slice none 0 0, .slice none 0 0, .slice none 0 0, .slice none 0 0]) := Lib.hid (by rw [← hW0, ← hB]; exact (Blk.new _ _ _).alloc _)
  have HO0 : Hid (Blk W0 (B + 1) 31 #[.string ⟨#[]⟩, .slice none 0 0, .slice none 0 0, .slice none 0 0, .slice none 0 0]) := Lib.hid (by
    have h := Blk.new (w.alloc (.cells #[.string ⟨#[]⟩, .slice none 0 0, .slice none 0 0, .slice none 0 0, .slice none 0 0] 31)) 31 #[.string ⟨#[]⟩, .slice none 0 0, .slice none 0 0, .slice none 0 0, .slice none 0 0]
    rw [alloc_size, hB] at h
    rw [← hW0]; exact h)
  have HW0 : Hid (Below b w W0 ∧ AlikeT 50 w W0) := Lib.hid ⟨hb0.mono hb, AlikeT.below hb0⟩
  have HP0 : Hid (∀ i (_ : i < l.length), ∃ w0 rows, OwnM pktKd w0 W0 b (.slice (q i).pp l[i].pkts.length (q i).cp) (togP l 0 i l[i]) rows l[i].pkts.length) := Lib.hid (fun i hi => by
    obtain ⟨w0, rows, h⟩ := HMe.out i hi
    refine ⟨w0, rows, ?_⟩
    have e : togP l 0 i l[i] = (l[i]?.map Cap.pkts).getD [] := by simp [togP, hi]
    rw [e]
    exact h.below hb0)
  clear hb0 HMe
  rw [hB] at hb ⊢
  go_enter Try.func51, Try.ntmps51
  go_wp2
  clear hW0 hB
  go_loopw [12] (fun i wr => ∃ (k : Nat) (A : Option Addr) (cF : Nat) (F : List Fac) (note : ByteArray) (rows : List (List Value)), i = .int .i64 k ∧ k ≤ l.length ∧ F.length ≤ 4 ∧ Hid (togA l k = ⟨note, F, [], [], []⟩) ∧ Hid (Blk wr (B + 1) 31 #[.string note, .slice A F.length cF, .slice none 0 0, .slice none 0 0, .slice none 0 0]) ∧ Hid (Blk wr B 31 #[.string ⟨#[]⟩, .slice none 0 0, .slice none 0 0, .slice none 0 0, .slice none 0 0]) ∧ Hid (OwnL wr B 79 3 FacE (.slice A F.length cF) F rows) ∧ Hid (Below b w wr ∧ AlikeT 50 w wr) ∧
      Hid (∀ i (_ : i < l.length), ∃ w0 rows, OwnM pktKd w0 wr b (.slice (q i).pp l[i].pkts.length (q i).cp) (togP l k i l[i]) rows l[i].pkts.length)) (fun i _ => l.length - (intOf i).toNat)
  case atStart => exact ⟨0, none, 0, [], ⟨#[]⟩, [], rfl, Nat.zero_le _, Nat.zero_le _, Lib.hid rfl, HO0, HZ0, Lib.hid (ownL_nil B), HW0, HP0⟩
  case round =>
    obtain ⟨k, A, cF, F, note, rows, rfl, hk, hn4, HT, HO, HZ, HF, HW, HP⟩ := hrel
    by_cases hlt : k < l.length
    · have HTS := Lib.hid (togA_succ l k hlt)
      obtain ⟨x, hx⟩ : ∃ x, l[k] = x := ⟨_, rfl⟩
      obtain ⟨hcm, hev, hnn, hss⟩ := HCAP.out k hlt
      have hcs := HROW.out k hlt
      have HEV := Lib.hid hev
      have HPK := Lib.hid (HP.out k hlt)
      rw [hx] at hcm hnn hss HTS hcs HEV HPK
      rw [togP_self] at HPK
      obtain ⟨qk, hqk⟩ : ∃ qk, q k = qk := ⟨_, rfl⟩
      have HQK := Lib.hid hqk
      have HX := Lib.hid hx
      rw [hqk] at hcm hcs HPK
      obtain ⟨pf, cf, pn, cn, ps, cs', pp, cp⟩ := qk
      have hgr : Blk wr g 31 cs := HW.out.2.2 _ _ _ (by decide) HG.out
      have hnl : x.names.length = 0 := by rw [hnn]; rfl
      have hsl : x.secs.length = 0 := by rw [hss]; rfl
      have cc : ∀ j v, (capL ⟨pf, cf, pn, cn, ps, cs', pp, cp⟩ x)[j]? = some v → wr.cell? ⟨g, k * 5 + j, none⟩ = some v := fun j v hj => (hgr.cell _).trans (hcs j v hj)
      unfold capL at cc
      simp only [hnl, hsl] at cc
      have c0 : wr.cell? ⟨g, k * 5, none⟩ = some (.string x.note) := cc 0 _ rfl
      have c1 := cc 1 _ rfl
      have c2 := cc 2 _ rfl
      have c3 := cc 3 _ rfl
      have c4 := cc 4 _ rfl
      have hgl : g < wr.heap.size := hgr.lt
      have hBl : B + 1 < wr.heap.size := HO.out.lt
      have HCM := Lib.hid hcm.capM
      obtain ⟨frows, hfo⟩ := hcm.faces
      have HFO := Lib.hid hfo
      clear hfo
      clear cc hcs hgr hqk hx hev hcm hnn hss
      obtain ⟨fl, hfl⟩ : ∃ fl, x.faces.length = fl := ⟨_, rfl⟩
      obtain ⟨pl, hpl⟩ : ∃ pl, x.pkts.length = pl := ⟨_, rfl⟩
      have HFL := Lib.hid hfl
      have HPL := Lib.hid hpl
      rw [hfl] at c1
      rw [hpl] at c4
      clear hfl hpl hnl hsl
      obtain ⟨C, hC⟩ : ∃ C, wr.heap.size = C := ⟨_, rfl⟩
      obtain ⟨W1, hW1⟩ : ∃ W1, wr.alloc (.cells #[.string x.note, .slice pf fl cf, .slice pn 0 cn, .slice ps 0 cs', .slice pp pl cp] 31) = W1 := ⟨_, rfl⟩
      have hb1 : Below wr.heap.size wr W1 := by rw [← hW1]; exact (Below.refl _ _).alloc (Nat.le_refl _) _
      have hK1 : Blk W1 C 31 #[.string x.note, .slice pf fl cf, .slice pn 0 cn, .slice ps 0 cs', .slice pp pl cp] := by rw [← hW1, ← hC]; exact Blk.new _ _ _
      have HC1 := Lib.hid hK1
      have HO1 := Lib.hid (HO.out.below hb1 (by omega))
      have HZ1 := Lib.hid (HZ.out.below hb1 (by omega))
      have HF1 := Lib.hid (HF.out.kept facK hb1)
      have hBw : b ≤ wr.heap.size := by omega
      have HW1 : Hid (Below b w W1 ∧ AlikeT 50 w W1) := Lib.hid ⟨HW.out.1.trans (hb1.mono hBw), HW.out.2.trans (AlikeT.below hb1)⟩
      have HP1 : Hid (∀ i (_ : i < l.length), ∃ w0 rows, OwnM pktKd w0 W1 b (.slice (q i).pp l[i].pkts.length (q i).cp) (togP l k i l[i]) rows l[i].pkts.length) := Lib.hid (fun i hi => by
        obtain ⟨w0, r, h⟩ := HP.out i hi
        exact ⟨w0, r, h.below hb1⟩)
      clear hb1 HO HZ HF HW HP HPK
      have hBC : B + 1 < C := by omega
      -- the note
      obtain ⟨note2, hnote2⟩ : ∃ s, (if note.size = 0 then x.note else note) = s := ⟨_, rfl⟩
      have HTN : Hid (togA l (k + 1) = ⟨note2, addF F x.faces, [], [], []⟩) := Lib.hid (by rw [HTS.out, HT.out]; unfold togS; rw [← hnote2])
      have o0 : W1.cell? ⟨B + 1, 0, none⟩ = some (.string note) := HO1.out.cell 0
      have x0 : W1.cell? ⟨C, 0, none⟩ = some (.string x.note) := hK1.cell 0
      have fo0 : W1.frozen? ⟨B + 1, 0, none⟩ = false := HO1.out.frozen 0
      clear hK1
      have hcF := own_bounds HF1.out.own
      rcases size_empty note with ⟨he1, he2⟩ | hpos
      · have hn0 : note.size = 0 := by
          have := he1
          rcases Nat.eq_zero_or_pos note.size with h | h
          · exact h
          · exact absurd he1 (by rw [notEmpty h]; decide)
        have hne : x.note = note2 := by rw [← hnote2, if_pos hn0]
        have HO2 : Hid (Blk (W1.setCell ⟨B + 1, 0, none⟩ (.string x.note)) (B + 1) 31 #[.string note2, .slice A F.length cF, .slice none 0 0, .slice none 0 0, .slice none 0 0]) := Lib.hid (by rw [hne]; simpa using HO1.out.set_ 0 (.string note2))
        have ha2 : AlikeT 31 W1 (W1.setCell ⟨B + 1, 0, none⟩ (.string x.note)) := AlikeT.set HO1.out _
        have HC2 : Hid (Blk (W1.setCell ⟨B + 1, 0, none⟩ (.string x.note)) C 31 #[.string x.note, .slice pf fl cf, .slice pn 0 cn, .slice ps 0 cs', .slice pp pl cp]) := Lib.hid (HC1.out.far (p := ⟨B + 1, 0, none⟩) (by show C ≠ B + 1; omega) _)
        have HZ2 : Hid (Blk (W1.setCell ⟨B + 1, 0, none⟩ (.string x.note)) B 31 #[.string ⟨#[]⟩, .slice none 0 0, .slice none 0 0, .slice none 0 0, .slice none 0 0]) := Lib.hid (HZ1.out.far (p := ⟨B + 1, 0, none⟩) (by show B ≠ B + 1; omega) _)
        have HF2 : Hid (OwnL (W1.setCell ⟨B + 1, 0, none⟩ (.string x.note)) B 79 3 FacE (.slice A F.length cF) F rows) := Lib.hid (facL_alike HF1.out ha2 (by decide))
        have HW2 : Hid (Below b w (W1.setCell ⟨B + 1, 0, none⟩ (.string x.note)) ∧ AlikeT 50 w (W1.setCell ⟨B + 1, 0, none⟩ (.string x.note))) := Lib.hid ⟨HW1.out.1.setCell (p := ⟨B + 1, 0, none⟩) (by show b ≤ B + 1; omega) _, keepS HW1.out.2 (by rw [HBS.out]; omega)⟩
        have HP2 : Hid (∀ i (_ : i < l.length), ∃ w0 rows, OwnM pktKd w0 (W1.setCell ⟨B + 1, 0, none⟩ (.string x.note)) b (.slice (q i).pp l[i].pkts.length (q i).cp) (togP l k i l[i]) rows l[i].pkts.length) := Lib.hid (fun i hi => by
          obtain ⟨w0, r, h⟩ := HP1.out i hi
          exact ⟨w0, r, h.alike ha2 (by decide) (by decide)⟩)
        have o1 : (W1.setCell ⟨B + 1, 0, none⟩ (.string x.note)).cell? ⟨B + 1, 1, none⟩ = some (.slice A F.length cF) := HO2.out.cell 1
        have x1 : (W1.setCell ⟨B + 1, 0, none⟩ (.string x.note)).cell? ⟨C, 1, none⟩ = some (.slice pf fl cf) := HC2.out.cell 1
        clear ha2 hne hn0 hnote2 HO1 HC1 HZ1 HF1 HW1 HP1
        go_wp2_with fail
        clear hW1 hC o0 x0 fo0 he1 he2 c0 c1 c2 c3 c4 o1 x1
        generalize W1.setCell ⟨B + 1, 0, none⟩ (.string x.note) = W2 at HO2 HC2 HZ2 HF2 HW2 HP2 ⊢
        have hbB : B ≤ W2.heap.size := by have := HO2.out.lt; omega
        have hxf : x.faces.length ≤ 4 := errV_faces HEV.out
        have HEL := Lib.hid (facL_els_lt HFO.out HW2.out.2)
        have HAF : Hid (Calls Try.prog 94 #[.slice A F.length cF, .slice pf fl cf, .func (.func 95) #[] #[]] W2 fun e w' => ∃ A' c' rows', e = .returned (.slice A' (addF F x.faces).length c') ∧ OwnL w' B 79 3 FacE (.slice A' (addF F x.faces).length c') (addF F x.faces) rows' ∧ Below B W2 w' ∧ AlikeT 79 W2 w') := Lib.hid (by
          have h := addf_any (c2 := cf) HF2.out (by have := HEL.out; rw [HBS.out] at this; exact this) hbB (by omega)
          rw [HFL.out] at h
          exact h)
        with_reducible refine HAF.out.mono ?_
        rintro e W3 ⟨A2, c2, rows2, rfl, hof, hbf, haf⟩
        obtain ⟨F2, hF2⟩ : ∃ F2, addF F x.faces = F2 := ⟨_, rfl⟩
        rw [hF2] at HTN hof ⊢
        have HE2 : Hid (errV ⟨note2, F2, [], [], []⟩ = 0) := Lib.hid (by rw [← HTN.out]; exact HOK.out (k + 1) hlt (Nat.succ_pos k))
        have hF24 : F2.length ≤ 4 := errV_faces (c := ⟨note2, F2, [], [], []⟩) HE2.out
        have hsz3 : W2.heap.size ≤ W3.heap.size := haf.1
        have HOW3 : Hid (Blk W3 (B + 1) 31 #[.string note2, .slice A F.length cF, .slice none 0 0, .slice none 0 0, .slice none 0 0]) := Lib.hid (haf.2 _ _ _ (by decide) HO2.out)
        have HCW3 : Hid (Blk W3 C 31 #[.string x.note, .slice pf fl cf, .slice pn 0 cn, .slice ps 0 cs', .slice pp pl cp]) := Lib.hid (haf.2 _ _ _ (by decide) HC2.out)
        have HZW3 : Hid (Blk W3 B 31 #[.string ⟨#[]⟩, .slice none 0 0, .slice none 0 0, .slice none 0 0, .slice none 0 0]) := Lib.hid (haf.2 _ _ _ (by decide) HZ2.out)
        have HFW3 : Hid (OwnL W3 B 79 3 FacE (.slice A2 F2.length c2) F2 rows2) := Lib.hid hof
        have HWW3 : Hid (Below b w W3 ∧ AlikeT 50 w W3) := Lib.hid ⟨HW2.out.1.trans (hbf.mono hb), keepA HW2.out.2 (by rw [HBS.out]; exact hbf)⟩
        have HPW3 : Hid (∀ i (_ : i < l.length), ∃ w0 rows, OwnM pktKd w0 W3 b (.slice (q i).pp l[i].pkts.length (q i).cp) (togP l k i l[i]) rows l[i].pkts.length) := Lib.hid (fun i hi => by
          obtain ⟨w0, r, h⟩ := HP2.out i hi
          exact ⟨w0, r, h.alike haf (by decide) (by decide)⟩)
        clear hof hbf haf HAF HEL HO2 HC2 HZ2 HF2 HW2 HP2 hsz3 hF2 hcF
        have o1 : W3.cell? ⟨B + 1, 1, none⟩ = some (.slice A F.length cF) := HOW3.out.cell 1
        have f1 : W3.frozen? ⟨B + 1, 1, none⟩ = false := HOW3.out.frozen 1
        have haW4 : AlikeT 31 W3 (W3.setCell ⟨B + 1, 1, none⟩ (.slice A2 F2.length c2)) := AlikeT.set HOW3.out _
        have HOW4 : Hid (Blk (W3.setCell ⟨B + 1, 1, none⟩ (.slice A2 F2.length c2)) (B + 1) 31 #[.string note2, .slice A2 F2.length c2, .slice none 0 0, .slice none 0 0, .slice none 0 0]) := Lib.hid (by simpa using HOW3.out.set_ 1 (.slice A2 F2.length c2))
        have HCW4 : Hid (Blk (W3.setCell ⟨B + 1, 1, none⟩ (.slice A2 F2.length c2)) C 31 #[.string x.note, .slice pf fl cf, .slice pn 0 cn, .slice ps 0 cs', .slice pp pl cp]) := Lib.hid (HCW3.out.far (p := ⟨B + 1, 1, none⟩) (by show C ≠ B + 1; omega) _)
        have HZW4 : Hid (Blk (W3.setCell ⟨B + 1, 1, none⟩ (.slice A2 F2.length c2)) B 31 #[.string ⟨#[]⟩, .slice none 0 0, .slice none 0 0, .slice none 0 0, .slice none 0 0]) := Lib.hid (HZW3.out.far (p := ⟨B + 1, 1, none⟩) (by show B ≠ B + 1; omega) _)
        have HFW4 : Hid (OwnL (W3.setCell ⟨B + 1, 1, none⟩ (.slice A2 F2.length c2)) B 79 3 FacE (.slice A2 F2.length c2) F2 rows2) := Lib.hid (facL_alike HFW3.out haW4 (by decide))
        have HWW4 : Hid (Below b w (W3.setCell ⟨B + 1, 1, none⟩ (.slice A2 F2.length c2)) ∧ AlikeT 50 w (W3.setCell ⟨B + 1, 1, none⟩ (.slice A2 F2.length c2))) := Lib.hid ⟨HWW3.out.1.setCell (p := ⟨B + 1, 1, none⟩) (by show b ≤ B + 1; omega) _, keepS HWW3.out.2 (by rw [HBS.out]; omega)⟩
        have HPW4 : Hid (∀ i (_ : i < l.length), ∃ w0 rows, OwnM pktKd w0 (W3.setCell ⟨B + 1, 1, none⟩ (.slice A2 F2.length c2)) b (.slice (q i).pp l[i].pkts.length (q i).cp) (togP l k i l[i]) rows l[i].pkts.length) := Lib.hid (fun i hi => by
          obtain ⟨w0, r, h⟩ := HPW3.out i hi
          exact ⟨w0, r, h.alike haW4 (by decide) (by decide)⟩)
        clear haW4 HOW3 HCW3 HZW3 HFW3 HWW3 HPW3
        have o2 : (W3.setCell ⟨B + 1, 1, none⟩ (.slice A2 F2.length c2)).cell? ⟨B + 1, 2, none⟩ = some (.slice none 0 0) := HOW4.out.cell 2
        have x2 : (W3.setCell ⟨B + 1, 1, none⟩ (.slice A2 F2.length c2)).cell? ⟨C, 2, none⟩ = some (.slice pn 0 cn) := HCW4.out.cell 2
        go_wp2_with fail
        clear o1 f1 o2 x2
        generalize W3.setCell ⟨B + 1, 1, none⟩ (.slice A2 F2.length c2) = W4 at HOW4 HCW4 HZW4 HFW4 HWW4 HPW4 ⊢
        with_reducible refine (addn_nil (w := W4) _).mono ?_
        rintro e W5 ⟨rfl, hb5⟩
        have HOW5 : Hid (Blk W5 (B + 1) 31 #[.string note2, .slice A2 F2.length c2, .slice none 0 0, .slice none 0 0, .slice none 0 0]) := Lib.hid (HOW4.out.below hb5 HOW4.out.lt)
        have HCW5 : Hid (Blk W5 C 31 #[.string x.note, .slice pf fl cf, .slice pn 0 cn, .slice ps 0 cs', .slice pp pl cp]) := Lib.hid (HCW4.out.below hb5 HCW4.out.lt)
        have HZW5 : Hid (Blk W5 B 31 #[.string ⟨#[]⟩, .slice none 0 0, .slice none 0 0, .slice none 0 0, .slice none 0 0]) := Lib.hid (HZW4.out.below hb5 HZW4.out.lt)
        have HFW5 : Hid (OwnL W5 B 79 3 FacE (.slice A2 F2.length c2) F2 rows2) := Lib.hid (HFW4.out.kept facK hb5)
        have HWW5 : Hid (Below b w W5 ∧ AlikeT 50 w W5) := Lib.hid ⟨HWW4.out.1.trans (hb5.mono (by have := HOW4.out.lt; omega)), HWW4.out.2.trans (AlikeT.below hb5)⟩
        have HPW5 : Hid (∀ i (_ : i < l.length), ∃ w0 rows, OwnM pktKd w0 W5 b (.slice (q i).pp l[i].pkts.length (q i).cp) (togP l k i l[i]) rows l[i].pkts.length) := Lib.hid (fun i hi => by
          obtain ⟨w0, r, h⟩ := HPW4.out i hi
          exact ⟨w0, r, h.below hb5⟩)
        clear hb5 HOW4 HCW4 HZW4 HFW4 HWW4 HPW4
        have o2 : W5.cell? ⟨B + 1, 2, none⟩ = some (.slice none 0 0) := HOW5.out.cell 2
        have f2 : W5.frozen? ⟨B + 1, 2, none⟩ = false := HOW5.out.frozen 2
        have haW6 : AlikeT 31 W5 (W5.setCell ⟨B + 1, 2, none⟩ (.slice none 0 0)) := AlikeT.set HOW5.out _
        have HOW6 : Hid (Blk (W5.setCell ⟨B + 1, 2, none⟩ (.slice none 0 0)) (B + 1) 31 #[.string note2, .slice A2 F2.length c2, .slice none 0 0, .slice none 0 0, .slice none 0 0]) := Lib.hid (by simpa using HOW5.out.set_ 2 (.slice none 0 0))
        have HCW6 : Hid (Blk (W5.setCell ⟨B + 1, 2, none⟩ (.slice none 0 0)) C 31 #[.string x.note, .slice pf fl cf, .slice pn 0 cn, .slice ps 0 cs', .slice pp pl cp]) := Lib.hid (HCW5.out.far (p := ⟨B + 1, 2, none⟩) (by show C ≠ B + 1; omega) _)
        have HZW6 : Hid (Blk (W5.setCell ⟨B + 1, 2, none⟩ (.slice none 0 0)) B 31 #[.string ⟨#[]⟩, .slice none 0 0, .slice none 0 0, .slice none 0 0, .slice none 0 0]) := Lib.hid (HZW5.out.far (p := ⟨B + 1, 2, none⟩) (by show B ≠ B + 1; omega) _)
        have HFW6 : Hid (OwnL (W5.setCell ⟨B + 1, 2, none⟩ (.slice none 0 0)) B 79 3 FacE (.slice A2 F2.length c2) F2 rows2) := Lib.hid (facL_alike HFW5.out haW6 (by decide))
        have HWW6 : Hid (Below b w (W5.setCell ⟨B + 1, 2, none⟩ (.slice none 0 0)) ∧ AlikeT 50 w (W5.setCell ⟨B + 1, 2, none⟩ (.slice none 0 0))) := Lib.hid ⟨HWW5.out.1.setCell (p := ⟨B + 1, 2, none⟩) (by show b ≤ B + 1; omega) _, keepS HWW5.out.2 (by rw [HBS.out]; omega)⟩
        have HPW6 : Hid (∀ i (_ : i < l.length), ∃ w0 rows, OwnM pktKd w0 (W5.setCell ⟨B + 1, 2, none⟩ (.slice none 0 0)) b (.slice (q i).pp l[i].pkts.length (q i).cp) (togP l k i l[i]) rows l[i].pkts.length) := Lib.hid (fun i hi => by
          obtain ⟨w0, r, h⟩ := HPW5.out i hi
          exact ⟨w0, r, h.alike haW6 (by decide) (by decide)⟩)
        clear haW6 HOW5 HCW5 HZW5 HFW5 HWW5 HPW5
        have o3 : (W5.setCell ⟨B + 1, 2, none⟩ (.slice none 0 0)).cell? ⟨B + 1, 3, none⟩ = some (.slice none 0 0) := HOW6.out.cell 3
        have x3 : (W5.setCell ⟨B + 1, 2, none⟩ (.slice none 0 0)).cell? ⟨C, 3, none⟩ = some (.slice ps 0 cs') := HCW6.out.cell 3
        go_wp2_with fail
        clear o2 f2 o3 x3
        generalize W5.setCell ⟨B + 1, 2, none⟩ (.slice none 0 0) = W6 at HOW6 HCW6 HZW6 HFW6 HWW6 HPW6 ⊢
        with_reducible refine (adds_nil (w := W6) _).mono ?_
        rintro e W7 ⟨rfl, hb7⟩
        have HOW7 : Hid (Blk W7 (B + 1) 31 #[.string note2, .slice A2 F2.length c2, .slice none 0 0, .slice none 0 0, .slice none 0 0]) := Lib.hid (HOW6.out.below hb7 HOW6.out.lt)
        have HCW7 : Hid (Blk W7 C 31 #[.string x.note, .slice pf fl cf, .slice pn 0 cn, .slice ps 0 cs', .slice pp pl cp]) := Lib.hid (HCW6.out.below hb7 HCW6.out.lt)
        have HZW7 : Hid (Blk W7 B 31 #[.string ⟨#[]⟩, .slice none 0 0, .slice none 0 0, .slice none 0 0, .slice none 0 0]) := Lib.hid (HZW6.out.below hb7 HZW6.out.lt)
        have HFW7 : Hid (OwnL W7 B 79 3 FacE (.slice A2 F2.length c2) F2 rows2) := Lib.hid (HFW6.out.kept facK hb7)
        have HWW7 : Hid (Below b w W7 ∧ AlikeT 50 w W7) := Lib.hid ⟨HWW6.out.1.trans (hb7.mono (by have := HOW6.out.lt; omega)), HWW6.out.2.trans (AlikeT.below hb7)⟩
        have HPW7 : Hid (∀ i (_ : i < l.length), ∃ w0 rows, OwnM pktKd w0 W7 b (.slice (q i).pp l[i].pkts.length (q i).cp) (togP l k i l[i]) rows l[i].pkts.length) := Lib.hid (fun i hi => by
          obtain ⟨w0, r, h⟩ := HPW6.out i hi
          exact ⟨w0, r, h.below hb7⟩)
        clear hb7 HOW6 HCW6 HZW6 HFW6 HWW6 HPW6
        have o3 : W7.cell? ⟨B + 1, 3, none⟩ = some (.slice none 0 0) := HOW7.out.cell 3
        have f3 : W7.frozen? ⟨B + 1, 3, none⟩ = false := HOW7.out.frozen 3
        have haW8 : AlikeT 31 W7 (W7.setCell ⟨B + 1, 3, none⟩ (.slice none 0 0)) := AlikeT.set HOW7.out _
        have HOW8 : Hid (Blk (W7.setCell ⟨B + 1, 3, none⟩ (.slice none 0 0)) (B + 1) 31 #[.string note2, .slice A2 F2.length c2, .slice none 0 0, .slice none 0 0, .slice none 0 0]) := Lib.hid (by simpa using HOW7.out.set_ 3 (.slice none 0 0))
        have HCW8 : Hid (Blk (W7.setCell ⟨B + 1, 3, none⟩ (.slice none 0 0)) C 31 #[.string x.note, .slice pf fl cf, .slice pn 0 cn, .slice ps 0 cs', .slice pp pl cp]) := Lib.hid (HCW7.out.far (p := ⟨B + 1, 3, none⟩) (by show C ≠ B + 1; omega) _)
        have HZW8 : Hid (Blk (W7.setCell ⟨B + 1, 3, none⟩ (.slice none 0 0)) B 31 #[.string ⟨#[]⟩, .slice none 0 0, .slice none 0 0, .slice none 0 0, .slice none 0 0]) := Lib.hid (HZW7.out.far (p := ⟨B + 1, 3, none⟩) (by show B ≠ B + 1; omega) _)
        have HFW8 : Hid (OwnL (W7.setCell ⟨B + 1, 3, none⟩ (.slice none 0 0)) B 79 3 FacE (.slice A2 F2.length c2) F2 rows2) := Lib.hid (facL_alike HFW7.out haW8 (by decide))
        have HWW8 : Hid (Below b w (W7.setCell ⟨B + 1, 3, none⟩ (.slice none 0 0)) ∧ AlikeT 50 w (W7.setCell ⟨B + 1, 3, none⟩ (.slice none 0 0))) := Lib.hid ⟨HWW7.out.1.setCell (p := ⟨B + 1, 3, none⟩) (by show b ≤ B + 1; omega) _, keepS HWW7.out.2 (by rw [HBS.out]; omega)⟩
        have HPW8 : Hid (∀ i (_ : i < l.length), ∃ w0 rows, OwnM pktKd w0 (W7.setCell ⟨B + 1, 3, none⟩ (.slice none 0 0)) b (.slice (q i).pp l[i].pkts.length (q i).cp) (togP l k i l[i]) rows l[i].pkts.length) := Lib.hid (fun i hi => by
          obtain ⟨w0, r, h⟩ := HPW7.out i hi
          exact ⟨w0, r, h.alike haW8 (by decide) (by decide)⟩)
        clear haW8 HOW7 HCW7 HZW7 HFW7 HWW7 HPW7
        have p0 : (W7.setCell ⟨B + 1, 3, none⟩ (.slice none 0 0)).cell? ⟨B + 1, 0, none⟩ = some (.string note2) := HOW8.out.cell 0
        have p1 : (W7.setCell ⟨B + 1, 3, none⟩ (.slice none 0 0)).cell? ⟨B + 1, 1, none⟩ = some (.slice A2 F2.length c2) := HOW8.out.cell 1
        have p2 : (W7.setCell ⟨B + 1, 3, none⟩ (.slice none 0 0)).cell? ⟨B + 1, 2, none⟩ = some (.slice none 0 0) := HOW8.out.cell 2
        have p3 : (W7.setCell ⟨B + 1, 3, none⟩ (.slice none 0 0)).cell? ⟨B + 1, 3, none⟩ = some (.slice none 0 0) := HOW8.out.cell 3
        have p4 : (W7.setCell ⟨B + 1, 3, none⟩ (.slice none 0 0)).cell? ⟨B + 1, 4, none⟩ = some (.slice none 0 0) := HOW8.out.cell 4
        go_wp2_with fail
        clear o3 f3 p0 p1 p2 p3 p4
        generalize W7.setCell ⟨B + 1, 3, none⟩ (.slice none 0 0) = W8 at HOW8 HCW8 HZW8 HFW8 HWW8 HPW8 ⊢
        have HVV : Hid (Calls Try.prog 61 #[.agg #[.string note2, .slice A2 F2.length c2, .slice none 0 0, .slice none 0 0, .slice none 0 0]] W8 fun e w' => e = .returned (.int .i64 0) ∧ Below W8.heap.size W8 w') := Lib.hid (by
          have h := vald_any (w := W8) (p := ⟨A2, c2, none, 0, none, 0, none, 0⟩) (c := ⟨note2, F2, [], [], []⟩) (capM_faces HFW8.out HE2.out)
          rw [HE2.out] at h
          exact h)
        with_reducible refine HVV.out.mono ?_
        rintro e W9 ⟨rfl, hb9⟩
        clear HVV
        have HOW9 : Hid (Blk W9 (B + 1) 31 #[.string note2, .slice A2 F2.length c2, .slice none 0 0, .slice none 0 0, .slice none 0 0]) := Lib.hid (HOW8.out.below hb9 HOW8.out.lt)
        have HCW9 : Hid (Blk W9 C 31 #[.string x.note, .slice pf fl cf, .slice pn 0 cn, .slice ps 0 cs', .slice pp pl cp]) := Lib.hid (HCW8.out.below hb9 HCW8.out.lt)
        have HZW9 : Hid (Blk W9 B 31 #[.string ⟨#[]⟩, .slice none 0 0, .slice none 0 0, .slice none 0 0, .slice none 0 0]) := Lib.hid (HZW8.out.below hb9 HZW8.out.lt)
        have HFW9 : Hid (OwnL W9 B 79 3 FacE (.slice A2 F2.length c2) F2 rows2) := Lib.hid (HFW8.out.kept facK hb9)
        have HWW9 : Hid (Below b w W9 ∧ AlikeT 50 w W9) := Lib.hid ⟨HWW8.out.1.trans (hb9.mono (by have := HOW8.out.lt; omega)), HWW8.out.2.trans (AlikeT.below hb9)⟩
        have HPW9 : Hid (∀ i (_ : i < l.length), ∃ w0 rows, OwnM pktKd w0 W9 b (.slice (q i).pp l[i].pkts.length (q i).cp) (togP l k i l[i]) rows l[i].pkts.length) := Lib.hid (fun i hi => by
          obtain ⟨w0, r, h⟩ := HPW8.out i hi
          exact ⟨w0, r, h.below hb9⟩)
        clear hb9 HOW8 HCW8 HZW8 HFW8 HWW8 HPW8
        have x4 : W9.cell? ⟨C, 4, none⟩ = some (.slice pp pl cp) := HCW9.out.cell 4
        obtain ⟨wk, rk0, hok0⟩ := HPW9.out k hlt
        have HOK0 : Hid (OwnM pktKd wk W9 b (.slice pp pl cp) (mapTo (faceP F2 x.faces) 0 x.pkts) rk0 pl) := Lib.hid (by
          have h := hok0
          rw [togP_self] at h
          rw [mapTo_zero, ← HPL.out]
          have e1 := HX.out
          have e2 := HQK.out
          simp only [e1, e2] at h
          exact h)
        have HOT0 : Hid (∀ i (_ : i < l.length), i ≠ k → ∃ w0 rows, OwnM pktKd w0 W9 b (.slice (q i).pp l[i].pkts.length (q i).cp) (togP l k i l[i]) rows l[i].pkts.length) := Lib.hid (fun i hi _ => HPW9.out i hi)
        have HPF : Hid (∀ p ∈ x.pkts, 0 ≤ p.face ∧ p.face < x.faces.length) := Lib.hid (errV_pface HEV.out)
        have HFOC := Lib.hid (facL_alike HFO.out HWW9.out.2 (by decide))
        have hplm : pl ≤ 100 := by rw [← HPL.out]; exact errV_plen HEV.out
        clear hok0 HPW9
        go_wp2
        clear x4
        go_loopw [49] (fun i wr => ∃ (m : Nat) (rk : List (List Value)), i = .int .i64 m ∧ m ≤ pl ∧ Hid (OwnM pktKd wk wr b (.slice pp pl cp) (mapTo (faceP F2 x.faces) m x.pkts) rk pl) ∧ Hid (∀ i (_ : i < l.length), i ≠ k → ∃ w0 rows, OwnM pktKd w0 wr b (.slice (q i).pp l[i].pkts.length (q i).cp) (togP l k i l[i]) rows l[i].pkts.length) ∧ Hid (AlikeT 50 W9 wr) ∧ Hid (Below b w wr)) (fun i _ => pl - (intOf i).toNat)
        case atStart => exact ⟨0, rk0, rfl, Nat.zero_le _, HOK0, HOT0, Lib.hid (AlikeT.refl _ _), Lib.hid HWW9.out.1⟩
        case round =>
          obtain ⟨m, rk, rfl, hmk, HR, HO, HA, HB⟩ := hrel
          have HCr : Hid (Blk wr C 31 #[.string x.note, .slice pf fl cf, .slice pn 0 cn, .slice ps 0 cs', .slice pp pl cp]) := Lib.hid (HA.out.2 _ _ _ (by decide) HCW9.out)
          have HOr : Hid (Blk wr (B + 1) 31 #[.string note2, .slice A2 F2.length c2, .slice none 0 0, .slice none 0 0, .slice none 0 0]) := Lib.hid (HA.out.2 _ _ _ (by decide) HOW9.out)
          by_cases hml : m < pl
          · have hmx : m < x.pkts.length := by rw [HPL.out]; exact hml
            have hmm : m < (mapTo (faceP F2 x.faces) m x.pkts).length := by rw [mapTo_len]; exact hmx
            have hml2 : (mapTo (faceP F2 x.faces) m x.pkts).length = pl := by rw [mapTo_len]; exact HPL.out
            obtain ⟨G, cap, gs, A3, c3, hv, hbG, hGb, _, _, _, _, hro⟩ := OwnM.readO (κ := pktKd) (k := m) (xs := mapTo (faceP F2 x.faces) m x.pkts) (by rw [hml2]; exact HR.out) pktR hmm
            rw [mapTo_at hmx hmm] at hro
            rw [hml2] at hv
            injection hv with hv1 _ hv3
            subst hv3
            subst hv1
            obtain ⟨p, hp⟩ : ∃ p, x.pkts[m] = p := ⟨_, rfl⟩
            have HPX := Lib.hid hp
            have hpf := HPF.out _ (List.getElem_mem hmx)
            rw [hp] at hro hpf
            obtain ⟨fi, hfi⟩ : ∃ fi : Nat, p.face = fi := ⟨p.face.toNat, by omega⟩
            have HFI := Lib.hid hfi
            have hfl2 : fi < x.faces.length := by omega
            have hflt : fi < fl := by rw [← HFL.out]; exact hfl2
            obtain ⟨dl, hdl⟩ : ∃ dl, p.data.length = dl := ⟨_, rfl⟩
            have d0 : wr.cell? ⟨G, m * 5, none⟩ = some (.int .i64 p.time) := hro 0 _ rfl
            have d1 : wr.cell? ⟨G, m * 5 + 1, none⟩ = some (.int .i64 fi) := by rw [← hfi]; exact hro 1 _ rfl
            have d2 : wr.cell? ⟨G, m * 5 + 2, none⟩ = some (.int .i64 p.real) := hro 2 _ rfl
            have d3 : wr.cell? ⟨G, m * 5 + 3, none⟩ = some (.slice A3 dl c3) := by rw [← hdl]; exact hro 3 _ rfl
            have d4 : wr.cell? ⟨G, m * 5 + 4, none⟩ = some (.string p.note) := hro 4 _ rfl
            clear hro hdl hfi hp
            obtain ⟨bf, capf, gfs, hvf, _, hbfb, _, e0, e1, e2⟩ := facL_read (facL_alike HFOC.out HA.out (by decide)) hfl2
            obtain ⟨y, hy⟩ : ∃ y, x.faces[fi] = y := ⟨_, rfl⟩
            have HY := Lib.hid hy
            rw [hy] at e0 e1 e2
            injection hvf with hvf1 _ hvf3
            subst hvf1
            subst hvf3
            have hGbf : G ≠ bf := blk_ne hGb hbfb (by decide)
            have hGC : G ≠ C := blk_ne hGb HCr.out (by decide)
            have hGB : G ≠ B + 1 := blk_ne hGb HOr.out (by decide)
            clear hy hbfb
            obtain ⟨N, hN⟩ : ∃ N, wr.heap.size = N := ⟨_, rfl⟩
            have hCN : C < N := by rw [← hN]; exact HCr.out.lt
            have hbfN : bf < N := by rw [← hN]; exact cell_lt e0
            have hGN : G < N := by rw [← hN]; exact cell_lt d0
            obtain ⟨W10, hW10⟩ : ∃ W10, wr.alloc (.cells #[.int .i64 p.time, .int .i64 fi, .int .i64 p.real, .slice A3 dl c3, .string p.note] 50) = W10 := ⟨_, rfl⟩
            have hb10 : Below N wr W10 := by rw [← hW10, ← hN]; exact (Below.refl _ _).alloc (Nat.le_refl _) _
            have hk10 : Blk W10 N 50 #[.int .i64 p.time, .int .i64 fi, .int .i64 p.real, .slice A3 dl c3, .string p.note] := by rw [← hW10, ← hN]; exact Blk.new _ _ _
            have hN10 : N < W10.heap.size := hk10.lt
            have s1 : W10.cell? ⟨C, 4, none⟩ = some (.slice (some ⟨G, 0, none⟩) pl cp) := (HCr.out.below hb10 hCN).cell 4
            have s2 : W10.cell? ⟨B + 1, 1, none⟩ = some (.slice A2 F2.length c2) := (HOr.out.below hb10 (by omega)).cell 1
            have s3 : W10.cell? ⟨C, 1, none⟩ = some (.slice (some ⟨bf, 0, none⟩) fl cf) := (HCr.out.below hb10 hCN).cell 1
            have s4 : W10.cell? ⟨N, 1, none⟩ = some (.int .i64 fi) := hk10.cell 1
            have s5 : W10.cell? ⟨bf, fi * 3, none⟩ = some (.string y.name) := (hb10.cell (p := ⟨bf, fi * 3, none⟩) hbfN).trans e0
            have s6 : W10.cell? ⟨bf, fi * 3 + 1, none⟩ = some (.int .i64 y.link) := (hb10.cell (p := ⟨bf, fi * 3 + 1, none⟩) hbfN).trans e1
            have s7 : W10.cell? ⟨bf, fi * 3 + 2, none⟩ = some (.int .i64 y.snap) := (hb10.cell (p := ⟨bf, fi * 3 + 2, none⟩) hbfN).trans e2
            have HG10 : Hid (Blk W10 G 50 gs) := Lib.hid (hGb.below hb10 hGN)
            have HD1 : Hid (W10.cell? ⟨G, m * 5 + 1, none⟩ = some (.int .i64 fi)) := Lib.hid ((hb10.cell (p := ⟨G, m * 5 + 1, none⟩) hGN).trans d1)
            have HR10 : Hid (OwnM pktKd wk W10 b (.slice (some ⟨G, 0, none⟩) pl cp) (mapTo (faceP F2 x.faces) m x.pkts) rk pl) := Lib.hid (HR.out.below (by rw [hN]; exact hb10))
            have HA10 : Hid (AlikeT 50 W9 W10) := Lib.hid (HA.out.trans (AlikeT.below (by rw [hN]; exact hb10)))
            have HB10 : Hid (Below b w W10) := Lib.hid (HB.out.trans (hb10.mono (by omega)))
            have HO10 : Hid (∀ i (_ : i < l.length), i ≠ k → ∃ w0 rows, OwnM pktKd w0 W10 b (.slice (q i).pp l[i].pkts.length (q i).cp) (togP l k i l[i]) rows l[i].pkts.length) := Lib.hid (fun i hi hik => by
              obtain ⟨w0, r, h⟩ := HO.out i hi hik
              exact ⟨w0, r, h.below (by rw [hN]; exact hb10)⟩)
            obtain ⟨V, hV⟩ : ∃ V, idxB (fun z => eqB y z) F2 0 = V := ⟨_, rfl⟩
            have hVr := idxB_rng (fun z => eqB y z) F2 0
            have HIX := Lib.hid (place_any (w := W10.drew) (A := A2) (c := c2) y ((OwnL.els (facL_alike (facL_alike HFW9.out HA.out (by decide)) (AlikeT.below (by rw [hN]; exact hb10.drew)) (by decide : (50 : Nat) ≠ 79)))) (by omega))
            rw [hV] at HIX hVr
            unfold facW at HIX
            have HV := Lib.hid hV
            clear hb10 hk10 HR HA HB HO hGb hV
            go_wp2_with fail
            clear hW10 hN d0 d1 d2 d3 d4 e0 e1 e2
            go_region_held3 (fun w' => w'.cell? ⟨C, 4, none⟩ = some (.slice (some ⟨G, 0, none⟩) pl cp) ∧ w'.cell? ⟨B + 1, 1, none⟩ = some (.slice A2 F2.length c2) ∧ w'.cell? ⟨C, 1, none⟩ = some (.slice (some ⟨bf, 0, none⟩) fl cf) ∧ w'.cell? ⟨N, 1, none⟩ = some (.int .i64 fi) ∧ w'.cell? ⟨bf, fi * 3, none⟩ = some (.string y.name) ∧ w'.cell? ⟨bf, fi * 3 + 1, none⟩ = some (.int .i64 y.link) ∧ w'.cell? ⟨bf, fi * 3 + 2, none⟩ = some (.int .i64 y.snap)) (first | exact ⟨s1, s2, s3, s4, s5, s6, s7⟩ | exact ⟨t1, t2, t3, t4, t5, t6, t7⟩ | exact ⟨v1, v2, v3, v4, v5, v6, v7⟩) ((first
              | (go_at_call 100; ((with_reducible refine HIX.out.mono ?_); rintro e w5 ⟨rfl, hb5⟩); have hHR : Hid (Below W10.heap.size W10 w5) := Lib.hid (below_undrew hb5); have uc : w5.cell? ⟨G, m * 5 + 1, none⟩ = some (.int .i64 fi) := (hHR.out.cell (p := ⟨G, m * 5 + 1, none⟩) (by show G < W10.heap.size; omega)).trans HD1.out; have uf : w5.frozen? ⟨G, m * 5 + 1, none⟩ = false := (HG10.out.below hHR.out (by omega)).frozen _; have t1 : w5.cell? ⟨C, 4, none⟩ = some (.slice (some ⟨G, 0, none⟩) pl cp) := (hHR.out.cell (p := ⟨C, 4, none⟩) (by show C < W10.heap.size; omega)).trans s1; have t2 : w5.cell? ⟨B + 1, 1, none⟩ = some (.slice A2 F2.length c2) := (hHR.out.cell (p := ⟨B + 1, 1, none⟩) (by show B + 1 < W10.heap.size; omega)).trans s2; have t3 : w5.cell? ⟨C, 1, none⟩ = some (.slice (some ⟨bf, 0, none⟩) fl cf) := (hHR.out.cell (p := ⟨C, 1, none⟩) (by show C < W10.heap.size; omega)).trans s3; have t4 : w5.cell? ⟨N, 1, none⟩ = some (.int .i64 fi) := (hHR.out.cell (p := ⟨N, 1, none⟩) (by show N < W10.heap.size; omega)).trans s4; have t5 : w5.cell? ⟨bf, fi * 3, none⟩ = some (.string y.name) := (hHR.out.cell (p := ⟨bf, fi * 3, none⟩) (by show bf < W10.heap.size; omega)).trans s5; have t6 : w5.cell? ⟨bf, fi * 3 + 1, none⟩ = some (.int .i64 y.link) := (hHR.out.cell (p := ⟨bf, fi * 3 + 1, none⟩) (by show bf < W10.heap.size; omega)).trans s6; have t7 : w5.cell? ⟨bf, fi * 3 + 2, none⟩ = some (.int .i64 y.snap) := (hHR.out.cell (p := ⟨bf, fi * 3 + 2, none⟩) (by show bf < W10.heap.size; omega)).trans s7; have v1 : (w5.setCell ⟨G, m * 5 + 1, none⟩ (.int .i64 V)).cell? ⟨C, 4, none⟩ = some (.slice (some ⟨G, 0, none⟩) pl cp) := (World.cell?_setCell_other _ _ _ _ (fun e => by injection e; omega)).trans t1; have v2 : (w5.setCell ⟨G, m * 5 + 1, none⟩ (.int .i64 V)).cell? ⟨B + 1, 1, none⟩ = some (.slice A2 F2.length c2) := (World.cell?_setCell_other _ _ _ _ (fun e => by injection e; omega)).trans t2; have v3 : (w5.setCell ⟨G, m * 5 + 1, none⟩ (.int .i64 V)).cell? ⟨C, 1, none⟩ = some (.slice (some ⟨bf, 0, none⟩) fl cf) := (World.cell?_setCell_other _ _ _ _ (fun e => by injection e; omega)).trans t3; have v4 : (w5.setCell ⟨G, m * 5 + 1, none⟩ (.int .i64 V)).cell? ⟨N, 1, none⟩ = some (.int .i64 fi) := (World.cell?_setCell_other _ _ _ _ (fun e => by injection e; omega)).trans t4; have v5 : (w5.setCell ⟨G, m * 5 + 1, none⟩ (.int .i64 V)).cell? ⟨bf, fi * 3, none⟩ = some (.string y.name) := (World.cell?_setCell_other _ _ _ _ (fun e => by injection e; omega)).trans t5; have v6 : (w5.setCell ⟨G, m * 5 + 1, none⟩ (.int .i64 V)).cell? ⟨bf, fi * 3 + 1, none⟩ = some (.int .i64 y.link) := (World.cell?_setCell_other _ _ _ _ (fun e => by injection e; omega)).trans t6; have v7 : (w5.setCell ⟨G, m * 5 + 1, none⟩ (.int .i64 V)).cell? ⟨bf, fi * 3 + 2, none⟩ = some (.int .i64 y.snap) := (World.cell?_setCell_other _ _ _ _ (fun e => by injection e; omega)).trans t7; clear hb5)))
            have hb5 := hHR.out
            have hG5 : Blk w5 G 50 gs := HG10.out.below hb5 (by omega)
            have hset : AlikeT 50 w5 (w5.setCell ⟨G, m * 5 + 1, none⟩ (.int .i64 V)) := AlikeT.set hG5 _
            have hfp : faceP F2 x.faces x.pkts[m] = ⟨x.pkts[m].time, V, x.pkts[m].real, x.pkts[m].data, x.pkts[m].note⟩ := by
              unfold faceP
              rw [HPX.out, HFI.out]
              simp only [Int.toNat_natCast, List.getElem?_eq_getElem hfl2, Option.getD_some, HY.out, HV.out]
            obtain ⟨rk', g1, _⟩ := face_step HPL.out (HR10.out.below hb5) hmx V hfp (by omega)
            have HR11 := Lib.hid g1
            have HA11 : Hid (AlikeT 50 W9 (w5.setCell ⟨G, m * 5 + 1, none⟩ (.int .i64 V))) := Lib.hid ((HA10.out.trans (AlikeT.below hb5)).trans hset)
            have HB11 : Hid (Below b w (w5.setCell ⟨G, m * 5 + 1, none⟩ (.int .i64 V))) := Lib.hid ((HB10.out.trans (hb5.mono (by omega))).setCell (p := ⟨G, m * 5 + 1, none⟩) hbG _)
            have HO11 : Hid (∀ i (_ : i < l.length), i ≠ k → ∃ w0 rows, OwnM pktKd w0 (w5.setCell ⟨G, m * 5 + 1, none⟩ (.int .i64 V)) b (.slice (q i).pp l[i].pkts.length (q i).cp) (togP l k i l[i]) rows l[i].pkts.length) := Lib.hid (fun i hi hik => by
              obtain ⟨w0, r, h⟩ := HO10.out i hi hik
              exact ⟨w0, r, (h.below hb5).far hG5 (apart_ne HAP.out hlt hi (fun e => hik e.symm) (by rw [HQK.out]))⟩)
            clear hb5 hG5 hset hfp g1 hHR HR10 HA10 HB10 HO10
            go_wp2
            go_roundw
            case rel => exact ⟨m + 1, rk', by go_num, by omega, HR11, HO11, HA11, HB11⟩
            case measure => simp [intOf]; omega
          · have hmn : m = pl := by omega
            subst hmn
            have HOE : Hid (Blk wr B 31 #[.string ⟨#[]⟩, .slice none 0 0, .slice none 0 0, .slice none 0 0, .slice none 0 0]) := Lib.hid (HA.out.2 _ _ _ (by decide) HZW9.out)
            have HFE := Lib.hid (facL_alike HFW9.out HA.out (by decide))
            have HWE : Hid (Below b w wr ∧ AlikeT 50 w wr) := Lib.hid ⟨HB.out, HWW9.out.2.trans HA.out⟩
            have HPE : Hid (∀ i (_ : i < l.length), ∃ w0 rows, OwnM pktKd w0 wr b (.slice (q i).pp l[i].pkts.length (q i).cp) (togP l (k + 1) i l[i]) rows l[i].pkts.length) := Lib.hid (fun i hi => by
              by_cases hik : i = k
              · subst hik
                refine ⟨wk, rk, ?_⟩
                have h := HR.out
                have e1 := HX.out
                have e2 := HQK.out
                have e3 : togP l (i + 1) i l[i] = x.pkts.map (faceP F2 x.faces) := by
                  unfold togP
                  rw [if_pos (Nat.lt_succ_self i), HTN.out, e1]
                rw [e3]
                simp only [e1, e2]
                have e4 : mapTo (faceP F2 x.faces) m x.pkts = x.pkts.map (faceP F2 x.faces) := by rw [← HPL.out]; exact mapTo_all
                rw [e4] at h
                rw [HPL.out]
                exact h
              · obtain ⟨w0, r, h⟩ := HO.out i hi hik
                refine ⟨w0, r, ?_⟩
                have e : togP l (k + 1) i l[i] = togP l k i l[i] := by
                  unfold togP
                  by_cases h1 : i < k
                  · rw [if_pos h1, if_pos (by omega)]
                  · rw [if_neg h1, if_neg (by omega)]
                rw [e]
                exact h)
            clear HR HO HA HB HCr
            go_wp2
            go_roundw
            case rel => exact ⟨k + 1, A2, c2, F2, note2, rows2, by go_num, by omega, hF24, HTN, HOr, HOE, HFE, HWE, HPE⟩
            case measure => simp [intOf]; omega
      · have hne : note = note2 := by rw [← hnote2, if_neg (by omega)]
        have he1 := notEmpty hpos
        have HO2 : Hid (Blk W1 (B + 1) 31 #[.string note2, .slice A F.length cF, .slice none 0 0, .slice none 0 0, .slice none 0 0]) := Lib.hid (by rw [← hne]; exact HO1.out)
        have HC2 := HC1
        have HZ2 := HZ1
        have HF2 := HF1
        have HW2 := HW1
        have HP2 := HP1
        have o1 : W1.cell? ⟨B + 1, 1, none⟩ = some (.slice A F.length cF) := HO2.out.cell 1
        have x1 : W1.cell? ⟨C, 1, none⟩ = some (.slice pf fl cf) := HC2.out.cell 1
        clear hne hnote2 hpos HO1 HC1 HZ1 HF1 HW1 HP1
        go_wp2_with fail
        clear hC o0 x0 fo0 he1 c0 c1 c2 c3 c4 o1 x1
        clear hW1
        generalize W1 = W2 at HO2 HC2 HZ2 HF2 HW2 HP2 ⊢
        have hbB : B ≤ W2.heap.size := by have := HO2.out.lt; omega
        have hxf : x.faces.length ≤ 4 := errV_faces HEV.out
        have HEL := Lib.hid (facL_els_lt HFO.out HW2.out.2)
        have HAF : Hid (Calls Try.prog 94 #[.slice A F.length cF, .slice pf fl cf, .func (.func 95) #[] #[]] W2 fun e w' => ∃ A' c' rows', e = .returned (.slice A' (addF F x.faces).length c') ∧ OwnL w' B 79 3 FacE (.slice A' (addF F x.faces).length c') (addF F x.faces) rows' ∧ Below B W2 w' ∧ AlikeT 79 W2 w') := Lib.hid (by
          have h := addf_any (c2 := cf) HF2.out (by have := HEL.out; rw [HBS.out] at this; exact this) hbB (by omega)
          rw [HFL.out] at h
          exact h)
        with_reducible refine HAF.out.mono ?_
        rintro e W3 ⟨A2, c2, rows2, rfl, hof, hbf, haf⟩
        obtain ⟨F2, hF2⟩ : ∃ F2, addF F x.faces = F2 := ⟨_, rfl⟩
        rw [hF2] at HTN hof ⊢
        have HE2 : Hid (errV ⟨note2, F2, [], [], []⟩ = 0) := Lib.hid (by rw [← HTN.out]; exact HOK.out (k + 1) hlt (Nat.succ_pos k))
        have hF24 : F2.length ≤ 4 := errV_faces (c := ⟨note2, F2, [], [], []⟩) HE2.out
        have hsz3 : W2.heap.size ≤ W3.heap.size := haf.1
        have HOW3 : Hid (Blk W3 (B + 1) 31 #[.string note2, .slice A F.length cF, .slice none 0 0, .slice none 0 0, .slice none 0 0]) := Lib.hid (haf.2 _ _ _ (by decide) HO2.out)
        have HCW3 : Hid (Blk W3 C 31 #[.string x.note, .slice pf fl cf, .slice pn 0 cn, .slice ps 0 cs', .slice pp pl cp]) := Lib.hid (haf.2 _ _ _ (by decide) HC2.out)
        have HZW3 : Hid (Blk W3 B 31 #[.string ⟨#[]⟩, .slice none 0 0, .slice none 0 0, .slice none 0 0, .slice none 0 0]) := Lib.hid (haf.2 _ _ _ (by decide) HZ2.out)
        have HFW3 : Hid (OwnL W3 B 79 3 FacE (.slice A2 F2.length c2) F2 rows2) := Lib.hid hof
        have HWW3 : Hid (Below b w W3 ∧ AlikeT 50 w W3) := Lib.hid ⟨HW2.out.1.trans (hbf.mono hb), keepA HW2.out.2 (by rw [HBS.out]; exact hbf)⟩
        have HPW3 : Hid (∀ i (_ : i < l.length), ∃ w0 rows, OwnM pktKd w0 W3 b (.slice (q i).pp l[i].pkts.length (q i).cp) (togP l k i l[i]) rows l[i].pkts.length) := Lib.hid (fun i hi => by
          obtain ⟨w0, r, h⟩ := HP2.out i hi
          exact ⟨w0, r, h.alike haf (by decide) (by decide)⟩)
        clear hof hbf haf HAF HEL HO2 HC2 HZ2 HF2 HW2 HP2 hsz3 hF2 hcF
        have o1 : W3.cell? ⟨B + 1, 1, none⟩ = some (.slice A F.length cF) := HOW3.out.cell 1
        have f1 : W3.frozen? ⟨B + 1, 1, none⟩ = false := HOW3.out.frozen 1
        have haW4 : AlikeT 31 W3 (W3.setCell ⟨B + 1, 1, none⟩ (.slice A2 F2.length c2)) := AlikeT.set HOW3.out _
        have HOW4 : Hid (Blk (W3.setCell ⟨B + 1, 1, none⟩ (.slice A2 F2.length c2)) (B + 1) 31 #[.string note2, .slice A2 F2.length c2, .slice none 0 0, .slice none 0 0, .slice none 0 0]) := Lib.hid (by simpa using HOW3.out.set_ 1 (.slice A2 F2.length c2))
        have HCW4 : Hid (Blk (W3.setCell ⟨B + 1, 1, none⟩ (.slice A2 F2.length c2)) C 31 #[.string x.note, .slice pf fl cf, .slice pn 0 cn, .slice ps 0 cs', .slice pp pl cp]) := Lib.hid (HCW3.out.far (p := ⟨B + 1, 1, none⟩) (by show C ≠ B + 1; omega) _)
        have HZW4 : Hid (Blk (W3.setCell ⟨B + 1, 1, none⟩ (.slice A2 F2.length c2)) B 31 #[.string ⟨#[]⟩, .slice none 0 0, .slice none 0 0, .slice none 0 0, .slice none 0 0]) := Lib.hid (HZW3.out.far (p := ⟨B + 1, 1, none⟩) (by show B ≠ B + 1; omega) _)
        have HFW4 : Hid (OwnL (W3.setCell ⟨B + 1, 1, none⟩ (.slice A2 F2.length c2)) B 79 3 FacE (.slice A2 F2.length c2) F2 rows2) := Lib.hid (facL_alike HFW3.out haW4 (by decide))
        have HWW4 : Hid (Below b w (W3.setCell ⟨B + 1, 1, none⟩ (.slice A2 F2.length c2)) ∧ AlikeT 50 w (W3.setCell ⟨B + 1, 1, none⟩ (.slice A2 F2.length c2))) := Lib.hid ⟨HWW3.out.1.setCell (p := ⟨B + 1, 1, none⟩) (by show b ≤ B + 1; omega) _, keepS HWW3.out.2 (by rw [HBS.out]; omega)⟩
        have HPW4 : Hid (∀ i (_ : i < l.length), ∃ w0 rows, OwnM pktKd w0 (W3.setCell ⟨B + 1, 1, none⟩ (.slice A2 F2.length c2)) b (.slice (q i).pp l[i].pkts.length (q i).cp) (togP l k i l[i]) rows l[i].pkts.length) := Lib.hid (fun i hi => by
          obtain ⟨w0, r, h⟩ := HPW3.out i hi
          exact ⟨w0, r, h.alike haW4 (by decide) (by decide)⟩)
        clear haW4 HOW3 HCW3 HZW3 HFW3 HWW3 HPW3
        have o2 : (W3.setCell ⟨B + 1, 1, none⟩ (.slice A2 F2.length c2)).cell? ⟨B + 1, 2, none⟩ = some (.slice none 0 0) := HOW4.out.cell 2
        have x2 : (W3.setCell ⟨B + 1, 1, none⟩ (.slice A2 F2.length c2)).cell? ⟨C, 2, none⟩ = some (.slice pn 0 cn) := HCW4.out.cell 2
        go_wp2_with fail
        clear o1 f1 o2 x2
        generalize W3.setCell ⟨B + 1, 1, none⟩ (.slice A2 F2.length c2) = W4 at HOW4 HCW4 HZW4 HFW4 HWW4 HPW4 ⊢
        with_reducible refine (addn_nil (w := W4) _).mono ?_
        rintro e W5 ⟨rfl, hb5⟩
        have HOW5 : Hid (Blk W5 (B + 1) 31 #[.string note2, .slice A2 F2.length c2, .slice none 0 0, .slice none 0 0, .slice none 0 0]) := Lib.hid (HOW4.out.below hb5 HOW4.out.lt)
        have HCW5 : Hid (Blk W5 C 31 #[.string x.note, .slice pf fl cf, .slice pn 0 cn, .slice ps 0 cs', .slice pp pl cp]) := Lib.hid (HCW4.out.below hb5 HCW4.out.lt)
        have HZW5 : Hid (Blk W5 B 31 #[.string ⟨#[]⟩, .slice none 0 0, .slice none 0 0, .slice none 0 0, .slice none 0 0]) := Lib.hid (HZW4.out.below hb5 HZW4.out.lt)
        have HFW5 : Hid (OwnL W5 B 79 3 FacE (.slice A2 F2.length c2) F2 rows2) := Lib.hid (HFW4.out.kept facK hb5)
        have HWW5 : Hid (Below b w W5 ∧ AlikeT 50 w W5) := Lib.hid ⟨HWW4.out.1.trans (hb5.mono (by have := HOW4.out.lt; omega)), HWW4.out.2.trans (AlikeT.below hb5)⟩
        have HPW5 : Hid (∀ i (_ : i < l.length), ∃ w0 rows, OwnM pktKd w0 W5 b (.slice (q i).pp l[i].pkts.length (q i).cp) (togP l k i l[i]) rows l[i].pkts.length) := Lib.hid (fun i hi => by
          obtain ⟨w0, r, h⟩ := HPW4.out i hi
          exact ⟨w0, r, h.below hb5⟩)
        clear hb5 HOW4 HCW4 HZW4 HFW4 HWW4 HPW4
        have o2 : W5.cell? ⟨B + 1, 2, none⟩ = some (.slice none 0 0) := HOW5.out.cell 2
        have f2 : W5.frozen? ⟨B + 1, 2, none⟩ = false := HOW5.out.frozen 2
        have haW6 : AlikeT 31 W5 (W5.setCell ⟨B + 1, 2, none⟩ (.slice none 0 0)) := AlikeT.set HOW5.out _
        have HOW6 : Hid (Blk (W5.setCell ⟨B + 1, 2, none⟩ (.slice none 0 0)) (B + 1) 31 #[.string note2, .slice A2 F2.length c2, .slice none 0 0, .slice none 0 0, .slice none 0 0]) := Lib.hid (by simpa using HOW5.out.set_ 2 (.slice none 0 0))
        have HCW6 : Hid (Blk (W5.setCell ⟨B + 1, 2, none⟩ (.slice none 0 0)) C 31 #[.string x.note, .slice pf fl cf, .slice pn 0 cn, .slice ps 0 cs', .slice pp pl cp]) := Lib.hid (HCW5.out.far (p := ⟨B + 1, 2, none⟩) (by show C ≠ B + 1; omega) _)
        have HZW6 : Hid (Blk (W5.setCell ⟨B + 1, 2, none⟩ (.slice none 0 0)) B 31 #[.string ⟨#[]⟩, .slice none 0 0, .slice none 0 0, .slice none 0 0, .slice none 0 0]) := Lib.hid (HZW5.out.far (p := ⟨B + 1, 2, none⟩) (by show B ≠ B + 1; omega) _)
        have HFW6 : Hid (OwnL (W5.setCell ⟨B + 1, 2, none⟩ (.slice none 0 0)) B 79 3 FacE (.slice A2 F2.length c2) F2 rows2) := Lib.hid (facL_alike HFW5.out haW6 (by decide))
        have HWW6 : Hid (Below b w (W5.setCell ⟨B + 1, 2, none⟩ (.slice none 0 0)) ∧ AlikeT 50 w (W5.setCell ⟨B + 1, 2, none⟩ (.slice none 0 0))) := Lib.hid ⟨HWW5.out.1.setCell (p := ⟨B + 1, 2, none⟩) (by show b ≤ B + 1; omega) _, keepS HWW5.out.2 (by rw [HBS.out]; omega)⟩
        have HPW6 : Hid (∀ i (_ : i < l.length), ∃ w0 rows, OwnM pktKd w0 (W5.setCell ⟨B + 1, 2, none⟩ (.slice none 0 0)) b (.slice (q i).pp l[i].pkts.length (q i).cp) (togP l k i l[i]) rows l[i].pkts.length) := Lib.hid (fun i hi => by
          obtain ⟨w0, r, h⟩ := HPW5.out i hi
          exact ⟨w0, r, h.alike haW6 (by decide) (by decide)⟩)
        clear haW6 HOW5 HCW5 HZW5 HFW5 HWW5 HPW5
        have o3 : (W5.setCell ⟨B + 1, 2, none⟩ (.slice none 0 0)).cell? ⟨B + 1, 3, none⟩ = some (.slice none 0 0) := HOW6.out.cell 3
        have x3 : (W5.setCell ⟨B + 1, 2, none⟩ (.slice none 0 0)).cell? ⟨C, 3, none⟩ = some (.slice ps 0 cs') := HCW6.out.cell 3
        go_wp2_with fail
        clear o2 f2 o3 x3
        generalize W5.setCell ⟨B + 1, 2, none⟩ (.slice none 0 0) = W6 at HOW6 HCW6 HZW6 HFW6 HWW6 HPW6 ⊢
        with_reducible refine (adds_nil (w := W6) _).mono ?_
        rintro e W7 ⟨rfl, hb7⟩
        have HOW7 : Hid (Blk W7 (B + 1) 31 #[.string note2, .slice A2 F2.length c2, .slice none 0 0, .slice none 0 0, .slice none 0 0]) := Lib.hid (HOW6.out.below hb7 HOW6.out.lt)
        have HCW7 : Hid (Blk W7 C 31 #[.string x.note, .slice pf fl cf, .slice pn 0 cn, .slice ps 0 cs', .slice pp pl cp]) := Lib.hid (HCW6.out.below hb7 HCW6.out.lt)
        have HZW7 : Hid (Blk W7 B 31 #[.string ⟨#[]⟩, .slice none 0 0, .slice none 0 0, .slice none 0 0, .slice none 0 0]) := Lib.hid (HZW6.out.below hb7 HZW6.out.lt)
        have HFW7 : Hid (OwnL W7 B 79 3 FacE (.slice A2 F2.length c2) F2 rows2) := Lib.hid (HFW6.out.kept facK hb7)
        have HWW7 : Hid (Below b w W7 ∧ AlikeT 50 w W7) := Lib.hid ⟨HWW6.out.1.trans (hb7.mono (by have := HOW6.out.lt; omega)), HWW6.out.2.trans (AlikeT.below hb7)⟩
        have HPW7 : Hid (∀ i (_ : i < l.length), ∃ w0 rows, OwnM pktKd w0 W7 b (.slice (q i).pp l[i].pkts.length (q i).cp) (togP l k i l[i]) rows l[i].pkts.length) := Lib.hid (fun i hi => by
          obtain ⟨w0, r, h⟩ := HPW6.out i hi
          exact ⟨w0, r, h.below hb7⟩)
        clear hb7 HOW6 HCW6 HZW6 HFW6 HWW6 HPW6
        have o3 : W7.cell? ⟨B + 1, 3, none⟩ = some (.slice none 0 0) := HOW7.out.cell 3
        have f3 : W7.frozen? ⟨B + 1, 3, none⟩ = false := HOW7.out.frozen 3
        have haW8 : AlikeT 31 W7 (W7.setCell ⟨B + 1, 3, none⟩ (.slice none 0 0)) := AlikeT.set HOW7.out _
        have HOW8 : Hid (Blk (W7.setCell ⟨B + 1, 3, none⟩ (.slice none 0 0)) (B + 1) 31 #[.string note2, .slice A2 F2.length c2, .slice none 0 0, .slice none 0 0, .slice none 0 0]) := Lib.hid (by simpa using HOW7.out.set_ 3 (.slice none 0 0))
        have HCW8 : Hid (Blk (W7.setCell ⟨B + 1, 3, none⟩ (.slice none 0 0)) C 31 #[.string x.note, .slice pf fl cf, .slice pn 0 cn, .slice ps 0 cs', .slice pp pl cp]) := Lib.hid (HCW7.out.far (p := ⟨B + 1, 3, none⟩) (by show C ≠ B + 1; omega) _)
        have HZW8 : Hid (Blk (W7.setCell ⟨B + 1, 3, none⟩ (.slice none 0 0)) B 31 #[.string ⟨#[]⟩, .slice none 0 0, .slice none 0 0, .slice none 0 0, .slice none 0 0]) := Lib.hid (HZW7.out.far (p := ⟨B + 1, 3, none⟩) (by show B ≠ B + 1; omega) _)
        have HFW8 : Hid (OwnL (W7.setCell ⟨B + 1, 3, none⟩ (.slice none 0 0)) B 79 3 FacE (.slice A2 F2.length c2) F2 rows2) := Lib.hid (facL_alike HFW7.out haW8 (by decide))
        have HWW8 : Hid (Below b w (W7.setCell ⟨B + 1, 3, none⟩ (.slice none 0 0)) ∧ AlikeT 50 w (W7.setCell ⟨B + 1, 3, none⟩ (.slice none 0 0))) := Lib.hid ⟨HWW7.out.1.setCell (p := ⟨B + 1, 3, none⟩) (by show b ≤ B + 1; omega) _, keepS HWW7.out.2 (by rw [HBS.out]; omega)⟩
        have HPW8 : Hid (∀ i (_ : i < l.length), ∃ w0 rows, OwnM pktKd w0 (W7.setCell ⟨B + 1, 3, none⟩ (.slice none 0 0)) b (.slice (q i).pp l[i].pkts.length (q i).cp) (togP l k i l[i]) rows l[i].pkts.length) := Lib.hid (fun i hi => by
          obtain ⟨w0, r, h⟩ := HPW7.out i hi
          exact ⟨w0, r, h.alike haW8 (by decide) (by decide)⟩)
        clear haW8 HOW7 HCW7 HZW7 HFW7 HWW7 HPW7
        have p0 : (W7.setCell ⟨B + 1, 3, none⟩ (.slice none 0 0)).cell? ⟨B + 1, 0, none⟩ = some (.string note2) := HOW8.out.cell 0
        have p1 : (W7.setCell ⟨B + 1, 3, none⟩ (.slice none 0 0)).cell? ⟨B + 1, 1, none⟩ = some (.slice A2 F2.length c2) := HOW8.out.cell 1
        have p2 : (W7.setCell ⟨B + 1, 3, none⟩ (.slice none 0 0)).cell? ⟨B + 1, 2, none⟩ = some (.slice none 0 0) := HOW8.out.cell 2
        have p3 : (W7.setCell ⟨B + 1, 3, none⟩ (.slice none 0 0)).cell? ⟨B + 1, 3, none⟩ = some (.slice none 0 0) := HOW8.out.cell 3
        have p4 : (W7.setCell ⟨B + 1, 3, none⟩ (.slice none 0 0)).cell? ⟨B + 1, 4, none⟩ = some (.slice none 0 0) := HOW8.out.cell 4
        go_wp2_with fail
        clear o3 f3 p0 p1 p2 p3 p4
        generalize W7.setCell ⟨B + 1, 3, none⟩ (.slice none 0 0) = W8 at HOW8 HCW8 HZW8 HFW8 HWW8 HPW8 ⊢
        have HVV : Hid (Calls Try.prog 61 #[.agg #[.string note2, .slice A2 F2.length c2, .slice none 0 0, .slice none 0 0, .slice none 0 0]] W8 fun e w' => e = .returned (.int .i64 0) ∧ Below W8.heap.size W8 w') := Lib.hid (by
          have h := vald_any (w := W8) (p := ⟨A2, c2, none, 0, none, 0, none, 0⟩) (c := ⟨note2, F2, [], [], []⟩) (capM_faces HFW8.out HE2.out)
          rw [HE2.out] at h
          exact h)
        with_reducible refine HVV.out.mono ?_
        rintro e W9 ⟨rfl, hb9⟩
        clear HVV
        have HOW9 : Hid (Blk W9 (B + 1) 31 #[.string note2, .slice A2 F2.length c2, .slice none 0 0, .slice none 0 0, .slice none 0 0]) := Lib.hid (HOW8.out.below hb9 HOW8.out.lt)
        have HCW9 : Hid (Blk W9 C 31 #[.string x.note, .slice pf fl cf, .slice pn 0 cn, .slice ps 0 cs', .slice pp pl cp]) := Lib.hid (HCW8.out.below hb9 HCW8.out.lt)
        have HZW9 : Hid (Blk W9 B 31 #[.string ⟨#[]⟩, .slice none 0 0, .slice none 0 0, .slice none 0 0, .slice none 0 0]) := Lib.hid (HZW8.out.below hb9 HZW8.out.lt)
        have HFW9 : Hid (OwnL W9 B 79 3 FacE (.slice A2 F2.length c2) F2 rows2) := Lib.hid (HFW8.out.kept facK hb9)
        have HWW9 : Hid (Below b w W9 ∧ AlikeT 50 w W9) := Lib.hid ⟨HWW8.out.1.trans (hb9.mono (by have := HOW8.out.lt; omega)), HWW8.out.2.trans (AlikeT.below hb9)⟩
        have HPW9 : Hid (∀ i (_ : i < l.length), ∃ w0 rows, OwnM pktKd w0 W9 b (.slice (q i).pp l[i].pkts.length (q i).cp) (togP l k i l[i]) rows l[i].pkts.length) := Lib.hid (fun i hi => by
          obtain ⟨w0, r, h⟩ := HPW8.out i hi
          exact ⟨w0, r, h.below hb9⟩)
        clear hb9 HOW8 HCW8 HZW8 HFW8 HWW8 HPW8
        have x4 : W9.cell? ⟨C, 4, none⟩ = some (.slice pp pl cp) := HCW9.out.cell 4
        obtain ⟨wk, rk0, hok0⟩ := HPW9.out k hlt
        have HOK0 : Hid (OwnM pktKd wk W9 b (.slice pp pl cp) (mapTo (faceP F2 x.faces) 0 x.pkts) rk0 pl) := Lib.hid (by
          have h := hok0
          rw [togP_self] at h
          rw [mapTo_zero, ← HPL.out]
          have e1 := HX.out
          have e2 := HQK.out
          simp only [e1, e2] at h
          exact h)
        have HOT0 : Hid (∀ i (_ : i < l.length), i ≠ k → ∃ w0 rows, OwnM pktKd w0 W9 b (.slice (q i).pp l[i].pkts.length (q i).cp) (togP l k i l[i]) rows l[i].pkts.length) := Lib.hid (fun i hi _ => HPW9.out i hi)
        have HPF : Hid (∀ p ∈ x.pkts, 0 ≤ p.face ∧ p.face < x.faces.length) := Lib.hid (errV_pface HEV.out)
        have HFOC := Lib.hid (facL_alike HFO.out HWW9.out.2 (by decide))
        have hplm : pl ≤ 100 := by rw [← HPL.out]; exact errV_plen HEV.out
        clear hok0 HPW9
        go_wp2
        clear x4
        go_loopw [49] (fun i wr => ∃ (m : Nat) (rk : List (List Value)), i = .int .i64 m ∧ m ≤ pl ∧ Hid (OwnM pktKd wk wr b (.slice pp pl cp) (mapTo (faceP F2 x.faces) m x.pkts) rk pl) ∧ Hid (∀ i (_ : i < l.length), i ≠ k → ∃ w0 rows, OwnM pktKd w0 wr b (.slice (q i).pp l[i].pkts.length (q i).cp) (togP l k i l[i]) rows l[i].pkts.length) ∧ Hid (AlikeT 50 W9 wr) ∧ Hid (Below b w wr)) (fun i _ => pl - (intOf i).toNat)
        case atStart => exact ⟨0, rk0, rfl, Nat.zero_le _, HOK0, HOT0, Lib.hid (AlikeT.refl _ _), Lib.hid HWW9.out.1⟩
        case round =>
          obtain ⟨m, rk, rfl, hmk, HR, HO, HA, HB⟩ := hrel
          have HCr : Hid (Blk wr C 31 #[.string x.note, .slice pf fl cf, .slice pn 0 cn, .slice ps 0 cs', .slice pp pl cp]) := Lib.hid (HA.out.2 _ _ _ (by decide) HCW9.out)
          have HOr : Hid (Blk wr (B + 1) 31 #[.string note2, .slice A2 F2.length c2, .slice none 0 0, .slice none 0 0, .slice none 0 0]) := Lib.hid (HA.out.2 _ _ _ (by decide) HOW9.out)
          by_cases hml : m < pl
          · have hmx : m < x.pkts.length := by rw [HPL.out]; exact hml
            have hmm : m < (mapTo (faceP F2 x.faces) m x.pkts).length := by rw [mapTo_len]; exact hmx
            have hml2 : (mapTo (faceP F2 x.faces) m x.pkts).length = pl := by rw [mapTo_len]; exact HPL.out
            obtain ⟨G, cap, gs, A3, c3, hv, hbG, hGb, _, _, _, _, hro⟩ := OwnM.readO (κ := pktKd) (k := m) (xs := mapTo (faceP F2 x.faces) m x.pkts) (by rw [hml2]; exact HR.out) pktR hmm
            rw [mapTo_at hmx hmm] at hro
            rw [hml2] at hv
            injection hv with hv1 _ hv3
            subst hv3
            subst hv1
            obtain ⟨p, hp⟩ : ∃ p, x.pkts[m] = p := ⟨_, rfl⟩
            have HPX := Lib.hid hp
            have hpf := HPF.out _ (List.getElem_mem hmx)
            rw [hp] at hro hpf
            obtain ⟨fi, hfi⟩ : ∃ fi : Nat, p.face = fi := ⟨p.face.toNat, by omega⟩
            have HFI := Lib.hid hfi
            have hfl2 : fi < x.faces.length := by omega
            have hflt : fi < fl := by rw [← HFL.out]; exact hfl2
            obtain ⟨dl, hdl⟩ : ∃ dl, p.data.length = dl := ⟨_, rfl⟩
            have d0 : wr.cell? ⟨G, m * 5, none⟩ = some (.int .i64 p.time) := hro 0 _ rfl
            have d1 : wr.cell? ⟨G, m * 5 + 1, none⟩ = some (.int .i64 fi) := by rw [← hfi]; exact hro 1 _ rfl
            have d2 : wr.cell? ⟨G, m * 5 + 2, none⟩ = some (.int .i64 p.real) := hro 2 _ rfl
            have d3 : wr.cell? ⟨G, m * 5 + 3, none⟩ = some (.slice A3 dl c3) := by rw [← hdl]; exact hro 3 _ rfl
            have d4 : wr.cell? ⟨G, m * 5 + 4, none⟩ = some (.string p.note) := hro 4 _ rfl
            clear hro hdl hfi hp
            obtain ⟨bf, capf, gfs, hvf, _, hbfb, _, e0, e1, e2⟩ := facL_read (facL_alike HFOC.out HA.out (by decide)) hfl2
            obtain ⟨y, hy⟩ : ∃ y, x.faces[fi] = y := ⟨_, rfl⟩
            have HY := Lib.hid hy
            rw [hy] at e0 e1 e2
            injection hvf with hvf1 _ hvf3
            subst hvf1
            subst hvf3
            have hGbf : G ≠ bf := blk_ne hGb hbfb (by decide)
            have hGC : G ≠ C := blk_ne hGb HCr.out (by decide)
            have hGB : G ≠ B + 1 := blk_ne hGb HOr.out (by decide)
            clear hy hbfb
            obtain ⟨N, hN⟩ : ∃ N, wr.heap.size = N := ⟨_, rfl⟩
            have hCN : C < N := by rw [← hN]; exact HCr.out.lt
            have hbfN : bf < N := by rw [← hN]; exact cell_lt e0
            have hGN : G < N := by rw [← hN]; exact cell_lt d0
            obtain ⟨W10, hW10⟩ : ∃ W10, wr.alloc (.cells #[.int .i64 p.time, .int .i64 fi, .int .i64 p.real, .slice A3 dl c3, .string p.note] 50) = W10 := ⟨_, rfl⟩
            have hb10 : Below N wr W10 := by rw [← hW10, ← hN]; exact (Below.refl _ _).alloc (Nat.le_refl _) _
            have hk10 : Blk W10 N 50 #[.int .i64 p.time, .int .i64 fi, .int .i64 p.real, .slice A3 dl c3, .string p.note] := by rw [← hW10, ← hN]; exact Blk.new _ _ _
            have hN10 : N < W10.heap.size := hk10.lt
            have s1 : W10.cell? ⟨C, 4, none⟩ = some (.slice (some ⟨G, 0, none⟩) pl cp) := (HCr.out.below hb10 hCN).cell 4
            have s2 : W10.cell? ⟨B + 1, 1, none⟩ = some (.slice A2 F2.length c2) := (HOr.out.below hb10 (by omega)).cell 1
            have s3 : W10.cell? ⟨C, 1, none⟩ = some (.slice (some ⟨bf, 0, none⟩) fl cf) := (HCr.out.below hb10 hCN).cell 1
            have s4 : W10.cell? ⟨N, 1, none⟩ = some (.int .i64 fi) := hk10.cell 1
            have s5 : W10.cell? ⟨bf, fi * 3, none⟩ = some (.string y.name) := (hb10.cell (p := ⟨bf, fi * 3, none⟩) hbfN).trans e0
            have s6 : W10.cell? ⟨bf, fi * 3 + 1, none⟩ = some (.int .i64 y.link) := (hb10.cell (p := ⟨bf, fi * 3 + 1, none⟩) hbfN).trans e1
            have s7 : W10.cell? ⟨bf, fi * 3 + 2, none⟩ = some (.int .i64 y.snap) := (hb10.cell (p := ⟨bf, fi * 3 + 2, none⟩) hbfN).trans e2
            have HG10 : Hid (Blk W10 G 50 gs) := Lib.hid (hGb.below hb10 hGN)
            have HD1 : Hid (W10.cell? ⟨G, m * 5 + 1, none⟩ = some (.int .i64 fi)) := Lib.hid ((hb10.cell (p := ⟨G, m * 5 + 1, none⟩) hGN).trans d1)
            have HR10 : Hid (OwnM pktKd wk W10 b (.slice (some ⟨G, 0, none⟩) pl cp) (mapTo (faceP F2 x.faces) m x.pkts) rk pl) := Lib.hid (HR.out.below (by rw [hN]; exact hb10))
            have HA10 : Hid (AlikeT 50 W9 W10) := Lib.hid (HA.out.trans (AlikeT.below (by rw [hN]; exact hb10)))
            have HB10 : Hid (Below b w W10) := Lib.hid (HB.out.trans (hb10.mono (by omega)))
            have HO10 : Hid (∀ i (_ : i < l.length), i ≠ k → ∃ w0 rows, OwnM pktKd w0 W10 b (.slice (q i).pp l[i].pkts.length (q i).cp) (togP l k i l[i]) rows l[i].pkts.length) := Lib.hid (fun i hi hik => by
              obtain ⟨w0, r, h⟩ := HO.out i hi hik
              exact ⟨w0, r, h.below (by rw [hN]; exact hb10)⟩)
            obtain ⟨V, hV⟩ : ∃ V, idxB (fun z => eqB y z) F2 0 = V := ⟨_, rfl⟩
            have hVr := idxB_rng (fun z => eqB y z) F2 0
            have HIX := Lib.hid (place_any (w := W10.drew) (A := A2) (c := c2) y ((OwnL.els (facL_alike (facL_alike HFW9.out HA.out (by decide)) (AlikeT.below (by rw [hN]; exact hb10.drew)) (by decide : (50 : Nat) ≠ 79)))) (by omega))
            rw [hV] at HIX hVr
            unfold facW at HIX
            have HV := Lib.hid hV
            clear hb10 hk10 HR HA HB HO hGb hV
            go_wp2_with fail
            clear hW10 hN d0 d1 d2 d3 d4 e0 e1 e2
            go_region_held3 (fun w' => w'.cell? ⟨C, 4, none⟩ = some (.slice (some ⟨G, 0, none⟩) pl cp) ∧ w'.cell? ⟨B + 1, 1, none⟩ = some (.slice A2 F2.length c2) ∧ w'.cell? ⟨C, 1, none⟩ = some (.slice (some ⟨bf, 0, none⟩) fl cf) ∧ w'.cell? ⟨N, 1, none⟩ = some (.int .i64 fi) ∧ w'.cell? ⟨bf, fi * 3, none⟩ = some (.string y.name) ∧ w'.cell? ⟨bf, fi * 3 + 1, none⟩ = some (.int .i64 y.link) ∧ w'.cell? ⟨bf, fi * 3 + 2, none⟩ = some (.int .i64 y.snap)) (first | exact ⟨s1, s2, s3, s4, s5, s6, s7⟩ | exact ⟨t1, t2, t3, t4, t5, t6, t7⟩ | exact ⟨v1, v2, v3, v4, v5, v6, v7⟩) ((first
              | (go_at_call 100; ((with_reducible refine HIX.out.mono ?_); rintro e w5 ⟨rfl, hb5⟩); have hHR : Hid (Below W10.heap.size W10 w5) := Lib.hid (below_undrew hb5); have uc : w5.cell? ⟨G, m * 5 + 1, none⟩ = some (.int .i64 fi) := (hHR.out.cell (p := ⟨G, m * 5 + 1, none⟩) (by show G < W10.heap.size; omega)).trans HD1.out; have uf : w5.frozen? ⟨G, m * 5 + 1, none⟩ = false := (HG10.out.below hHR.out (by omega)).frozen _; have t1 : w5.cell? ⟨C, 4, none⟩ = some (.slice (some ⟨G, 0, none⟩) pl cp) := (hHR.out.cell (p := ⟨C, 4, none⟩) (by show C < W10.heap.size; omega)).trans s1; have t2 : w5.cell? ⟨B + 1, 1, none⟩ = some (.slice A2 F2.length c2) := (hHR.out.cell (p := ⟨B + 1, 1, none⟩) (by show B + 1 < W10.heap.size; omega)).trans s2; have t3 : w5.cell? ⟨C, 1, none⟩ = some (.slice (some ⟨bf, 0, none⟩) fl cf) := (hHR.out.cell (p := ⟨C, 1, none⟩) (by show C < W10.heap.size; omega)).trans s3; have t4 : w5.cell? ⟨N, 1, none⟩ = some (.int .i64 fi) := (hHR.out.cell (p := ⟨N, 1, none⟩) (by show N < W10.heap.size; omega)).trans s4; have t5 : w5.cell? ⟨bf, fi * 3, none⟩ = some (.string y.name) := (hHR.out.cell (p := ⟨bf, fi * 3, none⟩) (by show bf < W10.heap.size; omega)).trans s5; have t6 : w5.cell? ⟨bf, fi * 3 + 1, none⟩ = some (.int .i64 y.link) := (hHR.out.cell (p := ⟨bf, fi * 3 + 1, none⟩) (by show bf < W10.heap.size; omega)).trans s6; have t7 : w5.cell? ⟨bf, fi * 3 + 2, none⟩ = some (.int .i64 y.snap) := (hHR.out.cell (p := ⟨bf, fi * 3 + 2, none⟩) (by show bf < W10.heap.size; omega)).trans s7; have v1 : (w5.setCell ⟨G, m * 5 + 1, none⟩ (.int .i64 V)).cell? ⟨C, 4, none⟩ = some (.slice (some ⟨G, 0, none⟩) pl cp) := (World.cell?_setCell_other _ _ _ _ (fun e => by injection e; omega)).trans t1; have v2 : (w5.setCell ⟨G, m * 5 + 1, none⟩ (.int .i64 V)).cell? ⟨B + 1, 1, none⟩ = some (.slice A2 F2.length c2) := (World.cell?_setCell_other _ _ _ _ (fun e => by injection e; omega)).trans t2; have v3 : (w5.setCell ⟨G, m * 5 + 1, none⟩ (.int .i64 V)).cell? ⟨C, 1, none⟩ = some (.slice (some ⟨bf, 0, none⟩) fl cf) := (World.cell?_setCell_other _ _ _ _ (fun e => by injection e; omega)).trans t3; have v4 : (w5.setCell ⟨G, m * 5 + 1, none⟩ (.int .i64 V)).cell? ⟨N, 1, none⟩ = some (.int .i64 fi) := (World.cell?_setCell_other _ _ _ _ (fun e => by injection e; omega)).trans t4; have v5 : (w5.setCell ⟨G, m * 5 + 1, none⟩ (.int .i64 V)).cell? ⟨bf, fi * 3, none⟩ = some (.string y.name) := (World.cell?_setCell_other _ _ _ _ (fun e => by injection e; omega)).trans t5; have v6 : (w5.setCell ⟨G, m * 5 + 1, none⟩ (.int .i64 V)).cell? ⟨bf, fi * 3 + 1, none⟩ = some (.int .i64 y.link) := (World.cell?_setCell_other _ _ _ _ (fun e => by injection e; omega)).trans t6; have v7 : (w5.setCell ⟨G, m * 5 + 1, none⟩ (.int .i64 V)).cell? ⟨bf, fi * 3 + 2, none⟩ = some (.int .i64 y.snap) := (World.cell?_setCell_other _ _ _ _ (fun e => by injection e; omega)).trans t7; clear hb5)))
            have hb5 := hHR.out
            have hG5 : Blk w5 G 50 gs := HG10.out.below hb5 (by omega)
            have hset : AlikeT 50 w5 (w5.setCell ⟨G, m * 5 + 1, none⟩ (.int .i64 V)) := AlikeT.set hG5 _
            have hfp : faceP F2 x.faces x.pkts[m] = ⟨x.pkts[m].time, V, x.pkts[m].real, x.pkts[m].data, x.pkts[m].note⟩ := by
              unfold faceP
              rw [HPX.out, HFI.out]
              simp only [Int.toNat_natCast, List.getElem?_eq_getElem hfl2, Option.getD_some, HY.out, HV.out]
            obtain ⟨rk', g1, _⟩ := face_step HPL.out (HR10.out.below hb5) hmx V hfp (by omega)
            have HR11 := Lib.hid g1
            have HA11 : Hid (AlikeT 50 W9 (w5.setCell ⟨G, m * 5 + 1, none⟩ (.int .i64 V))) := Lib.hid ((HA10.out.trans (AlikeT.below hb5)).trans hset)
            have HB11 : Hid (Below b w (w5.setCell ⟨G, m * 5 + 1, none⟩ (.int .i64 V))) := Lib.hid ((HB10.out.trans (hb5.mono (by omega))).setCell (p := ⟨G, m * 5 + 1, none⟩) hbG _)
            have HO11 : Hid (∀ i (_ : i < l.length), i ≠ k → ∃ w0 rows, OwnM pktKd w0 (w5.setCell ⟨G, m * 5 + 1, none⟩ (.int .i64 V)) b (.slice (q i).pp l[i].pkts.length (q i).cp) (togP l k i l[i]) rows l[i].pkts.length) := Lib.hid (fun i hi hik => by
              obtain ⟨w0, r, h⟩ := HO10.out i hi hik
              exact ⟨w0, r, (h.below hb5).far hG5 (apart_ne HAP.out hlt hi (fun e => hik e.symm) (by rw [HQK.out]))⟩)
            clear hb5 hG5 hset hfp g1 hHR HR10 HA10 HB10 HO10
            go_wp2
            go_roundw
            case rel => exact ⟨m + 1, rk', by go_num, by omega, HR11, HO11, HA11, HB11⟩
            case measure => simp [intOf]; omega
          · have hmn : m = pl := by omega
            subst hmn
            have HOE : Hid (Blk wr B 31 #[.string ⟨#[]⟩, .slice none 0 0, .slice none 0 0, .slice none 0 0, .slice none 0 0]) := Lib.hid (HA.out.2 _ _ _ (by decide) HZW9.out)
            have HFE := Lib.hid (facL_alike HFW9.out HA.out (by decide))
            have HWE : Hid (Below b w wr ∧ AlikeT 50 w wr) := Lib.hid ⟨HB.out, HWW9.out.2.trans HA.out⟩
            have HPE : Hid (∀ i (_ : i < l.length), ∃ w0 rows, OwnM pktKd w0 wr b (.slice (q i).pp l[i].pkts.length (q i).cp) (togP l (k + 1) i l[i]) rows l[i].pkts.length) := Lib.hid (fun i hi => by
              by_cases hik : i = k
              · subst hik
                refine ⟨wk, rk, ?_⟩
                have h := HR.out
                have e1 := HX.out
                have e2 := HQK.out
                have e3 : togP l (i + 1) i l[i] = x.pkts.map (faceP F2 x.faces) := by
                  unfold togP
                  rw [if_pos (Nat.lt_succ_self i), HTN.out, e1]
                rw [e3]
                simp only [e1, e2]
                have e4 : mapTo (faceP F2 x.faces) m x.pkts = x.pkts.map (faceP F2 x.faces) := by rw [← HPL.out]; exact mapTo_all
                rw [e4] at h
                rw [HPL.out]
                exact h
              · obtain ⟨w0, r, h⟩ := HO.out i hi hik
                refine ⟨w0, r, ?_⟩
                have e : togP l (k + 1) i l[i] = togP l k i l[i] := by
                  unfold togP
                  by_cases h1 : i < k
                  · rw [if_pos h1, if_pos (by omega)]
                  · rw [if_neg h1, if_neg (by omega)]
                rw [e]
                exact h)
            clear HR HO HA HB HCr
            go_wp2
            go_roundw
            case rel => exact ⟨k + 1, A2, c2, F2, note2, rows2, by go_num, by omega, hF24, HTN, HOr, HOE, HFE, HWE, HPE⟩
            case measure => simp [intOf]; omega
    · have hkn : k = l.length := by omega
      subst hkn
      have HMV : Hid (∀ W', AlikeT 31 wr W' → AlikeT 50 w W' → Mov W' b g q l (fun i => (l[i]?.map (togP l l.length i)).getD [])) := Lib.hid (fun W' h1 h2 => ⟨⟨cs, h2.2 _ _ _ (by decide) HG.out, HROW.out⟩, fun i hi => by
        obtain ⟨w0, r, h⟩ := HP.out i hi
        refine ⟨w0, r, ?_⟩
        have e : (l[i]?.map (togP l l.length i)).getD [] = togP l l.length i l[i] := by simp [hi]
        rw [e]
        exact h.alike h1 (by decide) (by decide)⟩)
      have o0 : wr.cell? ⟨B + 1, 0, none⟩ = some (.string note) := HO.out.cell 0
      have o1 : wr.cell? ⟨B + 1, 1, none⟩ = some (.slice A F.length cF) := HO.out.cell 1
      have o2 : wr.cell? ⟨B + 1, 2, none⟩ = some (.slice none 0 0) := HO.out.cell 2
      have o3 : wr.cell? ⟨B + 1, 3, none⟩ = some (.slice none 0 0) := HO.out.cell 3
      have o4 : wr.cell? ⟨B + 1, 4, none⟩ = some (.slice none 0 0) := HO.out.cell 4
      have z0 : wr.cell? ⟨B, 0, none⟩ = some (.string ⟨#[]⟩) := HZ.out.cell 0
      have f0 : wr.frozen? ⟨B, 0, none⟩ = false := HZ.out.frozen 0
      have z1 : wr.cell? ⟨B, 1, none⟩ = some (.slice none 0 0) := HZ.out.cell 1
      have f1 : wr.frozen? ⟨B, 1, none⟩ = false := HZ.out.frozen 1
      have z2 : wr.cell? ⟨B, 2, none⟩ = some (.slice none 0 0) := HZ.out.cell 2
      have f2 : wr.frozen? ⟨B, 2, none⟩ = false := HZ.out.frozen 2
      have z3 : wr.cell? ⟨B, 3, none⟩ = some (.slice none 0 0) := HZ.out.cell 3
      have f3 : wr.frozen? ⟨B, 3, none⟩ = false := HZ.out.frozen 3
      have z4 : wr.cell? ⟨B, 4, none⟩ = some (.slice none 0 0) := HZ.out.cell 4
      have f4 : wr.frozen? ⟨B, 4, none⟩ = false := HZ.out.frozen 4
      have HEND := Lib.hid (set5 HZ.out (.string note) (.slice A F.length cF) (.slice none 0 0) (.slice none 0 0) (.slice none 0 0))
      have HKS : Hid (AlikeT 50 w (((((wr.setCell ⟨B, 0, none⟩ (.string note)).setCell ⟨B, 1, none⟩ (.slice A F.length cF)).setCell ⟨B, 2, none⟩ (.slice none 0 0)).setCell ⟨B, 3, none⟩ (.slice none 0 0)).setCell ⟨B, 4, none⟩ (.slice none 0 0))) := Lib.hid (by
        have hle : w.heap.size ≤ B := by rw [HBS.out]; exact Nat.le_refl _
        exact keepS (keepS (keepS (keepS (keepS HW.out.2 hle) hle) hle) hle) hle)
      clear HP HO
      go_wp2
      generalize hW9 : ((((wr.setCell ⟨B, 0, none⟩ (.string note)).setCell ⟨B, 1, none⟩ (.slice A F.length cF)).setCell ⟨B, 2, none⟩ (.slice none 0 0)).setCell ⟨B, 3, none⟩ (.slice none 0 0)).setCell ⟨B, 4, none⟩ (.slice none 0 0) = W9 at HEND HKS ⊢
      obtain ⟨hb9, ha9, hw9⟩ := HEND.out
      have y0 : W9.cell? ⟨B, 0, none⟩ = some (.string note) := hb9.cell 0
      have y1 : W9.cell? ⟨B, 1, none⟩ = some (.slice A F.length cF) := hb9.cell 1
      have y2 : W9.cell? ⟨B, 2, none⟩ = some (.slice none 0 0) := hb9.cell 2
      have y3 : W9.cell? ⟨B, 3, none⟩ = some (.slice none 0 0) := hb9.cell 3
      have y4 : W9.cell? ⟨B, 4, none⟩ = some (.slice none 0 0) := hb9.cell 4
      refine bodyPost_ret (v := .tuple #[.agg #[.string note, .slice A F.length cF, .slice none 0 0, .slice none 0 0, .slice none 0 0], .int .i64 0]) (by simp [results, Try.results51, go_sem, y0, y1, y2, y3, y4]) rfl ⟨A, cF, rows, ?_, ?_, hw9 _ _ HW.out.1 hb, HKS.out, HMV.out _ ha9 HKS.out⟩
      · rw [HT.out]
      · rw [HT.out]
        exact facL_alike HF.out ha9 (by decide)
end Go.Proofs.Ytghdilmlfficlaa
