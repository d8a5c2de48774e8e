/- Times that are moved: plain data, the closure, retime, Shift. -/
import Derived.Test.YtghdilmlfficlaaCopy
import Derived.Test.YtghdilmlfficlaaCutM
import Derived.Test.YtghdilmlfficlaaVAll
namespace Go.Proofs.Ytghdilmlfficlaa
open Go.RowKit

/-- There is a time that is later by d. -/
def laterB (t d : Int) : Bool := decide (-t ≤ d ∧ d ≤ 1000000000000000 - t)
def shiftP (d : Int) (p : Pkt) : Pkt := ⟨p.time + d, p.face, p.real, p.data, p.note⟩
def shiftC (d : Int) (c : Cap) : Cap := ⟨c.note, c.faces, c.names, c.secs, c.pkts.map (shiftP d)⟩
def noC : Cap := ⟨⟨#[]⟩, [], [], [], []⟩
def okS (d : Int) (c : Cap) : Bool := c.pkts.all fun p => laterB p.time d
/-- What is wrong with a capture that is moved. -/
def errS (d : Int) (c : Cap) : Int := if okS d c then 0 else 1
def shiftR (d : Int) (c : Cap) : Cap := if okS d c then shiftC d c else noC
theorem ret_tup {a b : Array Value} (h : a = b) : Ending.returned (.tuple a) = .returned (.tuple b) := by rw [h]

set_option maxHeartbeats 1000000 in
theorem later_ok {t d : Int} (w : World) (ht : 0 ≤ t ∧ t ≤ 1000000000000000) (hd : laterB t d = true) :
    Calls Try.prog 64 #[.int .i64 t, .int .i64 d] w fun e w' => e = .returned (.tuple #[.int .i64 (t + d), .bool true]) ∧ w = w' := by
  have h := of_decide_eq_true hd
  have b1 : decide (d < -t) = false := decide_eq_false (by omega)
  have b2 : decide (1000000000000000 - t < d) = false := decide_eq_false (by omega)
  clear hd
  obtain ⟨h1, h2⟩ := ht
  obtain ⟨h3, h4⟩ := h
  go_enter Try.func64, Try.ntmps64
  go_wp2
  go_ret2
  exact ⟨rfl, rfl⟩
set_option maxHeartbeats 1000000 in
theorem later_no {t d : Int} (w : World) (ht : 0 ≤ t ∧ t ≤ 1000000000000000) (hd : laterB t d = false) :
    Calls Try.prog 64 #[.int .i64 t, .int .i64 d] w fun e w' => e = .returned (.tuple #[.int .i64 0, .bool false]) ∧ w = w' := by
  have h := of_decide_eq_false hd
  clear hd
  obtain ⟨h1, h2⟩ := ht
  by_cases hb : d < -t
  · have b1 : decide (d < -t) = true := decide_eq_true (by omega)
    clear h hb
    go_enter Try.func64, Try.ntmps64
    go_wp2
    go_ret2
    exact ⟨rfl, rfl⟩
  · have b1 : decide (d < -t) = false := decide_eq_false (by omega)
    have b2 : decide (1000000000000000 - t < d) = true := decide_eq_true (by omega)
    clear h hb
    go_enter Try.func64, Try.ntmps64
    go_wp2
    go_ret2
    exact ⟨rfl, rfl⟩
set_option maxHeartbeats 1000000 in
theorem clos_ok {t d : Int} {g : Nat} (w : World) (hc : w.cell? ⟨g, 0, none⟩ = some (.int .i64 d)) (ht : 0 ≤ t ∧ t ≤ 1000000000000000) (hd : laterB t d = true) :
    Calls Try.prog 63 #[.int .i64 t, .pointer (some ⟨g, 0, none⟩)] w fun e w' => e = .returned (.tuple #[.int .i64 (t + d), .bool true]) ∧ w = w' := by
  have HL := Lib.hid (later_ok w ht hd)
  clear ht hd
  go_enter Try.func63, Try.ntmps63
  go_wp2_with fail
  refine HL.out.mono ?_
  rintro e w' ⟨rfl, rfl⟩
  go_wp2
  go_ret2
  exact ⟨rfl, rfl⟩
set_option maxHeartbeats 1000000 in
theorem clos_no {t d : Int} {g : Nat} (w : World) (hc : w.cell? ⟨g, 0, none⟩ = some (.int .i64 d)) (ht : 0 ≤ t ∧ t ≤ 1000000000000000) (hd : laterB t d = false) :
    Calls Try.prog 63 #[.int .i64 t, .pointer (some ⟨g, 0, none⟩)] w fun e w' => e = .returned (.tuple #[.int .i64 0, .bool false]) ∧ w = w' := by
  have HL := Lib.hid (later_no w ht hd)
  clear ht hd
  go_enter Try.func63, Try.ntmps63
  go_wp2_with fail
  refine HL.out.mono ?_
  rintro e w' ⟨rfl, rfl⟩
  go_wp2
  go_ret2
  exact ⟨rfl, rfl⟩

/-- A field of a row, not the bytes, is written anew. -/
theorem OwnM.fset {α : Type} {κ : Kind α} {w0 w : World} {base g cap k j : Nat} {xs : List α} {rows : List (List Value)} {x' : α} {u : Value} (h : OwnM κ w0 w base (.slice (some ⟨g, 0, none⟩) xs.length cap) xs rows xs.length) (hκ : κ.Right) (hk : k < xs.length) (hj : j < κ.K)
    (hrow : ∀ v, (κ.row xs[k] v).set j u = κ.row x' v) (hdat : κ.dat x' = κ.dat xs[k]) (hok : κ.ok xs[k] → κ.ok x') :
    ∃ rows', OwnM κ w0 (w.setCell ⟨g, k * κ.K + j, none⟩ u) base (.slice (some ⟨g, 0, none⟩) xs.length cap) (xs.set k x') rows' (xs.set k x').length ∧ AlikeT κ.T w (w.setCell ⟨g, k * κ.K + j, none⟩ u) := by
  have hkr : k < rows.length := by rw [h.len]; exact hk
  obtain ⟨A0, c0, e0, ho, hlt, hcp, hok0⟩ := h.done k hk hkr hk
  have hblk : ∃ cs, Blk w g κ.T cs := by
    rcases h.own.2 with ⟨e, h0⟩ | ⟨g', cap', cur, hv, hbg, hg, _⟩
    · omega
    · injection hv with hv _ _; injection hv with hv; injection hv with hv _ _; subst hv; exact ⟨cur, hg⟩
  obtain ⟨cs, hcs⟩ := hblk
  have ha : AlikeT κ.T w (w.setCell ⟨g, k * κ.K + j, none⟩ u) := AlikeT.set hcs _
  have hE : KO κ base x' w (κ.row x' (.slice A0 (κ.dat xs[k]).length c0)) := ⟨A0, c0, by rw [hdat], by rw [hdat]; exact ho, by rw [hdat]; exact hlt, by rw [hdat]; exact hcp, hok hok0⟩
  refine ⟨rows.set k (κ.row x' (.slice A0 (κ.dat xs[k]).length c0)), ⟨?_, by rw [List.length_set, List.length_set]; exact h.len, fun i h1 h2 hi => ?_, fun i h1 h2 hi => absurd h1 (by omega)⟩, ha⟩
  · have hs := h.own.stored (k * κ.K + j) u
    rw [List.length_set, flatten_set (K := κ.K) rows k j u _ hkr (fun q hq => h.rowLen hκ q hq) hj (by rw [e0, hrow])]
    exact hs.1
  · rw [List.length_set] at h1 h2
    by_cases hik : i = k
    · subst hik
      simp only [List.getElem_set_self]
      exact hE.alike ha hκ.t5
    · simp only [List.getElem_set_ne (fun e => hik e.symm)]
      exact (h.done i h1 h2 h1).alike ha hκ.t5
theorem shift_step {d : Int} {w0 w : World} {base n g cap k : Nat} {xs : List Pkt} {rows : List (List Value)} (hn : xs.length = n) (h : OwnM pktKd w0 w base (.slice (some ⟨g, 0, none⟩) n cap) (mapTo (shiftP d) k xs) rows n) (hk : k < xs.length) (t : Int) (ht : t = xs[k].time + d) (hb : -9223372036854775808 ≤ t ∧ t ≤ 9223372036854775807) :
    ∃ rows', OwnM pktKd w0 (w.setCell ⟨g, k * 5, none⟩ (.int .i64 t)) base (.slice (some ⟨g, 0, none⟩) n cap) (mapTo (shiftP d) (k + 1) xs) rows' n ∧ AlikeT 50 w (w.setCell ⟨g, k * 5, none⟩ (.int .i64 t)) := by
  subst hn
  have hl : (mapTo (shiftP d) k xs).length = xs.length := mapTo_len
  have hk' : k < (mapTo (shiftP d) k xs).length := by rw [hl]; exact hk
  have e := mapTo_at (f := shiftP d) hk hk'
  have h' : OwnM pktKd w0 w base (.slice (some ⟨g, 0, none⟩) (mapTo (shiftP d) k xs).length cap) (mapTo (shiftP d) k xs) rows (mapTo (shiftP d) k xs).length := by rw [hl]; exact h
  obtain ⟨rows', h1, h2⟩ := h'.fset (k := k) (j := 0) (x' := shiftP d xs[k]) (u := .int .i64 t) pktR hk' (by decide) (fun v => by rw [e, ht]; rfl) (by rw [e]; rfl) (fun h => by
    rw [e] at h; exact ⟨h.1, by rw [ht] at hb; exact hb, h.2.2.1, h.2.2.2⟩)
  refine ⟨rows', ?_, h2⟩
  rw [List.length_set, hl, mapTo_set hk] at h1
  exact h1
theorem facL_mono {w : World} {b b' : Nat} {v : Value} {xs : List Fac} {rows : List (List Value)} (h : OwnL w b 79 3 FacE v xs rows) (hb : b' ≤ b) : OwnL w b' 79 3 FacE v xs rows := ⟨h.own.mono hb, h.len, h.each, h.one⟩
theorem OwnM.mono {α : Type} {κ : Kind α} {w0 w : World} {b b' k : Nat} {v : Value} {xs : List α} {rows : List (List Value)} (h : OwnM κ w0 w b v xs rows k) (hb : b' ≤ b) : OwnM κ w0 w b' v xs rows k :=
  ⟨h.own.mono hb, h.len, fun i h1 h2 hk => by
    obtain ⟨A, c, e, ho, r⟩ := h.done i h1 h2 hk
    exact ⟨A, c, e, ho.mono hb, r⟩, h.rest⟩
theorem CapO.mono {w : World} {b b' : Nat} {q : Pl} {c : Cap} (h : CapO w b q c) (hb : b' ≤ b) : CapO w b' q c := by
  obtain ⟨hn, ⟨rf, hf⟩, ⟨w1, rn, hn1⟩, ⟨w2, rs, hs1⟩, ⟨w3, rp, hp1⟩, a1, a2, a3, a4⟩ := h
  exact ⟨hn, ⟨rf, facL_mono hf hb⟩, ⟨w1, rn, hn1.mono hb⟩, ⟨w2, rs, hs1.mono hb⟩, ⟨w3, rp, hp1.mono hb⟩, a1, a2, a3, a4⟩
theorem ownL_nil {w : World} (b : Nat) : OwnL w b 79 3 FacE (.slice none 0 0) ([] : List Fac) [] := OwnL.nil _ _ _ _ _
theorem ownM_nil {α : Type} {κ : Kind α} (w0 w : World) (b : Nat) : OwnM κ w0 w b (.slice none 0 0) ([] : List α) [] 0 :=
  ⟨World.ownsRow_nil _ _ _ _, rfl, fun i h => absurd h (by simp), fun i h => absurd h (by simp)⟩
theorem capO_no (w : World) (b : Nat) : CapO w b ⟨none, 0, none, 0, none, 0, none, 0⟩ noC :=
  ⟨by show ByteArray.size ⟨#[]⟩ ≤ _; simp [ByteArray.size], ⟨_, ownL_nil b⟩, ⟨w, _, ownM_nil w w b⟩, ⟨w, _, ownM_nil w w b⟩, ⟨w, _, ownM_nil w w b⟩, (by decide : 0 * 32 ≤ 140737488355328), (by decide : 0 * 40 ≤ 140737488355328), (by decide : 0 * 40 ≤ 140737488355328), (by decide : 0 * 64 ≤ 140737488355328)⟩

set_option maxRecDepth 100000 in
set_option maxHeartbeats 8000000 in
theorem retime_any {w : World} {p : Pl} {c : Cap} {d : Int} {gd : Nat} (hm : CapM w w.heap.size p c) (hg : w.cell? ⟨gd, 0, none⟩ = some (.int .i64 d)) (hgd : gd < w.heap.size) (hd : -9223372036854775808 ≤ d ∧ d ≤ 9223372036854775807) (hT : ∀ x ∈ c.pkts, 0 ≤ x.time ∧ x.time ≤ 1000000000000000) :
    Calls Try.prog 62 #[capV p c, .func (.func 63) #[] #[.pointer (some ⟨gd, 0, none⟩)]] w fun e w' => ∃ q, e = .returned (.tuple #[capV q (shiftR d c), .int .i64 (errS d c)]) ∧ CapO w' w.heap.size q (shiftR d c) ∧ Below w.heap.size w w' := by
  obtain ⟨pf, cf, pn, cn, ps, cs, pp, cp⟩ := p
  obtain ⟨B, hB⟩ : ∃ B, w.heap.size = B := ⟨_, rfl⟩
  obtain ⟨W0, hW0⟩ : ∃ W0, (w.alloc (.cells #[.string c.note, .slice pf c.faces.length cf, .slice pn c.names.length cn, .slice ps c.secs.length cs, .slice pp c.pkts.length cp] 31)).alloc (.cells #[.string ⟨#[]⟩, .slice none 0 0, .slice none 0 0, .slice none 0 0, .slice none 0 0] 31) = W0 := ⟨_, rfl⟩
  have HM0 : Hid (CapM W0 W0.heap.size ⟨pf, cf, pn, cn, ps, cs, pp, cp⟩ c) := Lib.hid (by rw [← hW0]; exact boxed (boxed hm _) _)
  have HK0 : Hid (Blk W0 B 31 #[.string c.note, .slice pf c.faces.length cf, .slice pn c.names.length cn, .slice ps c.secs.length cs, .slice pp c.pkts.length cp] ∧ Below B w W0) := Lib.hid (by rw [← hW0, ← hB]; exact ⟨(Blk.new _ _ _).alloc _, ((Below.refl _ w).alloc (Nat.le_refl _) _).alloc (by rw [alloc_size]; omega) _⟩)
  have HZ0 : Hid (Blk W0 (B + 1) 31 #[.string ⟨#[]⟩, .slice none 0 0, .slice none 0 0, .slice none 0 0, .slice none 0 0]) := Lib.hid (by
    have h := Blk.new (w.alloc (.cells #[.string c.note, .slice pf c.faces.length cf, .slice pn c.names.length cn, .slice ps c.secs.length cs, .slice pp c.pkts.length cp] 31)) 31 #[.string ⟨#[]⟩, .slice none 0 0, .slice none 0 0, .slice none 0 0, .slice none 0 0]
    rw [alloc_size, hB] at h
    rw [← hW0]; exact h)
  have HG := Lib.hid hg
  have HM := Lib.hid hm
  rw [hB] at hgd HM ⊢
  have HT := Lib.hid hT
  have HD := Lib.hid hd
  clear hm hg hT hd
  have q0 : W0.cell? ⟨B, 0, none⟩ = some (.string c.note) := HK0.out.1.cell 0
  have q1 : W0.cell? ⟨B, 1, none⟩ = some (.slice pf c.faces.length cf) := HK0.out.1.cell 1
  have q2 : W0.cell? ⟨B, 2, none⟩ = some (.slice pn c.names.length cn) := HK0.out.1.cell 2
  have q3 : W0.cell? ⟨B, 3, none⟩ = some (.slice ps c.secs.length cs) := HK0.out.1.cell 3
  have q4 : W0.cell? ⟨B, 4, none⟩ = some (.slice pp c.pkts.length cp) := HK0.out.1.cell 4
  have HC := Lib.hid (copy_any HM0.out)
  clear HM0
  go_enter Try.func62, Try.ntmps62
  go_wp2_with fail
  clear hW0
  refine HC.out.mono ?_
  rintro e w1 ⟨⟨af, bf, an, bn, as_, bs, ap, bp⟩, rfl, hO1, hb1⟩
  have hlB : B + 1 < W0.heap.size := HZ0.out.lt
  clear HC q0 q1 q2 q3 q4
  obtain ⟨G, hG⟩ : ∃ G, w1.heap.size = G := ⟨_, rfl⟩
  have hBG : B + 2 ≤ G := by rw [← hG]; have := hb1.size; omega
  obtain ⟨W1, hW1⟩ : ∃ W1, w1.alloc (.cells #[.string c.note, .slice af c.faces.length bf, .slice an c.names.length bn, .slice as_ c.secs.length bs, .slice ap c.pkts.length bp] 31) = W1 := ⟨_, rfl⟩
  have hb2 : Below w1.heap.size w1 W1 := by rw [← hW1]; exact (Below.refl _ _).alloc (Nat.le_refl _) _
  have HK1 : Hid (Blk W1 B 31 #[.string c.note, .slice pf c.faces.length cf, .slice pn c.names.length cn, .slice ps c.secs.length cs, .slice pp c.pkts.length cp] ∧ Below B w W1) := Lib.hid ⟨(HK0.out.1.below hb1 (by omega)).below hb2 (by omega), (HK0.out.2.trans (hb1.mono (by omega))).trans (hb2.mono (by omega))⟩
  have HZ1 : Hid (Blk W1 (B + 1) 31 #[.string ⟨#[]⟩, .slice none 0 0, .slice none 0 0, .slice none 0 0, .slice none 0 0]) := Lib.hid ((HZ0.out.below hb1 hlB).below hb2 (by omega))
  have HG1 : Hid (Blk W1 G 31 #[.string c.note, .slice af c.faces.length bf, .slice an c.names.length bn, .slice as_ c.secs.length bs, .slice ap c.pkts.length bp]) := Lib.hid (by rw [← hW1, ← hG]; exact Blk.new _ _ _)
  have hO2 : CapO W1 (W0.heap.size + 2) ⟨af, bf, an, bn, as_, bs, ap, bp⟩ c := hO1.below hb2
  obtain ⟨hnote, ⟨rf, hof⟩, ⟨wn, rn, hon⟩, ⟨ws, rs, hos⟩, ⟨wp, rp, hop⟩, hlf, hln, hls, hlp⟩ := hO2
  have HOF := Lib.hid hof
  have HON := Lib.hid hon
  have HOS := Lib.hid hos
  have HOP : Hid (OwnM pktKd wp W1 (W0.heap.size + 2) (.slice ap c.pkts.length bp) (mapTo (shiftP d) 0 c.pkts) rp c.pkts.length) := Lib.hid (by rw [mapTo_zero]; exact hop)
  have HLL := Lib.hid (And.intro hnote (And.intro hlf (And.intro hln (And.intro hls hlp))))
  clear hO1 hb1 hb2 hof hon hos hop hnote hlf hln hls HK0 HZ0
  have hBB : B ≤ W0.heap.size + 2 := by omega
  generalize W0.heap.size + 2 = b0 at HOF HON HOS HOP hBB
  have hpl : c.pkts.length ≤ 140737488355328 := by omega
  have y0 : W1.cell? ⟨B, 4, none⟩ = some (.slice pp c.pkts.length cp) := HK1.out.1.cell 4
  clear hlp
  go_wp2_with fail
  clear hW1 hG hlB
  go_wp2
  clear y0
  go_loopw [16] (fun i wr => ∃ (k : Nat) (rows : List (List Value)), i = .int .i64 k ∧ k ≤ c.pkts.length ∧ Hid ((c.pkts.take k).all (fun p => laterB p.time d) = true) ∧ Hid (OwnM pktKd wp wr b0 (.slice ap c.pkts.length bp) (mapTo (shiftP d) k c.pkts) rows c.pkts.length) ∧ Hid (AlikeT 50 W1 wr) ∧ Hid (Below B w wr)) (fun i _ => c.pkts.length - (intOf i).toNat)
  case atStart => exact ⟨0, rp, rfl, Nat.zero_le _, Lib.hid (by simp), HOP, Lib.hid (AlikeT.refl _ _), Lib.hid HK1.out.2⟩
  case round =>
    obtain ⟨k, rows, rfl, hk, HA, HR, HL, HW⟩ := hrel
    have HKr : Hid (Blk wr B 31 #[.string c.note, .slice pf c.faces.length cf, .slice pn c.names.length cn, .slice ps c.secs.length cs, .slice pp c.pkts.length cp]) := Lib.hid (HL.out.2 _ _ _ (by decide) HK1.out.1)
    have HZr : Hid (Blk wr (B + 1) 31 #[.string ⟨#[]⟩, .slice none 0 0, .slice none 0 0, .slice none 0 0, .slice none 0 0]) := Lib.hid (HL.out.2 _ _ _ (by decide) HZ1.out)
    have HGr : Hid (Blk wr G 31 #[.string c.note, .slice af c.faces.length bf, .slice an c.names.length bn, .slice as_ c.secs.length bs, .slice ap c.pkts.length bp]) := Lib.hid (HL.out.2 _ _ _ (by decide) HG1.out)
    have hGs : G < wr.heap.size := HGr.out.lt
    by_cases hlt : k < c.pkts.length
    · obtain ⟨b, o, hA, hb, vs, hvl, ⟨A2, cp2, rfl, hbyc, hnz, htz, hfz, hrz⟩, hcell⟩ := (HM.out.pkts.keep pktK HW.out (Nat.le_refl _)).row k hlt
      change pp = _ at hA
      subst hA
      have c0 : wr.cell? ⟨b, o + k * 5, none⟩ = _ := hcell 0 _ rfl
      have c1 := hcell 1 _ rfl
      have c2 := hcell 2 _ rfl
      have c3 := hcell 3 _ rfl
      have c4 := hcell 4 _ rfl
      clear hcell hbyc hnz hfz hrz
      have hTk := HT.out _ (List.getElem_mem hlt)
      have hcg : wr.cell? ⟨gd, 0, none⟩ = some (.int .i64 d) := (HW.out.cell (p := ⟨gd, 0, none⟩) hgd).trans HG.out
      obtain ⟨W2, hW2⟩ : ∃ W2, wr.alloc (.cells #[.int .i64 c.pkts[k].time, .int .i64 c.pkts[k].face, .int .i64 c.pkts[k].real, .slice A2 c.pkts[k].data.length cp2, .string c.pkts[k].note] 50) = W2 := ⟨_, rfl⟩
      have hb2 : Below wr.heap.size wr W2 := by rw [← hW2]; exact (Below.refl _ _).alloc (Nat.le_refl _) _
      have hK2 : Blk W2 wr.heap.size 50 #[.int .i64 c.pkts[k].time, .int .i64 c.pkts[k].face, .int .i64 c.pkts[k].real, .slice A2 c.pkts[k].data.length cp2, .string c.pkts[k].note] := by rw [← hW2]; exact Blk.new _ _ _
      have p0 := hK2.cell 0
      have HL2 : Hid (AlikeT 50 W1 W2) := Lib.hid (HL.out.trans (AlikeT.below hb2))
      have HW2 : Hid (Below B w W2) := Lib.hid (HW.out.trans (hb2.mono (by omega)))
      have HR2 : Hid (OwnM pktKd wp W2 b0 (.slice ap c.pkts.length bp) (mapTo (shiftP d) k c.pkts) rows c.pkts.length) := Lib.hid (HR.out.below hb2)
      have hcg2 : W2.cell? ⟨gd, 0, none⟩ = some (.int .i64 d) := (hb2.cell (p := ⟨gd, 0, none⟩) (by show gd < wr.heap.size; omega)).trans hcg
      have hG2 := HGr.out.below hb2 hGs
      have HZ2 := Lib.hid (HZr.out.below hb2 (by omega))
      have g4 : W2.cell? ⟨G, 4, none⟩ = some (.slice ap c.pkts.length bp) := hG2.cell 4
      have gk4 : wr.cell? ⟨B, 4, none⟩ = some (.slice (some ⟨b, o, none⟩) c.pkts.length cp) := HKr.out.cell 4
      clear hK2 hb2 hG2 hcg
      obtain ⟨T, hTT⟩ : ∃ T, c.pkts[k].time = T := ⟨_, rfl⟩
      cases hok : laterB c.pkts[k].time d with
      | true =>
        have HCL := Lib.hid (clos_ok W2 hcg2 hTk hok)
        have hdd := of_decide_eq_true hok
        have HOK := Lib.hid hok
        have hkl : k < (mapTo (shiftP d) k c.pkts).length := by rw [mapTo_len]; exact hlt
        obtain ⟨g, cap, ccs, A4, c4', hv, hbg, hgb, _⟩ := OwnM.readO (κ := pktKd) (k := k) (xs := mapTo (shiftP d) k c.pkts) (by rw [mapTo_len]; exact HR2.out) pktR hkl
        rw [mapTo_len] at hv
        injection hv with hv1 hv2 hv3
        subst hv1
        subst hv3
        obtain ⟨rows', h1, h2⟩ := shift_step rfl HR2.out hlt (c.pkts[k].time + d) rfl (by omega)
        have HR3 := Lib.hid h1
        have HL3 : Hid (AlikeT 50 W1 (W2.setCell ⟨g, k * 5, none⟩ (.int .i64 (c.pkts[k].time + d)))) := Lib.hid (HL2.out.trans h2)
        have HW3 : Hid (Below B w (W2.setCell ⟨g, k * 5, none⟩ (.int .i64 (c.pkts[k].time + d)))) := Lib.hid (HW2.out.setCell (p := ⟨g, k * 5, none⟩) (by show B ≤ g; omega) _)
        obtain ⟨v5, hv5⟩ : ∃ v, W2.cell? ⟨g, k * 5, none⟩ = some v := by
          obtain ⟨g', cap', ccs', A5, c5', hv', hbg', hgb', hro⟩ := OwnM.readO (κ := pktKd) (k := k) (xs := mapTo (shiftP d) k c.pkts) (by rw [mapTo_len]; exact HR2.out) pktR hkl
          injection hv' with hv1' _ _
          injection hv1' with hv1'
          injection hv1' with hv1' _ _
          subst hv1'
          exact ⟨_, hro.2.2.2.2 0 _ rfl⟩
        have hfz := hgb.frozen (k * 5)
        have HAk : Hid ((c.pkts.take (k + 1)).all (fun p => laterB p.time d) = true) := Lib.hid (by rw [all_take_succ _ _ k hlt, HA.out, HOK.out]; rfl)
        clear h1 h2 hgb hok hTT
        go_wp2_with fail
        clear hW2
        refine HCL.out.mono ?_
        rintro e w' ⟨rfl, rfl⟩
        go_wp2
        go_roundw
        case rel => exact ⟨k + 1, rows', by go_num, by omega, HAk, HR3, HL3, HW3⟩
        case measure => simp [intOf]; omega
      | false =>
        have HCL := Lib.hid (clos_no W2 hcg2 hTk hok)
        have hokS : okS d c = false := all_false _ _ k hlt hok
        have HE : Hid (errS d c = 1 ∧ shiftR d c = noC) := Lib.hid (by unfold errS shiftR; rw [hokS]; exact ⟨rfl, rfl⟩)
        clear hok hokS hTT
        have z0 : W2.cell? ⟨B + 1, 0, none⟩ = some (.string ⟨#[]⟩) := HZ2.out.cell 0
        have f0 : W2.frozen? ⟨B + 1, 0, none⟩ = false := HZ2.out.frozen 0
        have z1 : W2.cell? ⟨B + 1, 1, none⟩ = some (.slice none 0 0) := HZ2.out.cell 1
        have f1 : W2.frozen? ⟨B + 1, 1, none⟩ = false := HZ2.out.frozen 1
        have z2 : W2.cell? ⟨B + 1, 2, none⟩ = some (.slice none 0 0) := HZ2.out.cell 2
        have f2 : W2.frozen? ⟨B + 1, 2, none⟩ = false := HZ2.out.frozen 2
        have z3 : W2.cell? ⟨B + 1, 3, none⟩ = some (.slice none 0 0) := HZ2.out.cell 3
        have f3 : W2.frozen? ⟨B + 1, 3, none⟩ = false := HZ2.out.frozen 3
        have z4 : W2.cell? ⟨B + 1, 4, none⟩ = some (.slice none 0 0) := HZ2.out.cell 4
        have f4 : W2.frozen? ⟨B + 1, 4, none⟩ = false := HZ2.out.frozen 4
        have HEND := Lib.hid (set5 HZ2.out (.string ⟨#[]⟩) (.slice none 0 0) (.slice none 0 0) (.slice none 0 0) (.slice none 0 0))
        go_wp2_with fail
        clear hW2
        refine HCL.out.mono ?_
        rintro e w' ⟨rfl, rfl⟩
        go_wp2
        generalize hW9 : ((((W2.setCell ⟨B + 1, 0, none⟩ (.string ⟨#[]⟩)).setCell ⟨B + 1, 1, none⟩ (.slice none 0 0)).setCell ⟨B + 1, 2, none⟩ (.slice none 0 0)).setCell ⟨B + 1, 3, none⟩ (.slice none 0 0)).setCell ⟨B + 1, 4, none⟩ (.slice none 0 0) = W9 at HEND ⊢
        obtain ⟨hb9, ha9, hw9⟩ := HEND.out
        have y0 : W9.cell? ⟨B + 1, 0, none⟩ = some (.string ⟨#[]⟩) := hb9.cell 0
        have y1 : W9.cell? ⟨B + 1, 1, none⟩ = some (.slice none 0 0) := hb9.cell 1
        have y2 : W9.cell? ⟨B + 1, 2, none⟩ = some (.slice none 0 0) := hb9.cell 2
        have y3 : W9.cell? ⟨B + 1, 3, none⟩ = some (.slice none 0 0) := hb9.cell 3
        have y4 : W9.cell? ⟨B + 1, 4, none⟩ = some (.slice none 0 0) := hb9.cell 4
        exact bodyPost_ret (v := .tuple #[.agg #[.string ⟨#[]⟩, .slice none 0 0, .slice none 0 0, .slice none 0 0, .slice none 0 0], .int .i64 1]) (by simp [results, Try.results62, go_sem, y0, y1, y2, y3, y4]) rfl ⟨⟨none, 0, none, 0, none, 0, none, 0⟩, by rw [HE.out.1, HE.out.2]; rfl, by rw [HE.out.2]; exact capO_no _ _, hw9 _ _ HW2.out (by omega)⟩
    · have hkn : k = c.pkts.length := by omega
      subst hkn
      have hokS : okS d c = true := by have := HA.out; rw [List.take_length] at this; exact this
      have HE : Hid (errS d c = 0 ∧ shiftR d c = shiftC d c) := Lib.hid (by unfold errS shiftR; rw [hokS]; exact ⟨rfl, rfl⟩)
      clear hokS hk hlt
      have x0 : wr.cell? ⟨G, 0, none⟩ = some (.string c.note) := HGr.out.cell 0
      have x1 : wr.cell? ⟨G, 1, none⟩ = some (.slice af c.faces.length bf) := HGr.out.cell 1
      have x2 : wr.cell? ⟨G, 2, none⟩ = some (.slice an c.names.length bn) := HGr.out.cell 2
      have x3 : wr.cell? ⟨G, 3, none⟩ = some (.slice as_ c.secs.length bs) := HGr.out.cell 3
      have x4 : wr.cell? ⟨G, 4, none⟩ = some (.slice ap c.pkts.length bp) := HGr.out.cell 4
      have z0 : wr.cell? ⟨B + 1, 0, none⟩ = some (.string ⟨#[]⟩) := HZr.out.cell 0
      have f0 : wr.frozen? ⟨B + 1, 0, none⟩ = false := HZr.out.frozen 0
      have z1 : wr.cell? ⟨B + 1, 1, none⟩ = some (.slice none 0 0) := HZr.out.cell 1
      have f1 : wr.frozen? ⟨B + 1, 1, none⟩ = false := HZr.out.frozen 1
      have z2 : wr.cell? ⟨B + 1, 2, none⟩ = some (.slice none 0 0) := HZr.out.cell 2
      have f2 : wr.frozen? ⟨B + 1, 2, none⟩ = false := HZr.out.frozen 2
      have z3 : wr.cell? ⟨B + 1, 3, none⟩ = some (.slice none 0 0) := HZr.out.cell 3
      have f3 : wr.frozen? ⟨B + 1, 3, none⟩ = false := HZr.out.frozen 3
      have z4 : wr.cell? ⟨B + 1, 4, none⟩ = some (.slice none 0 0) := HZr.out.cell 4
      have f4 : wr.frozen? ⟨B + 1, 4, none⟩ = false := HZr.out.frozen 4
      have HEND := Lib.hid (set5 HZr.out (.string c.note) (.slice af c.faces.length bf) (.slice an c.names.length bn) (.slice as_ c.secs.length bs) (.slice ap c.pkts.length bp))
      have HOF2 := Lib.hid (facL_alike HOF.out HL.out (by decide))
      have HON2 := Lib.hid (HON.out.alike HL.out (by decide) (by decide))
      have HOS2 := Lib.hid (HOS.out.alike HL.out (by decide) (by decide))
      clear HKr HGr HOF HON HOS HL
      go_wp2
      generalize hW9 : ((((wr.setCell ⟨B + 1, 0, none⟩ (.string c.note)).setCell ⟨B + 1, 1, none⟩ (.slice af c.faces.length bf)).setCell ⟨B + 1, 2, none⟩ (.slice an c.names.length bn)).setCell ⟨B + 1, 3, none⟩ (.slice as_ c.secs.length bs)).setCell ⟨B + 1, 4, none⟩ (.slice ap c.pkts.length bp) = W9 at HEND ⊢
      obtain ⟨hb9, ha9, hw9⟩ := HEND.out
      have y0 : W9.cell? ⟨B + 1, 0, none⟩ = some (.string c.note) := hb9.cell 0
      have y1 : W9.cell? ⟨B + 1, 1, none⟩ = some (.slice af c.faces.length bf) := hb9.cell 1
      have y2 : W9.cell? ⟨B + 1, 2, none⟩ = some (.slice an c.names.length bn) := hb9.cell 2
      have y3 : W9.cell? ⟨B + 1, 3, none⟩ = some (.slice as_ c.secs.length bs) := hb9.cell 3
      have y4 : W9.cell? ⟨B + 1, 4, none⟩ = some (.slice ap c.pkts.length bp) := hb9.cell 4
      have hml : (shiftC d c).pkts.length = c.pkts.length := List.length_map _
      have hR9 : OwnM pktKd wp W9 b0 (.slice ap c.pkts.length bp) (c.pkts.map (shiftP d)) rows c.pkts.length := by
        have h := HR.out
        rw [mapTo_all] at h
        exact h.alike ha9 (by decide) (by decide)
      refine bodyPost_ret (v := .tuple #[.agg #[.string c.note, .slice af c.faces.length bf, .slice an c.names.length bn, .slice as_ c.secs.length bs, .slice ap c.pkts.length bp], .int .i64 0]) (by simp [results, Try.results62, go_sem, y0, y1, y2, y3, y4]) rfl ⟨⟨af, bf, an, bn, as_, bs, ap, bp⟩, ?_, ?_, hw9 _ _ HW.out (by omega)⟩
      · rw [HE.out.1, HE.out.2]
        show Ending.returned (.tuple #[.agg _, _]) = Ending.returned (.tuple #[.agg #[_, _, _, _, .slice ap (shiftC d c).pkts.length bp], _])
        rw [hml]; rfl
      · rw [HE.out.2]
        refine CapO.mono ?_ hBB
        refine ⟨HLL.out.1, ⟨_, facL_alike HOF2.out ha9 (by decide)⟩, ⟨_, _, HON2.out.alike ha9 (by decide) (by decide)⟩, ⟨_, _, HOS2.out.alike ha9 (by decide) (by decide)⟩, ⟨wp, rows, ?_⟩, HLL.out.2.1, HLL.out.2.2.1, HLL.out.2.2.2.1, ?_⟩
        · show OwnM pktKd wp W9 b0 (.slice ap (shiftC d c).pkts.length bp) (c.pkts.map (shiftP d)) rows (shiftC d c).pkts.length
          rw [hml]; exact hR9
        · rw [hml]; exact HLL.out.2.2.2.2
end Go.Proofs.Ytghdilmlfficlaa
