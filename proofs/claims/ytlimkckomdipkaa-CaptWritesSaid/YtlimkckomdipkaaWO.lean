/- writeOld. -/
import Derived.Test.YtlimkckomdipkaaWB
namespace Go.Proofs.Ytlimkckomdipkaa
open Go.RowKit

def recB (low : Bool) (p : Pkt) : List Nat := numsB low 4 [p.time.toNat / 1000000, p.time.toNat % 1000000, p.data.length, p.real.toNat] ++ p.data
/-- The file of the old kind. -/
def oldFileB (low : Bool) (c : Cap) : List Nat :=
  (oldB low ++ numsB low 4 [(c.faces.head?.map Fac.snap |>.getD 0).toNat, (c.faces.head?.map Fac.link |>.getD 0).toNat]) ++ c.pkts.flatMap (recB low)
theorem oldB_len (low : Bool) : (oldB low).length = 16 := by unfold oldB; rw [List.length_append, List.length_append, len4, len2, len42]

theorem old_at (low : Bool) (X : World) (n : Nat) (h : n ≤ X.heap.size) : Calls Try.prog 64 #[ordV low] X (OwnB n (oldB low) X) :=
  (oldbegin_any low).mono fun _ _ ⟨v', e1, h1, h2⟩ => ⟨v', e1, own_mono h1 h, h2.mono h, Nat.le_trans h h2.size⟩
theorem add_at (low : Bool) (X : World) (base b : Nat) (n : Nat) (v : Value) (bs vs : List Nat) (hn : n = 2 ∨ n = 4) (ho : X.ownsRow base 5 1 v bs.length (bs.map u8)) (hb : base ≤ X.heap.size) (hvb : v.ownBlock ≠ some b)
    (hc : ∀ i (h : i < vs.length), X.cell? ⟨b, i, none⟩ = some (.int .i64 (vs[i] : Nat))) (hl : bs.length + n * vs.length ≤ 1000000000) (hm : vs.length ≤ 1000) :
    Calls Try.prog 63 #[v, ordV low, .int .i64 n, .slice (some ⟨b, 0, none⟩) vs.length vs.length] X (OwnB base (bs ++ numsB low n vs) X) :=
  (add_any (c := vs.length) (b := b) (o := 0) low n vs hn ho hb hvb (fun i h => by rw [Nat.zero_add]; exact hc i h) hl hm).mono fun _ _ ⟨v', e1, h⟩ =>
    ⟨v', e1, h.own, h.below (Below.refl _ _) hb (fun g hg => (ho.lt g hg).1), Nat.le_trans hb h.grown.size⟩

theorem num_new (X : World) (a b : Nat) : ∀ i (h : i < [a, b].length), (X.alloc (.cells #[.int .i64 (a : Int), .int .i64 (b : Int)] 3)).cell? ⟨X.heap.size, i, none⟩ = some (.int .i64 ([a, b][i] : Nat)) := by
  intro i h
  rw [(Blk.new X 3 _).cell]
  have : i = 0 ∨ i = 1 := by simp at h; omega
  rcases this with rfl | rfl <;> rfl

set_option maxRecDepth 100000 in
set_option maxHeartbeats 8000000 in
theorem wold_any {w : World} {p : Pl} {c : Cap} (low : Bool) (hm : CapM w w.heap.size p c) (hv : capB c = true) (hh : hugeB c = false) :
    Calls Try.prog 29 #[capV p c, ordV low] w (OwnPost w w.heap.size (oldFileB low c)) := by
  obtain ⟨pf, cf, pn, cn, ps, cs, pp, cp⟩ := p
  have hh' : c.faces.length ≤ 4 ∧ c.pkts.length ≤ 100 := by
    have := of_decide_eq_false hh; omega
  simp only [capB, partsB, Bool.and_eq_true, decide_eq_true_eq] at hv
  obtain ⟨⟨hf0, htx⟩, hvf, hvn, hvs, hvp⟩ := hv
  have HVP := Lib.hid hvp
  have HM := Lib.hid hm
  obtain ⟨bf, of_, hA, hbf, vs, hl, ⟨rfl, hbig, hlk0, hsn0⟩, hcell⟩ := hm.faces.row 0 hf0
  change pf = _ at hA
  subst hA
  have hvk := List.all_eq_true.1 hvf _ (List.getElem_mem hf0)
  simp only [facB, Bool.and_eq_true, within_iff] at hvk
  obtain ⟨hv1, hv2, hv3⟩ := hvk
  obtain ⟨lk, hlk⟩ : ∃ lk : Nat, c.faces[0].link = lk := ⟨c.faces[0].link.toNat, by omega⟩
  obtain ⟨sn, hsn⟩ : ∃ sn : Nat, c.faces[0].snap = sn := ⟨c.faces[0].snap.toNat, by omega⟩
  have HF : Hid (c.faces.head? = some c.faces[0]) := Lib.hid (by
    rw [List.head?_eq_getElem?, List.getElem?_eq_getElem hf0])
  have HHEAD : Hid (oldFileB low c = (oldB low ++ numsB low 4 [sn, lk]) ++ c.pkts.flatMap (recB low)) := Lib.hid (by
    unfold oldFileB; rw [HF.out]; simp only [Option.map_some, Option.getD_some]; rw [hlk, hsn]; rfl)
  obtain ⟨nm, hnm⟩ : ∃ nm, c.faces[0].name = nm := ⟨_, rfl⟩
  have c0 : w.cell? ⟨bf, of_, none⟩ = some (.string nm) := by rw [← hnm]; exact hcell 0 _ rfl
  have c1 : w.cell? ⟨bf, of_ + 1, none⟩ = some (.int .i64 (lk : Nat)) := by rw [← hlk]; exact hcell 1 _ rfl
  have c2 : w.cell? ⟨bf, of_ + 2, none⟩ = some (.int .i64 (sn : Nat)) := by rw [← hsn]; exact hcell 2 _ rfl
  obtain ⟨O, hO⟩ : ∃ O, ordV low = O := ⟨_, rfl⟩
  have HOLD := Lib.hid (fun (X : World) (n : Nat) h => old_at low X n h)
  have HADD := Lib.hid (fun (X : World) (base b n : Nat) (v : Value) (bs vs : List Nat) h1 h2 h3 h4 h5 h6 h7 => add_at low X base b n v bs vs h1 h2 h3 h4 h5 h6 h7)
  have HADDN := Lib.hid (fun (w0 : World) (base : Nat) (v0 : Value) (b0 : List Nat) (vs : List Nat) (cs : Array Value) hcs hown0 hb0 hl0 hm0 => add_new (w := w0) (base := base) (v := v0) (bs := b0) low 4 vs (.inr rfl) hown0 hb0 hl0 hm0 cs hcs)
  rw [hO] at HOLD HADD HADDN ⊢
  clear hO hm hvf hvn hvs hvp hh htx hnm hlk hsn hv1 hv2 hv3 hlk0 hsn0 hcell HF
  obtain ⟨B, hB⟩ : ∃ B, w.heap.size = B := ⟨_, rfl⟩
  have HB := Lib.hid hB
  obtain ⟨W0, hW0⟩ : ∃ W0, w.alloc (.cells #[.string c.note, .slice (some ⟨bf, of_, none⟩) c.faces.length cf, .slice pn c.names.length cn, .slice ps c.secs.length cs, .slice pp c.pkts.length cp] 27) = W0 := ⟨_, rfl⟩
  have HK0 : Hid (Blk W0 B 27 (capV ⟨some ⟨bf, of_, none⟩, cf, pn, cn, ps, cs, pp, cp⟩ c).cells ∧ Below B w W0) := Lib.hid (by rw [← hW0, ← hB]; exact ⟨Blk.new _ _ _, (Below.refl _ w).alloc (Nat.le_refl _) _⟩)
  have HS0 : Hid (W0.heap.size = B + 1) := Lib.hid (by rw [← hW0, alloc_size, hB])
  rw [hB] at HM hbf ⊢
  obtain ⟨W1, hW1⟩ : ∃ W1, W0.alloc (.cells #[.string nm, .int .i64 (lk : Nat), .int .i64 (sn : Nat)] 54) = W1 := ⟨_, rfl⟩
  have k1 : Blk W1 (B + 1) 54 #[.string nm, .int .i64 (lk : Nat), .int .i64 (sn : Nat)] := by rw [← hW1, ← HS0.out]; exact Blk.new _ _ _
  have HB1 : Hid (Below (B + 1) W0 W1) := Lib.hid (by rw [← hW1]; exact (Below.refl _ W0).alloc (by rw [HS0.out]; omega) _)
  have HS1 : Hid (W1.heap.size = B + 2) := Lib.hid (by rw [← hW1, alloc_size, HS0.out])
  have q1 := HK0.out.1.cell 1
  have g0 : W0.cell? ⟨bf, of_, none⟩ = some (.string nm) := (HK0.out.2.cell (p := ⟨bf, of_, none⟩) hbf).trans c0
  have g1 : W0.cell? ⟨bf, of_ + 1, none⟩ = some (.int .i64 (lk : Nat)) := (HK0.out.2.cell (p := ⟨bf, of_ + 1, none⟩) hbf).trans c1
  have g2 : W0.cell? ⟨bf, of_ + 2, none⟩ = some (.int .i64 (sn : Nat)) := (HK0.out.2.cell (p := ⟨bf, of_ + 2, none⟩) hbf).trans c2
  have s1 := k1.cell 1
  have s2 := k1.cell 2
  have hs0 := HS0.out
  clear c0 c1 c2 k1
  go_enter Try.func29, Try.ntmps29
  go_wp2_with fail
  clear hW0 hW1 q1 g0 g1 g2 hB hs0
  have h16 := oldB_len low
  have H64a : Hid (Calls Try.prog 64 #[O] W1.drew (OwnB (B + 2) (oldB low) W1.drew)) := Lib.hid (HOLD.out W1.drew (B + 2) (Nat.le_of_eq HS1.out.symm))
  have hW2 : W1.drew.heap.size = B + 2 := HS1.out
  have hX : ((W1.alloc (.cells #[.int .i64 (sn : Nat), .int .i64 (lk : Nat)] 3)).drew).heap.size = B + 3 := by show (W1.alloc _).heap.size = _; rw [alloc_size, HS1.out]
  have H64b : Hid (Calls Try.prog 64 #[O] ((W1.alloc (.cells #[.int .i64 (sn : Nat), .int .i64 (lk : Nat)] 3)).drew) (OwnB (B + 3) (oldB low) ((W1.alloc (.cells #[.int .i64 (sn : Nat), .int .i64 (lk : Nat)] 3)).drew))) := Lib.hid (HOLD.out _ (B + 3) (Nat.le_of_eq hX.symm))
  have HNUM : Hid (∀ i (h : i < [sn, lk].length), ((W1.alloc (.cells #[.int .i64 (sn : Nat), .int .i64 (lk : Nat)] 3)).drew).cell? ⟨W1.heap.size, i, none⟩ = some (.int .i64 ([sn, lk][i] : Nat))) := Lib.hid (num_new W1 sn lk)
  have H63a : Hid (∀ w1 v1, w1.ownsRow (B + 2) 5 1 v1 (oldB low).length ((oldB low).map u8) → B + 2 ≤ w1.heap.size → Below (B + 2) W1.drew w1 → Calls Try.prog 63 #[v1, O, .int .i64 4, .slice (some ⟨w1.heap.size, 0, none⟩) 2 2] (w1.alloc (.cells #[.int .i64 (sn : Nat), .int .i64 (lk : Nat)] 3)) (OwnB (B + 2) (oldB low ++ numsB low 4 [sn, lk]) W1)) := Lib.hid (fun w1 v1 ho1 hz1 hb1 =>
    (HADD.out (w1.alloc (.cells #[.int .i64 (sn : Nat), .int .i64 (lk : Nat)] 3)) (B + 2) w1.heap.size 4 v1 _ [sn, lk] (.inr rfl) (ho1.alloc _) (by rw [alloc_size]; omega) (fun e => by have := (ho1.lt _ e).2; omega) (num_new w1 sn lk) (by rw [h16]; simp) (by simp)).mono fun _ _ ⟨v3, e, ho3, hb3, hz3⟩ => ⟨v3, e, ho3, (((Below.refl _ W1).drew.trans hb1).alloc hz1 _).trans hb3, hz3⟩)
  have H63b : Hid (∀ w1 v1, w1.ownsRow (B + 3) 5 1 v1 (oldB low).length ((oldB low).map u8) → B + 3 ≤ w1.heap.size → Below (B + 3) ((W1.alloc (.cells #[.int .i64 (sn : Nat), .int .i64 (lk : Nat)] 3)).drew) w1 → Calls Try.prog 63 #[v1, O, .int .i64 4, .slice (some ⟨W1.heap.size, 0, none⟩) 2 2] w1 (OwnB (B + 2) (oldB low ++ numsB low 4 [sn, lk]) W1)) := Lib.hid (fun w1 v1 ho1 hz1 hb1 =>
    (HADD.out w1 (B + 2) W1.heap.size 4 v1 _ [sn, lk] (.inr rfl) (own_mono ho1 (Nat.le_succ _)) (by omega) (fun e => by have := (ho1.lt _ e).1; have := HS1.out; omega) (fun i h => (hb1.cell (p := ⟨W1.heap.size, i, none⟩) (by show W1.heap.size < B + 3; rw [HS1.out]; omega)).trans (HNUM.out i h)) (by rw [h16]; simp) (by simp)).mono fun _ _ ⟨v3, e, ho3, hb3, hz3⟩ => ⟨v3, e, ho3, (((Below.refl _ W1).alloc (Nat.le_of_eq HS1.out.symm) _).drew.trans (hb1.mono (Nat.le_succ _))).trans hb3, hz3⟩)
  have n1 : ((W1.alloc (.cells #[.int .i64 (sn : Nat), .int .i64 (lk : Nat)] 3)).drew).cell? ⟨B + 1, 1, none⟩ = some (.int .i64 (lk : Nat)) := (World.cell?_alloc_lt _ _ _ (by show B + 1 < W1.heap.size; rw [HS1.out]; omega)).trans s1
  have n2 : ((W1.alloc (.cells #[.int .i64 (sn : Nat), .int .i64 (lk : Nat)] 3)).drew).cell? ⟨B + 1, 2, none⟩ = some (.int .i64 (sn : Nat)) := (World.cell?_alloc_lt _ _ _ (by show B + 1 < W1.heap.size; rw [HS1.out]; omega)).trans s2
  clear hW2 hX h16
  go_region_held3 (fun w' => w'.cell? ⟨B + 1, 1, none⟩ = some (.int .i64 (lk : Nat)) ∧ w'.cell? ⟨B + 1, 2, none⟩ = some (.int .i64 (sn : Nat))) (first | exact ⟨s1, s2⟩ | exact ⟨t1, t2⟩ | exact ⟨r1, r2⟩ | exact ⟨n1, n2⟩ | exact ⟨p1, p2⟩) ((first
    | (go_at_call 64; ((with_reducible refine H64a.out.mono ?_); rintro e w1 ⟨v1, rfl, ho1, hb1, hz1⟩); have t1 : w1.cell? ⟨B + 1, 1, none⟩ = some (.int .i64 (lk : Nat)) := (hb1.cell (p := ⟨B + 1, 1, none⟩) (Nat.lt_succ_self _)).trans s1; have t2 : w1.cell? ⟨B + 1, 2, none⟩ = some (.int .i64 (sn : Nat)) := (hb1.cell (p := ⟨B + 1, 2, none⟩) (Nat.lt_succ_self _)).trans s2; have p1 : (w1.alloc (.cells #[.int .i64 (sn : Nat), .int .i64 (lk : Nat)] 3)).cell? ⟨B + 1, 1, none⟩ = some (.int .i64 (lk : Nat)) := (World.cell?_alloc_lt _ _ _ (by show B + 1 < w1.heap.size; omega)).trans t1; have p2 : (w1.alloc (.cells #[.int .i64 (sn : Nat), .int .i64 (lk : Nat)] 3)).cell? ⟨B + 1, 2, none⟩ = some (.int .i64 (sn : Nat)) := (World.cell?_alloc_lt _ _ _ (by show B + 1 < w1.heap.size; omega)).trans t2)
    | (go_at_call 64; ((with_reducible refine H64b.out.mono ?_); rintro e w1 ⟨v1, rfl, ho1, hb1, hz1⟩); have t1 : w1.cell? ⟨B + 1, 1, none⟩ = some (.int .i64 (lk : Nat)) := (hb1.cell (p := ⟨B + 1, 1, none⟩) (by show B + 1 < B + 3; omega)).trans n1; have t2 : w1.cell? ⟨B + 1, 2, none⟩ = some (.int .i64 (sn : Nat)) := (hb1.cell (p := ⟨B + 1, 2, none⟩) (by show B + 1 < B + 3; omega)).trans n2)
    | (go_at_call 63; ((with_reducible refine (H63a.out _ _ ho1 hz1 hb1).mono ?_); rintro e w3 ⟨v3, rfl, ho3, hb13, hz3⟩); have r1 : w3.cell? ⟨B + 1, 1, none⟩ = some (.int .i64 (lk : Nat)) := (hb13.cell (p := ⟨B + 1, 1, none⟩) (Nat.lt_succ_self _)).trans s1; have r2 : w3.cell? ⟨B + 1, 2, none⟩ = some (.int .i64 (sn : Nat)) := (hb13.cell (p := ⟨B + 1, 2, none⟩) (Nat.lt_succ_self _)).trans s2)
    | (go_at_call 63; ((with_reducible refine (H63b.out _ _ ho1 hz1 hb1).mono ?_); rintro e w3 ⟨v3, rfl, ho3, hb13, hz3⟩); have r1 : w3.cell? ⟨B + 1, 1, none⟩ = some (.int .i64 (lk : Nat)) := (hb13.cell (p := ⟨B + 1, 1, none⟩) (Nat.lt_succ_self _)).trans s1; have r2 : w3.cell? ⟨B + 1, 2, none⟩ = some (.int .i64 (sn : Nat)) := (hb13.cell (p := ⟨B + 1, 2, none⟩) (Nat.lt_succ_self _)).trans s2)
    | (go_at_call 63; trace "63"; trace_state; fail)
    | (go_at_call 64; trace "64"; trace_state; fail)))
  all_goals
    have HK3 : Hid (Blk w3 B 27 (capV ⟨some ⟨bf, of_, none⟩, cf, pn, cn, ps, cs, pp, cp⟩ c).cells ∧ Below B w w3) := Lib.hid (by
      have hb : Below (B + 1) W0 w3 := HB1.out.trans (hb13.mono (Nat.le_succ _))
      exact ⟨HK0.out.1.below hb (Nat.lt_succ_self B), HK0.out.2.trans (hb.mono (Nat.le_succ B))⟩)
    have HO3 : Hid (w3.ownsRow (B + 1) 5 1 v3 (oldB low ++ numsB low 4 [sn, lk]).length ((oldB low ++ numsB low 4 [sn, lk]).map u8)) := Lib.hid (own_mono ho3 (Nat.le_succ _))
    have HL3 : Hid ((oldB low ++ numsB low 4 [sn, lk]).length ≤ 2000) := Lib.hid (by rw [List.length_append, oldB_len, len42]; omega)
    have q4 := HK3.out.1.cell 4
    clear ho1 ho3 hb1 hb13 hz1 hz3 s1 s2 t1 t2 r1 r2 n1 n2
    go_wp2
    clear q4
    go_loopw [6, 25] (fun v i wr => ∃ k : Nat, i = .int .i64 k ∧ k ≤ c.pkts.length ∧ Hid (wr.ownsRow (B + 1) 5 1 v ((oldB low ++ numsB low 4 [sn, lk]) ++ (c.pkts.take k).flatMap (recB low)).length (((oldB low ++ numsB low 4 [sn, lk]) ++ (c.pkts.take k).flatMap (recB low)).map u8)) ∧ Hid (((oldB low ++ numsB low 4 [sn, lk]) ++ (c.pkts.take k).flatMap (recB low)).length ≤ 2000 + 2000 * k) ∧ Hid (Blk wr B 27 (capV ⟨some ⟨bf, of_, none⟩, cf, pn, cn, ps, cs, pp, cp⟩ c).cells ∧ Below B w wr)) (fun _ i _ => c.pkts.length - (intOf i).toNat)
    case atStart => exact ⟨0, rfl, Nat.zero_le _, by simpa using HO3, by simpa using HL3, HK3⟩
    case round =>
      obtain ⟨k, rfl, hk, HR, HLN, HW⟩ := hrel
      have hbc4 := HW.out.1.cell 4
      have hBl := HW.out.1.lt
      by_cases hlt : k < c.pkts.length
      · obtain ⟨b, o, hA, hb, vs, hl, ⟨A2, cp2, rfl, hbyc, hbig, htm0, hfc0, hrl0⟩, hcell⟩ := (HM.out.pkts.keep pktK HW.out.2 (Nat.le_refl _)).row k hlt
        change pp = _ at hA
        subst hA
        have c0 : wr.cell? ⟨b, o + k * 5, none⟩ = _ := hcell 0 _ rfl
        have c1 := hcell 1 _ rfl
        have c2 := hcell 2 _ rfl
        have c3 := hcell 3 _ rfl
        have c4 := hcell 4 _ rfl
        clear hcell
        have HSN := Lib.hid (flat_snoc (recB low) c.pkts k hlt)
        have hvk := List.all_eq_true.1 HVP.out _ (List.getElem_mem hlt)
        simp only [pktB, pktS, Bool.and_eq_true, within_iff, decide_eq_true_eq] at hvk
        obtain ⟨hv1, hv2, hv3, hv4, hv5⟩ := hvk
        have hal : c.pkts[k].data.length ≤ 400 := by omega
        obtain ⟨tm, htm⟩ : ∃ q : Nat, c.pkts[k].time = q := ⟨c.pkts[k].time.toNat, by omega⟩
        obtain ⟨rl, hrl⟩ : ∃ q : Nat, c.pkts[k].real = q := ⟨c.pkts[k].real.toNat, by omega⟩
        obtain ⟨tq, htq⟩ : ∃ q : Nat, tm / 1000000 = q := ⟨_, rfl⟩
        obtain ⟨tr, htr⟩ : ∃ q : Nat, tm % 1000000 = q := ⟨_, rfl⟩
        have htq2 : tq ≤ 1000000000 := by omega
        have htr2 : tr < 1000000 := by omega
        have htq' : (tm : Int) / 1000000 = (tq : Int) := by omega
        have htr' : (tm : Int) % 1000000 = (tr : Int) := by omega
        obtain ⟨D, hD⟩ : ∃ D, c.pkts[k].data = D := ⟨_, rfl⟩
        obtain ⟨DL, hDL⟩ : ∃ DL, D.length = DL := ⟨_, rfl⟩
        have HDL := Lib.hid hDL
        have HBL : Hid (recB low c.pkts[k] = numsB low 4 [tq, tr, DL, rl] ++ D) := Lib.hid (by unfold recB; rw [htm, hrl, hD, ← hDL, ← htq, ← htr]; rfl)
        rw [htm] at c0
        rw [hrl] at c2
        rw [hD, hDL] at c3 hal
        rw [hD] at hbyc
        obtain ⟨face, hface⟩ : ∃ face, c.pkts[k].face = face := ⟨_, rfl⟩
        obtain ⟨note, hnote⟩ : ∃ note, c.pkts[k].note = note := ⟨_, rfl⟩
        rw [hface] at c1
        rw [hnote] at c4
        clear hv1 hv2 hv3 hv4 hv5 htm hrl htm0 hfc0 hrl0 htq htr hD hDL hface hnote hl hbig
        obtain ⟨W2, hW2⟩ : ∃ W2, wr.alloc (.cells #[.int .i64 (tm : Nat), .int .i64 face, .int .i64 (rl : Nat), .slice A2 DL cp2, .string note] 47) = W2 := ⟨_, rfl⟩
        have k1 : Blk W2 wr.heap.size 47 #[.int .i64 (tm : Nat), .int .i64 face, .int .i64 (rl : Nat), .slice A2 DL cp2, .string note] := by rw [← hW2]; exact Blk.new _ _ _
        have HB2 : Hid (Below wr.heap.size wr W2) := Lib.hid (by rw [← hW2]; exact (Below.refl _ wr).alloc (Nat.le_refl _) _)
        have HO2 : Hid (W2.ownsRow (B + 1) 5 1 u6 _ _) := Lib.hid (by rw [← hW2]; exact HR.out.alloc _)
        have hz2 : B + 1 ≤ W2.heap.size := Nat.le_trans hBl HB2.out.size
        have e0 := k1.cell 0
        have e2 := k1.cell 2
        have e3 := k1.cell 3
        have hne3 : u6.ownBlock ≠ some wr.heap.size := fun e => by have := (HR.out.lt _ e).2; omega
        have HNE3 := Lib.hid hne3
        clear k1 hne3
        go_wp2_with fail
        clear hW2
        refine (HADDN.out W2 (B + 1) u6 _ [tq, tr, DL, rl] _ rfl HO2.out hz2 (by have h := HLN.out; simp only [List.length_cons, List.length_nil]; omega) (by simp)).mono ?_
        rintro e w5 ⟨v5, rfl, hA5⟩
        have f3 : w5.cell? ⟨wr.heap.size, 3, none⟩ = some (.slice A2 DL cp2) := hA5.grown.cell e3 (fun e => HNE3.out e.symm)
        have hb5 : Below B wr w5 := hA5.below (HB2.out.mono (Nat.le_of_lt hBl)) (by omega) (fun g hg => Nat.le_of_lt (HR.out.lt g hg).1)
        obtain ⟨v6, w6, hrun, hA6⟩ := run_own_byt w5 (B + 1) v5 _ hA5.own cp2 (hbyc.byt.below hb5) (by rw [HDL.out]; omega) (by have := HLN.out; rw [List.length_append, len44]; omega) (Nat.le_trans hz2 hA5.grown.size)
        rw [HDL.out] at hrun
        have hA56 := hA5.trans hA6
        have HR4 : Hid (w6.ownsRow (B + 1) 5 1 v6 ((oldB low ++ numsB low 4 [sn, lk]) ++ (c.pkts.take (k + 1)).flatMap (recB low)).length (((oldB low ++ numsB low 4 [sn, lk]) ++ (c.pkts.take (k + 1)).flatMap (recB low)).map Ytlimkckomdipkaa.u8)) := Lib.hid (by
          rw [HSN.out, HBL.out, ← List.append_assoc (oldB low ++ numsB low 4 [sn, lk])]; exact hA56.own)
        have HL4 : Hid (((oldB low ++ numsB low 4 [sn, lk]) ++ (c.pkts.take (k + 1)).flatMap (recB low)).length ≤ 2000 + 2000 * (k + 1)) := Lib.hid (by
          have h := HLN.out
          have h2 : (numsB low 4 [tq, tr, DL, rl] ++ D).length = 16 + DL := by rw [List.length_append, len44, HDL.out]
          rw [HSN.out, HBL.out, ← List.append_assoc, List.length_append, h2]; omega)
        have HK4 : Hid (Blk w6 B 27 (capV ⟨some ⟨bf, of_, none⟩, cf, pn, cn, ps, cs, some ⟨b, o, none⟩, cp⟩ c).cells ∧ Below B w w6) := Lib.hid (by
          have hb : Below (B + 1) wr w6 := hA56.below (HB2.out.mono hBl) hz2 (fun g hg => (HR.out.lt g hg).1)
          exact ⟨HW.out.1.below hb (Nat.lt_succ_self B), HW.out.2.trans (hb.mono (Nat.le_succ B))⟩)
        clear hA5 hA6 hA56 hb5 e0 e2 e3 hbyc
        go_wp2_with (at_builtin; refine Lib.wpList_append_run _ rfl _ _ _ _ rfl _ _ rfl rfl _ _ hrun ?_)
        go_roundw
        case rel => exact ⟨k + 1, by go_num, by omega, HR4, HL4, HK4⟩
        case measure => simp [intOf]; omega
      · have hkn : k = c.pkts.length := by omega
        subst hkn
        have HR5 : Hid (wr.ownsRow (B + 1) 5 1 u6 (oldFileB low c).length ((oldFileB low c).map Ytlimkckomdipkaa.u8)) := Lib.hid (by
          have h := HR.out
          rw [List.take_length, ← HHEAD.out] at h
          exact h)
        go_wp2
        go_ret
        exact ⟨u6, rfl, own_mono HR5.out (Nat.le_succ B), HW.out.2⟩

end Go.Proofs.Ytlimkckomdipkaa
