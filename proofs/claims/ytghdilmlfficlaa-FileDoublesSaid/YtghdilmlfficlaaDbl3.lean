/- Doubles. -/
import Derived.Test.YtghdilmlfficlaaDbl2
import Derived.Test.YtghdilmlfficlaaCopyR
namespace Go.Proofs.Ytghdilmlfficlaa
open Go.RowKit

/-- The numbers below k of packets that are there already. -/
noncomputable def dbls (n : Int) (W : Nat) (ps : List Pkt) : Nat → List Int
  | 0 => []
  | k + 1 => match ps[k]? with
    | none => dbls n W ps k
    | some p => if ((ps.take k).drop (k - W)).any (dblB n p) then dbls n W ps k ++ [(k : Int)] else dbls n W ps k
noncomputable def dblA (c : Cap) (W n : Int) : List Int × Int :=
  if errV c = 0 then (if W < 1 ∨ 100 < W ∨ isT n = false then ([], 1) else (dbls n W.toNat c.pkts c.pkts.length, 0)) else ([], errV c)
abbrev i64 (z : Int) : Value := .int .i64 z
def DblP (w : World) (r : List Int × Int) (e : Ending) (w' : World) : Prop :=
  ∃ A c, e = .returned (.tuple #[.slice A r.1.length c, .int .i64 r.2]) ∧ w'.ownsRow w.heap.size 3 1 (.slice A r.1.length c) r.1.length (r.1.map i64) ∧ Below w.heap.size w w'
theorem dblP_nil {w w' : World} {k : Int} (h : Below w.heap.size w w') : DblP w ([], k) (.returned (.tuple #[.slice none 0 0, .int .i64 k])) w' :=
  ⟨none, 0, rfl, World.ownsRow_nil _ _ _ _, h⟩
theorem dbls_len (n : Int) (W : Nat) (ps : List Pkt) : ∀ k, (dbls n W ps k).length ≤ k
  | 0 => Nat.le_refl _
  | k + 1 => by
    have := dbls_len n W ps k
    rw [dbls]
    split
    · omega
    · split
      · rw [List.length_append]; simp; omega
      · omega
theorem els_sub {w : World} {B : Nat} {b o : Nat} {ps : List Pkt} (h : Els 5 PktE w B (some ⟨b, o, none⟩) ps) (lo k : Nat) (hk : k ≤ ps.length) (hlo : lo ≤ k) : Els 5 PktE w B (some ⟨b, o + lo * 5, none⟩) ((ps.take k).drop lo) := by
  intro hn
  rw [List.length_drop, List.length_take] at hn
  obtain ⟨b', o', e, hb, hi⟩ := h (by omega)
  injection e with e; injection e with e1 e2; subst e1; subst e2
  refine ⟨b, o + lo * 5, rfl, hb, fun i hx => ?_⟩
  rw [List.length_drop, List.length_take] at hx
  obtain ⟨vs, hv, hE, hc⟩ := hi (lo + i) (by omega)
  refine ⟨vs, hv, ?_, fun j v hj => ?_⟩
  · have : ((ps.take k).drop lo)[i]'(by rw [List.length_drop, List.length_take]; omega) = ps[lo + i]'(by omega) := by simp
    rw [this]; exact hE
  · have := hc j v hj
    rw [show o + lo * 5 + (i * 5 + j) = o + ((lo + i) * 5 + j) by omega]
    exact this

theorem own_bel {w w' : World} {base e size n : Nat} {v : Value} {xs : List Value} (h : w.ownsRow base e size v n xs) (hb : Below w.heap.size w w') : w'.ownsRow base e size v n xs := by
  obtain ⟨h1, h | ⟨g, cap, cur, e1, e2, e3, e4⟩⟩ := h
  · exact ⟨h1, Or.inl h⟩
  · exact ⟨h1, Or.inr ⟨g, cap, cur, e1, e2, (show Blk w g e cur from e3).below hb (show Blk w g e cur from e3).lt, e4⟩⟩

theorem k_box {w : World} {B : Nat} (hB : w.heap.size = B) (cs : Array Value) (t : TypeId) :
    ∃ w0, w.alloc (.cells cs t) = w0 ∧ w0.heap.size = B + 1 ∧ Blk w0 B t cs ∧ Below B w w0 ∧ ∀ g t' cs', Blk w g t' cs' → Blk w0 g t' cs' := by
  subst hB
  exact ⟨_, rfl, alloc_size _ _, Blk.new _ _ _, (Below.refl _ _).alloc (Nat.le_refl _) _, fun g t' cs' h => h.alloc _⟩

set_option maxRecDepth 100000 in
set_option maxHeartbeats 8000000 in
theorem doubles_any {w : World} {p : Pl} {c : Cap} {W n : Int} (hm : CapM w w.heap.size p c) (hn : -9223372036854775808 ≤ n ∧ n ≤ 9223372036854775807) :
    Calls Try.prog 30 #[capV p c, .int .i64 W, .int .i64 n] w (DblP w (dblA c W n)) := by
  obtain ⟨B, hB⟩ : ∃ B, w.heap.size = B := ⟨_, rfl⟩
  obtain ⟨w0, e0, s0, g0, b0, k0⟩ := k_box hB (capV p c).cells 31
  obtain ⟨w1, e1, s1, g1, b1, k1⟩ := k_box s0 #[.int .i64 n] 3
  have hb : Below B w w1 := b0.trans (b1.mono (by omega))
  have HV := Lib.hid (vald_any (hm.keep (by rw [hB]; exact hb) (by rw [s1]; omega) : CapM w1 w1.heap.size p c))
  have HB1 := Lib.hid hb
  have HBS := Lib.hid hB
  have HG := Lib.hid (k1 _ _ _ g0)
  have HG1 := Lib.hid g1
  have HE0 := Lib.hid e0
  have HE1 := Lib.hid e1
  have HM := Lib.hid hm
  by_cases h1 : errV c = 0
  · by_cases h2 : W < 1 ∨ 100 < W ∨ isT n = false
    · have HR : Hid (dblA c W n = ([], 1)) := Lib.hid (by unfold dblA; rw [if_pos h1, if_pos h2])
      rw [h1] at HV
      have hcells : (capV p c).cells = #[.string c.note, .slice p.pf c.faces.length p.cf, .slice p.pn c.names.length p.cn, .slice p.ps c.secs.length p.cs, .slice p.pp c.pkts.length p.cp] := rfl
      rw [hcells] at HG HE0
      clear hcells e0 e1 b0 b1 k0 k1 g0 g1 hb hm
      unfold capV at HV ⊢
      rcases (by
        rcases Int.lt_or_le W 1 with h | h
        · exact Or.inl h
        · rcases Int.lt_or_le 100 W with h' | h'
          · exact Or.inr (Or.inl ⟨h, h'⟩)
          · rcases h2 with h3 | h3 | h3
            · omega
            · omega
            · exact Or.inr (Or.inr ⟨h, h', h3⟩) : W < 1 ∨ (1 ≤ W ∧ 100 < W) ∨ (1 ≤ W ∧ W ≤ 100 ∧ isT n = false)) with h3 | ⟨h3, h4⟩ | ⟨h3, h4, h5⟩
      · have hd1 : decide (W < 1) = true := decide_eq_true h3
        clear h2
        go_enter Try.func30, Try.ntmps30
        go_wp2_with fail
        rw [HE0.out, HE1.out]
        with_reducible refine HV.out.mono ?_
        rintro e v1 ⟨rfl, hb1⟩
        have HW1 : Hid (Below B w v1) := Lib.hid (HB1.out.trans (hb1.mono (by rw [s1]; omega)))
        clear HE0 HE1 HV HG HG1 hb1 HB1 s0 s1 hB
        go_wp2
        go_ret2
        rw [HR.out]
        exact dblP_nil (by rw [HBS.out]; exact HW1.out)
      · have hd1 : decide (W < 1) = false := decide_eq_false (by omega)
        have hd2 : decide (100 < W) = true := decide_eq_true h4
        clear h2
        go_enter Try.func30, Try.ntmps30
        go_wp2_with fail
        rw [HE0.out, HE1.out]
        with_reducible refine HV.out.mono ?_
        rintro e v1 ⟨rfl, hb1⟩
        have HW1 : Hid (Below B w v1) := Lib.hid (HB1.out.trans (hb1.mono (by rw [s1]; omega)))
        clear HE0 HE1 HV HG HG1 hb1 HB1 s0 s1 hB
        go_wp2
        go_ret2
        rw [HR.out]
        exact dblP_nil (by rw [HBS.out]; exact HW1.out)
      · have hd1 : decide (W < 1) = false := decide_eq_false (by omega)
        have hd2 : decide (100 < W) = false := decide_eq_false (by omega)
        clear h2
        go_enter Try.func30, Try.ntmps30
        go_wp2_with fail
        rw [HE0.out, HE1.out]
        with_reducible refine HV.out.mono ?_
        rintro e v1 ⟨rfl, hb1⟩
        have HW1 : Hid (Below B w v1) := Lib.hid (HB1.out.trans (hb1.mono (by rw [s1]; omega)))
        have n0 : v1.cell? ⟨B + 1, 0, none⟩ = some (.int .i64 n) := (HG1.out.below hb1 (by rw [s1]; omega)).cell 0
        have HT := Lib.hid (isT_any n v1)
        rw [h5] at HT
        have hsz : B ≤ v1.heap.size := by have := hb1.size; omega
        have HSZ := Lib.hid hsz
        clear HE0 HE1 HV HG HG1 hb1 HB1 s0 s1 hB hsz h5
        go_wp2_with fail
        with_reducible refine HT.out.mono ?_
        rintro e v2 ⟨rfl, hb2⟩
        have HW2 : Hid (Below B w v2) := Lib.hid (HW1.out.trans (hb2.mono HSZ.out))
        clear hb2 n0 HW1 HT
        go_wp2
        go_ret2
        rw [HR.out]
        exact dblP_nil (by rw [HBS.out]; exact HW2.out)
    · have HR : Hid (dblA c W n = (dbls n W.toNat c.pkts c.pkts.length, 0)) := Lib.hid (by unfold dblA; rw [if_pos h1, if_neg h2])
      have ht : isT n = true := by
        cases h : isT n with
        | true => rfl
        | false => exact absurd (Or.inr (Or.inr h)) h2
      have hn0 : 0 ≤ n ∧ n ≤ 1000000000000000 := by
        unfold isT at ht
        simpa using ht
      obtain ⟨m, hmW⟩ : ∃ m : Nat, W = m := ⟨W.toNat, by omega⟩
      subst hmW
      have hm1 : 1 ≤ m ∧ m ≤ 100 := by omega
      obtain ⟨hm1, hm100⟩ := hm1
      have hd1 : decide ((m : Int) < 1) = false := decide_eq_false (by omega)
      have hd2 : decide ((100 : Int) < (m : Int)) = false := decide_eq_false (by omega)
      have HTO : Hid (∀ q ∈ c.pkts, timeOk q) := Lib.hid (errV_times h1)
      have HH : Hid (hugeB c = false ∨ True) := Lib.hid (Or.inr trivial)
      have lp : c.pkts.length ≤ 140737488355328 := by have := hm.lp; omega
      have lp64 : c.pkts.length * 64 ≤ 140737488355328 := hm.lp.2.1
      rw [h1] at HV
      clear h1 h2 hm b0 b1 k0 k1 g0 g1 hb
      have hcells : (capV p c).cells = #[.string c.note, .slice p.pf c.faces.length p.cf, .slice p.pn c.names.length p.cn, .slice p.ps c.secs.length p.cs, .slice p.pp c.pkts.length p.cp] := rfl
      rw [hcells] at HG HE0
      clear hcells e0 e1
      unfold capV at HV ⊢
      go_enter Try.func30, Try.ntmps30
      go_wp2_with fail
      rw [HE0.out, HE1.out]
      with_reducible refine HV.out.mono ?_
      rintro e v1 ⟨rfl, hb1⟩
      have HW1 : Hid (Blk v1 B 31 #[.string c.note, .slice p.pf c.faces.length p.cf, .slice p.pn c.names.length p.cn, .slice p.ps c.secs.length p.cs, .slice p.pp c.pkts.length p.cp] ∧ Blk v1 (B + 1) 3 #[.int .i64 n] ∧ Below B w v1 ∧ B + 2 ≤ v1.heap.size) := Lib.hid ⟨HG.out.below hb1 (by rw [s1]; omega), HG1.out.below hb1 (by rw [s1]; omega), HB1.out.trans (hb1.mono (by rw [s1]; omega)), by have := hb1.size; omega⟩
      have n0 : v1.cell? ⟨B + 1, 0, none⟩ = some (.int .i64 n) := HW1.out.2.1.cell 0
      have HT := Lib.hid (isT_any n v1)
      rw [ht] at HT
      clear HE0 HE1 HV HG HG1 hb1 HB1 s0 s1 hB
      go_wp2_with fail
      with_reducible refine HT.out.mono ?_
      rintro e v2 ⟨rfl, hb2⟩
      have HW2 : Hid (Blk v2 B 31 #[.string c.note, .slice p.pf c.faces.length p.cf, .slice p.pn c.names.length p.cn, .slice p.ps c.secs.length p.cs, .slice p.pp c.pkts.length p.cp] ∧ Blk v2 (B + 1) 3 #[.int .i64 n] ∧ Below B w v2 ∧ B + 2 ≤ v2.heap.size) := Lib.hid ⟨HW1.out.1.below hb2 HW1.out.1.lt, HW1.out.2.1.below hb2 HW1.out.2.1.lt, HW1.out.2.2.1.trans (hb2.mono (by have := HW1.out.2.2.2; omega)), by have := hb2.size; have := HW1.out.2.2.2; omega⟩
      have l4 : v2.cell? ⟨B, 4, none⟩ = some (.slice p.pp c.pkts.length p.cp) := HW2.out.1.cell 4
      clear HT hb2 HW1 n0
      go_wp2
      clear l4
      go_loopw [9, 32] (fun t9 t32 wr => ∃ (k : Nat) (Ao : Option Addr) (co ol : Nat) (out : List Int), t32 = .int .i64 k ∧ t9 = .slice Ao ol co ∧ k ≤ c.pkts.length ∧ ol ≤ k ∧ Hid (out.length = ol) ∧ Hid (out = dbls n m c.pkts k) ∧ Hid (wr.ownsRow (B + 2) 3 1 (.slice Ao ol co) ol (out.map i64)) ∧ Hid (Blk wr B 31 #[.string c.note, .slice p.pf c.faces.length p.cf, .slice p.pn c.names.length p.cn, .slice p.ps c.secs.length p.cs, .slice p.pp c.pkts.length p.cp] ∧ Blk wr (B + 1) 3 #[.int .i64 n] ∧ Below B w wr ∧ B + 2 ≤ wr.heap.size)) (fun _ t32 _ => c.pkts.length - (intOf t32).toNat)
      case atStart => exact ⟨0, none, 0, 0, [], rfl, rfl, Nat.zero_le _, Nat.zero_le _, Lib.hid rfl, Lib.hid rfl, Lib.hid (World.ownsRow_nil _ _ _ _), HW2⟩
      case round =>
        obtain ⟨k, Ao, co, ol, out, rfl, rfl, hk, hol, HOL, HOU, HOW, HW⟩ := hrel
        by_cases hlt : k < c.pkts.length
        · have hd3 : decide ((k : Int) < (c.pkts.length : Int)) = true := decide_eq_true (by omega)
          have hm4 : 0 < c.pkts.length := by omega
          have HPK : Hid (Els 5 PktE wr B p.pp c.pkts) := Lib.hid (HM.out.pkts.keep pktK (by rw [HBS.out]; exact HW.out.2.2.1) (by rw [HBS.out]; exact Nat.le_refl _))
          obtain ⟨b, o, hA, hbB, vs, hvl, ⟨Aq, cq, rfl, hbq, _, _, _, _⟩, hcell⟩ := HPK.out.row k hlt
          have c0 : wr.cell? ⟨b, o + k * 5, none⟩ = _ := hcell 0 _ rfl
          have c1 := hcell 1 _ rfl
          have c2 := hcell 2 _ rfl
          have c3 := hcell 3 _ rfl
          have c4 := hcell 4 _ rfl
          have l4 : wr.cell? ⟨B, 4, none⟩ = some (.slice p.pp c.pkts.length p.cp) := HW.out.1.cell 4
          rw [hA] at l4 HPK ⊢
          obtain ⟨W1, eW, sW, gW, bW, kW⟩ := k_box (rfl : wr.heap.size = wr.heap.size) (pktW c.pkts[k] Aq cq) 50
          have HEW := Lib.hid eW
          have HSW := Lib.hid sW
          have HGW := Lib.hid gW
          have HBW := Lib.hid bW
          have HKW := Lib.hid kW
          have hlc : c.pkts.length ≤ p.cp := HM.out.lp.1
          have l4b : (wr.alloc (.cells #[.int .i64 c.pkts[k].time, .int .i64 c.pkts[k].face, .int .i64 c.pkts[k].real, .slice Aq c.pkts[k].data.length cq, .string c.pkts[k].note] 50)).cell? ⟨B, 4, none⟩ = some (.slice (some ⟨b, o, none⟩) c.pkts.length p.cp) := by
            have h := (kW _ _ _ HW.out.1).cell 4
            rw [← eW] at h
            rw [← hA]
            exact h
          have HCALL : ∀ lo cc : Nat, lo ≤ k → Calls Try.prog 75 #[.slice (some ⟨b, o + lo * 5, none⟩) (k - lo) cc, .func (.func 76) #[] #[.pointer (some ⟨wr.heap.size, 0, none⟩), .pointer (some ⟨B + 1, 0, none⟩)]] (wr.alloc (.cells #[.int .i64 c.pkts[k].time, .int .i64 c.pkts[k].face, .int .i64 c.pkts[k].real, .slice Aq c.pkts[k].data.length cq, .string c.pkts[k].note] 50)) fun e w' => e = .returned (.bool (((c.pkts.take k).drop lo).any (dblB n c.pkts[k]))) ∧ Below (wr.alloc (.cells #[.int .i64 c.pkts[k].time, .int .i64 c.pkts[k].face, .int .i64 c.pkts[k].real, .slice Aq c.pkts[k].data.length cq, .string c.pkts[k].note] 50)).heap.size (wr.alloc (.cells #[.int .i64 c.pkts[k].time, .int .i64 c.pkts[k].face, .int .i64 c.pkts[k].real, .slice Aq c.pkts[k].data.length cq, .string c.pkts[k].note] 50)) w' := fun lo cc hlo => by
            have hW1 : W1.heap.size = wr.heap.size + 1 := sW
            have hxx : ∀ q ∈ (c.pkts.take k).drop lo, timeOk q := fun q hq => HTO.out q (List.mem_of_mem_take (List.mem_of_mem_drop hq))
            have hll : ((c.pkts.take k).drop lo).length = k - lo := by rw [List.length_drop, List.length_take]; omega
            have hE := els_sub (HPK.out.keep pktK (bW.mono (by have := HW.out.2.2.2; omega)) (Nat.le_trans (by have := HW.out.2.2.2; omega) (Nat.le_of_eq hW1.symm)) : Els 5 PktE W1 W1.heap.size (some ⟨b, o, none⟩) c.pkts) lo k hk hlo
            have h := containsd_any (w := W1) (s := B + 1) (x := wr.heap.size) (Ap := Aq) (cp := cq) (n := n) (c := cc) c.pkts[k] gW ((kW _ _ _ HW.out.2.1).cell 0) ((hbq.byt.below (bW.mono (by have := HW.out.2.2.2; omega))).more (by rw [hW1]; have := HW.out.2.2.2; omega)) (HTO.out _ (List.getElem_mem hlt)) hxx hn0 hE (by rw [hll]; omega)
            rw [hll, ← eW] at h
            exact h
          clear eW sW gW bW kW
          by_cases hmk : m < k
          · have hmx : (0 : Int) < (k : Int) - (m : Int) := by omega
            have HCL := Lib.hid (HCALL (k - m) (p.cp - (k - m)) (by omega))
            clear HCALL
            go_wp2_with fail
            with_reducible refine (HCL.out).mono ?_
            rintro e w2 ⟨rfl, hb2⟩
            have hbw2 : Below wr.heap.size wr w2 := ((Below.refl _ _).alloc (Nat.le_refl _) _).trans (hb2.mono (by rw [alloc_size]; omega))
            have HW2 : Hid (Blk w2 B 31 #[.string c.note, .slice p.pf c.faces.length p.cf, .slice p.pn c.names.length p.cn, .slice p.ps c.secs.length p.cs, .slice p.pp c.pkts.length p.cp] ∧ Blk w2 (B + 1) 3 #[.int .i64 n] ∧ Below B w w2 ∧ B + 2 ≤ w2.heap.size) := Lib.hid ⟨HW.out.1.below hbw2 HW.out.1.lt, HW.out.2.1.below hbw2 HW.out.2.1.lt, HW.out.2.2.1.trans (hbw2.mono (by have := HW.out.2.2.2; omega)), by have := hbw2.size; have := HW.out.2.2.2; omega⟩
            have HO2 := Lib.hid (own_bel HOW.out hbw2)
            obtain ⟨q, hq⟩ : ∃ q, ((c.pkts.take k).drop (k - m)).any (dblB n c.pkts[k]) = q := ⟨_, rfl⟩
            have HQ : Hid (((c.pkts.take k).drop (k - m)).any (dblB n c.pkts[k]) = q) := Lib.hid (by rw [show k - m = k - m by omega]; exact hq)
            rw [hq]
            clear hq hb2 hbw2 l4b c0 c1 c2 c3 c4 l4 hbq hcell
            cases q with
            | true =>
              have HD : Hid (dbls n m c.pkts (k + 1) = dbls n m c.pkts k ++ [(k : Int)]) := Lib.hid (by rw [dbls, List.getElem?_eq_getElem hlt]; simp only [HQ.out, if_true])
              have hbase2 : B + 2 ≤ w2.heap.size := HW2.out.2.2.2
              obtain ⟨v7, w7, hrun, ho7, hg7, _⟩ := run_own_struct w2 (B + 2) 3 1 8 23 (.int .i64 0) Try.underlying23 (by kernel_rfl) (by rfl) (by decide) _ _ _ HO2.out [.int .i64 (k : Int)] rfl (by
                intro u hu; simp only [List.mem_cons, List.not_mem_nil, or_false] at hu; rcases hu with rfl; rfl) (by unfold maxLen; omega) (by omega) hbase2
              obtain ⟨A7, c7, rfl⟩ : ∃ A c, v7 = .slice A (ol + 1) c := by
                rcases ho7.2 with ⟨e, h0⟩ | ⟨g, cap, _, e, _⟩
                · omega
                · exact ⟨_, _, e⟩
              have HO7 : Hid (w7.ownsRow (B + 2) 3 1 (.slice A7 (ol + 1) c7) (ol + 1) ((out ++ [(k : Int)]).map i64)) := Lib.hid (by
                rw [List.map_append]
                exact ho7)
              have hgr : w2.heap.size ≤ w7.heap.size := by
                have := hg7.size
                rw [alloc_size] at this
                omega
              have hnb : ∀ g t cs, g < B + 2 → Blk w2 g t cs → Blk w7 g t cs := fun g t cs hg hk => (hk.alloc _).grown hg7 (fun e => by
                have h := (HO2.out.lt g e.symm).1
                omega)
              have HW7 : Hid (Blk w7 B 31 #[.string c.note, .slice p.pf c.faces.length p.cf, .slice p.pn c.names.length p.cn, .slice p.ps c.secs.length p.cs, .slice p.pp c.pkts.length p.cp] ∧ Blk w7 (B + 1) 3 #[.int .i64 n] ∧ Below B w w7 ∧ B + 2 ≤ w7.heap.size) := Lib.hid ⟨hnb _ _ _ (by omega) HW2.out.1, hnb _ _ _ (by omega) HW2.out.2.1, (HW2.out.2.2.1.alloc (by omega) _).grown hg7 (by rw [alloc_size]; omega) (fun j hj => by have := (HO2.out.lt _ hj).1; omega), by omega⟩
              have HOL7 : Hid ((out ++ [(k : Int)]).length = ol + 1) := Lib.hid (by rw [List.length_append, HOL.out]; rfl)
              have HOU7 : Hid (out ++ [(k : Int)] = dbls n m c.pkts (k + 1)) := Lib.hid (by rw [HD.out, HOU.out])
              clear ho7 hg7 hgr hnb
              go_wp2_with (at_builtin; refine Lib.wpList_append_run _ rfl _ _ _ _ rfl _ _ rfl rfl _ _ hrun ?_)
              go_roundw
              case rel => exact ⟨k + 1, A7, c7, ol + 1, out ++ [(k : Int)], by go_num, rfl, by omega, by omega, HOL7, HOU7, HO7, Lib.hid (by rw [← hA]; exact HW7.out)⟩
              case measure => simp [intOf]; omega
            | false =>
              have HOU2 : Hid (out = dbls n m c.pkts (k + 1)) := Lib.hid (by rw [dbls, List.getElem?_eq_getElem hlt]; simp only [HQ.out]; exact HOU.out)
              go_wp2
              go_roundw
              case rel => exact ⟨k + 1, Ao, co, ol, out, by go_num, rfl, by omega, by omega, HOL, HOU2, HO2, Lib.hid (by rw [← hA]; exact HW2.out)⟩
              case measure => simp [intOf]; omega
          · have hmx : ¬ (0 : Int) < (k : Int) - (m : Int) := by omega
            have HCL := HCALL 0 p.cp (by omega)
            rw [Nat.zero_mul, Nat.add_zero, Nat.sub_zero] at HCL
            have HCL := Lib.hid HCL
            clear HCALL
            go_wp2_with fail
            with_reducible refine (HCL.out).mono ?_
            rintro e w2 ⟨rfl, hb2⟩
            have hbw2 : Below wr.heap.size wr w2 := ((Below.refl _ _).alloc (Nat.le_refl _) _).trans (hb2.mono (by rw [alloc_size]; omega))
            have HW2 : Hid (Blk w2 B 31 #[.string c.note, .slice p.pf c.faces.length p.cf, .slice p.pn c.names.length p.cn, .slice p.ps c.secs.length p.cs, .slice p.pp c.pkts.length p.cp] ∧ Blk w2 (B + 1) 3 #[.int .i64 n] ∧ Below B w w2 ∧ B + 2 ≤ w2.heap.size) := Lib.hid ⟨HW.out.1.below hbw2 HW.out.1.lt, HW.out.2.1.below hbw2 HW.out.2.1.lt, HW.out.2.2.1.trans (hbw2.mono (by have := HW.out.2.2.2; omega)), by have := hbw2.size; have := HW.out.2.2.2; omega⟩
            have HO2 := Lib.hid (own_bel HOW.out hbw2)
            obtain ⟨q, hq⟩ : ∃ q, ((c.pkts.take k).drop (0)).any (dblB n c.pkts[k]) = q := ⟨_, rfl⟩
            have HQ : Hid (((c.pkts.take k).drop (k - m)).any (dblB n c.pkts[k]) = q) := Lib.hid (by rw [show k - m = 0 by omega]; exact hq)
            rw [hq]
            clear hq hb2 hbw2 l4b c0 c1 c2 c3 c4 l4 hbq hcell
            cases q with
            | true =>
              have HD : Hid (dbls n m c.pkts (k + 1) = dbls n m c.pkts k ++ [(k : Int)]) := Lib.hid (by rw [dbls, List.getElem?_eq_getElem hlt]; simp only [HQ.out, if_true])
              have hbase2 : B + 2 ≤ w2.heap.size := HW2.out.2.2.2
              obtain ⟨v7, w7, hrun, ho7, hg7, _⟩ := run_own_struct w2 (B + 2) 3 1 8 23 (.int .i64 0) Try.underlying23 (by kernel_rfl) (by rfl) (by decide) _ _ _ HO2.out [.int .i64 (k : Int)] rfl (by
                intro u hu; simp only [List.mem_cons, List.not_mem_nil, or_false] at hu; rcases hu with rfl; rfl) (by unfold maxLen; omega) (by omega) hbase2
              obtain ⟨A7, c7, rfl⟩ : ∃ A c, v7 = .slice A (ol + 1) c := by
                rcases ho7.2 with ⟨e, h0⟩ | ⟨g, cap, _, e, _⟩
                · omega
                · exact ⟨_, _, e⟩
              have HO7 : Hid (w7.ownsRow (B + 2) 3 1 (.slice A7 (ol + 1) c7) (ol + 1) ((out ++ [(k : Int)]).map i64)) := Lib.hid (by
                rw [List.map_append]
                exact ho7)
              have hgr : w2.heap.size ≤ w7.heap.size := by
                have := hg7.size
                rw [alloc_size] at this
                omega
              have hnb : ∀ g t cs, g < B + 2 → Blk w2 g t cs → Blk w7 g t cs := fun g t cs hg hk => (hk.alloc _).grown hg7 (fun e => by
                have h := (HO2.out.lt g e.symm).1
                omega)
              have HW7 : Hid (Blk w7 B 31 #[.string c.note, .slice p.pf c.faces.length p.cf, .slice p.pn c.names.length p.cn, .slice p.ps c.secs.length p.cs, .slice p.pp c.pkts.length p.cp] ∧ Blk w7 (B + 1) 3 #[.int .i64 n] ∧ Below B w w7 ∧ B + 2 ≤ w7.heap.size) := Lib.hid ⟨hnb _ _ _ (by omega) HW2.out.1, hnb _ _ _ (by omega) HW2.out.2.1, (HW2.out.2.2.1.alloc (by omega) _).grown hg7 (by rw [alloc_size]; omega) (fun j hj => by have := (HO2.out.lt _ hj).1; omega), by omega⟩
              have HOL7 : Hid ((out ++ [(k : Int)]).length = ol + 1) := Lib.hid (by rw [List.length_append, HOL.out]; rfl)
              have HOU7 : Hid (out ++ [(k : Int)] = dbls n m c.pkts (k + 1)) := Lib.hid (by rw [HD.out, HOU.out])
              clear ho7 hg7 hgr hnb
              go_wp2_with (at_builtin; refine Lib.wpList_append_run _ rfl _ _ _ _ rfl _ _ rfl rfl _ _ hrun ?_)
              go_roundw
              case rel => exact ⟨k + 1, A7, c7, ol + 1, out ++ [(k : Int)], by go_num, rfl, by omega, by omega, HOL7, HOU7, HO7, Lib.hid (by rw [← hA]; exact HW7.out)⟩
              case measure => simp [intOf]; omega
            | false =>
              have HOU2 : Hid (out = dbls n m c.pkts (k + 1)) := Lib.hid (by rw [dbls, List.getElem?_eq_getElem hlt]; simp only [HQ.out]; exact HOU.out)
              go_wp2
              go_roundw
              case rel => exact ⟨k + 1, Ao, co, ol, out, by go_num, rfl, by omega, by omega, HOL, HOU2, HO2, Lib.hid (by rw [← hA]; exact HW2.out)⟩
              case measure => simp [intOf]; omega
        · have hke : k = c.pkts.length := by omega
          subst hke
          have hd3 : decide ((c.pkts.length : Int) < (c.pkts.length : Int)) = false := decide_eq_false (by omega)
          go_wp2
          go_ret2
          rw [HR.out]
          have ho := HOW.out
          have hol2 := HOL.out
          rw [HOU.out] at ho hol2
          exact ⟨Ao, co, by show _ = _; simp only [Int.toNat_natCast]; rw [hol2]; rfl, by simp only [Int.toNat_natCast]; rw [hol2, HBS.out]; exact ho.mono (by omega), by rw [HBS.out]; exact HW.out.2.2.1⟩
  · have HR : Hid (dblA c W n = ([], errV c)) := Lib.hid (by unfold dblA; rw [if_neg h1])
    obtain ⟨E, hE⟩ : ∃ E, errV c = E := ⟨_, rfl⟩
    rw [hE] at HV HR h1
    have hne : (E != 0) = true := by rw [bne_iff_ne]; exact h1
    have hcells : (capV p c).cells = #[.string c.note, .slice p.pf c.faces.length p.cf, .slice p.pn c.names.length p.cn, .slice p.ps c.secs.length p.cs, .slice p.pp c.pkts.length p.cp] := rfl
    rw [hcells] at HG HE0
    clear hcells e0 e1 b0 b1 k0 k1 g0 g1 hb hm hE h1
    unfold capV at HV ⊢
    go_enter Try.func30, Try.ntmps30
    go_wp2_with fail
    rw [HE0.out, HE1.out]
    with_reducible refine HV.out.mono ?_
    rintro e v1 ⟨rfl, hb1⟩
    have HW1 : Hid (Below B w v1) := Lib.hid (HB1.out.trans (hb1.mono (by rw [s1]; omega)))
    clear HE0 HE1 HV HG HG1 hb1 HB1 s0 s1 hB
    go_wp2
    go_ret2
    rw [HR.out]
    exact dblP_nil (by rw [HBS.out]; exact HW1.out)
end Go.Proofs.Ytghdilmlfficlaa
