/- Index: the program's. -/
import Derived.Test.YtghdilmlfficlaaSkSort
import Derived.Test.YtghdilmlfficlaaMerge
namespace Go.Proofs.Ytghdilmlfficlaa
open Go.RowKit

theorem prInfo : (Try.prog.info? 59).map (fun i => (i.zero, i.size, i.bytes)) = some (some (.agg #[.int .i64 0, .int .i64 0]), 2, 16) := by kernel_rfl
theorem run_make_prs (n : Nat) (hn : n ≤ 100000) (w : World) : (Instr.makeSlice 56 (.int .i64 (n : Int)) (.int .i64 (n : Int))).run Try.prog w = .ok (.slice (some ⟨w.heap.size, 0, none⟩) n n) (w.alloc (.cells (madeCells #[.int .i64 0, .int .i64 0] (n * 2)) 59)) := by
  obtain ⟨i, hi, hzz⟩ := Option.map_eq_some_iff.1 prInfo
  simp only [Prod.mk.injEq] at hzz
  obtain ⟨hz, hs, hb⟩ := hzz
  have hr := run_make (P := Try.prog) w 56 59 i _ Try.underlying56 hi hz .i64 .i64 n n (by omega) (Int.le_refl _) (by rw [hb]; omega) (by omega)
  rw [hs] at hr
  simp only [Int.toNat_natCast] at hr
  exact hr

def tms (c : Cap) : List Int := c.pkts.map (·.time)
theorem prs_succ (c : Cap) (k : Nat) (h : k < c.pkts.length) : prs (tms c) (k + 1) = prs (tms c) k ++ [(c.pkts[k].time, (k : Int))] := by
  rw [prs]; simp [tms, h]
theorem prs_at (c : Cap) : ∀ (n k : Nat) (_ : n ≤ c.pkts.length) (hk : k < n) (h : k < (prs (tms c) n).length), (prs (tms c) n)[k] = ((c.pkts[k]'(by omega)).time, (k : Int)) := by
  intro n
  induction n with
  | zero => intro k _ hk; omega
  | succ n ih =>
    intro k hn hk h
    have e := prs_succ c n (by omega)
    by_cases hkn : k < n
    · have : (prs (tms c) (n + 1))[k]? = (prs (tms c) n)[k]? := by rw [e, List.getElem?_append_left (by rw [prs_len]; exact hkn)]
      rw [List.getElem?_eq_getElem h, List.getElem?_eq_getElem (by rw [prs_len]; exact hkn)] at this
      rw [Option.some.inj this]
      exact ih k (by omega) hkn (by rw [prs_len]; exact hkn)
    · have hke : k = n := by omega
      subst hke
      have : (prs (tms c) (k + 1))[k]? = some (c.pkts[k].time, (k : Int)) := by rw [e, List.getElem?_append_right (by rw [prs_len]; exact Nat.le_refl _), prs_len, Nat.sub_self]; rfl
      rw [List.getElem?_eq_getElem h] at this
      exact Option.some.inj this

/-- What an index is. -/
def IdxP (c : Cap) (w : World) (e : Ending) (w' : World) : Prop :=
  ∃ (A : Option Addr) (k : Nat) (l : List Pr), e = .returned (.tuple #[.slice A l.length k, .int .i64 0]) ∧ Els 2 PrE w' w'.heap.size A l ∧ l.Perm (prs (tms c) c.pkts.length) ∧ l.Pairwise leP ∧ Below w.heap.size w w'

theorem size_made (n : Nat) : (madeCells #[Value.int .i64 0, Value.int .i64 0] (n * 2)).size = n * 2 := by simp [madeCells]

set_option maxRecDepth 100000 in
set_option maxHeartbeats 8000000 in
theorem index_ok {w : World} {p : Pl} {c : Cap} (hm : CapM w w.heap.size p c) (h1 : errV c = 0) :
    Calls Try.prog 33 #[capV p c] w (IdxP c w) := by
  obtain ⟨pf, cf, pn, cn, ps, cs, pp, cp⟩ := p
  obtain ⟨B, hB⟩ : ∃ B, w.heap.size = B := ⟨_, rfl⟩
  obtain ⟨w0, e0, s0, g0, b0, k0⟩ := w_box hB #[.string c.note, .slice pf c.faces.length cf, .slice pn c.names.length cn, .slice ps c.secs.length cs, .slice pp c.pkts.length cp] 31
  have hm0 : CapM w0 w0.heap.size ⟨pf, cf, pn, cn, ps, cs, pp, cp⟩ c := hm.keep (by rw [hB]; exact b0) (by rw [s0]; omega)
  have HV := Lib.hid (vald_any hm0)
  rw [h1] at HV
  have HM0 : Hid (CapM w0 (B + 1) ⟨pf, cf, pn, cn, ps, cs, pp, cp⟩ c) := Lib.hid (by rw [← s0]; exact hm0)
  have HS0 := Lib.hid s0
  have HG0 := Lib.hid g0
  have HB0 := Lib.hid b0
  have HE0 := Lib.hid e0
  have HWB := Lib.hid hB
  have lp : c.pkts.length ≤ 100 := errV_plen h1
  clear e0 s0 g0 b0 k0 hm hm0 h1
  unfold capV at HV ⊢
  go_enter Try.func33, Try.ntmps33
  go_wp2_with fail
  rw [HE0.out]
  with_reducible refine HV.out.mono ?_
  rintro e v1 ⟨rfl, hb1⟩
  have hsz1 : B + 1 ≤ v1.heap.size := by have := hb1.size; rw [HS0.out] at this; exact this
  have HB1 : Hid (Below (B + 1) w0 v1) := Lib.hid (by rw [← HS0.out]; exact hb1)
  have HG1 : Hid (Blk v1 B 31 #[.string c.note, .slice pf c.faces.length cf, .slice pn c.names.length cn, .slice ps c.secs.length cs, .slice pp c.pkts.length cp]) := Lib.hid (HG0.out.below hb1 HG0.out.lt)
  clear HE0 HV hb1 hB
  have l4 : v1.cell? ⟨B, 4, none⟩ = some (.slice pp c.pkts.length cp) := HG1.out.cell 4
  obtain ⟨G, hG⟩ : ∃ G, v1.heap.size = G := ⟨_, rfl⟩
  obtain ⟨v2, e2, s2, g2, b2, k2⟩ := w_box hG (madeCells #[.int .i64 0, .int .i64 0] (c.pkts.length * 2)) 59
  have hmk := run_make_prs c.pkts.length (by omega) v1
  rw [e2, hG] at hmk
  have HB2 : Hid (Below (B + 1) w0 v2 ∧ G + 1 ≤ v2.heap.size) := Lib.hid ⟨HB1.out.trans (b2.mono (by omega)), by omega⟩
  have HG2 := Lib.hid g2
  have HGG : Hid (B + 1 ≤ G) := Lib.hid (by omega)
  have m4 : v2.cell? ⟨B, 4, none⟩ = some (.slice pp c.pkts.length cp) := (k2 _ _ _ HG1.out).cell 4
  clear e2 s2 g2 b2 k2 hG HG1 HB1 hsz1
  go_wp2_with fail
  go_loopw [20] (fun i wr => ∃ k : Nat, i = .int .i64 k ∧ k ≤ c.pkts.length ∧ Hid (∃ cs : Array Value, Blk wr G 59 cs ∧ cs.size = c.pkts.length * 2 ∧ ∀ j (_ : j < k) (hj : j < c.pkts.length), cs[j * 2]? = some (.int .i64 c.pkts[j].time) ∧ cs[j * 2 + 1]? = some (.int .i64 j)) ∧ Hid (Below (B + 1) w0 wr ∧ G + 1 ≤ wr.heap.size)) (fun i _ => c.pkts.length - (intOf i).toNat)
  case atStart => exact ⟨0, rfl, Nat.zero_le _, Lib.hid ⟨_, HG2.out, size_made _, fun j h => absurd h (Nat.not_lt_zero _)⟩, HB2⟩
  case round =>
    obtain ⟨k, rfl, hk, HCS, HW⟩ := hrel
    by_cases hlt : k < c.pkts.length
    · obtain ⟨b, o, hA, hb, vs, hvl, ⟨Dx, dc, rfl, hby, _, _, _, _⟩, hcell⟩ := (HM0.out.keep HW.out.1 (Nat.le_refl _)).pkts.row k hlt
      dsimp only at hA
      subst hA
      obtain ⟨ca, hca, hcs, hci⟩ := HCS.out
      have c0 : wr.cell? ⟨b, o + k * 5, none⟩ = _ := hcell 0 _ rfl
      have c1 := hcell 1 _ rfl
      have c2 := hcell 2 _ rfl
      have c3 := hcell 3 _ rfl
      have c4 := hcell 4 _ rfl
      obtain ⟨u0, hu0⟩ : ∃ u, ca[k * 2]? = some u := ⟨_, Array.getElem?_eq_getElem (by omega)⟩
      obtain ⟨u1, hu1⟩ : ∃ u, ca[k * 2 + 1]? = some u := ⟨_, Array.getElem?_eq_getElem (by omega)⟩
      obtain ⟨x, hx⟩ : ∃ x, c.pkts[k] = x := ⟨_, rfl⟩
      have HX := Lib.hid hx
      rw [hx] at c0 c1 c2 c3 c4
      obtain ⟨N, hN⟩ : ∃ N, wr.heap.size = N := ⟨_, rfl⟩
      obtain ⟨v3, e3, s3, g3, b3, k3⟩ := w_box hN #[.int .i64 x.time, .int .i64 x.face, .int .i64 x.real, .slice Dx x.data.length dc, .string x.note] 50
      have HE3 := Lib.hid e3
      have HB3 : Hid (Below (B + 1) w0 v3 ∧ G + 1 ≤ v3.heap.size) := Lib.hid ⟨HW.out.1.trans (b3.mono (by have := HW.out.2; have := HGG.out; omega)), by have := HW.out.2; omega⟩
      have HCA := Lib.hid (k3 _ _ _ hca)
      have HCI := Lib.hid hci
      have HCZ := Lib.hid hcs
      have q0 : v3.cell? ⟨N, 0, none⟩ = some (.int .i64 x.time) := g3.cell 0
      have y0 : v3.cell? ⟨G, k * 2, none⟩ = some u0 := (HCA.out.cell _).trans hu0
      have y1 : v3.cell? ⟨G, k * 2 + 1, none⟩ = some u1 := (HCA.out.cell _).trans hu1
      have f0 : v3.frozen? ⟨G, k * 2, none⟩ = false := HCA.out.frozen _
      have f1 : v3.frozen? ⟨G, k * 2 + 1, none⟩ = false := HCA.out.frozen _
      clear hcell hx hvl hby hb hca hcs hci hu0 hu1 s3 g3 b3 k3 HE3
      have HNEW : Hid (∃ cs : Array Value, Blk ((v3.setCell ⟨G, k * 2, none⟩ (.int .i64 x.time)).setCell ⟨G, k * 2 + 1, none⟩ (.int .i64 k)) G 59 cs ∧ cs.size = c.pkts.length * 2 ∧ ∀ j (_ : j < k + 1) (hj : j < c.pkts.length), cs[j * 2]? = some (.int .i64 c.pkts[j].time) ∧ cs[j * 2 + 1]? = some (.int .i64 j)) := Lib.hid (by
        refine ⟨_, (HCA.out.set_ (k * 2) _).set_ (k * 2 + 1) _, by simp [HCZ.out], fun j hj hj2 => ?_⟩
        have hz := HCZ.out
        by_cases hjk : j = k
        · subst hjk
          rw [HX.out]
          refine ⟨?_, ?_⟩
          · rw [Array.getElem?_setIfInBounds, if_neg (by omega), Array.getElem?_setIfInBounds, if_pos rfl, if_pos (by omega)]
          · rw [Array.getElem?_setIfInBounds, if_pos rfl, if_pos (by simp; omega)]
        · obtain ⟨a1, a2⟩ := HCI.out j (by omega) hj2
          refine ⟨?_, ?_⟩
          · rw [Array.getElem?_setIfInBounds, if_neg (by omega), Array.getElem?_setIfInBounds, if_neg (by omega)]; exact a1
          · rw [Array.getElem?_setIfInBounds, if_neg (by omega), Array.getElem?_setIfInBounds, if_neg (by omega)]; exact a2)
      have HBN : Hid (Below (B + 1) w0 ((v3.setCell ⟨G, k * 2, none⟩ (.int .i64 x.time)).setCell ⟨G, k * 2 + 1, none⟩ (.int .i64 k)) ∧ G + 1 ≤ ((v3.setCell ⟨G, k * 2, none⟩ (.int .i64 x.time)).setCell ⟨G, k * 2 + 1, none⟩ (.int .i64 k)).heap.size) := Lib.hid (by
        have h1 := (HB3.out.1.setCell (p := ⟨G, k * 2, none⟩) HGG.out (.int .i64 x.time)).setCell (p := ⟨G, k * 2 + 1, none⟩) HGG.out (.int .i64 k)
        refine ⟨h1, ?_⟩
        simp only [World.setCell, Array.size_modify]
        exact HB3.out.2)
      go_wp2
      go_roundw
      case rel => exact ⟨k + 1, by go_num, by omega, HNEW, HBN⟩
      case measure => simp [intOf]; omega
    · obtain ⟨ca, hca, hcs, hci⟩ := HCS.out
      have hd : (prs (tms c) c.pkts.length).toArray.size = c.pkts.length := by simp [prs_len]
      have hso := sort_any (w := wr) (c := c.pkts.length) (d := (prs (tms c) c.pkts.length).toArray) hca (fun i hi => by
        rw [hd] at hi
        have := hci i (by omega) hi
        rw [List.getElem_toArray, prs_at c _ i (Nat.le_refl _) hi]
        exact this) (by rw [hd]; omega)
      rw [hd] at hso
      have HSO := Lib.hid hso
      clear hca hcs hci hd hso
      go_wp2_with fail
      with_reducible refine HSO.out.mono ?_
      rintro e w5 ⟨rfl, l, hl, hp, hs, hE, hb5⟩
      have HW5 : Hid (Below (B + 1) w0 w5) := Lib.hid (HW.out.1.trans (hb5 _ HGG.out))
      have HRS : Hid (l.length = c.pkts.length ∧ l.Perm (prs (tms c) c.pkts.length) ∧ l.Pairwise leP ∧ Els 2 PrE w5 w5.heap.size (some ⟨G, 0, none⟩) l) := Lib.hid ⟨hl, by simpa using hp, hs, hE⟩
      clear hl hp hs hE hb5 HSO
      go_wp2
      go_ret2
      exact ⟨some ⟨G, 0, none⟩, c.pkts.length, l, by rw [HRS.out.1]; rfl, HRS.out.2.2.2, HRS.out.2.1, HRS.out.2.2.1, by rw [HWB.out]; exact HB0.out.trans (HW5.out.mono (by omega))⟩

set_option maxRecDepth 100000 in
set_option maxHeartbeats 8000000 in
theorem index_err {w : World} {p : Pl} {c : Cap} (hm : CapM w w.heap.size p c) (h1 : ¬ errV c = 0) :
    Calls Try.prog 33 #[capV p c] w fun e w' => e = .returned (.tuple #[.slice none 0 0, .int .i64 (errV c)]) ∧ Below w.heap.size w w' := by
  obtain ⟨pf, cf, pn, cn, ps, cs, pp, cp⟩ := p
  obtain ⟨B, hB⟩ : ∃ B, w.heap.size = B := ⟨_, rfl⟩
  obtain ⟨w0, e0, s0, g0, b0, k0⟩ := w_box hB #[.string c.note, .slice pf c.faces.length cf, .slice pn c.names.length cn, .slice ps c.secs.length cs, .slice pp c.pkts.length cp] 31
  have HV := Lib.hid (vald_any (hm.keep (by rw [hB]; exact b0) (by rw [s0]; omega) : CapM w0 w0.heap.size _ c))
  have HB0 := Lib.hid b0
  have HS0 := Lib.hid s0
  have HE0 := Lib.hid e0
  obtain ⟨E, hE⟩ : ∃ E, errV c = E := ⟨_, rfl⟩
  rw [hE] at HV h1 ⊢
  have hne : (E != 0) = true := by rw [bne_iff_ne]; exact h1
  clear e0 s0 g0 b0 k0 hm hE h1
  rw [hB]
  unfold capV at HV ⊢
  go_enter Try.func33, Try.ntmps33
  go_wp2_with fail
  rw [HE0.out]
  with_reducible refine HV.out.mono ?_
  rintro e v1 ⟨rfl, hb1⟩
  have HW1 : Hid (Below B w v1) := Lib.hid (HB0.out.trans (hb1.mono (by rw [HS0.out]; omega)))
  clear HE0 HV hb1 HB0 HS0 hB
  go_wp2
  go_ret2
  exact ⟨rfl, HW1.out⟩
end Go.Proofs.Ytghdilmlfficlaa
