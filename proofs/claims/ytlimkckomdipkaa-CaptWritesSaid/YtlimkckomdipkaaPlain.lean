/- plain. -/
import Derived.Test.YtlimkckomdipkaaSet
import Derived.Test.YtlimkckomdipkaaVald
import Derived.Test.YtlimkckomdipkaaPlS
import Derived.Test.YtlimkckomdipkaaMem
namespace Go.Proofs.Ytlimkckomdipkaa
open Go.RowKit

def noT : ByteArray := ⟨#[]⟩
def plainP (p : Pkt) : Pkt := ⟨p.time, 0, p.real, p.data, noT⟩
def keepP (p : Pkt) : Bool := decide (p.face = 0)
/-- What the old kind can have of a capture that is valid. -/
def plainC (c : Cap) : Cap := ⟨noT, [⟨noT, c.faces.head?.map Fac.link |>.getD 0, c.faces.head?.map Fac.snap |>.getD 0⟩], [], [], (c.pkts.filter keepP).map plainP⟩

abbrev zeroCap : Array Value := #[.string noT, .slice none 0 0, .slice none 0 0, .slice none 0 0, .slice none 0 0]

set_option maxRecDepth 100000 in
set_option maxHeartbeats 4000000 in
theorem plain_any {w : World} {p : Pl} {c : Cap} (hm : CapM w w.heap.size p c) (hv : capB c = true) (hh : hugeB c = false) :
    Calls Try.prog 28 #[capV p c] w fun e w' => ∃ q, e = .returned (capV q (plainC c)) ∧ CapT w' q (plainC c) ∧ Below w.heap.size w w' := by
  obtain ⟨pf, cf, pn, cn, ps, cs, pp, cp⟩ := p
  have hh' : c.faces.length ≤ 4 ∧ c.pkts.length ≤ 100 := by
    have := of_decide_eq_false hh; omega
  simp only [capB, partsB, Bool.and_eq_true, decide_eq_true_eq] at hv
  obtain ⟨⟨hf0, htx⟩, hvf, hvn, hvs, hvp⟩ := hv
  have HVP := Lib.hid hvp
  have HM := Lib.hid hm
  obtain ⟨bf, of_, hA, hbf, vs, hl, ⟨rfl, hbig, hlk0, hsn0⟩, hcell⟩ := hm.faces.row 0 hf0
  change pf = _ at hA
  subst hA
  obtain ⟨lk, hlk⟩ : ∃ lk, c.faces[0].link = lk := ⟨_, rfl⟩
  obtain ⟨sn, hsn⟩ : ∃ sn, c.faces[0].snap = sn := ⟨_, rfl⟩
  have HF : Hid (c.faces.head? = some c.faces[0]) := Lib.hid (by
    rw [List.head?_eq_getElem?, List.getElem?_eq_getElem hf0])
  have HPC : Hid (plainC c = ⟨noT, [⟨noT, lk, sn⟩], [], [], (c.pkts.filter keepP).map plainP⟩) := Lib.hid (by
    unfold plainC; rw [HF.out]; simp only [Option.map_some, Option.getD_some]; rw [hlk, hsn])
  rw [hlk] at hlk0
  rw [hsn] at hsn0
  have HLK := Lib.hid hlk0
  have HSN0 := Lib.hid hsn0
  have c1 : w.cell? ⟨bf, of_ + 1, none⟩ = some (.int .i64 lk) := by rw [← hlk]; exact hcell 1 _ rfl
  have c2 : w.cell? ⟨bf, of_ + 2, none⟩ = some (.int .i64 sn) := by rw [← hsn]; exact hcell 2 _ rfl
  clear hm hvf hvn hvs hvp hh htx hlk hsn hlk0 hsn0 hcell HF hl hbig
  obtain ⟨B, hB⟩ : ∃ B, w.heap.size = B := ⟨_, rfl⟩
  have HB := Lib.hid hB
  obtain ⟨W0, hW0⟩ : ∃ W0, (w.alloc (.cells #[.string c.note, .slice (some ⟨bf, of_, none⟩) c.faces.length cf, .slice pn c.names.length cn, .slice ps c.secs.length cs, .slice pp c.pkts.length cp] 27)).alloc (.cells #[.string ⟨#[]⟩, .slice none 0 0, .slice none 0 0, .slice none 0 0, .slice none 0 0] 27) = W0 := ⟨_, rfl⟩
  have HK0 : Hid (Blk W0 B 27 (capV ⟨some ⟨bf, of_, none⟩, cf, pn, cn, ps, cs, pp, cp⟩ c).cells ∧ Below B w W0) := Lib.hid (by rw [← hW0, ← hB]; exact ⟨(Blk.new _ _ _).alloc _, ((Below.refl _ w).alloc (Nat.le_refl _) _).alloc (by rw [alloc_size]; omega) _⟩)
  have HZ0 : Hid (Blk W0 (B + 1) 27 zeroCap) := Lib.hid (by
    have h := Blk.new (w.alloc (.cells #[.string c.note, .slice (some ⟨bf, of_, none⟩) c.faces.length cf, .slice pn c.names.length cn, .slice ps c.secs.length cs, .slice pp c.pkts.length cp] 27)) 27 zeroCap
    rw [alloc_size, hB] at h
    rw [← hW0]; exact h)
  have HS0 : Hid (W0.heap.size = B + 2) := Lib.hid (by rw [← hW0, alloc_size, alloc_size, hB])
  rw [hB] at HM hbf ⊢
  have q1 : W0.cell? ⟨B, 1, none⟩ = some (.slice (some ⟨bf, of_, none⟩) c.faces.length cf) := HK0.out.1.cell 1
  have g1 : W0.cell? ⟨bf, of_ + 1, none⟩ = some (.int .i64 lk) := (HK0.out.2.cell (p := ⟨bf, of_ + 1, none⟩) hbf).trans c1
  have g2 : W0.cell? ⟨bf, of_ + 2, none⟩ = some (.int .i64 sn) := (HK0.out.2.cell (p := ⟨bf, of_ + 2, none⟩) hbf).trans c2
  have hlb : bf < W0.heap.size := by rw [HS0.out]; omega
  have hlB : B < W0.heap.size := by rw [HS0.out]; omega
  have hf1 : (0 : Int) < c.faces.length := by omega
  clear c1 c2
  go_enter Try.func28, Try.ntmps28
  go_wp2_with fail
  clear hW0
  go_region_held3 (fun w' => w'.cell? ⟨B, 1, none⟩ = some (.slice (some ⟨bf, of_, none⟩) c.faces.length cf) ∧ w'.cell? ⟨bf, of_ + 1, none⟩ = some (.int .i64 lk) ∧ w'.cell? ⟨bf, of_ + 2, none⟩ = some (.int .i64 sn)) (first | exact ⟨q1, g1, g2⟩ | go_keep) ((first | fail))
  · have hb3 : Below W0.heap.size W0 (((W0.alloc (.cells #[.string ⟨#[]⟩, .int .i64 lk, .int .i64 sn] 54)).alloc (.cells #[.string ⟨#[]⟩, .slice (some ⟨W0.heap.size, 0, none⟩) 1 1, .slice none 0 0, .slice none 0 0, .slice none 0 0] 27)).drew) := (((Below.refl _ W0).alloc (Nat.le_refl _) _).alloc (by rw [alloc_size]; omega) _).drew
    have HK3 := Lib.hid (show Blk (((W0.alloc (.cells #[.string ⟨#[]⟩, .int .i64 lk, .int .i64 sn] 54)).alloc (.cells #[.string ⟨#[]⟩, .slice (some ⟨W0.heap.size, 0, none⟩) 1 1, .slice none 0 0, .slice none 0 0, .slice none 0 0] 27)).drew) B 27 (capV ⟨some ⟨bf, of_, none⟩, cf, pn, cn, ps, cs, pp, cp⟩ c).cells ∧ Below B w (((W0.alloc (.cells #[.string ⟨#[]⟩, .int .i64 lk, .int .i64 sn] 54)).alloc (.cells #[.string ⟨#[]⟩, .slice (some ⟨W0.heap.size, 0, none⟩) 1 1, .slice none 0 0, .slice none 0 0, .slice none 0 0] 27)).drew) from ⟨HK0.out.1.below hb3 hlB, HK0.out.2.trans (hb3.mono (Nat.le_of_lt hlB))⟩)
    have HZ3 := Lib.hid (show Blk (((W0.alloc (.cells #[.string ⟨#[]⟩, .int .i64 lk, .int .i64 sn] 54)).alloc (.cells #[.string ⟨#[]⟩, .slice (some ⟨W0.heap.size, 0, none⟩) 1 1, .slice none 0 0, .slice none 0 0, .slice none 0 0] 27)).drew) (B + 1) 27 zeroCap from HZ0.out.below hb3 (by rw [HS0.out]; omega))
    have HF3 := Lib.hid (show Blk (((W0.alloc (.cells #[.string ⟨#[]⟩, .int .i64 lk, .int .i64 sn] 54)).alloc (.cells #[.string ⟨#[]⟩, .slice (some ⟨W0.heap.size, 0, none⟩) 1 1, .slice none 0 0, .slice none 0 0, .slice none 0 0] 27)).drew) W0.heap.size 54 #[.string ⟨#[]⟩, .int .i64 lk, .int .i64 sn] from (Blk.new W0 54 _).alloc _)
    have HO3 : Hid (Blk (((W0.alloc (.cells #[.string ⟨#[]⟩, .int .i64 lk, .int .i64 sn] 54)).alloc (.cells #[.string ⟨#[]⟩, .slice (some ⟨W0.heap.size, 0, none⟩) 1 1, .slice none 0 0, .slice none 0 0, .slice none 0 0] 27)).drew) (W0.heap.size + 1) 27 #[.string ⟨#[]⟩, .slice (some ⟨W0.heap.size, 0, none⟩) 1 1, .slice none 0 0, .slice none 0 0, .slice none 0 0]) := Lib.hid (by
      have h := Blk.new (W0.alloc (.cells #[.string ⟨#[]⟩, .int .i64 lk, .int .i64 sn] 54)) 27 #[.string ⟨#[]⟩, .slice (some ⟨W0.heap.size, 0, none⟩) 1 1, .slice none 0 0, .slice none 0 0, .slice none 0 0]
      rw [alloc_size] at h
      exact h)
    have HGG : Hid (B + 2 ≤ W0.heap.size ∧ B + 2 ≤ W0.heap.size + 1) := Lib.hid (by have := HS0.out; omega)
    obtain ⟨W3, hW3⟩ : ∃ W3, ((W0.alloc (.cells #[.string ⟨#[]⟩, .int .i64 lk, .int .i64 sn] 54)).alloc (.cells #[.string ⟨#[]⟩, .slice (some ⟨W0.heap.size, 0, none⟩) 1 1, .slice none 0 0, .slice none 0 0, .slice none 0 0] 27)).drew = W3 := ⟨_, rfl⟩
    rw [hW3] at HK3 HZ3 HF3 HO3 ⊢
    clear hW3 hb3 q1 g1 g2 hlb hlB hf1 HK0 HZ0 HS0
    generalize W0.heap.size + 1 = go_ at HO3 HF3 HGG ⊢
    generalize W0.heap.size = gf at HO3 HF3 HGG ⊢
    have q4 : W3.cell? ⟨B, 4, none⟩ = some (.slice pp c.pkts.length cp) := HK3.out.1.cell 4
    go_wp2
    clear q4
    go_loopw [22] (fun i wr => ∃ (k : Nat) (v : Value) (rows : List (List Value)), i = .int .i64 k ∧ k ≤ c.pkts.length ∧ Hid (OwnP wr (B + 2) v (((c.pkts.take k).filter keepP).map plainP) rows) ∧ Hid (Blk wr go_ 27 #[.string ⟨#[]⟩, .slice (some ⟨gf, 0, none⟩) 1 1, .slice none 0 0, .slice none 0 0, v]) ∧ Hid (Blk wr gf 54 #[.string ⟨#[]⟩, .int .i64 lk, .int .i64 sn]) ∧ Hid (Blk wr (B + 1) 27 zeroCap) ∧ Hid (Blk wr B 27 (capV ⟨some ⟨bf, of_, none⟩, cf, pn, cn, ps, cs, pp, cp⟩ c).cells ∧ Below B w wr)) (fun i _ => c.pkts.length - (intOf i).toNat)
    case atStart => exact ⟨0, .slice none 0 0, [], rfl, Nat.zero_le _, Lib.hid (OwnL.nil _ _ _ _ _), HO3, HF3, HZ3, HK3⟩
    case round =>
      obtain ⟨k, v, rows, rfl, hk, HL, HO, HF, HZ, HW⟩ := hrel
      have hBl := HW.out.1.lt
      have hbz : B + 1 < wr.heap.size := HZ.out.lt
      by_cases hlt : k < c.pkts.length
      · obtain ⟨b, o, hA, hb, vs, hl, ⟨A2, cp2, rfl, hbyc, hbig, htm0, hfc0, hrl0⟩, hcell⟩ := (HM.out.pkts.keep pktK HW.out.2 (Nat.le_refl _)).row k hlt
        change pp = _ at hA
        subst hA
        have c0 : wr.cell? ⟨b, o + k * 5, none⟩ = _ := hcell 0 _ rfl
        have c1 := hcell 1 _ rfl
        have c2 := hcell 2 _ rfl
        have c3 := hcell 3 _ rfl
        have c4 := hcell 4 _ rfl
        clear hcell
        have hvk := List.all_eq_true.1 HVP.out _ (List.getElem_mem hlt)
        simp only [pktB, pktS, Bool.and_eq_true, within_iff, decide_eq_true_eq] at hvk
        obtain ⟨hv1, hv2, hv3, hv4, hv5⟩ := hvk
        have htl : c.pkts[k].time < 4294967296000000 := by omega
        have hdl : c.pkts[k].data.length ≤ 400 := by omega
        clear hv1 hv2 hv3 hv4 hv5
        have HSEL : Hid ((c.pkts.take (k + 1)).filter keepP = (c.pkts.take k).filter keepP ++ if keepP c.pkts[k] then [c.pkts[k]] else []) := Lib.hid (by
          rw [List.take_succ_eq_append_getElem hlt, List.filter_append]; congr 1; cases hq : keepP c.pkts[k] <;> simp [hq])
        obtain ⟨P, hP⟩ : ∃ P, c.pkts[k] = P := ⟨_, rfl⟩
        rw [hP] at c0 c1 c2 c3 c4 hbyc htl hdl hbig htm0 hfc0 hrl0 HSEL
        clear hP hl
        by_cases hface : P.face = 0
        · have HSEL2 : Hid (((c.pkts.take (k + 1)).filter keepP).map plainP = ((c.pkts.take k).filter keepP).map plainP ++ [plainP P]) := Lib.hid (by
            rw [HSEL.out]; unfold keepP; simp [hface])
          have hfb : (P.face == 0) = true := by simpa using hface
          have HB0 : Hid (plainP P = ⟨P.time, 0, P.real, P.data, noT⟩) := Lib.hid rfl
          obtain ⟨W4, hW4⟩ : ∃ W4, wr.alloc (.cells #[.int .i64 P.time, .int .i64 P.face, .int .i64 P.real, .slice A2 P.data.length cp2, .string P.note] 47) = W4 := ⟨_, rfl⟩
          have hb1 : Below wr.heap.size wr W4 := by rw [← hW4]; exact (Below.refl _ wr).alloc (Nat.le_refl _) _
          have k1 : Blk W4 wr.heap.size 47 #[.int .i64 P.time, .int .i64 P.face, .int .i64 P.real, .slice A2 P.data.length cp2, .string P.note] := by rw [← hW4]; exact Blk.new _ _ _
          have HL4 := Lib.hid (OwnP.below HL.out hb1)
          have HO4 := Lib.hid (HO.out.below hb1 HO.out.lt)
          have HF4 := Lib.hid (HF.out.below hb1 HF.out.lt)
          have HZ4 := Lib.hid (HZ.out.below hb1 HZ.out.lt)
          have HW4 := Lib.hid (show Blk W4 B 27 (capV ⟨some ⟨bf, of_, none⟩, cf, pn, cn, ps, cs, some ⟨b, o, none⟩, cp⟩ c).cells ∧ Below B w W4 from ⟨HW.out.1.below hb1 hBl, HW.out.2.trans (hb1.mono (Nat.le_of_lt hBl))⟩)
          obtain ⟨N, hN⟩ : ∃ N, wr.heap.size = N := ⟨_, rfl⟩
          have hgoN : go_ < N := by have := HO.out.lt; omega
          have HVN : Hid (v.ownBlock ≠ some N) := Lib.hid (fun e => by have := (HL.out.own.lt _ e).2; omega)
          have hBl0 := hBl
          rw [hN] at hBl hbz k1
          have hN4 : N < W4.heap.size := k1.lt
          have CL := bclone_any (w := W4.drew) (A := A2) (c := cp2) (bs := P.data) ((hbyc.below ((hb1.mono (Nat.le_of_lt hBl0)).drew)).more (by show B ≤ W4.heap.size; omega))
          obtain ⟨L, hL⟩ : ∃ L, P.data.length = L := ⟨_, rfl⟩
          have HLL := Lib.hid hL
          rw [hL] at CL k1 c3 hdl hW4
          have s0 : W4.cell? ⟨N, 0, none⟩ = some (.int .i64 P.time) := k1.cell 0
          have s1 : W4.cell? ⟨N, 1, none⟩ = some (.int .i64 P.face) := k1.cell 1
          have s2 : W4.cell? ⟨N, 2, none⟩ = some (.int .i64 P.real) := k1.cell 2
          have s3 : W4.cell? ⟨N, 3, none⟩ = some (.slice A2 L cp2) := k1.cell 3
          have so4 : W4.cell? ⟨go_, 4, none⟩ = some v := HO4.out.cell 4
          have HCL : Hid (Calls Try.prog 54 #[.slice A2 L cp2] W4.drew fun e w' => ∃ A c, e = .returned (.slice A L c) ∧ w'.ownsRow W4.heap.size 5 1 (.slice A L c) L (P.data.map u8) ∧ Below W4.heap.size W4.drew w') := Lib.hid (CL.mono (by
            rintro e w' ⟨A, c', he, ho, hb⟩
            rw [hL] at he ho
            exact ⟨A, c', he, ho, hb⟩))
          have HK1 := Lib.hid k1
          have HBY : Hid (∀ x ∈ P.data, x < 256) := Lib.hid hbyc.byt.lt
          have hxs : (((c.pkts.take k).filter keepP).map plainP).length ≤ 100 := by
            rw [List.length_map]
            exact Nat.le_trans (List.length_filter_le _ _) (by rw [List.length_take]; have := hh'.2; omega)
          have HST : Hid (∀ w5 A5 c5, w5.ownsRow W4.heap.size 5 1 (.slice A5 L c5) L (P.data.map u8) → Below W4.heap.size W4.drew w5 → _) := Lib.hid (fun w5 A5 c5 ho5 hb5 => plain_step (w := w) (w5 := w5) (A5 := A5) (c5 := c5) hL HL4.out HO4.out HF4.out HZ4.out HW4.out (by have := HGG.out; omega) HVN.out HK1.out ho5 hb5 HBY.out hdl hxs htm0 hrl0)
          clear CL k1 hL hbyc hb1 hxs hface
          go_wp2_with fail
          clear hW4 hN c0 c1 c2 c3 c4 s1
          have sd4 : W4.drew.cell? ⟨go_, 4, none⟩ = some v := so4
          refine wp_region_held_drew (S := fun w' => w'.cell? ⟨N, 0, none⟩ = some (.int .i64 P.time) ∧ w'.cell? ⟨N, 2, none⟩ = some (.int .i64 P.real) ∧ w'.cell? ⟨N, 3, none⟩ = some (.slice A2 L cp2)) (by kernel_rfl) ⟨s0, s2, s3⟩ (fun hHeld => ?_)
          refine tk 0 ?_
          repeat (rw [putL]; simp only [List.set])
          refine tk 2 ?_
          repeat (rw [putL]; simp only [List.set])
          refine tk 3 ?_
          repeat (rw [putL]; simp only [List.set])
          refine tk 4 ?_
          repeat (rw [putL]; simp only [List.set])
          refine tk 5 ?_
          repeat (rw [putL]; simp only [List.set])
          refine tk 6 ?_
          repeat (rw [putL]; simp only [List.set])
          refine tk 7 ?_
          repeat (rw [putL]; simp only [List.set])
          refine wpAnyH_ready (rs := [1, 8]) (by kernel_rfl) (by simp) ?_
          refine AllReadyH.cons rfl (fun K hK => ?_) (AllReadyH.cons rfl (fun K hK => ?_) (AllReadyH.nil))
          go_simp
          refine hK.out _ _ ⟨s0, s2, s3⟩ (fun hHeld => ?_)
          clear hK K
          repeat (rw [putL]; simp only [List.set])
          refine wpAnyH_ready (rs := [8]) (by kernel_rfl) (by simp) ?_
          refine AllReadyH.cons rfl (fun K hK => ?_) (AllReadyH.nil)
          go_simp
          (go_at_call 54; ((with_reducible refine HCL.out.mono ?_); rintro e w5 ⟨A5, c5, rfl, ho5, hb5⟩); obtain ⟨A7, n7, c7, w7, hrun, hO7, hK7, HR7⟩ := HST.out w5 A5 c5 ho5 hb5; have hHR7 := Lib.hid HR7; clear HR7; have t0 : w5.cell? ⟨N, 0, none⟩ = some (.int .i64 P.time) := (hb5.cell (p := ⟨N, 0, none⟩) hN4).trans s0; have t2 : w5.cell? ⟨N, 2, none⟩ = some (.int .i64 P.real) := (hb5.cell (p := ⟨N, 2, none⟩) hN4).trans s2; have t3 : w5.cell? ⟨N, 3, none⟩ = some (.slice A2 L cp2) := (hb5.cell (p := ⟨N, 3, none⟩) hN4).trans s3; have t4 : w5.cell? ⟨go_, 4, none⟩ = some v := (hb5.cell (p := ⟨go_, 4, none⟩) (Nat.lt_trans hgoN hN4)).trans so4; have hN5 : N < w5.heap.size := Nat.lt_of_lt_of_le hN4 hb5.size; have p0 : (w5.alloc (.cells #[.int .i64 P.time, .int .i64 0, .int .i64 P.real, .slice A5 L c5, .string ⟨#[]⟩] 47)).cell? ⟨N, 0, none⟩ = some (.int .i64 P.time) := (World.cell?_alloc_lt _ _ _ hN5).trans t0; have p2 : (w5.alloc (.cells #[.int .i64 P.time, .int .i64 0, .int .i64 P.real, .slice A5 L c5, .string ⟨#[]⟩] 47)).cell? ⟨N, 2, none⟩ = some (.int .i64 P.real) := (World.cell?_alloc_lt _ _ _ hN5).trans t2; have p3 : (w5.alloc (.cells #[.int .i64 P.time, .int .i64 0, .int .i64 P.real, .slice A5 L c5, .string ⟨#[]⟩] 47)).cell? ⟨N, 3, none⟩ = some (.slice A2 L cp2) := (World.cell?_alloc_lt _ _ _ hN5).trans t3; have p4 : (w5.alloc (.cells #[.int .i64 P.time, .int .i64 0, .int .i64 P.real, .slice A5 L c5, .string ⟨#[]⟩] 47)).cell? ⟨go_, 4, none⟩ = some v := (World.cell?_alloc_lt _ _ _ (Nat.lt_trans hgoN hN5)).trans t4; have r0 : w7.cell? ⟨N, 0, none⟩ = some (.int .i64 P.time) := hK7.cell 0; have r2 : w7.cell? ⟨N, 2, none⟩ = some (.int .i64 P.real) := hK7.cell 2; have r3 : w7.cell? ⟨N, 3, none⟩ = some (.slice A2 L cp2) := hK7.cell 3; have r4 : w7.cell? ⟨go_, 4, none⟩ = some v := hO7.cell 4; have rf : w7.frozen? ⟨go_, 4, none⟩ = false := hO7.frozen 4; have z0 : (w7.setCell ⟨go_, 4, none⟩ (.slice A7 n7 c7)).cell? ⟨N, 0, none⟩ = some (.int .i64 P.time) := (World.cell?_setCell_other _ _ _ _ (fun e => by injection e; omega)).trans r0; have z2 : (w7.setCell ⟨go_, 4, none⟩ (.slice A7 n7 c7)).cell? ⟨N, 2, none⟩ = some (.int .i64 P.real) := (World.cell?_setCell_other _ _ _ _ (fun e => by injection e; omega)).trans r2; have z3 : (w7.setCell ⟨go_, 4, none⟩ (.slice A7 n7 c7)).cell? ⟨N, 3, none⟩ = some (.slice A2 L cp2) := (World.cell?_setCell_other _ _ _ _ (fun e => by injection e; omega)).trans r3; clear ho5 hb5 hN5)
          go_wp2_with fail
          refine hK.out _ _ ⟨t0, t2, t3⟩ (fun hHeld => ?_)
          clear hK K
          repeat (rw [putL]; simp only [List.set])
          refine tk 9 ?_
          repeat (rw [putL]; simp only [List.set])
          refine wpAnyH_ready (rs := [10]) (by kernel_rfl) (by simp) ?_
          refine AllReadyH.cons rfl (fun K hK => ?_) (AllReadyH.nil)
          go_simp
          refine hK.out _ _ ⟨p0, p2, p3⟩ (fun hHeld => ?_)
          clear hK K
          repeat (rw [putL]; simp only [List.set])
          refine wpAnyH_ready (rs := [11]) (by kernel_rfl) (by simp) ?_
          refine AllReadyH.cons rfl (fun K hK => ?_) (AllReadyH.nil)
          refine step_append_run _ rfl _ _ _ _ rfl _ _ (by rfl) (by rfl) _ w7 hrun ?_
          refine hK.out _ _ ⟨r0, r2, r3⟩ (fun hHeld => ?_)
          clear hK K
          repeat (rw [putL]; simp only [List.set])
          refine tk 12 ?_
          repeat (rw [putL]; simp only [List.set])
          refine wpAnyH_ready (rs := [13]) (by kernel_rfl) (by simp) ?_
          refine AllReadyH.cons rfl (fun K hK => ?_) (AllReadyH.nil)
          go_simp
          refine hK.out _ _ ⟨z0, z2, z3⟩ (fun hHeld => ?_)
          clear hK K
          repeat (rw [putL]; simp only [List.set])
          refine wpAnyH_done (by kernel_rfl) ?_ _
          rotate_left 1
          go_simp
          (go_at_call 54; ((with_reducible refine HCL.out.mono ?_); rintro e w5 ⟨A5, c5, rfl, ho5, hb5⟩); obtain ⟨A7, n7, c7, w7, hrun, hO7, hK7, HR7⟩ := HST.out w5 A5 c5 ho5 hb5; have hHR7 := Lib.hid HR7; clear HR7; have t0 : w5.cell? ⟨N, 0, none⟩ = some (.int .i64 P.time) := (hb5.cell (p := ⟨N, 0, none⟩) hN4).trans s0; have t2 : w5.cell? ⟨N, 2, none⟩ = some (.int .i64 P.real) := (hb5.cell (p := ⟨N, 2, none⟩) hN4).trans s2; have t3 : w5.cell? ⟨N, 3, none⟩ = some (.slice A2 L cp2) := (hb5.cell (p := ⟨N, 3, none⟩) hN4).trans s3; have t4 : w5.cell? ⟨go_, 4, none⟩ = some v := (hb5.cell (p := ⟨go_, 4, none⟩) (Nat.lt_trans hgoN hN4)).trans so4; have hN5 : N < w5.heap.size := Nat.lt_of_lt_of_le hN4 hb5.size; have p0 : (w5.alloc (.cells #[.int .i64 P.time, .int .i64 0, .int .i64 P.real, .slice A5 L c5, .string ⟨#[]⟩] 47)).cell? ⟨N, 0, none⟩ = some (.int .i64 P.time) := (World.cell?_alloc_lt _ _ _ hN5).trans t0; have p2 : (w5.alloc (.cells #[.int .i64 P.time, .int .i64 0, .int .i64 P.real, .slice A5 L c5, .string ⟨#[]⟩] 47)).cell? ⟨N, 2, none⟩ = some (.int .i64 P.real) := (World.cell?_alloc_lt _ _ _ hN5).trans t2; have p3 : (w5.alloc (.cells #[.int .i64 P.time, .int .i64 0, .int .i64 P.real, .slice A5 L c5, .string ⟨#[]⟩] 47)).cell? ⟨N, 3, none⟩ = some (.slice A2 L cp2) := (World.cell?_alloc_lt _ _ _ hN5).trans t3; have p4 : (w5.alloc (.cells #[.int .i64 P.time, .int .i64 0, .int .i64 P.real, .slice A5 L c5, .string ⟨#[]⟩] 47)).cell? ⟨go_, 4, none⟩ = some v := (World.cell?_alloc_lt _ _ _ (Nat.lt_trans hgoN hN5)).trans t4; have r0 : w7.cell? ⟨N, 0, none⟩ = some (.int .i64 P.time) := hK7.cell 0; have r2 : w7.cell? ⟨N, 2, none⟩ = some (.int .i64 P.real) := hK7.cell 2; have r3 : w7.cell? ⟨N, 3, none⟩ = some (.slice A2 L cp2) := hK7.cell 3; have r4 : w7.cell? ⟨go_, 4, none⟩ = some v := hO7.cell 4; have rf : w7.frozen? ⟨go_, 4, none⟩ = false := hO7.frozen 4; have z0 : (w7.setCell ⟨go_, 4, none⟩ (.slice A7 n7 c7)).cell? ⟨N, 0, none⟩ = some (.int .i64 P.time) := (World.cell?_setCell_other _ _ _ _ (fun e => by injection e; omega)).trans r0; have z2 : (w7.setCell ⟨go_, 4, none⟩ (.slice A7 n7 c7)).cell? ⟨N, 2, none⟩ = some (.int .i64 P.real) := (World.cell?_setCell_other _ _ _ _ (fun e => by injection e; omega)).trans r2; have z3 : (w7.setCell ⟨go_, 4, none⟩ (.slice A7 n7 c7)).cell? ⟨N, 3, none⟩ = some (.slice A2 L cp2) := (World.cell?_setCell_other _ _ _ _ (fun e => by injection e; omega)).trans r3; clear ho5 hb5 hN5)
          go_wp2_with fail
          refine hK.out _ _ ⟨t0, t2, t3⟩ (fun hHeld => ?_)
          clear hK K
          repeat (rw [putL]; simp only [List.set])
          refine tk 9 ?_
          repeat (rw [putL]; simp only [List.set])
          refine wpAnyH_ready (rs := [1, 10]) (by kernel_rfl) (by simp) ?_
          refine AllReadyH.cons rfl (fun K hK => ?_) (AllReadyH.cons rfl (fun K hK => ?_) (AllReadyH.nil))
          go_simp
          refine hK.out _ _ ⟨t0, t2, t3⟩ (fun hHeld => ?_)
          clear hK K
          repeat (rw [putL]; simp only [List.set])
          refine wpAnyH_ready (rs := [10]) (by kernel_rfl) (by simp) ?_
          refine AllReadyH.cons rfl (fun K hK => ?_) (AllReadyH.nil)
          go_simp
          refine hK.out _ _ ⟨p0, p2, p3⟩ (fun hHeld => ?_)
          clear hK K
          repeat (rw [putL]; simp only [List.set])
          refine wpAnyH_ready (rs := [11]) (by kernel_rfl) (by simp) ?_
          refine AllReadyH.cons rfl (fun K hK => ?_) (AllReadyH.nil)
          refine step_append_run _ rfl _ _ _ _ rfl _ _ (by rfl) (by rfl) _ w7 hrun ?_
          refine hK.out _ _ ⟨r0, r2, r3⟩ (fun hHeld => ?_)
          clear hK K
          repeat (rw [putL]; simp only [List.set])
          refine tk 12 ?_
          repeat (rw [putL]; simp only [List.set])
          refine wpAnyH_ready (rs := [13]) (by kernel_rfl) (by simp) ?_
          refine AllReadyH.cons rfl (fun K hK => ?_) (AllReadyH.nil)
          go_simp
          refine hK.out _ _ ⟨z0, z2, z3⟩ (fun hHeld => ?_)
          clear hK K
          repeat (rw [putL]; simp only [List.set])
          refine wpAnyH_done (by kernel_rfl) ?_ _
          rotate_left 1
          go_simp
          refine hK.out _ _ ⟨p0, p2, p3⟩ (fun hHeld => ?_)
          clear hK K
          repeat (rw [putL]; simp only [List.set])
          refine wpAnyH_ready (rs := [1]) (by kernel_rfl) (by simp) ?_
          refine AllReadyH.cons rfl (fun K hK => ?_) (AllReadyH.nil)
          go_simp
          refine hK.out _ _ ⟨p0, p2, p3⟩ (fun hHeld => ?_)
          clear hK K
          repeat (rw [putL]; simp only [List.set])
          refine wpAnyH_ready (rs := [11]) (by kernel_rfl) (by simp) ?_
          refine AllReadyH.cons rfl (fun K hK => ?_) (AllReadyH.nil)
          refine step_append_run _ rfl _ _ _ _ rfl _ _ (by rfl) (by rfl) _ w7 hrun ?_
          refine hK.out _ _ ⟨r0, r2, r3⟩ (fun hHeld => ?_)
          clear hK K
          repeat (rw [putL]; simp only [List.set])
          refine tk 12 ?_
          repeat (rw [putL]; simp only [List.set])
          refine wpAnyH_ready (rs := [13]) (by kernel_rfl) (by simp) ?_
          refine AllReadyH.cons rfl (fun K hK => ?_) (AllReadyH.nil)
          go_simp
          refine hK.out _ _ ⟨z0, z2, z3⟩ (fun hHeld => ?_)
          clear hK K
          repeat (rw [putL]; simp only [List.set])
          refine wpAnyH_done (by kernel_rfl) ?_ _
          all_goals
            obtain ⟨r7, gL, gO, gF, gZ, gW, gB⟩ := hHR7.out
            have HL7 : Hid (OwnP (w7.setCell ⟨go_, 4, none⟩ (.slice A7 n7 c7)) (B + 2) (.slice A7 n7 c7) (((c.pkts.take (k + 1)).filter keepP).map plainP) (rows ++ [r7])) := Lib.hid (by rw [HSEL2.out, HB0.out]; exact gL)
            have HO7 := Lib.hid gO
            have HF7 := Lib.hid gF
            have HZ7 := Lib.hid gZ
            have HW7 := Lib.hid (And.intro gW gB)
            clear gL gO gF gZ gW gB hHR7 hO7 hK7 hrun
            go_wp2
            go_roundw
            case rel => exact ⟨k + 1, .slice A7 n7 c7, rows ++ [r7], by go_num, by omega, HL7, HO7, HF7, HZ7, HW7⟩
            case measure => simp [intOf]; omega
        · have HSEL2 : Hid (((c.pkts.take (k + 1)).filter keepP).map plainP = ((c.pkts.take k).filter keepP).map plainP) := Lib.hid (by
            rw [HSEL.out]; unfold keepP; simp [hface])
          have hfb : (P.face == 0) = false := by simpa using hface
          have hb1 : Below wr.heap.size wr (wr.alloc (.cells #[.int .i64 P.time, .int .i64 P.face, .int .i64 P.real, .slice A2 P.data.length cp2, .string P.note] 47)) := (Below.refl _ wr).alloc (Nat.le_refl _) _
          have HL4 := Lib.hid (OwnP.below HL.out hb1)
          have HW4 := Lib.hid (round_alloc HW.out (.cells #[.int .i64 P.time, .int .i64 P.face, .int .i64 P.real, .slice A2 P.data.length cp2, .string P.note] 47))
          have HO4 := Lib.hid (HO.out.alloc (.cells #[.int .i64 P.time, .int .i64 P.face, .int .i64 P.real, .slice A2 P.data.length cp2, .string P.note] 47))
          have HF4 := Lib.hid (HF.out.alloc (.cells #[.int .i64 P.time, .int .i64 P.face, .int .i64 P.real, .slice A2 P.data.length cp2, .string P.note] 47))
          have HZ4 := Lib.hid (HZ.out.alloc (.cells #[.int .i64 P.time, .int .i64 P.face, .int .i64 P.real, .slice A2 P.data.length cp2, .string P.note] 47))
          rw [← HSEL2.out] at HL4
          clear hb1 hface
          go_wp2
          go_roundw
          case rel => exact ⟨k + 1, v, rows, by go_num, by omega, HL4, HO4, HF4, HZ4, HW4⟩
          case measure => simp [intOf]; omega
      · have hkl : k = c.pkts.length := by omega
        obtain ⟨A8, c8, rfl, hle8, hnil8⟩ := own_form2 HL.out.own
        obtain ⟨n8, hn8⟩ : ∃ n8, (((c.pkts.take k).filter keepP).map plainP).length = n8 := ⟨_, rfl⟩
        have hxs : (((c.pkts.take k).filter keepP).map plainP).length ≤ 100 := by
          rw [List.length_map]
          exact Nat.le_trans (List.length_filter_le _ _) (by rw [List.length_take]; have := hh'.2; omega)
        have hLO := HL.out
        rw [hn8] at hle8 HO hLO
        have HEND := Lib.hid (plain_end hn8 hLO HZ.out HF.out (by have := HGG.out; omega) HW.out.2 HLK.out HSN0.out hle8 hnil8 hxs)
        rw [hkl, List.take_length] at HEND hn8
        have HN8 := Lib.hid hn8
        clear hLO hxs
        have o0 : wr.cell? ⟨go_, 0, none⟩ = some (.string ⟨#[]⟩) := HO.out.cell 0
        have o1 : wr.cell? ⟨go_, 1, none⟩ = some (.slice (some ⟨gf, 0, none⟩) 1 1) := HO.out.cell 1
        have o2 : wr.cell? ⟨go_, 2, none⟩ = some (.slice none 0 0) := HO.out.cell 2
        have o3 : wr.cell? ⟨go_, 3, none⟩ = some (.slice none 0 0) := HO.out.cell 3
        have o4 : wr.cell? ⟨go_, 4, none⟩ = some (.slice A8 n8 c8) := HO.out.cell 4
        have z0 : wr.cell? ⟨B + 1, 0, none⟩ = some (.string ⟨#[]⟩) := HZ.out.cell 0
        have z1 : wr.cell? ⟨B + 1, 1, none⟩ = some (.slice none 0 0) := HZ.out.cell 1
        have z2 : wr.cell? ⟨B + 1, 2, none⟩ = some (.slice none 0 0) := HZ.out.cell 2
        have z3 : wr.cell? ⟨B + 1, 3, none⟩ = some (.slice none 0 0) := HZ.out.cell 3
        have z4 : wr.cell? ⟨B + 1, 4, none⟩ = some (.slice none 0 0) := HZ.out.cell 4
        have zf0 : wr.frozen? ⟨B + 1, 0, none⟩ = false := HZ.out.frozen 0
        have zf1 : wr.frozen? ⟨B + 1, 1, none⟩ = false := HZ.out.frozen 1
        have zf2 : wr.frozen? ⟨B + 1, 2, none⟩ = false := HZ.out.frozen 2
        have zf3 : wr.frozen? ⟨B + 1, 3, none⟩ = false := HZ.out.frozen 3
        have zf4 : wr.frozen? ⟨B + 1, 4, none⟩ = false := HZ.out.frozen 4
        clear hkl hle8 hnil8 HL hn8
        go_wp2
        generalize hW9 : ((((wr.setCell ⟨B + 1, 0, none⟩ (.string ⟨#[]⟩)).setCell ⟨B + 1, 1, none⟩ (.slice (some ⟨gf, 0, none⟩) 1 1)).setCell ⟨B + 1, 2, none⟩ (.slice none 0 0)).setCell ⟨B + 1, 3, none⟩ (.slice none 0 0)).setCell ⟨B + 1, 4, none⟩ (.slice A8 n8 c8) = W9 at HEND ⊢
        obtain ⟨hb9, hc9, hw9⟩ := HEND.out
        have y0 : W9.cell? ⟨B + 1, 0, none⟩ = some (.string ⟨#[]⟩) := hb9.cell 0
        have y1 : W9.cell? ⟨B + 1, 1, none⟩ = some (.slice (some ⟨gf, 0, none⟩) 1 1) := hb9.cell 1
        have y2 : W9.cell? ⟨B + 1, 2, none⟩ = some (.slice none 0 0) := hb9.cell 2
        have y3 : W9.cell? ⟨B + 1, 3, none⟩ = some (.slice none 0 0) := hb9.cell 3
        have y4 : W9.cell? ⟨B + 1, 4, none⟩ = some (.slice A8 n8 c8) := hb9.cell 4
        exact bodyPost_ret (v := .agg #[.string ⟨#[]⟩, .slice (some ⟨gf, 0, none⟩) 1 1, .slice none 0 0, .slice none 0 0, .slice A8 n8 c8]) (by simp [results, Try.results28, go_sem, y0, y1, y2, y3, y4]) rfl ⟨⟨some ⟨gf, 0, none⟩, 1, none, 0, none, 0, A8, c8⟩, by rw [HPC.out, ← HN8.out]; rfl, by rw [HPC.out]; exact hc9, hw9⟩

  · have hb3 : Below W0.heap.size W0 (((W0.alloc (.cells #[.string ⟨#[]⟩, .slice (some ⟨W0.heap.size + 1, 0, none⟩) 1 1, .slice none 0 0, .slice none 0 0, .slice none 0 0] 27)).alloc (.cells #[.string ⟨#[]⟩, .int .i64 lk, .int .i64 sn] 54)).drew) := (((Below.refl _ W0).alloc (Nat.le_refl _) _).alloc (by rw [alloc_size]; omega) _).drew
    have HK3 := Lib.hid (show Blk (((W0.alloc (.cells #[.string ⟨#[]⟩, .slice (some ⟨W0.heap.size + 1, 0, none⟩) 1 1, .slice none 0 0, .slice none 0 0, .slice none 0 0] 27)).alloc (.cells #[.string ⟨#[]⟩, .int .i64 lk, .int .i64 sn] 54)).drew) B 27 (capV ⟨some ⟨bf, of_, none⟩, cf, pn, cn, ps, cs, pp, cp⟩ c).cells ∧ Below B w (((W0.alloc (.cells #[.string ⟨#[]⟩, .slice (some ⟨W0.heap.size + 1, 0, none⟩) 1 1, .slice none 0 0, .slice none 0 0, .slice none 0 0] 27)).alloc (.cells #[.string ⟨#[]⟩, .int .i64 lk, .int .i64 sn] 54)).drew) from ⟨HK0.out.1.below hb3 hlB, HK0.out.2.trans (hb3.mono (Nat.le_of_lt hlB))⟩)
    have HZ3 := Lib.hid (show Blk (((W0.alloc (.cells #[.string ⟨#[]⟩, .slice (some ⟨W0.heap.size + 1, 0, none⟩) 1 1, .slice none 0 0, .slice none 0 0, .slice none 0 0] 27)).alloc (.cells #[.string ⟨#[]⟩, .int .i64 lk, .int .i64 sn] 54)).drew) (B + 1) 27 zeroCap from HZ0.out.below hb3 (by rw [HS0.out]; omega))
    have HO3 := Lib.hid (show Blk (((W0.alloc (.cells #[.string ⟨#[]⟩, .slice (some ⟨W0.heap.size + 1, 0, none⟩) 1 1, .slice none 0 0, .slice none 0 0, .slice none 0 0] 27)).alloc (.cells #[.string ⟨#[]⟩, .int .i64 lk, .int .i64 sn] 54)).drew) W0.heap.size 27 #[.string ⟨#[]⟩, .slice (some ⟨W0.heap.size + 1, 0, none⟩) 1 1, .slice none 0 0, .slice none 0 0, .slice none 0 0] from (Blk.new W0 27 _).alloc _)
    have HF3 : Hid (Blk (((W0.alloc (.cells #[.string ⟨#[]⟩, .slice (some ⟨W0.heap.size + 1, 0, none⟩) 1 1, .slice none 0 0, .slice none 0 0, .slice none 0 0] 27)).alloc (.cells #[.string ⟨#[]⟩, .int .i64 lk, .int .i64 sn] 54)).drew) (W0.heap.size + 1) 54 #[.string ⟨#[]⟩, .int .i64 lk, .int .i64 sn]) := Lib.hid (by
      have h := Blk.new (W0.alloc (.cells #[.string ⟨#[]⟩, .slice (some ⟨W0.heap.size + 1, 0, none⟩) 1 1, .slice none 0 0, .slice none 0 0, .slice none 0 0] 27)) 54 #[.string ⟨#[]⟩, .int .i64 lk, .int .i64 sn]
      rw [alloc_size] at h
      exact h)
    have HGG : Hid (B + 2 ≤ W0.heap.size + 1 ∧ B + 2 ≤ W0.heap.size) := Lib.hid (by have := HS0.out; omega)
    obtain ⟨W3, hW3⟩ : ∃ W3, ((W0.alloc (.cells #[.string ⟨#[]⟩, .slice (some ⟨W0.heap.size + 1, 0, none⟩) 1 1, .slice none 0 0, .slice none 0 0, .slice none 0 0] 27)).alloc (.cells #[.string ⟨#[]⟩, .int .i64 lk, .int .i64 sn] 54)).drew = W3 := ⟨_, rfl⟩
    rw [hW3] at HK3 HZ3 HF3 HO3 ⊢
    clear hW3 hb3 q1 g1 g2 hlb hlB hf1 HK0 HZ0 HS0
    generalize W0.heap.size + 1 = gf at HO3 HF3 HGG ⊢
    generalize W0.heap.size = go_ at HO3 HF3 HGG ⊢
    have q4 : W3.cell? ⟨B, 4, none⟩ = some (.slice pp c.pkts.length cp) := HK3.out.1.cell 4
    go_wp2
    clear q4
    go_loopw [22] (fun i wr => ∃ (k : Nat) (v : Value) (rows : List (List Value)), i = .int .i64 k ∧ k ≤ c.pkts.length ∧ Hid (OwnP wr (B + 2) v (((c.pkts.take k).filter keepP).map plainP) rows) ∧ Hid (Blk wr go_ 27 #[.string ⟨#[]⟩, .slice (some ⟨gf, 0, none⟩) 1 1, .slice none 0 0, .slice none 0 0, v]) ∧ Hid (Blk wr gf 54 #[.string ⟨#[]⟩, .int .i64 lk, .int .i64 sn]) ∧ Hid (Blk wr (B + 1) 27 zeroCap) ∧ Hid (Blk wr B 27 (capV ⟨some ⟨bf, of_, none⟩, cf, pn, cn, ps, cs, pp, cp⟩ c).cells ∧ Below B w wr)) (fun i _ => c.pkts.length - (intOf i).toNat)
    case atStart => exact ⟨0, .slice none 0 0, [], rfl, Nat.zero_le _, Lib.hid (OwnL.nil _ _ _ _ _), HO3, HF3, HZ3, HK3⟩
    case round =>
      obtain ⟨k, v, rows, rfl, hk, HL, HO, HF, HZ, HW⟩ := hrel
      have hBl := HW.out.1.lt
      have hbz : B + 1 < wr.heap.size := HZ.out.lt
      by_cases hlt : k < c.pkts.length
      · obtain ⟨b, o, hA, hb, vs, hl, ⟨A2, cp2, rfl, hbyc, hbig, htm0, hfc0, hrl0⟩, hcell⟩ := (HM.out.pkts.keep pktK HW.out.2 (Nat.le_refl _)).row k hlt
        change pp = _ at hA
        subst hA
        have c0 : wr.cell? ⟨b, o + k * 5, none⟩ = _ := hcell 0 _ rfl
        have c1 := hcell 1 _ rfl
        have c2 := hcell 2 _ rfl
        have c3 := hcell 3 _ rfl
        have c4 := hcell 4 _ rfl
        clear hcell
        have hvk := List.all_eq_true.1 HVP.out _ (List.getElem_mem hlt)
        simp only [pktB, pktS, Bool.and_eq_true, within_iff, decide_eq_true_eq] at hvk
        obtain ⟨hv1, hv2, hv3, hv4, hv5⟩ := hvk
        have htl : c.pkts[k].time < 4294967296000000 := by omega
        have hdl : c.pkts[k].data.length ≤ 400 := by omega
        clear hv1 hv2 hv3 hv4 hv5
        have HSEL : Hid ((c.pkts.take (k + 1)).filter keepP = (c.pkts.take k).filter keepP ++ if keepP c.pkts[k] then [c.pkts[k]] else []) := Lib.hid (by
          rw [List.take_succ_eq_append_getElem hlt, List.filter_append]; congr 1; cases hq : keepP c.pkts[k] <;> simp [hq])
        obtain ⟨P, hP⟩ : ∃ P, c.pkts[k] = P := ⟨_, rfl⟩
        rw [hP] at c0 c1 c2 c3 c4 hbyc htl hdl hbig htm0 hfc0 hrl0 HSEL
        clear hP hl
        by_cases hface : P.face = 0
        · have HSEL2 : Hid (((c.pkts.take (k + 1)).filter keepP).map plainP = ((c.pkts.take k).filter keepP).map plainP ++ [plainP P]) := Lib.hid (by
            rw [HSEL.out]; unfold keepP; simp [hface])
          have hfb : (P.face == 0) = true := by simpa using hface
          have HB0 : Hid (plainP P = ⟨P.time, 0, P.real, P.data, noT⟩) := Lib.hid rfl
          obtain ⟨W4, hW4⟩ : ∃ W4, wr.alloc (.cells #[.int .i64 P.time, .int .i64 P.face, .int .i64 P.real, .slice A2 P.data.length cp2, .string P.note] 47) = W4 := ⟨_, rfl⟩
          have hb1 : Below wr.heap.size wr W4 := by rw [← hW4]; exact (Below.refl _ wr).alloc (Nat.le_refl _) _
          have k1 : Blk W4 wr.heap.size 47 #[.int .i64 P.time, .int .i64 P.face, .int .i64 P.real, .slice A2 P.data.length cp2, .string P.note] := by rw [← hW4]; exact Blk.new _ _ _
          have HL4 := Lib.hid (OwnP.below HL.out hb1)
          have HO4 := Lib.hid (HO.out.below hb1 HO.out.lt)
          have HF4 := Lib.hid (HF.out.below hb1 HF.out.lt)
          have HZ4 := Lib.hid (HZ.out.below hb1 HZ.out.lt)
          have HW4 := Lib.hid (show Blk W4 B 27 (capV ⟨some ⟨bf, of_, none⟩, cf, pn, cn, ps, cs, some ⟨b, o, none⟩, cp⟩ c).cells ∧ Below B w W4 from ⟨HW.out.1.below hb1 hBl, HW.out.2.trans (hb1.mono (Nat.le_of_lt hBl))⟩)
          obtain ⟨N, hN⟩ : ∃ N, wr.heap.size = N := ⟨_, rfl⟩
          have hgoN : go_ < N := by have := HO.out.lt; omega
          have HVN : Hid (v.ownBlock ≠ some N) := Lib.hid (fun e => by have := (HL.out.own.lt _ e).2; omega)
          have hBl0 := hBl
          rw [hN] at hBl hbz k1
          have hN4 : N < W4.heap.size := k1.lt
          have CL := bclone_any (w := W4.drew) (A := A2) (c := cp2) (bs := P.data) ((hbyc.below ((hb1.mono (Nat.le_of_lt hBl0)).drew)).more (by show B ≤ W4.heap.size; omega))
          obtain ⟨L, hL⟩ : ∃ L, P.data.length = L := ⟨_, rfl⟩
          have HLL := Lib.hid hL
          rw [hL] at CL k1 c3 hdl hW4
          have s0 : W4.cell? ⟨N, 0, none⟩ = some (.int .i64 P.time) := k1.cell 0
          have s1 : W4.cell? ⟨N, 1, none⟩ = some (.int .i64 P.face) := k1.cell 1
          have s2 : W4.cell? ⟨N, 2, none⟩ = some (.int .i64 P.real) := k1.cell 2
          have s3 : W4.cell? ⟨N, 3, none⟩ = some (.slice A2 L cp2) := k1.cell 3
          have so4 : W4.cell? ⟨go_, 4, none⟩ = some v := HO4.out.cell 4
          have HCL : Hid (Calls Try.prog 54 #[.slice A2 L cp2] W4.drew fun e w' => ∃ A c, e = .returned (.slice A L c) ∧ w'.ownsRow W4.heap.size 5 1 (.slice A L c) L (P.data.map u8) ∧ Below W4.heap.size W4.drew w') := Lib.hid (CL.mono (by
            rintro e w' ⟨A, c', he, ho, hb⟩
            rw [hL] at he ho
            exact ⟨A, c', he, ho, hb⟩))
          have HK1 := Lib.hid k1
          have HBY : Hid (∀ x ∈ P.data, x < 256) := Lib.hid hbyc.byt.lt
          have hxs : (((c.pkts.take k).filter keepP).map plainP).length ≤ 100 := by
            rw [List.length_map]
            exact Nat.le_trans (List.length_filter_le _ _) (by rw [List.length_take]; have := hh'.2; omega)
          have HST : Hid (∀ w5 A5 c5, w5.ownsRow W4.heap.size 5 1 (.slice A5 L c5) L (P.data.map u8) → Below W4.heap.size W4.drew w5 → _) := Lib.hid (fun w5 A5 c5 ho5 hb5 => plain_step (w := w) (w5 := w5) (A5 := A5) (c5 := c5) hL HL4.out HO4.out HF4.out HZ4.out HW4.out (by have := HGG.out; omega) HVN.out HK1.out ho5 hb5 HBY.out hdl hxs htm0 hrl0)
          clear CL k1 hL hbyc hb1 hxs hface
          go_wp2_with fail
          clear hW4 hN c0 c1 c2 c3 c4 s1
          have sd4 : W4.drew.cell? ⟨go_, 4, none⟩ = some v := so4
          refine wp_region_held_drew (S := fun w' => w'.cell? ⟨N, 0, none⟩ = some (.int .i64 P.time) ∧ w'.cell? ⟨N, 2, none⟩ = some (.int .i64 P.real) ∧ w'.cell? ⟨N, 3, none⟩ = some (.slice A2 L cp2)) (by kernel_rfl) ⟨s0, s2, s3⟩ (fun hHeld => ?_)
          refine tk 0 ?_
          repeat (rw [putL]; simp only [List.set])
          refine tk 2 ?_
          repeat (rw [putL]; simp only [List.set])
          refine tk 3 ?_
          repeat (rw [putL]; simp only [List.set])
          refine tk 4 ?_
          repeat (rw [putL]; simp only [List.set])
          refine tk 5 ?_
          repeat (rw [putL]; simp only [List.set])
          refine tk 6 ?_
          repeat (rw [putL]; simp only [List.set])
          refine tk 7 ?_
          repeat (rw [putL]; simp only [List.set])
          refine wpAnyH_ready (rs := [1, 8]) (by kernel_rfl) (by simp) ?_
          refine AllReadyH.cons rfl (fun K hK => ?_) (AllReadyH.cons rfl (fun K hK => ?_) (AllReadyH.nil))
          go_simp
          refine hK.out _ _ ⟨s0, s2, s3⟩ (fun hHeld => ?_)
          clear hK K
          repeat (rw [putL]; simp only [List.set])
          refine wpAnyH_ready (rs := [8]) (by kernel_rfl) (by simp) ?_
          refine AllReadyH.cons rfl (fun K hK => ?_) (AllReadyH.nil)
          go_simp
          (go_at_call 54; ((with_reducible refine HCL.out.mono ?_); rintro e w5 ⟨A5, c5, rfl, ho5, hb5⟩); obtain ⟨A7, n7, c7, w7, hrun, hO7, hK7, HR7⟩ := HST.out w5 A5 c5 ho5 hb5; have hHR7 := Lib.hid HR7; clear HR7; have t0 : w5.cell? ⟨N, 0, none⟩ = some (.int .i64 P.time) := (hb5.cell (p := ⟨N, 0, none⟩) hN4).trans s0; have t2 : w5.cell? ⟨N, 2, none⟩ = some (.int .i64 P.real) := (hb5.cell (p := ⟨N, 2, none⟩) hN4).trans s2; have t3 : w5.cell? ⟨N, 3, none⟩ = some (.slice A2 L cp2) := (hb5.cell (p := ⟨N, 3, none⟩) hN4).trans s3; have t4 : w5.cell? ⟨go_, 4, none⟩ = some v := (hb5.cell (p := ⟨go_, 4, none⟩) (Nat.lt_trans hgoN hN4)).trans so4; have hN5 : N < w5.heap.size := Nat.lt_of_lt_of_le hN4 hb5.size; have p0 : (w5.alloc (.cells #[.int .i64 P.time, .int .i64 0, .int .i64 P.real, .slice A5 L c5, .string ⟨#[]⟩] 47)).cell? ⟨N, 0, none⟩ = some (.int .i64 P.time) := (World.cell?_alloc_lt _ _ _ hN5).trans t0; have p2 : (w5.alloc (.cells #[.int .i64 P.time, .int .i64 0, .int .i64 P.real, .slice A5 L c5, .string ⟨#[]⟩] 47)).cell? ⟨N, 2, none⟩ = some (.int .i64 P.real) := (World.cell?_alloc_lt _ _ _ hN5).trans t2; have p3 : (w5.alloc (.cells #[.int .i64 P.time, .int .i64 0, .int .i64 P.real, .slice A5 L c5, .string ⟨#[]⟩] 47)).cell? ⟨N, 3, none⟩ = some (.slice A2 L cp2) := (World.cell?_alloc_lt _ _ _ hN5).trans t3; have p4 : (w5.alloc (.cells #[.int .i64 P.time, .int .i64 0, .int .i64 P.real, .slice A5 L c5, .string ⟨#[]⟩] 47)).cell? ⟨go_, 4, none⟩ = some v := (World.cell?_alloc_lt _ _ _ (Nat.lt_trans hgoN hN5)).trans t4; have r0 : w7.cell? ⟨N, 0, none⟩ = some (.int .i64 P.time) := hK7.cell 0; have r2 : w7.cell? ⟨N, 2, none⟩ = some (.int .i64 P.real) := hK7.cell 2; have r3 : w7.cell? ⟨N, 3, none⟩ = some (.slice A2 L cp2) := hK7.cell 3; have r4 : w7.cell? ⟨go_, 4, none⟩ = some v := hO7.cell 4; have rf : w7.frozen? ⟨go_, 4, none⟩ = false := hO7.frozen 4; have z0 : (w7.setCell ⟨go_, 4, none⟩ (.slice A7 n7 c7)).cell? ⟨N, 0, none⟩ = some (.int .i64 P.time) := (World.cell?_setCell_other _ _ _ _ (fun e => by injection e; omega)).trans r0; have z2 : (w7.setCell ⟨go_, 4, none⟩ (.slice A7 n7 c7)).cell? ⟨N, 2, none⟩ = some (.int .i64 P.real) := (World.cell?_setCell_other _ _ _ _ (fun e => by injection e; omega)).trans r2; have z3 : (w7.setCell ⟨go_, 4, none⟩ (.slice A7 n7 c7)).cell? ⟨N, 3, none⟩ = some (.slice A2 L cp2) := (World.cell?_setCell_other _ _ _ _ (fun e => by injection e; omega)).trans r3; clear ho5 hb5 hN5)
          go_wp2_with fail
          refine hK.out _ _ ⟨t0, t2, t3⟩ (fun hHeld => ?_)
          clear hK K
          repeat (rw [putL]; simp only [List.set])
          refine tk 9 ?_
          repeat (rw [putL]; simp only [List.set])
          refine wpAnyH_ready (rs := [10]) (by kernel_rfl) (by simp) ?_
          refine AllReadyH.cons rfl (fun K hK => ?_) (AllReadyH.nil)
          go_simp
          refine hK.out _ _ ⟨p0, p2, p3⟩ (fun hHeld => ?_)
          clear hK K
          repeat (rw [putL]; simp only [List.set])
          refine wpAnyH_ready (rs := [11]) (by kernel_rfl) (by simp) ?_
          refine AllReadyH.cons rfl (fun K hK => ?_) (AllReadyH.nil)
          refine step_append_run _ rfl _ _ _ _ rfl _ _ (by rfl) (by rfl) _ w7 hrun ?_
          refine hK.out _ _ ⟨r0, r2, r3⟩ (fun hHeld => ?_)
          clear hK K
          repeat (rw [putL]; simp only [List.set])
          refine tk 12 ?_
          repeat (rw [putL]; simp only [List.set])
          refine wpAnyH_ready (rs := [13]) (by kernel_rfl) (by simp) ?_
          refine AllReadyH.cons rfl (fun K hK => ?_) (AllReadyH.nil)
          go_simp
          refine hK.out _ _ ⟨z0, z2, z3⟩ (fun hHeld => ?_)
          clear hK K
          repeat (rw [putL]; simp only [List.set])
          refine wpAnyH_done (by kernel_rfl) ?_ _
          rotate_left 1
          go_simp
          (go_at_call 54; ((with_reducible refine HCL.out.mono ?_); rintro e w5 ⟨A5, c5, rfl, ho5, hb5⟩); obtain ⟨A7, n7, c7, w7, hrun, hO7, hK7, HR7⟩ := HST.out w5 A5 c5 ho5 hb5; have hHR7 := Lib.hid HR7; clear HR7; have t0 : w5.cell? ⟨N, 0, none⟩ = some (.int .i64 P.time) := (hb5.cell (p := ⟨N, 0, none⟩) hN4).trans s0; have t2 : w5.cell? ⟨N, 2, none⟩ = some (.int .i64 P.real) := (hb5.cell (p := ⟨N, 2, none⟩) hN4).trans s2; have t3 : w5.cell? ⟨N, 3, none⟩ = some (.slice A2 L cp2) := (hb5.cell (p := ⟨N, 3, none⟩) hN4).trans s3; have t4 : w5.cell? ⟨go_, 4, none⟩ = some v := (hb5.cell (p := ⟨go_, 4, none⟩) (Nat.lt_trans hgoN hN4)).trans so4; have hN5 : N < w5.heap.size := Nat.lt_of_lt_of_le hN4 hb5.size; have p0 : (w5.alloc (.cells #[.int .i64 P.time, .int .i64 0, .int .i64 P.real, .slice A5 L c5, .string ⟨#[]⟩] 47)).cell? ⟨N, 0, none⟩ = some (.int .i64 P.time) := (World.cell?_alloc_lt _ _ _ hN5).trans t0; have p2 : (w5.alloc (.cells #[.int .i64 P.time, .int .i64 0, .int .i64 P.real, .slice A5 L c5, .string ⟨#[]⟩] 47)).cell? ⟨N, 2, none⟩ = some (.int .i64 P.real) := (World.cell?_alloc_lt _ _ _ hN5).trans t2; have p3 : (w5.alloc (.cells #[.int .i64 P.time, .int .i64 0, .int .i64 P.real, .slice A5 L c5, .string ⟨#[]⟩] 47)).cell? ⟨N, 3, none⟩ = some (.slice A2 L cp2) := (World.cell?_alloc_lt _ _ _ hN5).trans t3; have p4 : (w5.alloc (.cells #[.int .i64 P.time, .int .i64 0, .int .i64 P.real, .slice A5 L c5, .string ⟨#[]⟩] 47)).cell? ⟨go_, 4, none⟩ = some v := (World.cell?_alloc_lt _ _ _ (Nat.lt_trans hgoN hN5)).trans t4; have r0 : w7.cell? ⟨N, 0, none⟩ = some (.int .i64 P.time) := hK7.cell 0; have r2 : w7.cell? ⟨N, 2, none⟩ = some (.int .i64 P.real) := hK7.cell 2; have r3 : w7.cell? ⟨N, 3, none⟩ = some (.slice A2 L cp2) := hK7.cell 3; have r4 : w7.cell? ⟨go_, 4, none⟩ = some v := hO7.cell 4; have rf : w7.frozen? ⟨go_, 4, none⟩ = false := hO7.frozen 4; have z0 : (w7.setCell ⟨go_, 4, none⟩ (.slice A7 n7 c7)).cell? ⟨N, 0, none⟩ = some (.int .i64 P.time) := (World.cell?_setCell_other _ _ _ _ (fun e => by injection e; omega)).trans r0; have z2 : (w7.setCell ⟨go_, 4, none⟩ (.slice A7 n7 c7)).cell? ⟨N, 2, none⟩ = some (.int .i64 P.real) := (World.cell?_setCell_other _ _ _ _ (fun e => by injection e; omega)).trans r2; have z3 : (w7.setCell ⟨go_, 4, none⟩ (.slice A7 n7 c7)).cell? ⟨N, 3, none⟩ = some (.slice A2 L cp2) := (World.cell?_setCell_other _ _ _ _ (fun e => by injection e; omega)).trans r3; clear ho5 hb5 hN5)
          go_wp2_with fail
          refine hK.out _ _ ⟨t0, t2, t3⟩ (fun hHeld => ?_)
          clear hK K
          repeat (rw [putL]; simp only [List.set])
          refine tk 9 ?_
          repeat (rw [putL]; simp only [List.set])
          refine wpAnyH_ready (rs := [1, 10]) (by kernel_rfl) (by simp) ?_
          refine AllReadyH.cons rfl (fun K hK => ?_) (AllReadyH.cons rfl (fun K hK => ?_) (AllReadyH.nil))
          go_simp
          refine hK.out _ _ ⟨t0, t2, t3⟩ (fun hHeld => ?_)
          clear hK K
          repeat (rw [putL]; simp only [List.set])
          refine wpAnyH_ready (rs := [10]) (by kernel_rfl) (by simp) ?_
          refine AllReadyH.cons rfl (fun K hK => ?_) (AllReadyH.nil)
          go_simp
          refine hK.out _ _ ⟨p0, p2, p3⟩ (fun hHeld => ?_)
          clear hK K
          repeat (rw [putL]; simp only [List.set])
          refine wpAnyH_ready (rs := [11]) (by kernel_rfl) (by simp) ?_
          refine AllReadyH.cons rfl (fun K hK => ?_) (AllReadyH.nil)
          refine step_append_run _ rfl _ _ _ _ rfl _ _ (by rfl) (by rfl) _ w7 hrun ?_
          refine hK.out _ _ ⟨r0, r2, r3⟩ (fun hHeld => ?_)
          clear hK K
          repeat (rw [putL]; simp only [List.set])
          refine tk 12 ?_
          repeat (rw [putL]; simp only [List.set])
          refine wpAnyH_ready (rs := [13]) (by kernel_rfl) (by simp) ?_
          refine AllReadyH.cons rfl (fun K hK => ?_) (AllReadyH.nil)
          go_simp
          refine hK.out _ _ ⟨z0, z2, z3⟩ (fun hHeld => ?_)
          clear hK K
          repeat (rw [putL]; simp only [List.set])
          refine wpAnyH_done (by kernel_rfl) ?_ _
          rotate_left 1
          go_simp
          refine hK.out _ _ ⟨p0, p2, p3⟩ (fun hHeld => ?_)
          clear hK K
          repeat (rw [putL]; simp only [List.set])
          refine wpAnyH_ready (rs := [1]) (by kernel_rfl) (by simp) ?_
          refine AllReadyH.cons rfl (fun K hK => ?_) (AllReadyH.nil)
          go_simp
          refine hK.out _ _ ⟨p0, p2, p3⟩ (fun hHeld => ?_)
          clear hK K
          repeat (rw [putL]; simp only [List.set])
          refine wpAnyH_ready (rs := [11]) (by kernel_rfl) (by simp) ?_
          refine AllReadyH.cons rfl (fun K hK => ?_) (AllReadyH.nil)
          refine step_append_run _ rfl _ _ _ _ rfl _ _ (by rfl) (by rfl) _ w7 hrun ?_
          refine hK.out _ _ ⟨r0, r2, r3⟩ (fun hHeld => ?_)
          clear hK K
          repeat (rw [putL]; simp only [List.set])
          refine tk 12 ?_
          repeat (rw [putL]; simp only [List.set])
          refine wpAnyH_ready (rs := [13]) (by kernel_rfl) (by simp) ?_
          refine AllReadyH.cons rfl (fun K hK => ?_) (AllReadyH.nil)
          go_simp
          refine hK.out _ _ ⟨z0, z2, z3⟩ (fun hHeld => ?_)
          clear hK K
          repeat (rw [putL]; simp only [List.set])
          refine wpAnyH_done (by kernel_rfl) ?_ _
          all_goals
            obtain ⟨r7, gL, gO, gF, gZ, gW, gB⟩ := hHR7.out
            have HL7 : Hid (OwnP (w7.setCell ⟨go_, 4, none⟩ (.slice A7 n7 c7)) (B + 2) (.slice A7 n7 c7) (((c.pkts.take (k + 1)).filter keepP).map plainP) (rows ++ [r7])) := Lib.hid (by rw [HSEL2.out, HB0.out]; exact gL)
            have HO7 := Lib.hid gO
            have HF7 := Lib.hid gF
            have HZ7 := Lib.hid gZ
            have HW7 := Lib.hid (And.intro gW gB)
            clear gL gO gF gZ gW gB hHR7 hO7 hK7 hrun
            go_wp2
            go_roundw
            case rel => exact ⟨k + 1, .slice A7 n7 c7, rows ++ [r7], by go_num, by omega, HL7, HO7, HF7, HZ7, HW7⟩
            case measure => simp [intOf]; omega
        · have HSEL2 : Hid (((c.pkts.take (k + 1)).filter keepP).map plainP = ((c.pkts.take k).filter keepP).map plainP) := Lib.hid (by
            rw [HSEL.out]; unfold keepP; simp [hface])
          have hfb : (P.face == 0) = false := by simpa using hface
          have hb1 : Below wr.heap.size wr (wr.alloc (.cells #[.int .i64 P.time, .int .i64 P.face, .int .i64 P.real, .slice A2 P.data.length cp2, .string P.note] 47)) := (Below.refl _ wr).alloc (Nat.le_refl _) _
          have HL4 := Lib.hid (OwnP.below HL.out hb1)
          have HW4 := Lib.hid (round_alloc HW.out (.cells #[.int .i64 P.time, .int .i64 P.face, .int .i64 P.real, .slice A2 P.data.length cp2, .string P.note] 47))
          have HO4 := Lib.hid (HO.out.alloc (.cells #[.int .i64 P.time, .int .i64 P.face, .int .i64 P.real, .slice A2 P.data.length cp2, .string P.note] 47))
          have HF4 := Lib.hid (HF.out.alloc (.cells #[.int .i64 P.time, .int .i64 P.face, .int .i64 P.real, .slice A2 P.data.length cp2, .string P.note] 47))
          have HZ4 := Lib.hid (HZ.out.alloc (.cells #[.int .i64 P.time, .int .i64 P.face, .int .i64 P.real, .slice A2 P.data.length cp2, .string P.note] 47))
          rw [← HSEL2.out] at HL4
          clear hb1 hface
          go_wp2
          go_roundw
          case rel => exact ⟨k + 1, v, rows, by go_num, by omega, HL4, HO4, HF4, HZ4, HW4⟩
          case measure => simp [intOf]; omega
      · have hkl : k = c.pkts.length := by omega
        obtain ⟨A8, c8, rfl, hle8, hnil8⟩ := own_form2 HL.out.own
        obtain ⟨n8, hn8⟩ : ∃ n8, (((c.pkts.take k).filter keepP).map plainP).length = n8 := ⟨_, rfl⟩
        have hxs : (((c.pkts.take k).filter keepP).map plainP).length ≤ 100 := by
          rw [List.length_map]
          exact Nat.le_trans (List.length_filter_le _ _) (by rw [List.length_take]; have := hh'.2; omega)
        have hLO := HL.out
        rw [hn8] at hle8 HO hLO
        have HEND := Lib.hid (plain_end hn8 hLO HZ.out HF.out (by have := HGG.out; omega) HW.out.2 HLK.out HSN0.out hle8 hnil8 hxs)
        rw [hkl, List.take_length] at HEND hn8
        have HN8 := Lib.hid hn8
        clear hLO hxs
        have o0 : wr.cell? ⟨go_, 0, none⟩ = some (.string ⟨#[]⟩) := HO.out.cell 0
        have o1 : wr.cell? ⟨go_, 1, none⟩ = some (.slice (some ⟨gf, 0, none⟩) 1 1) := HO.out.cell 1
        have o2 : wr.cell? ⟨go_, 2, none⟩ = some (.slice none 0 0) := HO.out.cell 2
        have o3 : wr.cell? ⟨go_, 3, none⟩ = some (.slice none 0 0) := HO.out.cell 3
        have o4 : wr.cell? ⟨go_, 4, none⟩ = some (.slice A8 n8 c8) := HO.out.cell 4
        have z0 : wr.cell? ⟨B + 1, 0, none⟩ = some (.string ⟨#[]⟩) := HZ.out.cell 0
        have z1 : wr.cell? ⟨B + 1, 1, none⟩ = some (.slice none 0 0) := HZ.out.cell 1
        have z2 : wr.cell? ⟨B + 1, 2, none⟩ = some (.slice none 0 0) := HZ.out.cell 2
        have z3 : wr.cell? ⟨B + 1, 3, none⟩ = some (.slice none 0 0) := HZ.out.cell 3
        have z4 : wr.cell? ⟨B + 1, 4, none⟩ = some (.slice none 0 0) := HZ.out.cell 4
        have zf0 : wr.frozen? ⟨B + 1, 0, none⟩ = false := HZ.out.frozen 0
        have zf1 : wr.frozen? ⟨B + 1, 1, none⟩ = false := HZ.out.frozen 1
        have zf2 : wr.frozen? ⟨B + 1, 2, none⟩ = false := HZ.out.frozen 2
        have zf3 : wr.frozen? ⟨B + 1, 3, none⟩ = false := HZ.out.frozen 3
        have zf4 : wr.frozen? ⟨B + 1, 4, none⟩ = false := HZ.out.frozen 4
        clear hkl hle8 hnil8 HL hn8
        go_wp2
        generalize hW9 : ((((wr.setCell ⟨B + 1, 0, none⟩ (.string ⟨#[]⟩)).setCell ⟨B + 1, 1, none⟩ (.slice (some ⟨gf, 0, none⟩) 1 1)).setCell ⟨B + 1, 2, none⟩ (.slice none 0 0)).setCell ⟨B + 1, 3, none⟩ (.slice none 0 0)).setCell ⟨B + 1, 4, none⟩ (.slice A8 n8 c8) = W9 at HEND ⊢
        obtain ⟨hb9, hc9, hw9⟩ := HEND.out
        have y0 : W9.cell? ⟨B + 1, 0, none⟩ = some (.string ⟨#[]⟩) := hb9.cell 0
        have y1 : W9.cell? ⟨B + 1, 1, none⟩ = some (.slice (some ⟨gf, 0, none⟩) 1 1) := hb9.cell 1
        have y2 : W9.cell? ⟨B + 1, 2, none⟩ = some (.slice none 0 0) := hb9.cell 2
        have y3 : W9.cell? ⟨B + 1, 3, none⟩ = some (.slice none 0 0) := hb9.cell 3
        have y4 : W9.cell? ⟨B + 1, 4, none⟩ = some (.slice A8 n8 c8) := hb9.cell 4
        exact bodyPost_ret (v := .agg #[.string ⟨#[]⟩, .slice (some ⟨gf, 0, none⟩) 1 1, .slice none 0 0, .slice none 0 0, .slice A8 n8 c8]) (by simp [results, Try.results28, go_sem, y0, y1, y2, y3, y4]) rfl ⟨⟨some ⟨gf, 0, none⟩, 1, none, 0, none, 0, A8, c8⟩, by rw [HPC.out, ← HN8.out]; rfl, by rw [HPC.out]; exact hc9, hw9⟩


end Go.Proofs.Ytlimkckomdipkaa
