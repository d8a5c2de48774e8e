/- The law of files whose last bytes are gone. -/
import Derived.Test.YtlimkckomdipkaaTornF
import Derived.Test.YtlimkckomdipkaaK9
import Derived.Test.YtlimkckomdipkaaWeight
namespace Go.Proofs.Ytlimkckomdipkaa
open Go.RowKit

theorem capM_head {w : World} {B : Nat} {p : Pl} {c : Cap} (h : CapM w B p c) : CapM w B ⟨p.pf, p.cf, none, 0, none, 0, none, 0⟩ (headC c) :=
  ⟨h.note, h.faces, Els.nil _ _ _ _ _, Els.nil _ _ _ _ _, Els.nil _ _ _ _ _, h.lf, ⟨Nat.le_refl _, by show 0 ≤ _; omega, fun _ => rfl⟩, ⟨Nat.le_refl _, by show 0 ≤ _; omega, fun _ => rfl⟩, ⟨Nat.le_refl _, by show 0 ≤ _; omega, fun _ => rfl⟩⟩
theorem pc_of_blk {w : World} {g : Nat} {l : List Nat} {post : List Value} (h : Blk w g 5 (l.map u8 ++ post).toArray) (hl : ∀ x ∈ l, x < 256) : Pc w g 0 l :=
  ⟨hl, fun k hk => by
    rw [h.cell, List.getElem?_toArray, Nat.zero_add, List.getElem?_append_left (by simpa using hk), List.getElem?_map, List.getElem?_eq_getElem hk, at8_eq l k hk]; rfl⟩
theorem oldFileB_lt (low : Bool) {c : Cap} (h : ∀ p ∈ c.pkts, ∀ x ∈ p.data, x < 256) : ∀ x ∈ oldFileB low c, x < 256 := by
  unfold oldFileB oldB
  refine app_lt (app_lt (app_lt (numsB_lt _ _ _) (app_lt (numsB_lt _ _ _) (numsB_lt _ _ _))) (numsB_lt _ _ _)) fun x hx => ?_
  obtain ⟨p, hp, hx⟩ := List.mem_flatMap.1 hx
  exact app_lt (numsB_lt _ _ _) (h p hp) x hx
theorem blkB_lt (low : Bool) (k : Nat) {body : List Nat} (h : ∀ x ∈ body, x < 256) : ∀ x ∈ blkB low k body, x < 256 :=
  app_lt (numsB_lt _ _ _) (app_lt (app_lt h (rep_lt _ _ (by decide))) (numsB_lt _ _ _))
theorem fileB_len {c : Cap} (ho : Okay c) (old low : Bool) : (fileB old low c).length ≤ 131072 := by
  cases old with
  | true => exact old_len ho low
  | false => exact blocks_len ho low
theorem strL_lt' (s : ByteArray) : ∀ x ∈ strL s, x < 256 := strL_lt s
theorem capM_lt {w : World} {B : Nat} {p : Pl} {c : Cap} (h : CapM w B p c) : (∀ x ∈ c.names, ∀ y ∈ x.addr, y < 256) ∧ (∀ x ∈ c.secs, ∀ y ∈ x.key, y < 256) ∧ (∀ x ∈ c.pkts, ∀ y ∈ x.data, y < 256) := by
  refine ⟨fun x hx => ?_, fun x hx => ?_, fun x hx => ?_⟩
  · obtain ⟨i, hi, rfl⟩ := List.mem_iff_getElem.1 hx
    obtain ⟨b, o, _, _, vs, _, ⟨A, cc, _, hb, _⟩, _⟩ := h.names.row i hi
    exact hb.byt.lt
  · obtain ⟨i, hi, rfl⟩ := List.mem_iff_getElem.1 hx
    obtain ⟨b, o, _, _, vs, _, ⟨A, cc, _, hb, _⟩, _⟩ := h.secs.row i hi
    exact hb.byt.lt
  · obtain ⟨i, hi, rfl⟩ := List.mem_iff_getElem.1 hx
    obtain ⟨b, o, _, _, vs, _, ⟨A, cc, _, hb, _⟩, _⟩ := h.pkts.row i hi
    exact hb.byt.lt
theorem fileB_lt (old low : Bool) {w : World} {B : Nat} {p : Pl} {c : Cap} (h : CapM w B p c) : ∀ x ∈ fileB old low c, x < 256 := by
  obtain ⟨h1, h2, h3⟩ := capM_lt h
  cases old with
  | true => exact oldFileB_lt low h3
  | false =>
    show ∀ x ∈ blocksB low c, x < 256
    rw [blocksB_its]
    intro x hx
    obtain ⟨i, hi, hx⟩ := List.mem_flatMap.1 hx
    refine blkB_lt low _ ?_ x hx
    cases i with
    | sect s => exact app_lt (secH_lt low) (optB_lt _ _ _ _)
    | face f => exact facBy_lt _ _ _ _
    | name f => exact pairB_lt low (h1 f (by simpa [itsC] using hi)) (strL_lt _)
    | secr f => exact pairB_lt low (strL_lt _) (h2 f (by simpa [itsC] using hi))
    | pkt f => exact pktBy_lt _ _ _ _ _ (h3 f (by simpa [itsC] using hi))

set_option maxRecDepth 100000 in
set_option maxHeartbeats 8000000 in
theorem lawTorn_any {w : World} {p : Pl} {c : Cap} {old low : Bool} {n : Int} (hm : CapM w w.heap.size p c) :
    Calls Try.prog 7 #[capV p c, .agg #[.bool old, .bool low], .int .i64 n] w fun e w' => e = .returned (.bool true) ∧ Below w.heap.size w w' := by
  obtain ⟨pf, cf, pn, cn, ps, cs, pp, cp⟩ := p
  obtain ⟨B, hB⟩ : ∃ B, w.heap.size = B := ⟨_, rfl⟩
  obtain ⟨W0, hW0⟩ : ∃ W0, (w.alloc (.cells #[.string c.note, .slice pf c.faces.length cf, .slice pn c.names.length cn, .slice ps c.secs.length cs, .slice pp c.pkts.length cp] 27)).alloc (.cells #[.bool old, .bool low] 50) = W0 := ⟨_, rfl⟩
  have HM0 : Hid (CapM W0 W0.heap.size ⟨pf, cf, pn, cn, ps, cs, pp, cp⟩ c) := Lib.hid (by rw [← hW0]; exact boxed (boxed hm _) _)
  have HK0 : Hid (Blk W0 B 27 #[.string c.note, .slice pf c.faces.length cf, .slice pn c.names.length cn, .slice ps c.secs.length cs, .slice pp c.pkts.length cp] ∧ Below B w W0) := Lib.hid (by rw [← hW0, ← hB]; exact ⟨(Blk.new _ _ _).alloc _, ((Below.refl _ w).alloc (Nat.le_refl _) _).alloc (by rw [alloc_size]; omega) _⟩)
  have HZ0 : Hid (Blk W0 (B + 1) 50 #[.bool old, .bool low]) := Lib.hid (by
    have h := Blk.new (w.alloc (.cells #[.string c.note, .slice pf c.faces.length cf, .slice pn c.names.length cn, .slice ps c.secs.length cs, .slice pp c.pkts.length cp] 27)) 50 #[.bool old, .bool low]
    rw [alloc_size, hB] at h
    rw [← hW0]; exact h)
  rw [hB]
  have q0 : W0.cell? ⟨B, 0, none⟩ = some (.string c.note) := HK0.out.1.cell 0
  have q1 : W0.cell? ⟨B, 1, none⟩ = some (.slice pf c.faces.length cf) := HK0.out.1.cell 1
  have q2 : W0.cell? ⟨B, 2, none⟩ = some (.slice pn c.names.length cn) := HK0.out.1.cell 2
  have q3 : W0.cell? ⟨B, 3, none⟩ = some (.slice ps c.secs.length cs) := HK0.out.1.cell 3
  have q4 : W0.cell? ⟨B, 4, none⟩ = some (.slice pp c.pkts.length cp) := HK0.out.1.cell 4
  have HV := Lib.hid (over_any HM0.out)
  clear hm
  go_enter Try.func7, Try.ntmps7
  go_wp2_with fail
  clear hW0
  refine HV.out.mono ?_
  rintro e w1 ⟨⟨r, rfl⟩, hb1⟩
  have hlB : B < W0.heap.size := HK0.out.1.lt
  have HM1 := Lib.hid (HM0.out.keep hb1 hb1.size)
  have HK1 : Hid (Blk w1 B 27 #[.string c.note, .slice pf c.faces.length cf, .slice pn c.names.length cn, .slice ps c.secs.length cs, .slice pp c.pkts.length cp] ∧ Below B w w1) := Lib.hid ⟨HK0.out.1.below hb1 hlB, HK0.out.2.trans (hb1.mono (by omega))⟩
  have HZ1 := Lib.hid (HZ0.out.below hb1 HZ0.out.lt)
  have r0 : w1.cell? ⟨B, 0, none⟩ = some (.string c.note) := HK1.out.1.cell 0
  have r1 : w1.cell? ⟨B, 1, none⟩ = some (.slice pf c.faces.length cf) := HK1.out.1.cell 1
  have r2 : w1.cell? ⟨B, 2, none⟩ = some (.slice pn c.names.length cn) := HK1.out.1.cell 2
  have r3 : w1.cell? ⟨B, 3, none⟩ = some (.slice ps c.secs.length cs) := HK1.out.1.cell 3
  have r4 : w1.cell? ⟨B, 4, none⟩ = some (.slice pp c.pkts.length cp) := HK1.out.1.cell 4
  have z0 : w1.cell? ⟨B + 1, 0, none⟩ = some (.bool old) := HZ1.out.cell 0
  have z1 : w1.cell? ⟨B + 1, 1, none⟩ = some (.bool low) := HZ1.out.cell 1
  have hl1 : B < w1.heap.size := HK1.out.1.lt
  clear hb1 q0 q1 q2 q3 q4 HV hlB HM0 HK0 HZ0
  cases r with
  | true =>
    go_wp2_with fail
    refine (known_any w1).mono ?_
    rintro e wk ⟨rfl, hbk⟩
    have HBK : Hid (Below B w wk) := Lib.hid (HK1.out.2.trans (hbk.mono (by have := HK1.out.1.lt; omega)))
    clear hbk
    go_wp2
    go_ret
    exact ⟨rfl, HBK.out⟩
  | false =>
  have HWR := Lib.hid (write_any old low HM1.out)
  go_wp2_with fail
  refine HWR.out.mono ?_
  rintro e w2 ⟨vf, rfl, ho2, hb2⟩
  have HM2 := Lib.hid (HM1.out.keep hb2 hb2.size)
  have HK2 : Hid (Blk w2 B 27 #[.string c.note, .slice pf c.faces.length cf, .slice pn c.names.length cn, .slice ps c.secs.length cs, .slice pp c.pkts.length cp] ∧ Below B w w2) := Lib.hid ⟨HK1.out.1.below hb2 HK1.out.1.lt, HK1.out.2.trans (hb2.mono (Nat.le_of_lt HK1.out.1.lt))⟩
  have HZ2 := Lib.hid (HZ1.out.below hb2 HZ1.out.lt)
  have HO2 := Lib.hid ho2
  clear hb2 ho2 r0 r1 r2 r3 r4 z0 z1 HWR HM1 HK1 HZ1
  by_cases hok : errV c = 0 ∧ (old = true → c = plainC c)
  rotate_left
  · obtain ⟨E, hE, hw⟩ := writeR_bad (low := low) hok
    rw [hw]
    have hne : (E == 0) = false := by simpa using hE
    have HE := Lib.hid hE
    clear hE hw HO2
    go_wp2_with fail
    refine (known_any w2).mono ?_
    rintro e wk ⟨rfl, hbk⟩
    have HBK : Hid (Below B w wk) := Lib.hid (HK2.out.2.trans (hbk.mono (by have := HK2.out.1.lt; omega)))
    clear hbk
    go_wp2
    go_ret
    exact ⟨rfl, HBK.out⟩
  obtain ⟨he, hpl⟩ := hok
  have HOK := Lib.hid (And.intro he hpl)
  rw [writeR_ok he hpl] at HO2 ⊢
  have hpos := fileB_pos old low c
  obtain ⟨g, cap, post, hvf, hg2, hblk2, hcap, hcap2, _⟩ := own_blk HO2.out (by show 0 < (fileB old low c).length; omega)
  dsimp only at hvf
  subst hvf
  change (fileB old low c).length ≤ cap at hcap
  have HG2 : Hid (Pc w2 g 0 (fileB old low c) ∧ g < w2.heap.size ∧ B < g) := Lib.hid ⟨pc_of_blk hblk2 (fileB_lt old low HM2.out), hblk2.lt, Nat.lt_of_lt_of_le hl1 hg2⟩
  clear hblk2 hg2 HO2 hl1 he hpl
  dsimp only
  obtain ⟨L, hL⟩ : ∃ L, (fileB old low c).length = L := ⟨_, rfl⟩
  have HL := Lib.hid hL
  rw [hL] at hcap hpos ⊢
  clear hL
  rcases Int.lt_or_le n 0 with hn0 | hn0
  · have x1 : decide (n < 0) = true := decide_eq_true hn0
    have HN := Lib.hid hn0
    clear hn0
    go_wp2_with fail
    refine (known_any w2).mono ?_
    rintro e wk ⟨rfl, hbk⟩
    have HBK : Hid (Below B w wk) := Lib.hid (HK2.out.2.trans (hbk.mono (by have := HK2.out.1.lt; omega)))
    clear hbk
    go_wp2
    go_ret
    exact ⟨rfl, HBK.out⟩
  obtain ⟨n, rfl⟩ := Int.eq_ofNat_of_zero_le hn0
  have x1 : decide ((n : Int) < 0) = false := by simp
  rcases Nat.lt_or_ge L n with hn1 | hn1
  · have x2 : decide (L < n) = true := decide_eq_true hn1
    have HN := Lib.hid hn1
    clear hn0 hn1
    go_wp2_with fail
    refine (known_any w2).mono ?_
    rintro e wk ⟨rfl, hbk⟩
    have HBK : Hid (Below B w wk) := Lib.hid (HK2.out.2.trans (hbk.mono (by have := HK2.out.1.lt; omega)))
    clear hbk
    go_wp2
    go_ret
    exact ⟨rfl, HBK.out⟩
  have x2 : decide (L < n) = false := decide_eq_false (by omega)
  have HN := Lib.hid hn1
  have r0 : w2.cell? ⟨B, 0, none⟩ = some (.string c.note) := HK2.out.1.cell 0
  have r1 : w2.cell? ⟨B, 1, none⟩ = some (.slice pf c.faces.length cf) := HK2.out.1.cell 1
  have r2 : w2.cell? ⟨B, 2, none⟩ = some (.slice pn c.names.length cn) := HK2.out.1.cell 2
  have r3 : w2.cell? ⟨B, 3, none⟩ = some (.slice ps c.secs.length cs) := HK2.out.1.cell 3
  have r4 : w2.cell? ⟨B, 4, none⟩ = some (.slice pp c.pkts.length cp) := HK2.out.1.cell 4

  obtain ⟨H, hH⟩ : ∃ H, w2.heap.size = H := ⟨_, rfl⟩
  have hb3 : Below w2.heap.size w2 (w2.alloc (.cells #[.string c.note, .slice pf c.faces.length cf, .slice none 0 0, .slice none 0 0, .slice none 0 0] 27)) := (Below.refl _ _).alloc (Nat.le_refl _) _
  have HM3 := Lib.hid (HM2.out.keep hb3 hb3.size)
  have HK3 : Hid (Blk (w2.alloc (.cells #[.string c.note, .slice pf c.faces.length cf, .slice none 0 0, .slice none 0 0, .slice none 0 0] 27)) B 27 #[.string c.note, .slice pf c.faces.length cf, .slice pn c.names.length cn, .slice ps c.secs.length cs, .slice pp c.pkts.length cp] ∧ Below B w (w2.alloc (.cells #[.string c.note, .slice pf c.faces.length cf, .slice none 0 0, .slice none 0 0, .slice none 0 0] 27))) := Lib.hid ⟨HK2.out.1.alloc _, HK2.out.2.trans (hb3.mono (Nat.le_of_lt HK2.out.1.lt))⟩
  have HZ3 := Lib.hid (HZ2.out.below hb3 HZ2.out.lt)
  have HG3 : Hid (Pc (w2.alloc (.cells #[.string c.note, .slice pf c.faces.length cf, .slice none 0 0, .slice none 0 0, .slice none 0 0] 27)) g 0 (fileB old low c) ∧ g < (w2.alloc (.cells #[.string c.note, .slice pf c.faces.length cf, .slice none 0 0, .slice none 0 0, .slice none 0 0] 27)).heap.size ∧ B < g) := Lib.hid ⟨HG2.out.1.below hb3 HG2.out.2.1, Nat.lt_of_lt_of_le HG2.out.2.1 hb3.size, HG2.out.2.2⟩
  have z0 : (w2.alloc (.cells #[.string c.note, .slice pf c.faces.length cf, .slice none 0 0, .slice none 0 0, .slice none 0 0] 27)).cell? ⟨B + 1, 0, none⟩ = some (.bool old) := HZ3.out.cell 0
  have z1 : (w2.alloc (.cells #[.string c.note, .slice pf c.faces.length cf, .slice none 0 0, .slice none 0 0, .slice none 0 0] 27)).cell? ⟨B + 1, 1, none⟩ = some (.bool low) := HZ3.out.cell 1
  have HWH := Lib.hid (write_any old low (capM_head HM3.out))
  rw [writeR_ok (errV_head HOK.out.1) (fun h => plain_head (HOK.out.2 h))] at HWH
  change Hid (Calls Try.prog 10 #[.agg #[.string c.note, .slice pf c.faces.length cf, .slice none 0 0, .slice none 0 0, .slice none 0 0], .bool old, .bool low] _ _) at HWH
  clear hb3 HM2 HK2 HZ2 HG2 hn0 hn1
  go_wp2_with fail
  refine HWH.out.mono ?_
  rintro e w4 ⟨vh, rfl, ho4, hb4⟩
  obtain ⟨gh, caph, _, hvh, _, _, _, _, _⟩ := own_blk ho4 (by have := fileB_pos old low (headC c); show 0 < (fileB old low (headC c)).length; omega)
  dsimp only at hvh
  subst hvh
  have HM4 := Lib.hid (HM3.out.keep hb4 hb4.size)
  have HK4 : Hid (Blk w4 B 27 #[.string c.note, .slice pf c.faces.length cf, .slice pn c.names.length cn, .slice ps c.secs.length cs, .slice pp c.pkts.length cp] ∧ Below B w w4) := Lib.hid ⟨HK3.out.1.below hb4 HK3.out.1.lt, HK3.out.2.trans (hb4.mono (Nat.le_of_lt HK3.out.1.lt))⟩
  have HZ4 := Lib.hid (HZ3.out.below hb4 HZ3.out.lt)
  have HG4 : Hid (Pc w4 g 0 (fileB old low c) ∧ g < w4.heap.size ∧ B < g) := Lib.hid ⟨HG3.out.1.below hb4 HG3.out.2.1, Nat.lt_of_lt_of_le HG3.out.2.1 hb4.size, HG3.out.2.2⟩
  clear ho4 hb4 HWH HM3 HK3 HZ3 HG3 z0 z1 r0 r1 r2 r3 r4 hH
  obtain ⟨ok, d, T, hrd, hf1, hf2, _⟩ := readCut old low (C := cap) (n := n) HOK.out.1 HOK.out.2 HG4.out.1 HG4.out.2.1 (by rw [HL.out]; exact HN.out) (by rw [HL.out]; exact hcap)
  obtain ⟨M, hM⟩ : ∃ M, (fileB old low (headC c)).length = M := ⟨_, rfl⟩
  rw [hM] at hf1 hf2 ⊢
  have HRD := Lib.hid hrd
  have HF := Lib.hid (And.intro hf1 hf2)
  clear hrd hf1 hf2 hM
  have hs1 : (n : Int) ≤ (cap : Int) := by have := HN.out; omega
  have hs2 : ¬ cap = 0 := by omega
  go_wp2_with fail
  refine HRD.out.mono ?_
  intro e w5 hpost
  unfold ReadPost at hpost
  obtain ⟨hb5, hcase⟩ := hpost
  have HM5 := Lib.hid (HM4.out.keep hb5 hb5.size)
  have HK5 : Hid (Blk w5 B 27 #[.string c.note, .slice pf c.faces.length cf, .slice pn c.names.length cn, .slice ps c.secs.length cs, .slice pp c.pkts.length cp] ∧ Below B w w5) := Lib.hid ⟨HK4.out.1.below hb5 HK4.out.1.lt, HK4.out.2.trans (hb5.mono (Nat.le_of_lt HK4.out.1.lt))⟩
  have HZ5 := Lib.hid (HZ4.out.below hb5 HZ4.out.lt)
  clear hb5 HM4 HK4 HZ4 HG4 HRD
  obtain ⟨K, hK⟩ : ∃ K, w5.heap.size = K := ⟨_, rfl⟩
  rcases hcase with ⟨⟨hk1, hk2⟩, ⟨df, dg, dn, dO, ds, dt, dp, dq⟩, rfl, hcd⟩ | ⟨hk, rfl⟩
  · have HF1 : Hid (n < M → 1 ≤ d.faces.length ∧ d.faces.length < c.faces.length ∧ d.pkts.length = 0) := Lib.hid (fun h => HF.out.1 h hk1 hk2)
    have HF2 : Hid (M ≤ n → Begun old low c d n T) := Lib.hid (fun h => (HF.out.2 h).2)
    have hb6 : Below w5.heap.size w5 (w5.alloc (.cells #[.string d.note, .slice df d.faces.length dg, .slice dn d.names.length dO, .slice ds d.secs.length dt, .slice dp d.pkts.length dq] 27)) := (Below.refl _ _).alloc (Nat.le_refl _) _
    have HM6 := Lib.hid (HM5.out.keep hb6 hb6.size)
    have HD6 := Lib.hid (hcd.below hb6).capM
    have HK6 : Hid (Blk (w5.alloc (.cells #[.string d.note, .slice df d.faces.length dg, .slice dn d.names.length dO, .slice ds d.secs.length dt, .slice dp d.pkts.length dq] 27)) B 27 #[.string c.note, .slice pf c.faces.length cf, .slice pn c.names.length cn, .slice ps c.secs.length cs, .slice pp c.pkts.length cp] ∧ Below B w (w5.alloc (.cells #[.string d.note, .slice df d.faces.length dg, .slice dn d.names.length dO, .slice ds d.secs.length dt, .slice dp d.pkts.length dq] 27))) := Lib.hid ⟨HK5.out.1.alloc _, HK5.out.2.trans (hb6.mono (Nat.le_of_lt HK5.out.1.lt))⟩
    have HZ6 := Lib.hid (HZ5.out.below hb6 HZ5.out.lt)
    have HN6 : Hid (Blk (w5.alloc (.cells #[.string d.note, .slice df d.faces.length dg, .slice dn d.names.length dO, .slice ds d.secs.length dt, .slice dp d.pkts.length dq] 27)) K 27 #[.string d.note, .slice df d.faces.length dg, .slice dn d.names.length dO, .slice ds d.secs.length dt, .slice dp d.pkts.length dq]) := Lib.hid (by rw [← hK]; exact Blk.new _ _ _)
    clear hk1 hk2 hcd hb6 HM5 HK5 HZ5 HF
    rcases Nat.lt_or_ge n M with hnm | hnm
    · have x3 : decide (n < M) = true := decide_eq_true hnm
      obtain ⟨y1, y2, y3⟩ := HF1.out hnm
      have x4 : ¬ ((d.faces.length : Int) < 1) := by omega
      have x5 : decide (d.faces.length < c.faces.length) = true := decide_eq_true y2
      have x6 : ((d.pkts.length : Int) == 0) = true := by simp [y3]
      have HY := Lib.hid (And.intro y1 (And.intro y2 y3))
      have HNM := Lib.hid hnm
      clear y1 y2 y3 hnm HF1 HF2
      have r0 : (w5.alloc (.cells #[.string d.note, .slice df d.faces.length dg, .slice dn d.names.length dO, .slice ds d.secs.length dt, .slice dp d.pkts.length dq] 27)).cell? ⟨B, 0, none⟩ = some (.string c.note) := HK6.out.1.cell 0
      have r1 : (w5.alloc (.cells #[.string d.note, .slice df d.faces.length dg, .slice dn d.names.length dO, .slice ds d.secs.length dt, .slice dp d.pkts.length dq] 27)).cell? ⟨B, 1, none⟩ = some (.slice pf c.faces.length cf) := HK6.out.1.cell 1
      have r2 : (w5.alloc (.cells #[.string d.note, .slice df d.faces.length dg, .slice dn d.names.length dO, .slice ds d.secs.length dt, .slice dp d.pkts.length dq] 27)).cell? ⟨B, 2, none⟩ = some (.slice pn c.names.length cn) := HK6.out.1.cell 2
      have r3 : (w5.alloc (.cells #[.string d.note, .slice df d.faces.length dg, .slice dn d.names.length dO, .slice ds d.secs.length dt, .slice dp d.pkts.length dq] 27)).cell? ⟨B, 3, none⟩ = some (.slice ps c.secs.length cs) := HK6.out.1.cell 3
      have r4 : (w5.alloc (.cells #[.string d.note, .slice df d.faces.length dg, .slice dn d.names.length dO, .slice ds d.secs.length dt, .slice dp d.pkts.length dq] 27)).cell? ⟨B, 4, none⟩ = some (.slice pp c.pkts.length cp) := HK6.out.1.cell 4
      go_wp2_with fail
      refine (known_any _).mono ?_
      rintro e wk ⟨rfl, hbk⟩
      have HBK : Hid (Below B w wk) := Lib.hid (HK6.out.2.trans (hbk.mono (by have := HK6.out.1.lt; omega)))
      clear hbk
      go_wp2
      go_ret
      exact ⟨rfl, HBK.out⟩
    · have x3 : decide (n < M) = false := decide_eq_false (by omega)
      have HBG := Lib.hid (HF2.out hnm)
      have HNM := Lib.hid hnm
      have HBE := Lib.hid (begins_any HD6.out HM6.out HBG.out.names HBG.out.secs HBG.out.pkts HBG.out.ns HBG.out.sp)
      rw [eqB_true HBG.out.same] at HBE
      clear hnm HF1 HF2
      have r0 : (w5.alloc (.cells #[.string d.note, .slice df d.faces.length dg, .slice dn d.names.length dO, .slice ds d.secs.length dt, .slice dp d.pkts.length dq] 27)).cell? ⟨B, 0, none⟩ = some (.string c.note) := HK6.out.1.cell 0
      have r1 : (w5.alloc (.cells #[.string d.note, .slice df d.faces.length dg, .slice dn d.names.length dO, .slice ds d.secs.length dt, .slice dp d.pkts.length dq] 27)).cell? ⟨B, 1, none⟩ = some (.slice pf c.faces.length cf) := HK6.out.1.cell 1
      have r2 : (w5.alloc (.cells #[.string d.note, .slice df d.faces.length dg, .slice dn d.names.length dO, .slice ds d.secs.length dt, .slice dp d.pkts.length dq] 27)).cell? ⟨B, 2, none⟩ = some (.slice pn c.names.length cn) := HK6.out.1.cell 2
      have r3 : (w5.alloc (.cells #[.string d.note, .slice df d.faces.length dg, .slice dn d.names.length dO, .slice ds d.secs.length dt, .slice dp d.pkts.length dq] 27)).cell? ⟨B, 3, none⟩ = some (.slice ps c.secs.length cs) := HK6.out.1.cell 3
      have r4 : (w5.alloc (.cells #[.string d.note, .slice df d.faces.length dg, .slice dn d.names.length dO, .slice ds d.secs.length dt, .slice dp d.pkts.length dq] 27)).cell? ⟨B, 4, none⟩ = some (.slice pp c.pkts.length cp) := HK6.out.1.cell 4
      have u0 : (w5.alloc (.cells #[.string d.note, .slice df d.faces.length dg, .slice dn d.names.length dO, .slice ds d.secs.length dt, .slice dp d.pkts.length dq] 27)).cell? ⟨K, 0, none⟩ = some (.string d.note) := HN6.out.cell 0
      have u1 : (w5.alloc (.cells #[.string d.note, .slice df d.faces.length dg, .slice dn d.names.length dO, .slice ds d.secs.length dt, .slice dp d.pkts.length dq] 27)).cell? ⟨K, 1, none⟩ = some (.slice df d.faces.length dg) := HN6.out.cell 1
      have u2 : (w5.alloc (.cells #[.string d.note, .slice df d.faces.length dg, .slice dn d.names.length dO, .slice ds d.secs.length dt, .slice dp d.pkts.length dq] 27)).cell? ⟨K, 2, none⟩ = some (.slice dn d.names.length dO) := HN6.out.cell 2
      have u3 : (w5.alloc (.cells #[.string d.note, .slice df d.faces.length dg, .slice dn d.names.length dO, .slice ds d.secs.length dt, .slice dp d.pkts.length dq] 27)).cell? ⟨K, 3, none⟩ = some (.slice ds d.secs.length dt) := HN6.out.cell 3
      have u4 : (w5.alloc (.cells #[.string d.note, .slice df d.faces.length dg, .slice dn d.names.length dO, .slice ds d.secs.length dt, .slice dp d.pkts.length dq] 27)).cell? ⟨K, 4, none⟩ = some (.slice dp d.pkts.length dq) := HN6.out.cell 4
      go_wp2_with fail
      clear r0 r1 r2 r3 r4 u0 u1 u2 u3 u4 hK
      generalize w5.alloc (.cells #[.string d.note, .slice df d.faces.length dg, .slice dn d.names.length dO, .slice ds d.secs.length dt, .slice dp d.pkts.length dq] 27) = w6 at HM6 HD6 HK6 HZ6 HN6 HBE ⊢
      refine HBE.out.mono ?_
      rintro e w7 ⟨rfl, hb7⟩
      have HD7 := Lib.hid (HD6.out.keep hb7 hb7.size)
      have HK7 : Hid (Blk w7 B 27 #[.string c.note, .slice pf c.faces.length cf, .slice pn c.names.length cn, .slice ps c.secs.length cs, .slice pp c.pkts.length cp] ∧ Below B w w7) := Lib.hid ⟨HK6.out.1.below hb7 HK6.out.1.lt, HK6.out.2.trans (hb7.mono (Nat.le_of_lt HK6.out.1.lt))⟩
      have HZ7 := Lib.hid (HZ6.out.below hb7 HZ6.out.lt)
      have HN7 := Lib.hid (HN6.out.below hb7 HN6.out.lt)
      clear hb7 HBE HD6 HK6 HZ6 HN6 HM6
      have HWD := Lib.hid (write_any old low HD7.out)
      rw [writeR_ok HBG.out.err HBG.out.plain] at HWD
      have u0 : w7.cell? ⟨K, 0, none⟩ = some (.string d.note) := HN7.out.cell 0
      have u1 : w7.cell? ⟨K, 1, none⟩ = some (.slice df d.faces.length dg) := HN7.out.cell 1
      have u2 : w7.cell? ⟨K, 2, none⟩ = some (.slice dn d.names.length dO) := HN7.out.cell 2
      have u3 : w7.cell? ⟨K, 3, none⟩ = some (.slice ds d.secs.length dt) := HN7.out.cell 3
      have u4 : w7.cell? ⟨K, 4, none⟩ = some (.slice dp d.pkts.length dq) := HN7.out.cell 4
      have z0 : w7.cell? ⟨B + 1, 0, none⟩ = some (.bool old) := HZ7.out.cell 0
      have z1 : w7.cell? ⟨B + 1, 1, none⟩ = some (.bool low) := HZ7.out.cell 1
      go_wp2_with fail
      refine HWD.out.mono ?_
      rintro e w8 ⟨vd, rfl, ho8, hb8⟩
      obtain ⟨gd, capd, _, hvd, _, _, _, _, _⟩ := own_blk ho8 (by have := fileB_pos old low d; show 0 < (fileB old low d).length; omega)
      dsimp only at hvd
      subst hvd
      have HK8 : Hid (Blk w8 B 27 #[.string c.note, .slice pf c.faces.length cf, .slice pn c.names.length cn, .slice ps c.secs.length cs, .slice pp c.pkts.length cp] ∧ Below B w w8) := Lib.hid ⟨HK7.out.1.below hb8 HK7.out.1.lt, HK7.out.2.trans (hb8.mono (Nat.le_of_lt HK7.out.1.lt))⟩
      have hlen := HBG.out.len
      obtain ⟨D, hD⟩ : ∃ D, (fileB old low d).length = D := ⟨_, rfl⟩
      dsimp only
      rw [hD] at hlen ⊢
      have xw : IntKind.i64.wrap ((n : Int) - (D : Int)) = (T : Int) := by
        have := HN.out
        have hb0 := fileB_len (okay_of HOK.out.1) old low
        rw [HL.out] at hb0
        rw [IntKind.wrap_i64]
        omega
      have HLE := Lib.hid hlen
      clear hb8 HWD ho8 hlen hD u0 u1 u2 u3 u4 z0 z1 HK7 HZ7 HN7 HD7
      go_wp2_with fail
      refine (known_any _).mono ?_
      rintro e wk ⟨rfl, hbk⟩
      have HBK : Hid (Below B w wk) := Lib.hid (HK8.out.2.trans (hbk.mono (by have := HK8.out.1.lt; omega)))
      clear hbk
      go_wp2
      go_ret
      exact ⟨rfl, HBK.out⟩
  · have hnm : n < M := by
      rcases Nat.lt_or_ge n M with h | h
      · exact h
      · exact absurd ⟨(HF.out.2 h).1, (HF.out.2 h).2.err⟩ hk
    have x3 : decide (n < M) = true := decide_eq_true hnm
    have HNM := Lib.hid hnm
    have hb6 : Below w5.heap.size w5 (w5.alloc (.cells zeroB 27)) := (Below.refl _ _).alloc (Nat.le_refl _) _
    have HK6 : Hid (Blk (w5.alloc (.cells zeroB 27)) B 27 #[.string c.note, .slice pf c.faces.length cf, .slice pn c.names.length cn, .slice ps c.secs.length cs, .slice pp c.pkts.length cp] ∧ Below B w (w5.alloc (.cells zeroB 27))) := Lib.hid ⟨HK5.out.1.alloc _, HK5.out.2.trans (hb6.mono (Nat.le_of_lt HK5.out.1.lt))⟩
    clear hk hnm hb6 HF HM5 HK5 HZ5
    go_wp2_with fail
    refine (known_any _).mono ?_
    rintro e wk ⟨rfl, hbk⟩
    have HBK : Hid (Below B w wk) := Lib.hid (HK6.out.2.trans (hbk.mono (by exact Nat.le_of_lt HK6.out.1.lt)))
    clear hbk
    go_wp2
    go_ret
    exact ⟨rfl, HBK.out⟩
end Go.Proofs.Ytlimkckomdipkaa
