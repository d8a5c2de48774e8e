/- The law BitsMended: the plain numbers, and the walk. -/
import Derived.Test.YtbgkkaecpmgnoaaDoorBytes2
import Derived.BigQuiet
import Derived.Deep.QuietTactic
namespace Go.Proofs.YtbgkkaecpmgnoaaDoor
open Go.RowKit
variable {w : World} {A : Option Addr} {bs : List Nat}

theorem at8_set (bs : List Nat) (i k x : Nat) (h : i < bs.length) : at8 (bs.set i x) k = if k = i then x else at8 bs k := by
  unfold at8
  by_cases hk : k = i
  · subst hk; simp [h]
  · rw [if_neg hk, List.getElem?_set_ne (by omega)]
/-- Bytes with another 16 bit number at an even place. -/
def putAt (bs : List Nat) (j v : Nat) : List Nat := (bs.set (j * 2) (v / 256)).set (j * 2 + 1) (v % 256)
theorem putAt_len (bs : List Nat) (j v : Nat) : (putAt bs j v).length = bs.length := by simp [putAt]
theorem at8_putAt (bs : List Nat) (j v k : Nat) (h : j * 2 + 1 < bs.length) : at8 (putAt bs j v) k = if k = j * 2 + 1 then v % 256 else if k = j * 2 then v / 256 else at8 bs k := by
  unfold putAt
  rw [at8_set _ _ _ _ (by simpa using h), at8_set _ _ _ _ (by omega)]
theorem putAt_lt {bs : List Nat} (hb : ∀ x ∈ bs, x < 256) (j v : Nat) (hv : v < 65536) : ∀ x ∈ putAt bs j v, x < 256 := by
  intro x hx
  rcases List.mem_or_eq_of_mem_set hx with hx | rfl
  · rcases List.mem_or_eq_of_mem_set hx with hx | rfl
    · exact hb x hx
    · omega
  · exact Nat.mod_lt _ (by decide)
theorem at8_put_hi (bs : List Nat) (j v : Nat) (h : j * 2 + 1 < bs.length) : at8 (putAt bs j v) (j * 2) = v / 256 := by rw [at8_putAt bs j v _ h, if_neg (by omega), if_pos rfl]
theorem at8_put_lo (bs : List Nat) (j v : Nat) (h : j * 2 + 1 < bs.length) : at8 (putAt bs j v) (j * 2 + 1) = v % 256 := by rw [at8_putAt bs j v _ h, if_pos rfl]
theorem at8_put_other (bs : List Nat) (j v k : Nat) (h : j * 2 + 1 < bs.length) (h1 : k ≠ j * 2) (h2 : k ≠ j * 2 + 1) : at8 (putAt bs j v) k = at8 bs k := by rw [at8_putAt bs j v _ h, if_neg h2, if_neg h1]
theorem rawSum_same (bs : List Nat) (j v : Nat) (h : j * 2 + 1 < bs.length) : ∀ k, k ≤ j * 2 → rawSum (putAt bs j v) k = rawSum bs k
  | 0, _ => rfl
  | k + 1, hk => by
    simp only [rawSum]
    rw [rawSum_same bs j v h k (by omega), at8_put_other bs j v k h (by omega) (by omega)]
theorem rawSum_put (bs : List Nat) (j v : Nat) (h : j * 2 + 1 < bs.length) (hv : v < 65536) : ∀ i, rawSum (putAt bs j v) (j * 2 + 2 + i) + (256 * at8 bs (j * 2) + at8 bs (j * 2 + 1)) = rawSum bs (j * 2 + 2 + i) + v
  | 0 => by
    rw [Nat.add_zero, show j * 2 + 2 = j * 2 + 1 + 1 from rfl, rawSum_odd (putAt bs j v) (j * 2 + 1) (by omega), rawSum_odd bs (j * 2 + 1) (by omega), rawSum_even (putAt bs j v) (j * 2) (by omega), rawSum_even bs (j * 2) (by omega),
      rawSum_same bs j v h _ (Nat.le_refl _), at8_put_hi bs j v h, at8_put_lo bs j v h]
    omega
  | i + 1 => by
    have ih := rawSum_put bs j v h hv i
    have e := at8_put_other bs j v (j * 2 + 2 + i) h (by omega) (by omega)
    show rawSum (putAt bs j v) (j * 2 + 2 + i + 1) + _ = rawSum bs (j * 2 + 2 + i + 1) + v
    simp only [rawSum]
    rw [e]
    omega
/-- The mended check is the check of the bytes with the other number, or both are 0 and 65535. -/
theorem mended_num (bs : List Nat) (hb : ∀ x ∈ bs, x < 256) (j v : Nat) (h : j * 2 + 1 < bs.length) (hv : v < 65536) :
    (∃ n : Nat, n ≤ 65535 ∧ mendV (sumV bs : Nat) (256 * (at8 bs (j * 2) : Int) + at8 bs (j * 2 + 1)) v = n ∧ sumV (putAt bs j v) = n) ∨
    (mendV (sumV bs : Nat) (256 * (at8 bs (j * 2) : Int) + at8 bs (j * 2 + 1)) v = 0 ∧ sumV (putAt bs j v) = 65535) := by
  obtain ⟨i, hi⟩ : ∃ i, bs.length = j * 2 + 2 + i := ⟨bs.length - (j * 2 + 2), by omega⟩
  have hs := rawSum_put bs j v h hv i
  have hs0 : 256 * at8 bs (j * 2) + at8 bs (j * 2 + 1) ≤ rawSum bs (j * 2 + 2 + i) := by have := rawSum_put bs j 0 h (by decide) i; omega
  have hx := at8_lt hb (j * 2)
  have hy := at8_lt hb (j * 2 + 1)
  have e1 : sumV (putAt bs j v) = 65535 - foldN (rawSum (putAt bs j v) (j * 2 + 2 + i)) := by unfold sumV; rw [putAt_len, hi]
  have e2 : sumV bs = 65535 - foldN (rawSum bs (j * 2 + 2 + i)) := by unfold sumV; rw [hi]
  rw [e1, e2]
  obtain ⟨S, hS⟩ : ∃ S, rawSum bs (j * 2 + 2 + i) = S := ⟨_, rfl⟩
  obtain ⟨T, hT⟩ : ∃ T, rawSum (putAt bs j v) (j * 2 + 2 + i) = T := ⟨_, rfl⟩
  obtain ⟨x, hX⟩ : ∃ x, at8 bs (j * 2) = x := ⟨_, rfl⟩
  obtain ⟨y, hY⟩ : ∃ y, at8 bs (j * 2 + 1) = y := ⟨_, rfl⟩
  rw [hS, hT, hX, hY] at hs
  rw [hS, hX, hY] at hs0
  rw [hX] at hx; rw [hY] at hy
  rw [hS, hT, hX, hY]
  have fS := foldN_le S
  have em : mendV ((65535 - foldN S : Nat) : Int) (256 * (x : Int) + y) v = 65535 - (foldN (foldN S + (65535 - (256 * x + y)) + v) : Nat) := by
    unfold mendV
    congr 3
    omega
  rw [em]
  have hf : ∀ k, foldN k = if k = 0 then 0 else (k - 1) % 65535 + 1 := fun k => rfl
  by_cases hT0 : T = 0
  · have h1 : foldN T = 0 := by rw [hf, if_pos hT0]
    have hS1 : S = 256 * x + y := by omega
    have h2 : foldN S = S := foldN_small S (by omega)
    have h3 : foldN (foldN S + (65535 - (256 * x + y)) + v) = 65535 := by
      rw [h2, show S + (65535 - (256 * x + y)) + v = 65535 by omega]; rfl
    right
    rw [h1, h3]
    exact ⟨by omega, rfl⟩
  · left
    have hTv : foldN T = (T - 1) % 65535 + 1 := by rw [hf, if_neg hT0]
    have hA : foldN (foldN S + (65535 - (256 * x + y)) + v) = foldN T := by
      have hSv : foldN S = if S = 0 then 0 else (S - 1) % 65535 + 1 := hf S
      rw [hTv, hf (foldN S + (65535 - (256 * x + y)) + v)]
      by_cases hS0 : S = 0
      · rw [if_pos hS0] at hSv
        rw [hSv, if_neg (by omega)]
        omega
      · rw [if_neg hS0] at hSv
        rw [hSv, if_neg (by omega)]
        omega
    have fT := foldN_le T
    exact ⟨65535 - foldN T, by omega, by rw [hA]; omega, rfl⟩

theorem wrow_form {w : World} {base n : Nat} {v : Value} {xs : List Value} (h : w.ownsRow base 5 1 v n xs) (hn : 0 < n) : ∃ g cap, v = .slice (some ⟨g, 0, none⟩) n cap ∧ base ≤ g := by
  rcases h.2 with ⟨_, h0⟩ | ⟨g, cap, cur, hv, hb, _⟩
  · omega
  · exact ⟨g, cap, hv, hb⟩

theorem byt_of_row {w : World} {base g L cap : Nat} {cs : List Nat} (hb : ∀ x ∈ cs, x < 256) (hl : cs.length = L) (h : w.ownsRow base 5 1 (.slice (some ⟨g, 0, none⟩) L cap) L (cs.map YtbgkkaecpmgnoaaDoor.u8)) : Byt w w.heap.size (some ⟨g, 0, none⟩) cs := by
  subst hl
  obtain ⟨A, c, hv, _, hm⟩ := Byt.of_own hb h
  injection hv with h1
  subst h1
  exact hm
theorem Byt.drewN {w : World} {B : Nat} {A : Option Addr} {bs : List Nat} (h : Byt w B A bs) (n : Nat) : Byt (w.drewN n) B A bs := h.below (below_drewN (Below.refl B w) n)

set_option maxHeartbeats 4000000 in
theorem mended_walk (c : Nat) (hm : Byt w w.heap.size A bs) (hl : bs.length ≤ 20000) (hl2 : 2 ≤ bs.length) (p v : Int) (hT : Tab w) (h0 : 0 < w.heap.size) :
    Calls Tryd.prog 10 #[.slice A bs.length c, .int .i64 p, .int .i64 v] w fun e w' => e = .returned (.bool true) ∧ Below w.heap.size w w' := by
  obtain ⟨i0, hi, hz0, hz1, hz2⟩ := info_parts info5
  have HT := Lib.hid hT
  obtain ⟨b, o, rfl, hb, hcell⟩ := hm.cells (by omega)
  obtain ⟨L, hL0⟩ : ∃ L, bs.length = L := ⟨_, rfl⟩
  have HL := Lib.hid hL0
  rw [hL0] at hl hl2 hcell ⊢
  obtain ⟨h, hh⟩ : ∃ h, L / 2 = h := ⟨_, rfl⟩
  have hh1 : (L : Int) / 2 = (h : Int) := by omega
  have hh2 : 1 ≤ h := by omega
  have hh3 : 2 * h ≤ L := by omega
  have hh4 : h ≤ 10000 := by omega
  obtain ⟨T, hTm⟩ : ∃ T : Int, p.tmod (h : Int) = T := ⟨_, rfl⟩
  have hT1 : -10000 ≤ T ∧ T ≤ 10000 := by
    have h1 := Int.tmod_lt_of_pos p (show (0 : Int) < h by omega)
    have h2 := Int.lt_tmod_of_pos p (show (0 : Int) < h by omega)
    omega
  have hT2 : 0 ≤ T + (h : Int) := by
    have h2 := Int.lt_tmod_of_pos p (show (0 : Int) < h by omega)
    omega
  have hj0 : 0 ≤ T % (h : Int) := Int.emod_nonneg _ (by omega)
  have hj1 : T % (h : Int) < h := Int.emod_lt_of_pos _ (by omega)
  obtain ⟨j, hj⟩ : ∃ j : Nat, T % (h : Int) = j := ⟨(T % (h : Int)).toNat, (Int.toNat_of_nonneg hj0).symm⟩
  rw [hj] at hj0 hj1
  have hj2 : j * 2 + 1 < L := by omega
  obtain ⟨V, hV⟩ : ∃ V : Int, v.tmod 65536 = V := ⟨_, rfl⟩
  have hV1 : -65536 ≤ V ∧ V ≤ 65536 := by
    have h1 := Int.tmod_lt_of_pos v (show (0 : Int) < 65536 by omega)
    have h2 := Int.lt_tmod_of_pos v (show (0 : Int) < 65536 by omega)
    omega
  have hV2 : 0 ≤ V + 65536 := by omega
  obtain ⟨u, hu⟩ : ∃ u : Nat, V % 65536 = u := ⟨(V % 65536).toNat, (Int.toNat_of_nonneg (Int.emod_nonneg _ (by decide))).symm⟩
  have hu2 : u < 65536 := by omega
  have HM := Lib.hid hm
  have HC := Lib.hid hcell
  have hlen : (bs.map YtbgkkaecpmgnoaaDoor.u8).length = L * 1 := by simp [hL0]
  have hone : ∀ v ∈ bs.map YtbgkkaecpmgnoaaDoor.u8, v.oneCell' = true := by intro v hv; obtain ⟨x, _, rfl⟩ := List.mem_map.1 hv; rfl
  have HSRC : Hid (∀ k v, (bs.map YtbgkkaecpmgnoaaDoor.u8)[k]? = some v → w.cell? ((⟨b, o, none⟩ : Addr).add k) = some v) := Lib.hid (by
    intro k v hk
    have hkL : k < bs.length := by
      rcases Nat.lt_or_ge k bs.length with h | h
      · exact h
      · rw [List.getElem?_eq_none (by simpa using h)] at hk; cases hk
    rw [Go.WideShapes.add_plain, hcell k (by omega), ← hk, List.getElem?_map, List.getElem?_eq_getElem hkL, at8_eq bs _ hkL]
    rfl)
  have HLEN := Lib.hid hlen
  have hx0 : (bs.map YtbgkkaecpmgnoaaDoor.u8)[j * 2]? = some (.int .u8 (at8 bs (j * 2) : Nat)) := by rw [List.getElem?_map, List.getElem?_eq_getElem (by omega), at8_eq bs _ (by omega)]; rfl
  have hx1 : (bs.map YtbgkkaecpmgnoaaDoor.u8)[j * 2 + 1]? = some (.int .u8 (at8 bs (j * 2 + 1) : Nat)) := by rw [List.getElem?_map, List.getElem?_eq_getElem (by omega), at8_eq bs _ (by omega)]; rfl
  have hlt0 := at8_lt hm.lt (j * 2)
  have hlt1 := at8_lt hm.lt (j * 2 + 1)
  have hnum := mended_num bs hm.lt j u (by omega) hu2
  obtain ⟨x, hX⟩ : ∃ x, at8 bs (j * 2) = x := ⟨_, rfl⟩
  obtain ⟨y, hY⟩ : ∃ y, at8 bs (j * 2 + 1) = y := ⟨_, rfl⟩
  have hcx := hcell (j * 2) (by omega)
  have hcy := hcell (j * 2 + 1) (by omega)
  rw [hX] at hx0 hlt0 hcx hnum
  rw [hY] at hx1 hlt1 hcy hnum
  have HX0 := Lib.hid hx0
  have HX1 := Lib.hid hx1
  have HNUM := Lib.hid hnum
  clear hx0 hx1 hnum hX hY
  clear hT hh hm hcell hL0 hlen
  go_enter Tryd.func10, Tryd.ntmps10
  go_wp2_with (at_builtin; refine wpList_append_own _ rfl _ _ 22 rfl w.heap.size 5 i0 (.int .u8 0) 1 1 Tryd.underlying22 hi hz0 hz1 hz2 rfl (by decide) (.slice none 0 0) 0 [] rfl (World.ownsRow_nil _ _ _ _) ⟨b, o, none⟩ L c (bs.map YtbgkkaecpmgnoaaDoor.u8) rfl HLEN.out HSRC.out hone (by unfold maxLen; omega) (by omega) (Nat.le_refl _) ?_; intro v' w1 hown hgrow _; rw [Nat.zero_add, List.nil_append] at hown; obtain ⟨g, cap, rfl, hg⟩ := wrow_form hown (by omega); have hc0 := hown.cellAt (j * 2) (by omega); have hc1 := hown.cellAt (j * 2 + 1) (by omega); rw [HX0.out] at hc0; rw [HX1.out] at hc1; have hf0 := hown.frozenAt (j * 2); have hf1 := hown.frozenAt (j * 2 + 1); have HOWN := Lib.hid hown; have HGR := Lib.hid hgrow; clear hown hgrow)
  have hBW : Below w.heap.size w ((w1.setCell ⟨g, j * 2, none⟩ (.int .u8 ((u : Int) / 256))).setCell ⟨g, j * 2 + 1, none⟩ (.int .u8 ((u : Int) % 256))) :=
    (((Below.refl w.heap.size w).grown HGR.out (Nat.le_refl _) (fun k h => by cases h)).setCell (p := ⟨g, j * 2, none⟩) hg _).setCell (p := ⟨g, j * 2 + 1, none⟩) hg _
  have hrow := ((HOWN.out.stored (j * 2) (.int .u8 ((u : Int) / 256))).1.stored (j * 2 + 1) (.int .u8 ((u : Int) % 256))).1
  have hput : ((bs.map YtbgkkaecpmgnoaaDoor.u8).set (j * 2) (.int .u8 ((u : Int) / 256))).set (j * 2 + 1) (.int .u8 ((u : Int) % 256)) = (putAt bs j u).map YtbgkkaecpmgnoaaDoor.u8 := by
    unfold putAt
    rw [List.map_set, List.map_set]
    simp [YtbgkkaecpmgnoaaDoor.u8]
  rw [hput] at hrow
  obtain ⟨W, hW⟩ : ∃ W, (w1.setCell ⟨g, j * 2, none⟩ (.int .u8 ((u : Int) / 256))).setCell ⟨g, j * 2 + 1, none⟩ (.int .u8 ((u : Int) % 256)) = W := ⟨_, rfl⟩
  rw [hW] at hBW hrow ⊢
  have hbcs := byt_of_row (putAt_lt HM.out.lt j u hu2) (by rw [putAt_len, HL.out]) hrow
  have hbbs := HM.out.below hBW
  have HA : Hid (∀ n, Calls Tryd.prog 22 #[.slice (some ⟨b, o, none⟩) L c] (W.drewN n) fun e w' => e = .returned (.int .i64 (sumV bs : Nat)) ∧ w' = W.drewN n) := Lib.hid (fun n => by
    have := sum_any (c := c) (hbbs.drewN n) (by rw [HL.out]; exact hl)
    rw [HL.out] at this
    exact this.mono fun e w' h => ⟨h.1, h.2.symm⟩)
  have HC2 : Hid (∀ n, Calls Tryd.prog 22 #[.slice (some ⟨g, 0, none⟩) L cap] (W.drewN n) fun e w' => e = .returned (.int .i64 (sumV (putAt bs j u) : Nat)) ∧ w' = W.drewN n) := Lib.hid (fun n => by
    have := sum_any (c := cap) (hbcs.drewN n) (by rw [putAt_len, HL.out]; exact hl)
    rw [putAt_len, HL.out] at this
    exact this.mono fun e w' h => ⟨h.1, h.2.symm⟩)
  have hM1 : sumV bs ≤ 65535 := by unfold sumV; omega
  have HD : Hid (∀ n, Calls Tryd.prog 28 #[.int .i64 (sumV bs : Nat), .int .i64 (256 * (x : Int) + y), .int .i64 (u : Nat)] (W.drewN n) fun e w' => e = .returned (.int .i64 (mendV (sumV bs : Nat) (256 * (x : Int) + y) u)) ∧ w' = W.drewN n) := Lib.hid (fun n =>
    (mend_any (sumV bs : Nat) (256 * (x : Int) + y) u (W.drewN n) (by omega) (by omega)).mono fun e w' h => ⟨h.1, h.2.symm⟩)
  have hcx2 := (hBW.cell (p := ⟨b, o + j * 2, none⟩) hb).trans hcx
  have hcy2 := (hBW.cell (p := ⟨b, o + (j * 2 + 1), none⟩) hb).trans hcy
  have HBW := Lib.hid hBW
  obtain ⟨M1, hM1'⟩ : ∃ M1, sumV bs = M1 := ⟨_, rfl⟩
  rw [hM1'] at HA HD HNUM
  obtain ⟨M2, hM2'⟩ : ∃ M2, sumV (putAt bs j u) = M2 := ⟨_, rfl⟩
  rw [hM2'] at HC2 HNUM
  have hw1 : IntKind.i64.wrap (256 * (x : Int)) = 256 * (x : Int) := IntWalk.i64_in _ (by omega)
  have hw2 : IntKind.i64.wrap (256 * (x : Int) + y) = 256 * (x : Int) + y := IntWalk.i64_in _ (by omega)
  have hw3 : IntKind.i64.wrap ((j : Int) * 2 + 1) = (j : Int) * 2 + 1 := IntWalk.i64_in _ (by omega)
  have ht1 : ((j : Int) * 2).toNat = j * 2 := by omega
  have ht2 : ((j : Int) * 2 + 1).toNat = j * 2 + 1 := by omega
  have hp1 : 0 ≤ (j : Int) * 2 := by omega
  have hp2 : 0 ≤ (j : Int) * 2 + 1 := by omega
  have hp3 : (j : Int) * 2 < L := by omega
  have hp4 : (j : Int) * 2 + 1 < L := by omega
  clear hW hrow hput hbcs hbbs hM1 hM1' hM2' hBW hc0 hc1 hf0 hf1 hcx hcy hone hh1 hTm hj hV hu
  rcases HNUM.out with ⟨n, hn, h1, h2⟩ | ⟨h1, h2⟩
  · rw [h1] at HD
    rw [h2] at HC2
    clear h1 h2
    go_wp2
    go_quiet ((first | (go_at_call 22; with_reducible exact Calls.quiet_of_same (HA.out _)) | (go_at_call 22; with_reducible exact Calls.quiet_of_same (HC2.out _)) | (go_at_call 28; with_reducible exact Calls.quiet_of_same (HD.out _))))
    go_wp2_with fail
    refine (known_any _ (HT.out.below (below_drewN HBW.out _) h0) (by have := HBW.out.size; simpa using (by omega : 0 < W.heap.size))).mono ?_; rintro e w' ⟨rfl, hB⟩
    go_wp2
    go_ret
    exact ⟨rfl, (below_drewN HBW.out _).trans (hB.mono (by have := HBW.out.size; simpa using this))⟩
  · rw [h1] at HD
    rw [h2] at HC2
    clear h1 h2
    go_wp2
    go_quiet ((first | (go_at_call 22; with_reducible exact Calls.quiet_of_same (HA.out _)) | (go_at_call 22; with_reducible exact Calls.quiet_of_same (HC2.out _)) | (go_at_call 28; with_reducible exact Calls.quiet_of_same (HD.out _))))
    go_wp2_with fail
    refine (known_any _ (HT.out.below (below_drewN HBW.out _) h0) (by have := HBW.out.size; simpa using (by omega : 0 < W.heap.size))).mono ?_; rintro e w' ⟨rfl, hB⟩
    go_wp2
    go_ret
    exact ⟨rfl, (below_drewN HBW.out _).trans (hB.mono (by have := HBW.out.size; simpa using this))⟩
end Go.Proofs.YtbgkkaecpmgnoaaDoor
