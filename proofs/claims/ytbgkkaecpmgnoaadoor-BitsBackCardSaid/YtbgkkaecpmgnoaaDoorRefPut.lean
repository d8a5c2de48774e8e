/- The reference's Put. -/
import Derived.Test.YtbgkkaecpmgnoaaDoorPut
namespace Go.Proofs.YtbgkkaecpmgnoaaDoor
open Go.RowKit
variable {w : World} {B c : Nat} {A : Option Addr} {bs : List Nat}

set_option maxHeartbeats 1000000 in
theorem rput_err (p n v : Int) (low : Bool) (hL : bs.length ≤ 20000) (hp : p ≤ 9223372036854775807) (he : (spanE bs.length p n low == 0) = false) :
    Calls Tryd.prog 16 #[.slice A bs.length c, .int .i64 p, .int .i64 n, .int .i64 v, .bool low] w fun e w' => e = .returned (.tuple #[.slice none 0 0, .int .i64 (spanE bs.length p n low)]) ∧ w = w' := by
  obtain ⟨E, hE⟩ : ∃ E, spanE bs.length p n low = E := ⟨_, rfl⟩
  have he2 : (E != 0) = true := by rw [← hE]; simpa [bne] using he
  have H := asked_any A bs.length c p n low w hL hp
  rw [hE] at he H ⊢
  have H1 := Lib.hid H
  clear hE H
  go_enter Tryd.func16, Tryd.ntmps16
  go_wp2_with fail
  refine H1.out.mono ?_; rintro e w' ⟨rfl, rfl⟩
  go_wp2
  go_ret2
  exact ⟨rfl, rfl⟩

set_option maxHeartbeats 1000000 in
theorem rput_fit (p n : Nat) (v : Int) (low : Bool) (hL : bs.length ≤ 20000) (hn : n ≤ 48) (hp : p + n ≤ 8 * bs.length) (hlow : low = true → p % 8 = 0 ∧ n % 8 = 0) (hf : fitB v n = false) :
    Calls Tryd.prog 16 #[.slice A bs.length c, .int .i64 p, .int .i64 n, .int .i64 v, .bool low] w fun e w' => e = .returned (.tuple #[.slice none 0 0, .int .i64 10]) ∧ w = w' := by
  have H := asked_any A bs.length c p n low w hL (by omega)
  rw [spanE_ok _ p n low hn hp hlow] at H
  have H1 := Lib.hid H
  have hpw := pow_int n hn
  have hv : 0 ≤ v → 2 ^ n ≤ v := by intro h; unfold fitB at hf; have := of_decide_eq_false hf; omega
  obtain ⟨P, hP⟩ : ∃ P : Int, (2 : Int) ^ n = P := ⟨_, rfl⟩
  rw [hP] at hpw hv
  by_cases h0 : 0 ≤ v
  · have hq1 := (div_pow v P (by omega) h0).2.1 (hv h0)
    have hq : (v / P != 0) = true := by
      obtain ⟨q, hq⟩ : ∃ q, v / P = q := ⟨_, rfl⟩
      rw [hq] at hq1 ⊢
      simp; omega
    clear H hlow hf hv hq1
    go_enter Tryd.func16, Tryd.ntmps16
    go_wp2_with fail
    refine H1.out.mono ?_; rintro e w' ⟨rfl, rfl⟩
    go_wp2
    go_ret2
    exact ⟨rfl, rfl⟩
  · clear H hlow hf hv
    go_enter Tryd.func16, Tryd.ntmps16
    go_wp2_with fail
    refine H1.out.mono ?_; rintro e w' ⟨rfl, rfl⟩
    go_wp2
    go_ret2
    exact ⟨rfl, rfl⟩

set_option maxHeartbeats 4000000 in
theorem rput_loop {a : Addr} (hm : Byt w w.heap.size (some a) bs) (hL : bs.length ≤ 20000) (hL0 : 0 < bs.length) (p n v : Nat) (low : Bool) (hn : n ≤ 48) (hp : p + n ≤ 8 * bs.length) (hlow : low = true → p % 8 = 0 ∧ n % 8 = 0) (hf : fitB v n = true) :
    Calls Tryd.prog 16 #[.slice (some a) bs.length c, .int .i64 p, .int .i64 n, .int .i64 v, .bool low] w fun e w' => ∃ g cap, e = .returned (.tuple #[.slice (some ⟨g, 0, none⟩) bs.length cap, .int .i64 0]) ∧
      w'.ownsRow w.heap.size 5 1 (.slice (some ⟨g, 0, none⟩) bs.length cap) bs.length ((putR bs p n v low n).map u8) ∧ Below w.heap.size w w' := by
  obtain ⟨i0, hi, hz0, hz1, hz2⟩ := info_parts info5
  have H := asked_any (some a) bs.length c p n low w hL (by omega)
  rw [spanE_ok _ p n low hn hp hlow] at H
  have H1 := Lib.hid H
  have hlt := hm.lt
  have hvn : v < 2 ^ n := by
    have := of_decide_eq_true hf
    have e : (2 : Int) ^ n = ((2 ^ n : Nat) : Int) := by simp
    rw [e] at this; omega
  have hv48 : v ≤ 281474976710656 := Nat.le_of_lt (Nat.lt_of_lt_of_le hvn (pow_nat n hn).2)
  have hvq : (v : Int) / 2 ^ n = 0 := by
    have e : (v : Int) / 2 ^ n = ((v / 2 ^ n : Nat) : Int) := by simp
    rw [e, Nat.div_eq_of_lt hvn]; rfl
  have hpl : ∀ k, (putR bs p n v low k).length = bs.length := putR_len bs p n v low
  have hplt := putR_lt hlt p n v low
  have HPL := Lib.hid hpl
  have HPLT := Lib.hid hplt
  have HSRC := Lib.hid (byt_src hm)
  have HONE := Lib.hid (bytes_one bs)
  have HROW : Hid (bs.map YtbgkkaecpmgnoaaDoor.u8 = (putR bs p n v low 0).map YtbgkkaecpmgnoaaDoor.u8) := Lib.hid rfl
  have HLOW := Lib.hid hlow
  obtain ⟨L, hLL⟩ : ∃ L, bs.length = L := ⟨_, rfl⟩
  have HLEN : Hid ((bs.map YtbgkkaecpmgnoaaDoor.u8).length = L * 1) := Lib.hid (by simp [hLL])
  rw [hLL] at hL hL0 hp H1 HPL ⊢
  clear H hlow hf hm hlt hpl hplt hLL hvn
  go_enter Tryd.func16, Tryd.ntmps16
  go_wp2_with fail
  refine H1.out.mono ?_; rintro e w' ⟨rfl, rfl⟩
  go_wp2_with (at_builtin; refine wpList_append_own _ rfl _ _ 22 rfl w.heap.size 5 i0 (.int .u8 0) 1 1 Tryd.underlying22 hi hz0 hz1 hz2 rfl (by decide) (.slice none 0 0) 0 [] rfl (World.ownsRow_nil _ _ _ _) a L c (bs.map YtbgkkaecpmgnoaaDoor.u8) rfl HLEN.out HSRC.out HONE.out (by unfold maxLen; omega) (by omega) (Nat.le_refl _) ?_; intro v' w1 hown hgrow _; rw [Nat.zero_add, List.nil_append] at hown; obtain ⟨g, cap, rfl, hg⟩ := wrow_form hown hL0; rw [HROW.out] at hown; have HOWN := Lib.hid hown; have HB := Lib.hid ((Below.refl w.heap.size w).grown hgrow (Nat.le_refl _) (fun k h => by cases h)); clear hown hgrow)
  go_loopw [14] (fun i wr => ∃ k : Nat, k ≤ n ∧ i = .int .i64 k ∧ Hid (wr.ownsRow w.heap.size 5 1 (.slice (some ⟨g, 0, none⟩) L cap) L ((putR bs p n v low k).map YtbgkkaecpmgnoaaDoor.u8)) ∧ Hid (Below w.heap.size w wr)) (fun i _ => n - (intOf i).toNat)
  case atStart => exact ⟨0, Nat.zero_le _, rfl, HOWN, HB⟩
  case round =>
    obtain ⟨k, hk, rfl, HR, HBW⟩ := hrel
    by_cases hlt : k < n
    · obtain ⟨j0, hj0⟩ : ∃ j0, plc p n k low = j0 := ⟨_, rfl⟩
      have HJ := Lib.hid hj0
      have hjL : j0 < 8 * L := by
        rw [← hj0]
        cases low with
        | false => show p + k < 8 * L; omega
        | true => have := HLOW.out rfl; show p + n - 8 - k / 8 * 8 + k % 8 < 8 * L; omega
      obtain ⟨q, hq⟩ : ∃ q, j0 / 8 = q := ⟨_, rfl⟩
      obtain ⟨s, hs⟩ : ∃ s, j0 % 8 = s := ⟨_, rfl⟩
      have hqL : q < L := by omega
      have hs8 : s < 8 := by omega
      have hcell := HR.out.cellAt q (by omega)
      have hfro := HR.out.frozenAt q
      have hpq : ((putR bs p n v low k).map YtbgkkaecpmgnoaaDoor.u8)[q]? = some (.int .u8 (at8 (putR bs p n v low k) q : Nat)) := by
        have hql : q < (putR bs p n v low k).length := by rw [HPL.out]; exact hqL
        rw [List.getElem?_map, List.getElem?_eq_getElem hql, at8_eq _ _ hql]; rfl
      rw [hpq] at hcell
      have hx := at8_lt (HPLT.out k) q
      obtain ⟨d, hd⟩ : ∃ d, n - 1 - k = d := ⟨_, rfl⟩
      obtain ⟨V, hV⟩ : ∃ V, v / 2 ^ d = V := ⟨_, rfl⟩
      obtain ⟨b, hb⟩ : ∃ b, V % 2 = b := ⟨_, rfl⟩
      have hb2 : b < 2 := by omega
      have hsb := sb_all (7 - s) (by omega) b hb2 (at8 (putR bs p n v low k) q) hx
      have hm256 : 2 ^ (7 - s) < 256 := Nat.lt_of_le_of_lt (Nat.pow_le_pow_right (by decide) (show 7 - s ≤ 7 by omega)) (by decide)
      have hset : putR bs p n v low (k + 1) = (putR bs p n v low k).set q (sb (at8 (putR bs p n v low k) q) (2 ^ (7 - s)) b) := by rw [putR, hj0, hd, hV, hb]; unfold setBit; rw [hq, hs]
      obtain ⟨x, hX⟩ : ∃ x, at8 (putR bs p n v low k) q = x := ⟨_, rfl⟩
      obtain ⟨r, hr⟩ : ∃ r, 7 - s = r := ⟨_, rfl⟩
      rw [hr] at hsb hm256 hset
      have hmi : ((2 : Int) ^ r) = ((2 ^ r : Nat) : Int) := by simp
      obtain ⟨m, hM⟩ : ∃ m, 2 ^ r = m := ⟨_, rfl⟩
      rw [hX] at hcell hx hsb hset
      rw [hM] at hsb hm256 hset hmi
      have h1 := u8_andNot_nat x m hx hm256
      rw [hsb.2.1] at h1
      have hsb0 : sb x m 0 < 256 := by unfold sb; omega
      have hbm : b * m < 256 := by
        have : b = 0 ∨ b = 1 := by omega
        rcases this with rfl | rfl <;> omega
      have h2 := u8_or_nat (sb x m 0) (b * m) hsb0 hbm
      rw [hsb.2.2] at h2
      obtain ⟨x1, hx1⟩ : ∃ x1, sb x m 0 = x1 := ⟨_, rfl⟩
      obtain ⟨x2, hx2⟩ : ∃ x2, sb x m b = x2 := ⟨_, rfl⟩
      rw [hx1] at h1 h2 hsb0
      rw [hx2] at h2 hset
      have hx2l : x2 < 256 := by rw [← hx2]; exact hsb.1
      have HST := Lib.hid (HR.out.stored q (.int .u8 (x1 : Int))).1
      have HSET := Lib.hid hset
      have hbmi : (b : Int) * m = ((b * m : Nat) : Int) := by simp
      obtain ⟨bm, hbmm⟩ : ∃ bm, b * m = bm := ⟨_, rfl⟩
      rw [hbmm] at h2 hbm hbmi
      have f1 : IntKind.i64.wrap ((j0 : Int).tdiv 8) = (q : Int) := by rw [Int.tdiv_eq_ediv_of_nonneg (by omega), IntWalk.i64_in _ (by omega)]; omega
      have f2 : (j0 : Int).tmod 8 = (s : Int) := by rw [Int.tmod_eq_emod_of_nonneg (by omega)]; omega
      have f3 : IntKind.i64.wrap (7 - (s : Int)) = (r : Int) := by rw [IntWalk.i64_in _ (by omega)]; omega
      have f4 : IntKind.u8.wrap (m : Int) = (m : Int) := IntWalk.u8_in _ (by omega)
      have f5 : IntKind.i64.wrap ((n : Int) - 1) = (n : Int) - 1 := IntWalk.i64_in _ (by omega)
      have f6 : IntKind.i64.wrap ((n : Int) - 1 - k) = (d : Int) := by rw [IntWalk.i64_in _ (by omega)]; omega
      have f7 : (v : Int) / 2 ^ d = (V : Int) := by rw [← hV]; simp
      have f8 : (V : Int).tmod 2 = (b : Int) := by rw [Int.tmod_eq_emod_of_nonneg (by omega)]; omega
      have f9 : IntKind.u8.wrap (b : Int) = (b : Int) := IntWalk.u8_in _ (by omega)
      have f10 : IntKind.u8.wrap (bm : Int) = (bm : Int) := IntWalk.u8_in _ (by omega)
      have fq : IntKind.i64.wrap (q : Int) = (q : Int) := IntWalk.i64_in _ (by omega)
      have e1 : (j0 : Int) / 8 = (q : Int) := by omega
      have e2 : (j0 : Int) % 8 = (s : Int) := by omega
      have hr8 : r ≤ 7 := by omega
      have hd48 : d ≤ 48 := by omega
      have hqi : (q : Int) < L := by omega
      clear hj0 hq hs hpq hsb hset hX hM hx1 hx2 hd hV hb hr hbmm
      cases low with
      | false =>
        have hplc : (p : Int) + k = (j0 : Int) := by have := HJ.out; have e : plc p n k false = p + k := rfl; omega
        go_wp2
        go_still_tail 11, (by kernel_rfl)
        go_wp2
        obtain ⟨W2, hW2⟩ : ∃ W2, (wr.setCell ⟨g, q, none⟩ (.int .u8 (x1 : Int))).drew = W2 := ⟨_, rfl⟩
        have hr2 : W2.ownsRow w.heap.size 5 1 (.slice (some ⟨g, 0, none⟩) L cap) L (((putR bs p n v false k).map YtbgkkaecpmgnoaaDoor.u8).set q (.int .u8 (x1 : Int))) := by rw [← hW2]; exact HST.out
        have hB2 : Below w.heap.size w W2 := by rw [← hW2]; exact (HBW.out.setCell (p := ⟨g, q, none⟩) hg _).drew
        have hcell2 := hr2.cellAt q (by omega)
        rw [List.getElem?_set_self (by rw [List.length_map, HPL.out]; exact hqL)] at hcell2
        have hfro2 := hr2.frozenAt q
        have hst2 := (hr2.stored q (.int .u8 (x2 : Int))).1
        rw [List.set_set, set_row, ← HSET.out] at hst2
        have HST2 := Lib.hid hst2
        have HB2 := Lib.hid hB2
        rw [hW2]
        clear hW2 hr2 hB2 hst2 hcell hfro
        go_still_tail 19, (by kernel_rfl)
        go_wp2
        go_roundw
        case rel => exact ⟨k + 1, by omega, by go_num, Lib.hid HST2.out, Lib.hid ((HB2.out.setCell (p := ⟨g, q, none⟩) hg _).drew)⟩
        case measure => simp [intOf]; omega
      | true =>
        have hl8 := HLOW.out rfl
        have hplc : (p : Int) + n - 8 - (k : Int) / 8 * 8 + (k : Int) % 8 = (j0 : Int) := by have := HJ.out; have e : plc p n k true = p + n - 8 - k / 8 * 8 + k % 8 := rfl; omega
        clear HLOW
        go_wp2
        go_still_tail 11, (by kernel_rfl)
        go_wp2
        obtain ⟨W2, hW2⟩ : ∃ W2, (wr.setCell ⟨g, q, none⟩ (.int .u8 (x1 : Int))).drew = W2 := ⟨_, rfl⟩
        have hr2 : W2.ownsRow w.heap.size 5 1 (.slice (some ⟨g, 0, none⟩) L cap) L (((putR bs p n v true k).map YtbgkkaecpmgnoaaDoor.u8).set q (.int .u8 (x1 : Int))) := by rw [← hW2]; exact HST.out
        have hB2 : Below w.heap.size w W2 := by rw [← hW2]; exact (HBW.out.setCell (p := ⟨g, q, none⟩) hg _).drew
        have hcell2 := hr2.cellAt q (by omega)
        rw [List.getElem?_set_self (by rw [List.length_map, HPL.out]; exact hqL)] at hcell2
        have hfro2 := hr2.frozenAt q
        have hst2 := (hr2.stored q (.int .u8 (x2 : Int))).1
        rw [List.set_set, set_row, ← HSET.out] at hst2
        have HST2 := Lib.hid hst2
        have HB2 := Lib.hid hB2
        rw [hW2]
        clear hW2 hr2 hB2 hst2 hcell hfro
        go_still_tail 19, (by kernel_rfl)
        go_wp2
        go_roundw
        case rel => exact ⟨k + 1, by omega, by go_num, Lib.hid HST2.out, Lib.hid ((HB2.out.setCell (p := ⟨g, q, none⟩) hg _).drew)⟩
        case measure => simp [intOf]; omega
    · have hkn : k = n := by omega
      subst hkn
      clear HLOW
      go_wp2
      go_ret2
      exact ⟨_, _, rfl, HR.out, HBW.out⟩
end Go.Proofs.YtbgkkaecpmgnoaaDoor
