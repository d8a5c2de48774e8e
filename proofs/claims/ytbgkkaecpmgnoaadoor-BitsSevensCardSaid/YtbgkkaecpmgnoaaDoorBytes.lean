/- Bytes at any place: the program's, by whole bytes and shifts. -/
import Derived.Test.YtbgkkaecpmgnoaaDoorRefGet2
import Derived.Laws.CopyOwn
import Derived.StillTailTactics
namespace Go.Proofs.YtbgkkaecpmgnoaaDoor
open Go.RowKit
variable {w : World} {B c : Nat} {A : Option Addr} {bs : List Nat}

/-- n bytes from a place on. -/
def outB (bs : List Nat) (p n : Nat) : List Nat := (List.range n).map fun i => num bs (p + 8 * i) 8
theorem outB_len (bs : List Nat) (p n : Nat) : (outB bs p n).length = n := by simp [outB]
theorem outB_succ (bs : List Nat) (p n : Nat) : outB bs p (n + 1) = outB bs p n ++ [num bs (p + 8 * n) 8] := by simp [outB, List.range_succ]
theorem num8_lt (bs : List Nat) (p : Nat) : num bs p 8 < 256 := num_lt bs p 8
theorem outB_lt (bs : List Nat) (p n : Nat) : ∀ x ∈ outB bs p n, x < 256 := by
  intro x hx
  obtain ⟨i, _, rfl⟩ := List.mem_map.1 hx
  exact num8_lt bs _
/-- At whole bytes it is the bytes themselves. -/
theorem outB_whole (bs : List Nat) (hb : ∀ x ∈ bs, x < 256) (q n : Nat) (h : q + n ≤ bs.length) : outB bs (8 * q) n = (bs.drop q).take n := by
  apply List.ext_getElem
  · simp [outB]; omega
  · intro i h1 h2
    simp only [outB, List.getElem_map, List.getElem_range, List.getElem_take, List.getElem_drop]
    rw [show 8 * q + 8 * i = 8 * (q + i) by omega, num_byte bs hb, at8_eq bs (q + i) (by have := outB_len bs (8 * q) n; omega)]
/-- Between whole bytes it is put together of two. -/
theorem num8_two (bs : List Nat) (hb : ∀ x ∈ bs, x < 256) (q s : Nat) (hs : s < 8) :
    num bs (8 * q + s) 8 = at8 bs q * 2 ^ s % 256 + at8 bs (q + 1) / 2 ^ (8 - s) := by
  have h := num_cut bs hb q 2 (8 * q + s) 8 (8 - s) (by omega) (by omega)
  rw [← h]
  have hx := at8_lt hb q
  have hy := at8_lt hb (q + 1)
  have e : bev bs q 2 = at8 bs q * 256 + at8 bs (q + 1) := by simp [bev]
  rw [e]
  obtain ⟨x, hx'⟩ : ∃ x, at8 bs q = x := ⟨_, rfl⟩
  obtain ⟨y, hy'⟩ : ∃ y, at8 bs (q + 1) = y := ⟨_, rfl⟩
  rw [hx'] at hx ⊢
  rw [hy'] at hy ⊢
  clear h e hx' hy'
  have hs' : s = 0 ∨ s = 1 ∨ s = 2 ∨ s = 3 ∨ s = 4 ∨ s = 5 ∨ s = 6 ∨ s = 7 := by omega
  rcases hs' with rfl | rfl | rfl | rfl | rfl | rfl | rfl | rfl <;> simp only [Nat.reducePow, Nat.reduceSub] <;> omega

set_option maxHeartbeats 1000000 in
theorem bytes_arg (p n : Int) (h : p < 0 ∨ n < 0) :
    Calls Tryd.prog 20 #[.slice A bs.length c, .int .i64 p, .int .i64 n] w fun e w' => e = .returned (.tuple #[.slice none 0 0, .int .i64 1]) ∧ w = w' := by
  rcases h with h | h
  · go_enter Tryd.func20, Tryd.ntmps20
    go_wp2
    go_ret2
    exact ⟨rfl, rfl⟩
  · by_cases h2 : p < 0
    · go_enter Tryd.func20, Tryd.ntmps20
      go_wp2
      go_ret2
      exact ⟨rfl, rfl⟩
    · go_enter Tryd.func20, Tryd.ntmps20
      go_wp2
      go_ret2
      exact ⟨rfl, rfl⟩

set_option maxHeartbeats 1000000 in
theorem bytes_none (L : Nat) (hL : L ≤ 20000) (p n : Int) (hp : 0 ≤ p) (hn : 0 ≤ n) (h : 8 * (L : Int) < p + 8 * n) :
    Calls Tryd.prog 20 #[.slice A L c, .int .i64 p, .int .i64 n] w fun e w' => e = .returned (.tuple #[.slice none 0 0, .int .i64 4]) ∧ w = w' := by
  by_cases h1 : (L : Int) < n
  · go_enter Tryd.func20, Tryd.ntmps20
    go_wp2
    go_ret2
    exact ⟨rfl, rfl⟩
  · have h2 : 8 * ((L : Int) - n) < p := by omega
    go_enter Tryd.func20, Tryd.ntmps20
    go_wp2
    go_ret2
    exact ⟨rfl, rfl⟩

theorem size5 : (Tryd.prog.info? 5).map (·.size) = some 1 := by kernel_rfl
theorem row_block {w : World} {base g n : Nat} {xs : List Value} (h : w.ownsRow base 5 1 (.slice (some ⟨g, 0, none⟩) n n) n xs) :
    ∃ zs : List Value, zs.length = n ∧ w.heap[g]? = some (.cells zs.toArray 5 (0, 0)) := by
  rcases h.2 with ⟨h1, _⟩ | ⟨g', cap, cur, hv, _, hg, _, _, hsz, _⟩
  · cases h1
  · injection hv with h1 h2 h3
    injection h1 with h1
    injection h1 with h1
    subst h1; subst h3
    exact ⟨cur.toList, by simpa using hsz, by simpa using hg⟩
/-- A block whose cells are bytes reads as them. -/
theorem Byt.of_block {w : World} {g : Nat} {xs : List Nat} (hb : ∀ x ∈ xs, x < 256) (h : w.heap[g]? = some (.cells (xs.map u8).toArray 5 (0, 0))) : Byt w w.heap.size (some ⟨g, 0, none⟩) xs := by
  refine ⟨hb, fun _ => ⟨g, 0, rfl, (Array.getElem?_eq_some_iff.1 h).1, fun k hk => ?_⟩⟩
  rw [Nat.zero_add, cell_of_row w g k _ 5 (0, 0) h]
  simp [at8, hk]

set_option maxHeartbeats 1000000 in
theorem bytes_zero (L : Nat) (hL : L ≤ 20000) (p : Nat) (h : p ≤ 8 * L) :
    Calls Tryd.prog 20 #[.slice A L c, .int .i64 p, .int .i64 0] w fun e w' => ∃ A2 c2, e = .returned (.tuple #[.slice A2 0 c2, .int .i64 0]) ∧ Below w.heap.size w w' := by
  obtain ⟨i0, hi, hz0, hz1, hz2⟩ := info_parts info5
  obtain ⟨q, hq⟩ : ∃ q, p / 8 = q := ⟨_, rfl⟩
  obtain ⟨s, hs⟩ : ∃ s, p % 8 = s := ⟨_, rfl⟩
  have hqi : (p : Int) / 8 = (q : Int) := by omega
  have hsi : (p : Int) % 8 = (s : Int) := by omega
  have h2 : (p : Int) ≤ 8 * (L : Int) := by omega
  have hs8 : s < 8 := by omega
  have hqL : q ≤ L := by omega
  clear hq hs
  go_enter Tryd.func20, Tryd.ntmps20
  go_wp2_with (first | (at_make; refine wpList_make_full _ rfl _ _ 22 rfl w.heap.size 5 i0 (.int .u8 0) 1 Tryd.underlying22 hi hz0 hz1 .i64 .i64 (0 : Int) (0 : Int) 0 rfl rfl rfl rfl (by rw [hz2]; omega) (by unfold maxLen; omega) (Nat.le_refl _) ?_; intro w1 hown hgrow) | (with_reducible refine wpList_copy_nothing (o := ⟨some 41, _, _, _, _, _⟩) rfl _ _ 22 22 rfl 5 Tryd.underlying22 size5 _ _ 0 0 (L - q) _ rfl rfl (by simp) ?_))
  · go_ret2
    exact ⟨⟨_, _, rfl⟩, (Below.refl _ _).grown hgrow (Nat.le_refl _) (fun k h => by cases h)⟩
  · go_ret2
    exact ⟨⟨_, _, rfl⟩, (Below.refl _ _).grown hgrow (Nat.le_refl _) (fun k h => by cases h)⟩
  · go_loop [47] (fun i => i = .int .i64 0) (fun _ => 0)
    case atStart => rfl
    case round =>
      subst hrel
      go_wp2
      go_ret2
      exact ⟨⟨_, _, rfl⟩, (Below.refl _ _).grown hgrow (Nat.le_refl _) (fun k h => by cases h)⟩
  · go_loop [47] (fun i => i = .int .i64 0) (fun _ => 0)
    case atStart => rfl
    case round =>
      subst hrel
      go_wp2
      go_ret2
      exact ⟨⟨_, _, rfl⟩, (Below.refl _ _).grown hgrow (Nat.le_refl _) (fun k h => by cases h)⟩

theorem set_step (a b : List Nat) (k z : Nat) (ha : a.length = k) (hb : k < b.length) :
    ((a ++ b.drop k).map u8).toArray.setIfInBounds k (u8 z) = ((a ++ [z] ++ b.drop (k + 1)).map u8).toArray := by
  rw [List.drop_eq_getElem_cons hb]
  generalize b.drop (k + 1) = l
  generalize b[k] = y
  subst ha
  simp
theorem splice_all {α : Type} (zs cs : List α) (h : zs.length = cs.length) : splice zs 0 cs = cs := by
  simp [splice, ← h]

set_option maxHeartbeats 2000000 in
theorem bytes_whole (hm : Byt w w.heap.size A bs) (hL : bs.length ≤ 20000) (hc : bs.length ≤ c) (p n : Nat) (hn : 0 < n) (h : p + 8 * n ≤ 8 * bs.length) (h8 : p % 8 = 0) :
    Calls Tryd.prog 20 #[.slice A bs.length c, .int .i64 p, .int .i64 n] w fun e w' => ∃ A2 c2, e = .returned (.tuple #[.slice A2 n c2, .int .i64 0]) ∧ Hid (Byt w' w'.heap.size A2 (outB bs p n)) ∧ Below w.heap.size w w' := by
  obtain ⟨i0, hi, hz0, hz1, hz2⟩ := info_parts info5
  obtain ⟨q, hq⟩ : ∃ q, p / 8 = q := ⟨_, rfl⟩
  have hqi : (p : Int) / 8 = (q : Int) := by omega
  have hsi : (p : Int) % 8 = 0 := by omega
  have HP : Hid (p = 8 * q) := Lib.hid (by omega)
  have hqL : q + n ≤ bs.length := by omega
  obtain ⟨b, o, rfl, hb, hcell⟩ := hm.cells (by omega)
  have hlt := hm.lt
  obtain ⟨cs, hcs⟩ : ∃ cs : List Nat, (bs.drop q).take n = cs := ⟨_, rfl⟩
  have hcl : cs.length = n := by rw [← hcs]; simp; omega
  have HCS := Lib.hid hcs
  have HSRC : Hid (∀ w1 : World, Below w.heap.size w w1 → ∀ ad : Addr, ad = ⟨b, o + q, none⟩ → ∀ j v, (cs.map u8)[j]? = some v → w1.cell? (ad.add j) = some v) := Lib.hid (by
    intro w1 hB ad had j v hj
    have hjn : j < n := by
      rcases Nat.lt_or_ge j n with h | h
      · exact h
      · rw [List.getElem?_eq_none (by simp; omega)] at hj; cases hj
    have e1 : ad.add j = ⟨b, o + (q + j), none⟩ := by rw [had, Go.WideShapes.add_plain, Nat.add_assoc]
    have hjq : q + j < bs.length := by omega
    rw [e1, hB.cell (p := ⟨b, o + (q + j), none⟩) hb, hcell (q + j) hjq, ← hj, ← hcs, List.getElem?_map, List.getElem?_take_of_lt hjn, List.getElem?_drop, List.getElem?_eq_getElem hjq, at8_eq bs _ hjq]
    rfl)
  obtain ⟨L, hL0⟩ : ∃ L, bs.length = L := ⟨_, rfl⟩
  have HL := Lib.hid hL0
  rw [hL0] at hL hc h hqL hcell ⊢
  have hnL : n ≤ L := by omega
  have h2 : (p : Int) ≤ 8 * ((L : Int) - n) := by omega
  have hcq : ¬ c = q := by omega
  have hone : ∀ v ∈ cs.map u8, v.oneCell' = true := by intro v hv; obtain ⟨x, _, rfl⟩ := List.mem_map.1 hv; rfl
  have HCN : Hid ((cs.map u8).length = Nat.min (L - q) n) := Lib.hid (by rw [List.length_map, hcl]; exact (Nat.min_eq_right (by omega)).symm)
  have HCM : Hid ((cs.map u8).length = n) := Lib.hid (by rw [List.length_map, hcl])
  have HC := Lib.hid hcell
  have HM := Lib.hid hm
  clear hq h8 hm hL0 hcell hcs
  go_enter Tryd.func20, Tryd.ntmps20
  go_wp2_with (first | (at_make; refine wpList_make_full _ rfl _ _ 22 rfl w.heap.size 5 i0 (.int .u8 0) 1 Tryd.underlying22 hi hz0 hz1 .i64 .i64 (n : Int) (n : Int) n rfl rfl rfl rfl (by rw [hz2]; omega) (by unfold maxLen; omega) (Nat.le_refl _) ?_; intro w1 hown hgrow; obtain ⟨zs, hzl, hblk⟩ := row_block hown; have HB1 := Lib.hid ((Below.refl w.heap.size w).grown hgrow (Nat.le_refl _) (fun k h => by cases h)); have HZL := Lib.hid hzl; have HBLK := Lib.hid hblk; clear hown hgrow hzl hblk) | (with_reducible refine wpList_copy_splice (o := ⟨some 41, _, _, _, _, _⟩) rfl _ _ 22 22 rfl 5 Tryd.underlying22 size5 _ _ n n (L - q) (c - q) rfl rfl w.heap.size 0 zs 5 HBLK.out (cs.map u8) HCN.out (fun _ => ⟨rfl, _, rfl, HSRC.out w1 HB1.out _ rfl⟩) (by rw [HZL.out, HCM.out]; omega) hone w.heap.size w HB1.out (Nat.le_refl _) ?_; intro w2 HG2 hB2; have HB2 := Lib.hid hB2; have HG := Lib.hid (show w2.heap[w.heap.size]? = some (.cells (cs.map u8).toArray 5 (0, 0)) from by have := HG2.out; rw [splice_all zs _ (by rw [HZL.out, HCM.out])] at this; exact this); clear hB2 HG2))
  go_ret2
  refine ⟨_, _, rfl, Lib.hid ?_, HB2.out⟩
  rw [HP.out, outB_whole bs HM.out.lt q n (by rw [HL.out]; exact hqL), HCS.out]
  exact Byt.of_block (by rw [← HCS.out]; exact drop_take_lt HM.out.lt q n) HG.out

set_option maxHeartbeats 2000000 in
theorem bytes_shift (hm : Byt w w.heap.size A bs) (hL : bs.length ≤ 20000) (hc : bs.length ≤ c) (p n : Nat) (hn : 0 < n) (h : p + 8 * n ≤ 8 * bs.length) (h8 : 0 < p % 8) :
    Calls Tryd.prog 20 #[.slice A bs.length c, .int .i64 p, .int .i64 n] w fun e w' => ∃ A2 c2, e = .returned (.tuple #[.slice A2 n c2, .int .i64 0]) ∧ Hid (Byt w' w'.heap.size A2 (outB bs p n)) ∧ Below w.heap.size w w' := by
  obtain ⟨i0, hi, hz0, hz1, hz2⟩ := info_parts info5
  obtain ⟨q, hq⟩ : ∃ q, p / 8 = q := ⟨_, rfl⟩
  obtain ⟨s, hs⟩ : ∃ s, p % 8 = s := ⟨_, rfl⟩
  have hqi : (p : Int) / 8 = (q : Int) := by omega
  have hsi : (p : Int) % 8 = (s : Int) := by omega
  have HP : Hid (p = 8 * q + s) := Lib.hid (by omega)
  have hs8 : s < 8 := by omega
  have hs0 : 0 < s := by omega
  have hs0b : ((s : Int) == 0) = false := by simp; omega
  have hqL : q + n ≤ bs.length := by omega
  obtain ⟨b, o, rfl, hb, hcell⟩ := hm.cells (by omega)
  have hlt := hm.lt
  obtain ⟨cs, hcs⟩ : ∃ cs : List Nat, (bs.drop q).take n = cs := ⟨_, rfl⟩
  have hcl : cs.length = n := by rw [← hcs]; simp; omega
  have HCS := Lib.hid hcs
  have HSRC : Hid (∀ w1 : World, Below w.heap.size w w1 → ∀ ad : Addr, ad = ⟨b, o + q, none⟩ → ∀ j v, (cs.map u8)[j]? = some v → w1.cell? (ad.add j) = some v) := Lib.hid (by
    intro w1 hB ad had j v hj
    have hjn : j < n := by
      rcases Nat.lt_or_ge j n with h | h
      · exact h
      · rw [List.getElem?_eq_none (by simp; omega)] at hj; cases hj
    have e1 : ad.add j = ⟨b, o + (q + j), none⟩ := by rw [had, Go.WideShapes.add_plain, Nat.add_assoc]
    have hjq : q + j < bs.length := by omega
    rw [e1, hB.cell (p := ⟨b, o + (q + j), none⟩) hb, hcell (q + j) hjq, ← hj, ← hcs, List.getElem?_map, List.getElem?_take_of_lt hjn, List.getElem?_drop, List.getElem?_eq_getElem hjq, at8_eq bs _ hjq]
    rfl)
  obtain ⟨L, hL0⟩ : ∃ L, bs.length = L := ⟨_, rfl⟩
  have HL := Lib.hid hL0
  rw [hL0] at hL hc h hqL hcell ⊢
  have hnL : n ≤ L := by omega
  have h2 : (p : Int) ≤ 8 * ((L : Int) - n) := by omega
  have hcq : ¬ c = q := by omega
  have hone : ∀ v ∈ cs.map u8, v.oneCell' = true := by intro v hv; obtain ⟨x, _, rfl⟩ := List.mem_map.1 hv; rfl
  have HCN : Hid ((cs.map u8).length = Nat.min (L - q) n) := Lib.hid (by rw [List.length_map, hcl]; exact (Nat.min_eq_right (by omega)).symm)
  have HCM : Hid ((cs.map u8).length = n) := Lib.hid (by rw [List.length_map, hcl])
  have HC := Lib.hid hcell
  have HM := Lib.hid hm
  clear hq hs h8 hm hL0 hcell hcs
  go_enter Tryd.func20, Tryd.ntmps20
  go_wp2_with (first | (at_make; refine wpList_make_full _ rfl _ _ 22 rfl w.heap.size 5 i0 (.int .u8 0) 1 Tryd.underlying22 hi hz0 hz1 .i64 .i64 (n : Int) (n : Int) n rfl rfl rfl rfl (by rw [hz2]; omega) (by unfold maxLen; omega) (Nat.le_refl _) ?_; intro w1 hown hgrow; obtain ⟨zs, hzl, hblk⟩ := row_block hown; have HB1 := Lib.hid ((Below.refl w.heap.size w).grown hgrow (Nat.le_refl _) (fun k h => by cases h)); have HZL := Lib.hid hzl; have HBLK := Lib.hid hblk; clear hown hgrow hzl hblk) | (with_reducible refine wpList_copy_splice (o := ⟨some 41, _, _, _, _, _⟩) rfl _ _ 22 22 rfl 5 Tryd.underlying22 size5 _ _ n n (L - q) (c - q) rfl rfl w.heap.size 0 zs 5 HBLK.out (cs.map u8) HCN.out (fun _ => ⟨rfl, _, rfl, HSRC.out w1 HB1.out _ rfl⟩) (by rw [HZL.out, HCM.out]; omega) hone w.heap.size w HB1.out (Nat.le_refl _) ?_; intro w2 HG2 hB2; have HB2 := Lib.hid hB2; have HG := Lib.hid (show w2.heap[w.heap.size]? = some (.cells (cs.map u8).toArray 5 (0, 0)) from by have := HG2.out; rw [splice_all zs _ (by rw [HZL.out, HCM.out])] at this; exact this); clear hB2 HG2))
  go_loopw [47] (fun i wr => ∃ k : Nat, k ≤ n ∧ i = .int .i64 k ∧ Hid (wr.heap[w.heap.size]? = some (.cells ((outB bs p k ++ cs.drop k).map u8).toArray 5 (0, 0))) ∧ Hid (Below w.heap.size w wr)) (fun i _ => n - (intOf i).toNat)
  case atStart => exact ⟨0, Nat.zero_le _, rfl, Lib.hid (by have := HG.out; simpa [outB] using this), HB2⟩
  case round =>
    obtain ⟨k, hk, rfl, HK, HBW⟩ := hrel
    by_cases hlt : k < n
    · have hqn : q + n < L := by omega
      have hcx := (HBW.out.cell (p := ⟨b, o + (q + k), none⟩) hb).trans (HC.out (q + k) (by omega))
      have hcy := (HBW.out.cell (p := ⟨b, o + (q + k + 1), none⟩) hb).trans (HC.out (q + k + 1) (by omega))
      have hx := at8_lt HM.out.lt (q + k)
      have hy := at8_lt HM.out.lt (q + k + 1)
      have hnum : Hid (num bs (p + 8 * k) 8 = at8 bs (q + k) * 2 ^ s % 256 + at8 bs (q + k + 1) / 2 ^ (8 - s)) := Lib.hid (by
        rw [HP.out, show 8 * q + s + 8 * k = 8 * (q + k) + s by omega]; exact num8_two bs HM.out.lt (q + k) s hs8)
      obtain ⟨x, hX⟩ : ∃ x, at8 bs (q + k) = x := ⟨_, rfl⟩
      obtain ⟨y, hY⟩ : ∃ y, at8 bs (q + k + 1) = y := ⟨_, rfl⟩
      rw [hX] at hcx hx hnum
      rw [hY] at hcy hy hnum
      clear hX hY
      have hlen : (outB bs p k ++ cs.drop k).length = n := by rw [List.length_append, outB_len, List.length_drop, hcl]; omega
      have hoc := cell_of_row wr w.heap.size k _ 5 (0, 0) HK.out
      obtain ⟨vo, hvo⟩ : ∃ vo, ((outB bs p k ++ cs.drop k).map u8).toArray[k]? = some vo := ⟨_, Array.getElem?_eq_getElem (by rw [List.size_toArray, List.length_map, hlen]; exact hlt)⟩
      rw [hvo] at hoc
      have hof : wr.frozen? ⟨w.heap.size, k, none⟩ = false := Joins.unfrozen_of_block HK.out k
      have hbN : ¬ b = w.heap.size := by omega
      have hlenH := Lib.hid hlen
      have HVO := Lib.hid hvo
      clear hlen hvo
      obtain ⟨r, hr⟩ : ∃ r : Nat, 8 - s = r := ⟨_, rfl⟩
      have hr8 : r ≤ 8 := by omega
      have hXlt : x * 2 ^ s % 256 < 256 := Nat.mod_lt _ (by decide)
      have hYlt : y / 2 ^ r < 2 ^ s := by
        rw [Nat.div_lt_iff_lt_mul (Nat.two_pow_pos r), ← Nat.pow_add, show s + r = 8 by omega]; exact hy
      have hYlt2 : y / 2 ^ r < 256 := Nat.lt_of_le_of_lt (Nat.div_le_self _ _) hy
      have hXd : x * 2 ^ s % 256 % 2 ^ s = 0 := by
        rw [Nat.mod_mod_of_dvd _ (by rw [show (256 : Nat) = 2 ^ 8 from rfl]; exact Nat.pow_dvd_pow 2 (by omega)), Nat.mul_mod_left]
      have hor := u8_or_nat (x * 2 ^ s % 256) (y / 2 ^ r) hXlt hYlt2
      rw [nat_join s _ _ hXd hYlt] at hor
      have hXi : IntKind.u8.wrap ((x : Int) * 2 ^ s) = ((x * 2 ^ s % 256 : Nat) : Int) := by rw [IntKind.wrap_u8']; simp
      have hYi : (y : Int) / 2 ^ r = ((y / 2 ^ r : Nat) : Int) := by simp
      rw [hr] at hnum
      obtain ⟨X, hXX⟩ : ∃ X, x * 2 ^ s % 256 = X := ⟨_, rfl⟩
      obtain ⟨Y, hYY⟩ : ∃ Y, y / 2 ^ r = Y := ⟨_, rfl⟩
      rw [hXX] at hor hXi hnum hXlt
      rw [hYY] at hor hYi hnum hYlt2
      obtain ⟨Z, hZZ⟩ : ∃ Z, X + Y = Z := ⟨_, rfl⟩
      rw [hZZ] at hor hnum
      have hw0 : IntKind.i64.wrap (8 - (s : Int)) = (r : Int) := by rw [IntWalk.i64_in _ (by omega)]; omega
      have hw1 : IntKind.i64.wrap ((q : Int) + k) = (q : Int) + k := IntWalk.i64_in _ (by omega)
      have hw2 : IntKind.i64.wrap ((q : Int) + k + 1) = (q : Int) + k + 1 := IntWalk.i64_in _ (by omega)
      have ht1 : ((q : Int) + k).toNat = q + k := by omega
      have ht2 : ((q : Int) + k + 1).toNat = q + k + 1 := by omega
      have hp1 : 0 ≤ (q : Int) + k := by omega
      have hp2 : 0 ≤ (q : Int) + k + 1 := by omega
      have hl1 : (q : Int) + k < L := by omega
      have hl2 : (q : Int) + k + 1 < L := by omega
      clear hr hXd hYlt hXX hYY hZZ
      go_wp2
      go_still_tail 22, (by kernel_rfl)
      go_wp2
      go_roundw
      case rel =>
        refine ⟨k + 1, by omega, by go_num, Lib.hid ?_, Lib.hid (HBW.out.drew.setCell (p := ⟨w.heap.size, k, none⟩) (Nat.le_refl _) _)⟩
        have hset := Joins.block_setCell (w := wr.drew) (i := k) HK.out (u8 Z)
        rw [set_step _ _ k Z (outB_len bs p k) (by rw [hcl]; exact hlt)] at hset
        rw [outB_succ, hnum.out]
        exact hset
      case measure => simp [intOf]; omega
    · have hkn : k = n := by omega
      subst hkn
      go_wp2
      go_ret2
      refine ⟨_, _, rfl, Lib.hid ?_, HBW.out⟩
      have hk2 := HK.out
      rw [List.drop_eq_nil_of_le (Nat.le_of_eq hcl), List.append_nil] at hk2
      exact Byt.of_block (outB_lt bs p _) hk2
end Go.Proofs.YtbgkkaecpmgnoaaDoor
