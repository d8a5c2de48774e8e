/- add. -/
import Derived.Test.YtlimkckomdipkaaPut
import Derived.StillTailTactics
namespace Go.Proofs.Ytlimkckomdipkaa
open Go.RowKit

/-- The order with the lowest byte first or last, as a value. -/
abbrev ordV (low : Bool) : Value := if low then .iface 96 (.agg #[]) else .iface 97 (.agg #[])
def numsB (low : Bool) (n : Nat) (vs : List Nat) : List Nat := vs.flatMap (numB low n)
theorem numsB_len (low : Bool) (n : Nat) (vs : List Nat) : (numsB low n vs).length = n * vs.length := by
  induction vs with
  | nil => rfl
  | cons v vs ih => simp only [numsB, List.flatMap_cons, List.length_append, numB_len, List.length_cons] at ih ⊢; rw [ih, Nat.mul_succ]; omega
theorem numsB_snoc (low : Bool) (n : Nat) (vs : List Nat) (k : Nat) (h : k < vs.length) : numsB low n (vs.take (k + 1)) = numsB low n (vs.take k) ++ numB low n vs[k] := by
  unfold numsB
  rw [List.take_succ_eq_append_getElem h, List.flatMap_append, List.flatMap_cons, List.flatMap_nil, List.append_nil]

/-- A row of bytes and its block. -/
theorem own_blk {w : World} {base N : Nat} {v : Value} {xs : List Value} (h : w.ownsRow base 5 1 v N xs) (hN : 0 < N) :
    ∃ g cap post, v = .slice (some ⟨g, 0, none⟩) N cap ∧ base ≤ g ∧ Blk w g 5 (xs ++ post).toArray ∧ N ≤ cap ∧ cap ≤ maxLen ∧ xs.length + post.length = cap := by
  rcases h.2 with ⟨_, h0⟩ | ⟨g, cap, cur, hv, hb, hg, hn, hm, hs, ht⟩
  · omega
  · refine ⟨g, cap, cur.toList.drop N, hv, hb, ?_, hn, hm, ?_⟩
    · rw [Nat.mul_one] at ht
      rw [← ht, List.take_append_drop]
      exact hg
    · rw [h.1, List.length_drop, Array.length_toList, hs]; omega
theorem blk_own {w : World} {base g N cap : Nat} {xs post : List Value} (hb : base ≤ g) (hx : xs.length = N) (h : Blk w g 5 (xs ++ post).toArray) (hn : N ≤ cap) (hm : cap ≤ maxLen) (hl : xs.length + post.length = cap) :
    w.ownsRow base 5 1 (.slice (some ⟨g, 0, none⟩) N cap) N xs := by
  refine ⟨by omega, .inr ⟨g, cap, _, rfl, hb, h, hn, hm, by simp; omega, ?_⟩⟩
  rw [Nat.mul_one, ← hx]
  exact List.take_left

theorem add_step {w wr w2 w1 : World} {base g L n cap : Nat} {v v1 : Value} {bs pre nb : List Nat} {post : List Value} (hA : App w base v bs pre v1 wr) (hA2 : App wr base v1 (bs ++ pre) (List.replicate n 0) (.slice (some ⟨g, 0, none⟩) (L + n) cap) w2)
    (hL : (bs ++ pre).length = L) (hblk : Blk w1 g 5 ((bs ++ pre).map u8 ++ nb.map u8 ++ post).toArray) (hg : w2.drew.grownBy w1 (some g)) (hnb : nb.length = n) (hcap : L + n ≤ cap) (hmax : cap ≤ maxLen) (hpl : L + n + post.length = cap) (hbg : base ≤ g) :
    App w base v bs (pre ++ nb) (.slice (some ⟨g, 0, none⟩) (L + n) cap) w1 := by
  refine hA.trans ⟨?_, ⟨hg.os.trans hA2.grown.os, hg.tape.trans hA2.grown.tape, hg.output.trans hA2.grown.output, Nat.le_trans hA2.grown.size hg.size, fun k hk hne => ?_⟩, ?_⟩
  · have hl2 : (bs ++ pre ++ nb).length = L + n := by rw [List.length_append, hL, hnb]
    rw [hl2, List.map_append]
    exact blk_own hbg (by rw [List.length_append, List.length_map, List.length_map, hL, hnb]) hblk hcap hmax (by rw [List.length_append, List.length_map, List.length_map, hL, hnb]; exact hpl)
  · refine (hg.block k (Nat.lt_of_lt_of_le hk hA2.grown.size) ?_).trans (hA2.grown.block k hk hne)
    rcases hA2.ext with e | ⟨g', e, hg'⟩
    · have e' : some g = v1.ownBlock := e
      rw [e']; exact hne
    · have e' : some g = some g' := e
      injection e' with e'
      intro h; injection h with h; omega
  · exact hA2.ext

def AppPost (w : World) (base : Nat) (v : Value) (bs new : List Nat) (e : Ending) (w' : World) : Prop := ∃ v', e = .returned v' ∧ App w base v bs new v' w'

set_option maxRecDepth 100000 in
set_option maxHeartbeats 4000000 in
theorem add_low {w : World} {base b o c : Nat} {v : Value} {bs : List Nat} (n : Nat) (vs : List Nat) (hn : n = 2 ∨ n = 4) (hown : w.ownsRow base 5 1 v bs.length (bs.map u8)) (hbase : base ≤ w.heap.size)
    (hvb : v.ownBlock ≠ some b) (hc : ∀ i (h : i < vs.length), w.cell? ⟨b, o + i, none⟩ = some (.int .i64 (vs[i] : Nat))) (hl : bs.length + n * vs.length ≤ 1000000000) (hm : vs.length ≤ 1000) :
    Calls Try.prog 63 #[v, .iface 96 (.agg #[]), .int .i64 n, .slice (some ⟨b, o, none⟩) vs.length c] w (AppPost w base v bs (numsB true n vs)) := by
  have HOWN := Lib.hid hown
  have HC := Lib.hid hc
  have HN := Lib.hid hn
  have HVB := Lib.hid hvb
  have hn4 : 2 ≤ n ∧ n ≤ 4 := by omega
  obtain ⟨m, hm0⟩ : ∃ m, vs.length = m := ⟨_, rfl⟩
  have HM := Lib.hid hm0
  rw [hm0] at hl hm ⊢
  clear hown hc hn hm0 hvb
  go_enter Try.func63, Try.ntmps63
  go_wp2
  go_loopw [0, 10, 13] (fun v1 _ i wr => ∃ k : Nat, i = .int .i64 k ∧ k ≤ m ∧ Hid (App w base v bs (numsB true n (vs.take k)) v1 wr)) (fun _ _ i _ => m - (intOf i).toNat)
  case atStart => exact ⟨0, rfl, Nat.zero_le _, Lib.hid ⟨by simpa [numsB] using HOWN.out, ⟨rfl, rfl, rfl, Nat.le_refl _, fun _ _ _ => rfl⟩, .inl rfl⟩⟩
  case round =>
    obtain ⟨k, rfl, hk, HA⟩ := hrel
    by_cases hlt : k < m
    · have hkv : k < vs.length := by rw [HM.out]; exact hlt
      have hck : wr.cell? ⟨b, o + k, none⟩ = some (.int .i64 (vs[k] : Nat)) := HA.out.grown.cell (HC.out k hkv) (fun e => HVB.out e.symm)
      obtain ⟨x, hx⟩ : ∃ x, vs[k] = x := ⟨_, rfl⟩
      rw [hx] at hck
      have HX := Lib.hid hx
      obtain ⟨L, hL⟩ : ∃ L, (bs ++ numsB true n (vs.take k)).length = L := ⟨_, rfl⟩
      have hLb : L ≤ 1000000000 := by
        rw [← hL, List.length_append, numsB_len, List.length_take, Nat.min_eq_left (by omega)]
        have : n * k ≤ n * m := Nat.mul_le_mul_left n (by omega)
        omega
      obtain ⟨v2, w2, hrun, hA2⟩ := run_own_zeros wr base u0 (bs ++ numsB true n (vs.take k)) HA.out.own n (by omega) (by rw [hL]; exact hLb) (Nat.le_trans hbase HA.out.grown.size)
      obtain ⟨g, cap, post, hv2, hbg, hblk, hcap, hmax, hpl⟩ := own_blk hA2.own (by simp; omega)
      have hlen2 : (bs ++ numsB true n (vs.take k) ++ List.replicate n 0).length = L + n := by rw [List.length_append, hL, List.length_replicate]
      rw [hlen2] at hv2 hcap
      rw [List.map_append] at hblk hpl
      rw [List.length_append, List.length_map, List.length_map, List.length_replicate, hL] at hpl
      have HA2 := Lib.hid hA2
      have HBL := Lib.hid hblk
      have hpre : ((bs ++ numsB true n (vs.take k)).map u8).length = L := by rw [List.length_map, hL]
      have HL := Lib.hid hL
      subst hv2
      have hcl : ¬ cap = L := by omega
      have nah : ∀ (w : World), (nilAhead 246 96 (.agg #[]) "wireglass/capt.put").run Try.prog w = .ok (some false) w := fun w => by kernel_rfl
      have mth : ∀ (w : World), (method 246 96 (.agg #[]) "wireglass/capt.put").run Try.prog w = .ok (115, .agg #[]) w := fun w => by kernel_rfl
      clear hx hA2 hblk hpre hL
      go_wp2_with (at_builtin; refine Lib.wpList_append_run _ rfl _ _ _ _ rfl _ _ rfl rfl _ _ hrun ?_)
      have hw1 : IntKind.i64.wrap (L : Int) = (L : Int) := IntWalk.i64_in _ (by omega)
      have hw2 : (0 : Int) ≤ (L : Int) := by omega
      have hw3 : (L : Int) ≤ (L : Int) + n := by omega
      have hw4 : L + n - L = n := by omega
      go_still_tail 11, (by kernel_rfl)
      change wpList _ _ _ _ _ w2.drew
      have HPD : Hid (Calls Try.prog 115 #[.agg #[], .slice (some ⟨g, L, none⟩) n (cap - L), .int .i64 x] w2.drew fun e w' => e = .returned (.tuple #[]) ∧ Blk w' g 5 ((bs ++ numsB true n (vs.take k)).map u8 ++ (numB true n x).map u8 ++ post).toArray ∧ w2.drew.grownBy w' (some g)) := by
        have h := putlow_any (w := w2.drew) (g := g) (c := cap - L) n x ((bs ++ numsB true n (vs.take k)).map u8) post HN.out HBL.out
        rw [List.length_map, HL.out] at h
        exact Lib.hid h
      generalize hwd : w2.drew = w3 at HPD ⊢
      have HWD := Lib.hid hwd
      clear hwd
      go_wp2_with fail
      refine HPD.out.mono ?_
      rintro e w1 ⟨rfl, hbk, hgr⟩
      have HNEW : Hid (App w base v bs (numsB true n (vs.take (k + 1))) (.slice (some ⟨g, 0, none⟩) (L + n) cap) w1) := Lib.hid (by
        rw [numsB_snoc true n vs k hkv, HX.out]
        exact add_step HA.out HA2.out HL.out hbk (by rw [HWD.out]; exact hgr) (numB_len _ _ _) hcap hmax hpl hbg)
      clear hbk hgr
      go_wp2
      go_roundw
      case rel => exact ⟨k + 1, by go_num, by omega, HNEW⟩
      case measure => simp [intOf]; omega
    · have hkn : k = m := by omega
      have HF : Hid (App w base v bs (numsB true n vs) u0 wr) := Lib.hid (by
        have := HA.out
        rw [List.take_of_length_le (by rw [HM.out, hkn]; exact Nat.le_refl _)] at this
        exact this)
      go_wp2
      go_ret
      exact ⟨_, rfl, HF.out⟩
set_option maxRecDepth 100000 in
set_option maxHeartbeats 4000000 in
theorem add_high {w : World} {base b o c : Nat} {v : Value} {bs : List Nat} (n : Nat) (vs : List Nat) (hn : n = 2 ∨ n = 4) (hown : w.ownsRow base 5 1 v bs.length (bs.map u8)) (hbase : base ≤ w.heap.size)
    (hvb : v.ownBlock ≠ some b) (hc : ∀ i (h : i < vs.length), w.cell? ⟨b, o + i, none⟩ = some (.int .i64 (vs[i] : Nat))) (hl : bs.length + n * vs.length ≤ 1000000000) (hm : vs.length ≤ 1000) :
    Calls Try.prog 63 #[v, .iface 97 (.agg #[]), .int .i64 n, .slice (some ⟨b, o, none⟩) vs.length c] w (AppPost w base v bs (numsB false n vs)) := by
  have HOWN := Lib.hid hown
  have HC := Lib.hid hc
  have HN := Lib.hid hn
  have HVB := Lib.hid hvb
  have hn4 : 2 ≤ n ∧ n ≤ 4 := by omega
  obtain ⟨m, hm0⟩ : ∃ m, vs.length = m := ⟨_, rfl⟩
  have HM := Lib.hid hm0
  rw [hm0] at hl hm ⊢
  clear hown hc hn hm0 hvb
  go_enter Try.func63, Try.ntmps63
  go_wp2
  go_loopw [0, 10, 13] (fun v1 _ i wr => ∃ k : Nat, i = .int .i64 k ∧ k ≤ m ∧ Hid (App w base v bs (numsB false n (vs.take k)) v1 wr)) (fun _ _ i _ => m - (intOf i).toNat)
  case atStart => exact ⟨0, rfl, Nat.zero_le _, Lib.hid ⟨by simpa [numsB] using HOWN.out, ⟨rfl, rfl, rfl, Nat.le_refl _, fun _ _ _ => rfl⟩, .inl rfl⟩⟩
  case round =>
    obtain ⟨k, rfl, hk, HA⟩ := hrel
    by_cases hlt : k < m
    · have hkv : k < vs.length := by rw [HM.out]; exact hlt
      have hck : wr.cell? ⟨b, o + k, none⟩ = some (.int .i64 (vs[k] : Nat)) := HA.out.grown.cell (HC.out k hkv) (fun e => HVB.out e.symm)
      obtain ⟨x, hx⟩ : ∃ x, vs[k] = x := ⟨_, rfl⟩
      rw [hx] at hck
      have HX := Lib.hid hx
      obtain ⟨L, hL⟩ : ∃ L, (bs ++ numsB false n (vs.take k)).length = L := ⟨_, rfl⟩
      have hLb : L ≤ 1000000000 := by
        rw [← hL, List.length_append, numsB_len, List.length_take, Nat.min_eq_left (by omega)]
        have : n * k ≤ n * m := Nat.mul_le_mul_left n (by omega)
        omega
      obtain ⟨v2, w2, hrun, hA2⟩ := run_own_zeros wr base u0 (bs ++ numsB false n (vs.take k)) HA.out.own n (by omega) (by rw [hL]; exact hLb) (Nat.le_trans hbase HA.out.grown.size)
      obtain ⟨g, cap, post, hv2, hbg, hblk, hcap, hmax, hpl⟩ := own_blk hA2.own (by simp; omega)
      have hlen2 : (bs ++ numsB false n (vs.take k) ++ List.replicate n 0).length = L + n := by rw [List.length_append, hL, List.length_replicate]
      rw [hlen2] at hv2 hcap
      rw [List.map_append] at hblk hpl
      rw [List.length_append, List.length_map, List.length_map, List.length_replicate, hL] at hpl
      have HA2 := Lib.hid hA2
      have HBL := Lib.hid hblk
      have hpre : ((bs ++ numsB false n (vs.take k)).map u8).length = L := by rw [List.length_map, hL]
      have HL := Lib.hid hL
      subst hv2
      have hcl : ¬ cap = L := by omega
      have nah : ∀ (w : World), (nilAhead 246 97 (.agg #[]) "wireglass/capt.put").run Try.prog w = .ok (some false) w := fun w => by kernel_rfl
      have mth : ∀ (w : World), (method 246 97 (.agg #[]) "wireglass/capt.put").run Try.prog w = .ok (117, .agg #[]) w := fun w => by kernel_rfl
      clear hx hA2 hblk hpre hL
      go_wp2_with (at_builtin; refine Lib.wpList_append_run _ rfl _ _ _ _ rfl _ _ rfl rfl _ _ hrun ?_)
      have hw1 : IntKind.i64.wrap (L : Int) = (L : Int) := IntWalk.i64_in _ (by omega)
      have hw2 : (0 : Int) ≤ (L : Int) := by omega
      have hw3 : (L : Int) ≤ (L : Int) + n := by omega
      have hw4 : L + n - L = n := by omega
      go_still_tail 11, (by kernel_rfl)
      change wpList _ _ _ _ _ w2.drew
      have HPD : Hid (Calls Try.prog 117 #[.agg #[], .slice (some ⟨g, L, none⟩) n (cap - L), .int .i64 x] w2.drew fun e w' => e = .returned (.tuple #[]) ∧ Blk w' g 5 ((bs ++ numsB false n (vs.take k)).map u8 ++ (numB false n x).map u8 ++ post).toArray ∧ w2.drew.grownBy w' (some g)) := by
        have h := puthigh_any (w := w2.drew) (g := g) (c := cap - L) n x ((bs ++ numsB false n (vs.take k)).map u8) post HN.out HBL.out
        rw [List.length_map, HL.out] at h
        exact Lib.hid h
      generalize hwd : w2.drew = w3 at HPD ⊢
      have HWD := Lib.hid hwd
      clear hwd
      go_wp2_with fail
      refine HPD.out.mono ?_
      rintro e w1 ⟨rfl, hbk, hgr⟩
      have HNEW : Hid (App w base v bs (numsB false n (vs.take (k + 1))) (.slice (some ⟨g, 0, none⟩) (L + n) cap) w1) := Lib.hid (by
        rw [numsB_snoc false n vs k hkv, HX.out]
        exact add_step HA.out HA2.out HL.out hbk (by rw [HWD.out]; exact hgr) (numB_len _ _ _) hcap hmax hpl hbg)
      clear hbk hgr
      go_wp2
      go_roundw
      case rel => exact ⟨k + 1, by go_num, by omega, HNEW⟩
      case measure => simp [intOf]; omega
    · have hkn : k = m := by omega
      have HF : Hid (App w base v bs (numsB false n vs) u0 wr) := Lib.hid (by
        have := HA.out
        rw [List.take_of_length_le (by rw [HM.out, hkn]; exact Nat.le_refl _)] at this
        exact this)
      go_wp2
      go_ret
      exact ⟨_, rfl, HF.out⟩

theorem add_any {w : World} {base b o c : Nat} {v : Value} {bs : List Nat} (low : Bool) (n : Nat) (vs : List Nat) (hn : n = 2 ∨ n = 4) (hown : w.ownsRow base 5 1 v bs.length (bs.map u8)) (hbase : base ≤ w.heap.size)
    (hvb : v.ownBlock ≠ some b) (hc : ∀ i (h : i < vs.length), w.cell? ⟨b, o + i, none⟩ = some (.int .i64 (vs[i] : Nat))) (hl : bs.length + n * vs.length ≤ 1000000000) (hm : vs.length ≤ 1000) :
    Calls Try.prog 63 #[v, ordV low, .int .i64 n, .slice (some ⟨b, o, none⟩) vs.length c] w (AppPost w base v bs (numsB low n vs)) := by
  cases low with
  | true => exact add_low n vs hn hown hbase hvb hc hl hm
  | false => exact add_high n vs hn hown hbase hvb hc hl hm

/-- add, at numbers that the caller has just laid in a new block. -/
theorem add_new {w : World} {base : Nat} {v : Value} {bs : List Nat} (low : Bool) (n : Nat) (vs : List Nat) (hn : n = 2 ∨ n = 4) (hown : w.ownsRow base 5 1 v bs.length (bs.map u8)) (hbase : base ≤ w.heap.size)
    (hl : bs.length + n * vs.length ≤ 1000000000) (hm : vs.length ≤ 1000) (cs : Array Value) (hcs : cs = (vs.map fun x => Value.int .i64 (x : Nat)).toArray) :
    Calls Try.prog 63 #[v, ordV low, .int .i64 n, .slice (some ⟨w.heap.size, 0, none⟩) vs.length vs.length] (w.alloc (.cells cs 3)) (AppPost w base v bs (numsB low n vs)) := by
  have hblk : Blk (w.alloc (.cells cs 3)) w.heap.size 3 cs := Blk.new _ _ _
  have hk : (w.alloc (.cells cs 3)).ownsRow base 5 1 v bs.length (bs.map u8) := hown.alloc _
  refine (add_any (c := vs.length) (b := w.heap.size) (o := 0) low n vs hn hk (by rw [alloc_size]; omega) (fun e => by have := (hown.lt _ e).2; omega) (fun i h => ?_) hl hm).mono ?_
  · rw [Nat.zero_add, hblk.cell, hcs]
    simp [h]
  · rintro e w' ⟨v', rfl, h⟩
    exact ⟨v', rfl, App.pre (World.grownBy_alloc _ _ _) h⟩
end Go.Proofs.Ytlimkckomdipkaa
