/- The reference's bytes filled up, joined, in options and in blocks. -/
import Derived.Test.YtlimkckomdipkaaRGro
namespace Go.Proofs.Ytlimkckomdipkaa
open Go.RowKit

/-- The slice v, of the bytes bs, was grown by some more. -/
structure AppG (w : World) (base : Nat) (v : Value) (bs new : List Nat) (v' : Value) (w' : World) : Prop where
  own : Gro w' base v' (bs ++ new)
  grown : w.grownBy w' v.ownBlock
  ext : Ext w v v'
theorem AppG.refl {w : World} {base : Nat} {v : Value} {bs : List Nat} (h : Gro w base v bs) : AppG w base v bs [] v w := ⟨by rw [List.append_nil]; exact h, ⟨rfl, rfl, rfl, Nat.le_refl _, fun _ _ _ => rfl⟩, .inl rfl⟩
theorem AppG.trans {w w1 w2 : World} {base : Nat} {v v1 v2 : Value} {bs n1 n2 : List Nat} (h1 : AppG w base v bs n1 v1 w1) (h2 : AppG w1 base v1 (bs ++ n1) n2 v2 w2) : AppG w base v bs (n1 ++ n2) v2 w2 := by
  have hz := h1.grown.size
  refine ⟨by rw [← List.append_assoc]; exact h2.own, ⟨h2.grown.os.trans h1.grown.os, h2.grown.tape.trans h1.grown.tape, h2.grown.output.trans h1.grown.output, Nat.le_trans hz h2.grown.size, fun k hk hne => ?_⟩, ?_⟩
  · rw [h2.grown.block k (by omega) ?_, h1.grown.block k hk hne]
    rcases h1.ext with e | ⟨g, e, hg⟩
    · rw [e]; exact hne
    · rw [e]; intro e2; injection e2 with e2; omega
  · rcases h2.ext with e | ⟨g, e, hg⟩
    · rcases h1.ext with e1 | ⟨g1, e1, hg1⟩
      · exact .inl (e.trans e1)
      · exact .inr ⟨g1, e.trans e1, hg1⟩
    · exact .inr ⟨g, e, by omega⟩
theorem AppG.pre {w0 w w' : World} {base : Nat} {v v' : Value} {bs new : List Nat} (hg : w0.grownBy w none) (h : AppG w base v bs new v' w') : AppG w0 base v bs new v' w' := by
  have hz := hg.size
  refine ⟨h.own, ⟨h.grown.os.trans hg.os, h.grown.tape.trans hg.tape, h.grown.output.trans hg.output, Nat.le_trans hz h.grown.size, fun k hk hne => ?_⟩, ?_⟩
  · rw [h.grown.block k (by omega) hne, hg.block k hk (by simp)]
  · rcases h.ext with e | ⟨g, e, hg2⟩
    · exact .inl e
    · exact .inr ⟨g, e, by omega⟩
theorem AppG.below {w w' a : World} {B base : Nat} {v v' : Value} {bs new : List Nat} (h : AppG w base v bs new v' w') (hb : Below B a w) (hB : B ≤ w.heap.size) (hv : ∀ g, v.ownBlock = some g → B ≤ g) : Below B a w' := hb.grown h.grown hB hv
theorem AppG.far {w w' : World} {base n : Nat} {v v' : Value} {bs new : List Nat} (h : AppG w base v bs new v' w') (hv : ∀ g, v.ownBlock = some g → n ≤ g) (hn : n ≤ w.heap.size) : ∀ g, v'.ownBlock = some g → n ≤ g := by
  intro g hg
  rcases h.ext with e | ⟨g1, e, h1⟩
  · exact hv g (by rw [← e]; exact hg)
  · rw [e] at hg; injection hg with hg; omega
theorem ne_own {x y : Value} {n : Nat} (hx : ∀ k, x.ownBlock = some k → k < n) (hy : ∀ k, y.ownBlock = some k → n ≤ k) : x.ownBlock = none ∨ x.ownBlock ≠ y.ownBlock := by
  cases h : x.ownBlock with
  | none => exact .inl rfl
  | some k =>
    refine .inr fun e => ?_
    have h1 := hx k h
    have h2 := hy k e.symm
    omega
theorem Gro.app {w : World} {base B : Nat} {v : Value} {bs l : List Nat} {A : Option Addr} (h : Gro w base v bs) (c : Nat) (hb : Byt w B A l) (hl : l.length ≤ 1000000) (hbs : bs.length ≤ 1000000000) (hbase : base ≤ w.heap.size) :
    ∃ v' w', (Builtin.append_ #[30, 30] 30 #[v, .slice A l.length c]).run Try.prog w = .ok v' w' ∧ AppG w base v bs l v' w' := by
  obtain ⟨v', w', h1, h2, h3, h4⟩ := h.append c hb hl hbs hbase
  exact ⟨v', w', h1, h2, h3, h4⟩
/-- New bytes. -/
def OwnG (w : World) (base : Nat) (bs : List Nat) (e : Ending) (w' : World) : Prop := ∃ v', e = .returned v' ∧ Gro w' base v' bs ∧ Below base w w'
theorem OwnG.of {w : World} {bs : List Nat} {e : Ending} {w' : World} (h : OwnPost w w.heap.size bs e w') (hb : ∀ x ∈ bs, x < 256) : OwnG w w.heap.size bs e w' := by
  obtain ⟨v, h1, h2, h3⟩ := h
  exact ⟨v, h1, Gro.of_own h2 hb, h3⟩
theorem lit_byt {w : World} {n : Nat} (vs : Array Value) (l : List Nat) (hv : vs = (l.map u8).toArray) (hl : ∀ x ∈ l, x < 256) (hn : w.heap.size = n) : Byt (w.alloc (.cells vs 5)) (w.alloc (.cells vs 5)).heap.size (some ⟨n, 0, none⟩) l := by
  subst hn
  refine ⟨hl, fun _ => ⟨_, 0, rfl, by rw [alloc_size]; omega, fun k hk => ?_⟩⟩
  rw [Nat.zero_add, (Blk.new w 5 vs).cell k, hv, List.getElem?_toArray, List.getElem?_map, List.getElem?_eq_getElem hk, at8_eq l k hk]; rfl

def lenS : Value → Nat
  | .slice _ n _ => n
  | _ => 0
set_option maxRecDepth 100000 in
set_option maxHeartbeats 1000000 in
theorem rfilled_any {w : World} {base : Nat} {v : Value} {bs : List Nat} (h : Gro w base v bs) (hbase : base ≤ w.heap.size) (hl : bs.length ≤ 100000) :
    Calls Try.prog 37 #[v] w fun e w' => ∃ v', e = .returned v' ∧ AppG w base v bs (padB bs.length) v' w' := by
  have HG := Lib.hid (AppG.refl h)
  have hp := padN_le bs.length
  have HP : Hid (padN bs.length = (4 - bs.length % 4) % 4) := Lib.hid rfl
  have HZ := Lib.hid hl
  obtain ⟨A0, c0, hv0⟩ := h.form
  subst hv0
  clear h
  go_enter Try.func37, Try.ntmps37
  go_wp2
  go_loopw [0] (fun x wr => ∃ (k L c : Nat) (A : Option Addr), x = .slice A L c ∧ Hid (L = bs.length + k ∧ k ≤ padN bs.length) ∧ Hid (AppG w base (.slice A0 bs.length c0) bs (List.replicate k 0) (.slice A L c) wr)) (fun x _ => (4 - lenS x % 4) % 4)
  case atStart => exact ⟨0, bs.length, c0, A0, rfl, Lib.hid ⟨rfl, Nat.zero_le _⟩, HG⟩
  case round =>
    obtain ⟨k, L, c, A, rfl, HK, HA⟩ := hrel
    by_cases hk : k < padN bs.length
    · have ht : ((L : Int) % 4 == 0) = false := by
        have := HK.out; have := HP.out
        simp; omega
      have hz := HA.out.grown.size
      have hlit := lit_byt (w := wr) #[.int .u8 0] [0] rfl (by simp) rfl
      have hlen : (bs ++ List.replicate k 0).length = L := by rw [List.length_append, List.length_replicate]; exact HK.out.1.symm
      obtain ⟨v2, w2, hrun, h2⟩ := Gro.app (HA.out.own.kept (World.grownBy_alloc wr (.cells #[.int .u8 0] 5) none) (by cases (Value.slice A L c).ownBlock <;> simp)) 1 hlit (by simp) (by rw [hlen]; have := HK.out; have := HZ.out; omega) (by rw [alloc_size]; omega)
      have hrun2 : (Builtin.append_ #[30, 30] 30 #[.slice A L c, .slice (some ⟨wr.heap.size, 0, none⟩) 1 1]).run Try.prog (wr.alloc (.cells #[.int .u8 0] 5)) = .ok v2 w2 := hrun
      have h3 := HA.out.trans (AppG.pre (World.grownBy_alloc wr (.cells #[.int .u8 0] 5) none) h2)
      rw [show List.replicate k 0 ++ [0] = List.replicate (k + 1) 0 from (List.replicate_succ' (n := k) (a := 0)).symm] at h3
      obtain ⟨A2, c2, hv2⟩ := h3.own.form
      rw [List.length_append, List.length_replicate] at hv2
      obtain ⟨L2, hL2⟩ : ∃ L2, bs.length + (k + 1) = L2 := ⟨_, rfl⟩
      rw [hL2] at hv2
      subst hv2
      have H3 := Lib.hid h3
      have HK2 : Hid (L2 = bs.length + (k + 1) ∧ k + 1 ≤ padN bs.length) := Lib.hid ⟨hL2.symm, hk⟩
      have hmeas : (4 - L2 % 4) % 4 < (4 - L % 4) % 4 := by have := HK.out; have := HP.out; omega
      clear hrun h2 h3 hlit hlen hL2 hz hk
      go_wp2_with (at_builtin; refine Lib.wpList_append_run _ rfl _ _ _ _ rfl _ _ rfl rfl _ _ hrun2 ?_)
      go_roundw
      case rel => exact ⟨k + 1, L2, c2, A2, rfl, HK2, H3⟩
      case measure => simp only [lenS]; exact hmeas
    · have ht : ((L : Int) % 4 == 0) = true := by
        have := HK.out; have := HP.out
        simp; omega
      have hkp : k = padN bs.length := by have := HK.out; omega
      subst hkp
      go_wp2
      go_ret
      exact ⟨_, rfl, HA.out⟩

set_option maxRecDepth 100000 in
set_option maxHeartbeats 1000000 in
theorem rjoin_any {w : World} {b c : Nat} (vs : List (List Nat)) (hc : ∀ i (h : i < vs.length), ∃ A k, w.cell? ⟨b, i, none⟩ = some (.slice A (vs[i]).length k) ∧ Byt w w.heap.size A vs[i]) (hn : vs.length ≤ 10) (hs : ∀ x ∈ vs, x.length ≤ 1000) (hb : b < w.heap.size) :
    Calls Try.prog 33 #[.slice (some ⟨b, 0, none⟩) vs.length c] w (OwnG w w.heap.size vs.flatten) := by
  obtain ⟨B, hB⟩ : ∃ B, w.heap.size = B := ⟨_, rfl⟩
  have HC := Lib.hid hc
  have HS := Lib.hid hs
  have HB := Lib.hid hB
  have hlen : ∀ k, k ≤ vs.length → ((vs.take k).flatten).length ≤ 1000 * k := by
    intro k
    induction k with
    | zero => intro _; simp
    | succ k ih =>
      intro hk
      rw [List.take_succ_eq_append_getElem (by omega), List.flatten_append, List.length_append]
      have h1 := ih (by omega)
      have h2 := hs _ (List.getElem_mem (by omega : k < vs.length))
      simp only [List.flatten_cons, List.flatten_nil, List.append_nil]
      omega
  have HL := Lib.hid hlen
  rw [hB]
  clear hc hs hlen hB
  go_enter Try.func33, Try.ntmps33
  go_wp2
  go_loopw [3, 4] (fun x i wr => ∃ k : Nat, i = .int .i64 k ∧ k ≤ vs.length ∧ Hid (Gro wr B x (vs.take k).flatten ∧ Below B w wr)) (fun _ i _ => vs.length - (intOf i).toNat)
  case atStart => exact ⟨0, rfl, Nat.zero_le _, Lib.hid ⟨⟨by simp, .inl ⟨rfl, by simp⟩⟩, Below.refl _ _⟩⟩
  case round =>
    obtain ⟨k, rfl, hk, HW⟩ := hrel
    by_cases hlt : k < vs.length
    · obtain ⟨A, kc, hcl, hby⟩ := HC.out k hlt
      have hz : B ≤ wr.heap.size := by have := HW.out.2.size; have := HB.out; omega
      have hcl2 : wr.cell? ⟨b, k, none⟩ = some (.slice A (vs[k]).length kc) := (HW.out.2.cell (p := ⟨b, k, none⟩) (by have := HB.out; show b < B; omega)).trans hcl
      have hby2 : Byt wr B A vs[k] := (show Byt w B A vs[k] by rw [← HB.out]; exact hby).below HW.out.2
      obtain ⟨v2, w2, hrun, h2⟩ := Gro.app HW.out.1 kc hby2 (by have := HS.out _ (List.getElem_mem hlt); omega) (by have := HL.out k hk; omega) hz
      obtain ⟨Lk, hLk⟩ : ∃ Lk, (vs[k]).length = Lk := ⟨_, rfl⟩
      rw [hLk] at hrun hcl2
      have H2 : Hid (Gro w2 B v2 (vs.take (k + 1)).flatten ∧ Below B w w2) := Lib.hid ⟨by
        rw [List.take_succ_eq_append_getElem hlt, List.flatten_append]
        simpa using h2.own, h2.below HW.out.2 hz (fun g hg => (HW.out.1.lt g hg).1)⟩
      clear h2 hcl hby hby2 hLk
      go_wp2_with (at_builtin; refine Lib.wpList_append_run _ rfl _ _ _ _ rfl _ _ rfl rfl _ _ hrun ?_)
      go_roundw
      case rel => exact ⟨k + 1, by go_num, by omega, H2⟩
      case measure => simp [intOf]; omega
    · have hkn : k = vs.length := by omega
      subst hkn
      go_wp2
      go_ret
      have h1 := HW.out
      rw [List.take_length] at h1
      exact ⟨_, rfl, h1.1, h1.2⟩
end Go.Proofs.Ytlimkckomdipkaa
