/- addBlock. -/
import Derived.Test.YtlimkckomdipkaaOpt
namespace Go.Proofs.Ytlimkckomdipkaa
open Go.RowKit

theorem ext_ne {w : World} {base : Nat} {v vb vb1 : Value} {bs : List Nat} (hown : w.ownsRow base 5 1 v bs.length (bs.map u8)) (hd : ∀ g, v.ownBlock = some g → vb.ownBlock ≠ some g) (hx : Ext w vb vb1) : ∀ g, v.ownBlock = some g → vb1.ownBlock ≠ some g := by
  intro g hg
  rcases hx with e | ⟨g', e, hg'⟩
  · rw [e]; exact hd g hg
  · rw [e]
    have := (hown.lt g hg).2
    intro h; injection h with h; omega

set_option maxRecDepth 100000 in
set_option maxHeartbeats 4000000 in
theorem block_any {w : World} {base : Nat} {v vb : Value} {bs bb : List Nat} (low : Bool) (kind : Nat) (hown : w.ownsRow base 5 1 v bs.length (bs.map u8)) (hbody : w.ownsRow base 5 1 vb bb.length (bb.map u8)) (hlt : ∀ x ∈ bb, x < 256)
    (hd : ∀ g, v.ownBlock = some g → vb.ownBlock ≠ some g) (hbase : base ≤ w.heap.size) (hl : bs.length ≤ 900000000) (hbl : bb.length ≤ 1000000) :
    Calls Try.prog 57 #[v, ordV low, .int .i64 kind, vb] w (OwnPost w base (bs ++ blkB low kind bb)) := by
  obtain ⟨O, hO⟩ : ∃ O, ordV low = O := ⟨_, rfl⟩
  have HADD := Lib.hid (fun (w0 : World) (v0 : Value) (b0 : List Nat) (vs : List Nat) (cs : Array Value) hcs hown0 hb0 hl0 hm0 => add_new (w := w0) (base := base) (v := v0) (bs := b0) low 4 vs (.inr rfl) hown0 hb0 hl0 hm0 cs hcs)
  have HOWN := Lib.hid hown
  have HD := Lib.hid hd
  have HVB := Lib.hid (fun g hg => (hbody.lt g hg).1)
  have HF := Lib.hid (fill_any hbody hbase (by omega))
  rw [hO] at HADD ⊢
  clear hO hown hd hbody
  go_enter Try.func57, Try.ntmps57
  go_wp2_with fail
  refine HF.out.mono ?_
  rintro e w1 ⟨vb1, rfl, hA1⟩
  obtain ⟨A1, c1, hv1⟩ := own_form hA1.own
  have hz1 := hA1.grown.size
  have HOWN1 : Hid (w1.ownsRow base 5 1 v bs.length (bs.map u8)) := Lib.hid (HOWN.out.kept hA1.grown (by
    cases hb : v.ownBlock with
    | none => exact .inl rfl
    | some g => exact .inr (fun e => HD.out g hb e.symm)))
  have HNE := Lib.hid (ext_ne HOWN.out HD.out hA1.ext)
  have hpl := padN_le bb.length
  have hbl1 : (bb ++ padB bb.length).length ≤ bb.length + 3 := by rw [List.length_append, padB_len]; omega
  have hlt1 : ∀ x ∈ bb ++ padB bb.length, x < 256 := by
    intro x hx
    rcases List.mem_append.1 hx with h | h
    · exact hlt x h
    · unfold padB at h; have := List.eq_of_mem_replicate h; omega
  obtain ⟨b1, hb1⟩ : ∃ b1, bb ++ padB bb.length = b1 := ⟨_, rfl⟩
  have HB1 := Lib.hid hb1
  have HA1 := Lib.hid hA1.own
  rw [hb1] at HA1 hv1 hbl1 hlt1
  obtain ⟨L1, hL1⟩ : ∃ L1, b1.length = L1 := ⟨_, rfl⟩
  have HL1 := Lib.hid hL1
  have HLT1 := Lib.hid hlt1
  have HG1 := Lib.hid hA1.grown
  clear hA1 hb1 hlt1
  subst hv1
  rw [hL1] at hbl1 HA1 HNE
  rw [hL1]
  clear hL1
  go_wp2_with fail
  refine (HADD.out w1 v bs [kind, 12 + L1] _ (by simp) HOWN1.out (by omega) (by simp; omega) (by simp)).mono ?_
  rintro e w2 ⟨v2, rfl, hA2⟩
  have hz2 := hA2.grown.size
  have hbyt : Byt w2 w2.heap.size A1 b1 := by
    have h := HA1.out
    rw [← HL1.out] at h
    refine byt_keeps HLT1.out h hA2.grown ?_
    rw [HL1.out]
    cases hb : (Value.slice A1 L1 c1).ownBlock with
    | none => exact .inl rfl
    | some g => exact .inr (fun e => HNE.out g e.symm hb)
  obtain ⟨v3, w3, hrun, hA3⟩ := run_own_byt w2 base v2 _ hA2.own c1 hbyt (by rw [HL1.out]; omega) (by rw [List.length_append, numsB_len]; simp; omega) (by omega)
  rw [HL1.out] at hrun
  have HA3 := Lib.hid (hA2.trans hA3)
  have hz3 : w1.heap.size ≤ w3.heap.size := HA3.out.grown.size
  clear hA2 hA3 hbyt
  go_wp2_with (at_builtin; refine Lib.wpList_append_run _ rfl _ _ _ _ rfl _ _ rfl rfl _ _ hrun ?_)
  refine (HADD.out w3 v3 _ [12 + L1] _ (by simp) HA3.out.own (by omega) (by rw [List.length_append, List.length_append, numsB_len, HL1.out]; simp; omega) (by simp)).mono ?_
  rintro e w4 ⟨v4, rfl, hA4⟩
  have HA4 := Lib.hid (HA3.out.trans hA4)
  clear hA4
  go_wp2
  go_ret
  refine ⟨v4, rfl, ?_, ?_⟩
  · have h := HA4.out.own
    unfold blkB
    rw [HB1.out, HL1.out]
    simpa only [List.append_assoc] using h
  · exact HA4.out.below (((Below.refl base w)).grown HG1.out hbase HVB.out) (by omega) (fun g hg => (HOWN.out.lt g hg).1)
end Go.Proofs.Ytlimkckomdipkaa
