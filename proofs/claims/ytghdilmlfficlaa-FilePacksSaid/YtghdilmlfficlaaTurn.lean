/- How many packets captures have; the queues of their packets. -/
import Derived.Test.YtghdilmlfficlaaTog
import Derived.Deep.OwnRows
namespace Go.Proofs.Ytghdilmlfficlaa
open Go.RowKit

def sumP : List Cap → Nat
  | [] => 0
  | c :: l => c.pkts.length + sumP l
theorem sumP_take (l : List Cap) (k : Nat) (h : k < l.length) : sumP (l.take (k + 1)) = sumP (l.take k) + l[k].pkts.length := by
  induction l generalizing k with
  | nil => simp at h
  | cons c l ih =>
    cases k with
    | zero => simp [sumP]
    | succ k =>
      have := ih k (by simpa using h)
      simp only [List.take_succ_cons, sumP, List.getElem_cons_succ]
      omega
theorem sumP_le (l : List Cap) (k n : Nat) (hl : ∀ c ∈ l, c.pkts.length ≤ n) : sumP (l.take k) ≤ k * n := by
  induction l generalizing k with
  | nil => simp [sumP]
  | cons c l ih =>
    cases k with
    | zero => simp [sumP]
    | succ k =>
      have h1 := ih k (fun x hx => hl x (List.mem_cons_of_mem _ hx))
      have h2 := hl c List.mem_cons_self
      simp only [List.take_succ_cons, sumP]
      rw [Nat.succ_mul]
      omega

set_option maxRecDepth 100000 in
set_option maxHeartbeats 4000000 in
theorem many_any {w : World} {g c : Nat} {cs : Array Value} {q : Nat → Pl} {l : List Cap} (hg : Blk w g 31 cs) (hrow : ∀ i (h : i < l.length) j v, (capL (q i) l[i])[j]? = some v → cs[i * 5 + j]? = some v) (hl : l.length ≤ 100000) (hp : ∀ x ∈ l, x.pkts.length ≤ 100) :
    Calls Try.prog 50 #[.slice (some ⟨g, 0, none⟩) l.length c] w fun e w' => e = .returned (.bool (decide (100 < sumP l))) ∧ Below w.heap.size w w' := by
  obtain ⟨B, hB⟩ : ∃ B, w.heap.size = B := ⟨_, rfl⟩
  have hgB : g < B := by rw [← hB]; exact hg.lt
  have HG := Lib.hid hg
  have HR := Lib.hid hrow
  have HP := Lib.hid hp
  have HB := Lib.hid hB
  rw [hB]
  clear hg hrow hp hB
  go_enter Try.func50, Try.ntmps50
  go_wp2
  go_loopw [3, 8] (fun n i wr => ∃ (k s : Nat), n = .int .i64 s ∧ i = .int .i64 k ∧ k ≤ l.length ∧ s ≤ k * 100 ∧ Hid (s = sumP (l.take k)) ∧ Hid (Below B w wr ∧ B ≤ wr.heap.size)) (fun _ i _ => l.length - (intOf i).toNat)
  case atStart => exact ⟨0, 0, rfl, rfl, Nat.zero_le _, Nat.zero_le _, Lib.hid rfl, Lib.hid ⟨Below.refl _ _, by rw [HB.out]; exact Nat.le_refl _⟩⟩
  case round =>
    obtain ⟨k, s, rfl, rfl, hk, hs, HS, HW⟩ := hrel
    by_cases hlt : k < l.length
    · have hc : ∀ j v, (capL (q k) l[k])[j]? = some v → wr.cell? ⟨g, k * 5 + j, none⟩ = some v := fun j v hj => ((HG.out.below HW.out.1 hgB).cell _).trans (HR.out k hlt j v hj)
      have hlen := HP.out _ (List.getElem_mem hlt)
      have HST := Lib.hid (sumP_take l k hlt)
      obtain ⟨x, hx⟩ : ∃ x, l[k] = x := ⟨_, rfl⟩
      obtain ⟨p, hp⟩ : ∃ p, q k = p := ⟨_, rfl⟩
      rw [hx] at hc hlen HST
      rw [hp] at hc
      have c0 : wr.cell? ⟨g, k * 5, none⟩ = some (.string x.note) := hc 0 _ rfl
      have c1 := hc 1 _ rfl
      have c2 := hc 2 _ rfl
      have c3 := hc 3 _ rfl
      have c4 := hc 4 _ rfl
      have HW1 : ∀ o, Hid (Below B w (wr.alloc o) ∧ B ≤ (wr.alloc o).heap.size) := fun o => Lib.hid ⟨HW.out.1.alloc HW.out.2 _, by rw [alloc_size]; have := HW.out.2; omega⟩
      clear hc hx hp
      go_wp2
      go_roundw
      case rel => exact ⟨k + 1, s + x.pkts.length, by go_num, by go_num, by omega, by omega, Lib.hid (by rw [HST.out, HS.out]), HW1 _⟩
      case measure => simp [intOf]; omega
    · have hkn : k = l.length := by omega
      subst hkn
      have HR2 : Hid (decide ((100 : Int) < s) = decide (100 < sumP l)) := Lib.hid (by
        have := HS.out
        rw [List.take_length] at this
        rw [this]
        exact decide_eq_decide.2 (by omega))
      go_wp2
      go_ret
      exact ⟨ret_bool (by rw [← HR2.out]), HW.out.1⟩

/-- The queues: of each the packets that are left. -/
def Qs (w : World) (B M : Nat) (rs : List (List Pkt)) : Prop :=
  ∃ qs, Blk w M 29 qs ∧ qs.size = rs.length ∧ ∀ i (_ : i < rs.length), ∃ A c, qs[i]? = some (.slice A rs[i].length c) ∧ rs[i].length ≤ c ∧ rs[i].length * 64 ≤ 140737488355328 ∧ Els 5 PktE w B A rs[i]
theorem info29 : (Try.prog.info? 29).map (fun i => (i.zero, i.size, i.bytes)) = some (some (.slice none 0 0), 1, 24) := by kernel_rfl

set_option maxRecDepth 100000 in
set_option maxHeartbeats 4000000 in
theorem turn_any {w : World} {B0 g c : Nat} {cs : Array Value} {q : Nat → Pl} {l : List Cap} {P : Nat → List Pkt} (hg : Blk w g 31 cs) (hrow : ∀ i (h : i < l.length) j v, (capL (q i) l[i])[j]? = some v → cs[i * 5 + j]? = some v) (hl : l.length ≤ 100000)
    (hp : ∀ i (_ : i < l.length), (P i).length = l[i].pkts.length ∧ l[i].pkts.length ≤ (q i).cp ∧ l[i].pkts.length ≤ 100 ∧ Els 5 PktE w B0 (q i).pp (P i)) (hB0 : B0 ≤ w.heap.size) :
    Calls Try.prog 52 #[.slice (some ⟨g, 0, none⟩) l.length c] w fun e w' => ∃ Q M, e = .returned (.func (.func 101) #[] #[.pointer (some ⟨Q, 0, none⟩)]) ∧ Blk w' Q 75 #[.slice (some ⟨M, 0, none⟩) l.length l.length] ∧ w.heap.size ≤ M ∧ M ≠ Q ∧ w.heap.size ≤ Q ∧ Qs w' B0 M ((List.range l.length).map P) ∧ Below w.heap.size w w' := by
  obtain ⟨B, hB⟩ : ∃ B, w.heap.size = B := ⟨_, rfl⟩
  have hgB : g < B := by rw [← hB]; exact hg.lt
  have hmf : ∀ (fn : Fn) (first cap : Array Value) (w : World), (Instr.makeFunc fn first cap).run Try.prog w = .ok (.func fn first cap) w := fun _ _ _ _ => rfl
  have hmk := run_make_row' (P := Try.prog) 75 29 (.slice none 0 0) 24 Try.underlying75 info29 rfl .i64 .i64 l.length (by omega) (by omega)
  obtain ⟨W0, hW0⟩ : ∃ W0, (w.alloc (.cells (madeCells #[.slice none 0 0] l.length) 29)).alloc (.cells #[.slice (some ⟨B, 0, none⟩) l.length l.length] 75) = W0 := ⟨_, rfl⟩
  have HQ0 : Hid (Blk W0 (B + 1) 75 #[.slice (some ⟨B, 0, none⟩) l.length l.length] ∧ Below B w W0) := Lib.hid (by
    have h := Blk.new (w.alloc (.cells (madeCells #[.slice none 0 0] l.length) 29)) 75 #[.slice (some ⟨B, 0, none⟩) l.length l.length]
    rw [alloc_size, hB] at h
    rw [← hW0]
    exact ⟨h, by rw [← hB]; exact ((Below.refl _ w).alloc (Nat.le_refl _) _).alloc (by rw [alloc_size]; omega) _⟩)
  have HM0 : Hid (Blk W0 B 29 (madeCells #[.slice none 0 0] l.length)) := Lib.hid (by rw [← hW0, ← hB]; exact (Blk.new _ _ _).alloc _)
  have HG := Lib.hid hg
  have HR := Lib.hid hrow
  have HP := Lib.hid hp
  have HB00 : Hid (B0 ≤ B) := Lib.hid (by rw [← hB]; exact hB0)
  clear hg hrow hp hB0
  rw [hB]
  go_enter Try.func52, Try.ntmps52
  go_wp2
  clear hW0 hB hmk
  go_loopw [11] (fun i wr => ∃ (k : Nat) (qs : Array Value), i = .int .i64 k ∧ k ≤ l.length ∧ Hid (Blk wr B 29 qs ∧ qs.size = l.length ∧ ∀ i (h : i < l.length), i < k → qs[i]? = some (.slice (q i).pp l[i].pkts.length (q i).cp)) ∧ Hid (Blk wr (B + 1) 75 #[.slice (some ⟨B, 0, none⟩) l.length l.length] ∧ Below B w wr)) (fun i _ => l.length - (intOf i).toNat)
  case atStart => exact ⟨0, _, rfl, Nat.zero_le _, Lib.hid ⟨HM0.out, size_madeCells _ _, fun i _ h => absurd h (Nat.not_lt_zero i)⟩, HQ0⟩
  case round =>
    obtain ⟨k, qs, rfl, hk, HM, HQ⟩ := hrel
    by_cases hlt : k < l.length
    · have hc : ∀ j v, (capL (q k) l[k])[j]? = some v → wr.cell? ⟨g, k * 5 + j, none⟩ = some v := fun j v hj => ((HG.out.below HQ.out.2 hgB).cell _).trans (HR.out k hlt j v hj)
      obtain ⟨x, hx⟩ : ∃ x, l[k] = x := ⟨_, rfl⟩
      obtain ⟨p, hp⟩ : ∃ p, q k = p := ⟨_, rfl⟩
      have HV0 : Hid ((Value.slice (q k).pp l[k].pkts.length (q k).cp) = .slice p.pp x.pkts.length p.cp) := Lib.hid (by rw [hx, hp])
      rw [hx] at hc
      rw [hp] at hc
      have c0 : wr.cell? ⟨g, k * 5, none⟩ = some (.string x.note) := hc 0 _ rfl
      have c1 := hc 1 _ rfl
      have c2 := hc 2 _ rfl
      have c3 := hc 3 _ rfl
      have c4 := hc 4 _ rfl
      clear hc hx hp
      obtain ⟨N, hN⟩ : ∃ N, wr.heap.size = N := ⟨_, rfl⟩
      obtain ⟨W1, hW1⟩ : ∃ W1, wr.alloc (.cells #[.string x.note, .slice p.pf x.faces.length p.cf, .slice p.pn x.names.length p.cn, .slice p.ps x.secs.length p.cs, (.slice p.pp x.pkts.length p.cp)] 31) = W1 := ⟨_, rfl⟩
      have hb1 : Below wr.heap.size wr W1 := by rw [← hW1]; exact (Below.refl _ _).alloc (Nat.le_refl _) _
      have hk1 : Blk W1 N 31 #[.string x.note, .slice p.pf x.faces.length p.cf, .slice p.pn x.names.length p.cn, .slice p.ps x.secs.length p.cs, (.slice p.pp x.pkts.length p.cp)] := by rw [← hW1, ← hN]; exact Blk.new _ _ _
      have n4 := hk1.cell 4
      have hQ1 := HQ.out.1.below hb1 HQ.out.1.lt
      have hM1 := HM.out.1.below hb1 HM.out.1.lt
      have q0 := hQ1.cell 0
      have hmk2 : ∃ u, W1.cell? ⟨B, k, none⟩ = some u := by
        rw [hM1.cell, Array.getElem?_eq_getElem (by rw [HM.out.2.1]; exact hlt)]
        exact ⟨_, rfl⟩
      obtain ⟨u, hu⟩ := hmk2
      have fu := hM1.frozen k
      have HN1 : Hid (Blk (W1.setCell ⟨B, k, none⟩ (.slice p.pp x.pkts.length p.cp)) B 29 (qs.setIfInBounds k (.slice p.pp x.pkts.length p.cp)) ∧ (qs.setIfInBounds k (.slice p.pp x.pkts.length p.cp)).size = l.length ∧ ∀ i (h : i < l.length), i < k + 1 → (qs.setIfInBounds k (.slice p.pp x.pkts.length p.cp))[i]? = some (.slice (q i).pp l[i].pkts.length (q i).cp)) := Lib.hid ⟨hM1.set_ k (.slice p.pp x.pkts.length p.cp), by simp [HM.out.2.1], fun i hi hik => by
        by_cases e : i = k
        · subst e
          rw [Array.getElem?_setIfInBounds_self_of_lt (by rw [HM.out.2.1]; exact hi), HV0.out]
        · rw [Array.getElem?_setIfInBounds_ne (fun h => e h.symm)]
          exact HM.out.2.2 i hi (by omega)⟩
      have HQ2 : Hid (Blk (W1.setCell ⟨B, k, none⟩ (.slice p.pp x.pkts.length p.cp)) (B + 1) 75 #[.slice (some ⟨B, 0, none⟩) l.length l.length] ∧ Below B w (W1.setCell ⟨B, k, none⟩ (.slice p.pp x.pkts.length p.cp))) := Lib.hid ⟨hQ1.far (p := ⟨B, k, none⟩) (by show B + 1 ≠ B; omega) _, (HQ.out.2.trans (hb1.mono (by have := HQ.out.1.lt; omega))).setCell (p := ⟨B, k, none⟩) (Nat.le_refl _) _⟩
      clear hb1 hk1 hQ1 hM1 HM HQ
      go_wp2
      go_roundw
      case rel => exact ⟨k + 1, qs.setIfInBounds k (.slice p.pp x.pkts.length p.cp), by go_num, by omega, HN1, HQ2⟩
      case measure => simp [intOf]; omega
    · have hkn : k = l.length := by omega
      subst hkn
      go_wp2
      go_ret
      refine ⟨B + 1, B, rfl, HQ.out.1, Nat.le_refl _, by omega, by omega, ⟨qs, HM.out.1, by simp [HM.out.2.1], fun i hi => ?_⟩, HQ.out.2⟩
      have hi' : i < l.length := by simpa using hi
      obtain ⟨h1, h2, h3, h4⟩ := HP.out i hi'
      have e : ((List.range l.length).map P)[i] = P i := by simp
      refine ⟨(q i).pp, (q i).cp, ?_, ?_, ?_, ?_⟩
      · rw [HM.out.2.2 i hi' hi', e, h1]
      · rw [e, h1]; exact h2
      · rw [e, h1]; omega
      · rw [e]
        exact h4.keep pktK (HQ.out.2.mono HB00.out) (Nat.le_refl _)
end Go.Proofs.Ytghdilmlfficlaa
