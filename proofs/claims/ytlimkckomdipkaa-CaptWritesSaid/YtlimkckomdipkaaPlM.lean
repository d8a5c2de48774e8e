/- What the old kind can have of a capture is a capture that it can have. -/
import Derived.Test.YtlimkckomdipkaaP17
namespace Go.Proofs.Ytlimkckomdipkaa
open Go.RowKit

theorem plainC_twice (c : Cap) : plainC (plainC c) = plainC c := by
  unfold plainC
  simp only [List.head?_cons, Option.map_some, Option.getD_some, Cap.mk.injEq, true_and]
  rw [List.filter_eq_self.2 (fun p hp => by
    obtain ⟨q, _, rfl⟩ := List.mem_map.1 hp
    rfl), List.map_map]
  rfl
theorem errV_plain {c : Cap} (h : errV c = 0) : errV (plainC c) = 0 := by
  obtain ⟨hc, hh⟩ := errV_ok h
  have hh' : c.faces.length ≤ 4 ∧ c.pkts.length ≤ 100 := by
    have := of_decide_eq_false hh; omega
  simp only [capB, partsB, Bool.and_eq_true, decide_eq_true_eq] at hc
  obtain ⟨⟨hf0, _⟩, hvf, _, _, hvp⟩ := hc
  have hhead : c.faces.head? = some c.faces[0] := by
    rw [List.head?_eq_getElem?, List.getElem?_eq_getElem hf0]
  have hfac : facB ⟨noT, c.faces[0].link, c.faces[0].snap⟩ = true := by
    have h0 := List.all_eq_true.1 hvf _ (List.getElem_mem hf0)
    unfold facB at h0 ⊢
    simp only [Bool.and_eq_true] at h0 ⊢
    exact ⟨rfl, h0.2⟩
  have hlen : ((c.pkts.filter keepP).map plainP).length ≤ 100 := by
    rw [List.length_map]; exact Nat.le_trans (List.length_filter_le _ _) hh'.2
  have hhuge : hugeB (plainC c) = false := decide_eq_false (by
    unfold plainC
    simp only [List.length_cons, List.length_nil]
    omega)
  have hcap : capB (plainC c) = true := by
    unfold capB partsB plainC
    rw [hhead]
    simp only [Option.map_some, Option.getD_some, Bool.and_eq_true, decide_eq_true_eq, List.all_cons, List.all_nil, List.length_cons, List.length_nil, Bool.and_true]
    refine ⟨⟨by omega, rfl⟩, hfac, trivial, trivial, List.all_eq_true.2 (fun p hp => ?_)⟩
    obtain ⟨x, hx, rfl⟩ := List.mem_map.1 hp
    obtain ⟨hx1, hx2⟩ := List.mem_filter.1 hx
    have hface : x.face = 0 := of_decide_eq_true hx2
    have hp := List.all_eq_true.1 hvp _ hx1
    unfold pktB at hp ⊢
    rw [hface] at hp
    simp only [Bool.and_eq_true, Int.toNat_zero, List.getElem?_eq_getElem hf0, Option.map_some, Option.getD_some] at hp
    have h2 := hp.2
    unfold pktS at h2 ⊢
    simp only [Bool.and_eq_true] at h2 ⊢
    exact ⟨rfl, rfl, h2.2⟩
  unfold errV
  rw [hhuge, hcap]; rfl
end Go.Proofs.Ytlimkckomdipkaa
