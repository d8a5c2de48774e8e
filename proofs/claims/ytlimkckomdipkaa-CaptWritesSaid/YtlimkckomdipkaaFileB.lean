/- The bytes of files. -/
import Derived.Test.YtlimkckomdipkaaTornF
namespace Go.Proofs.Ytlimkckomdipkaa
open Go.RowKit

theorem pc_of_blk {w : World} {g : Nat} {l : List Nat} {post : List Value} (h : Blk w g 5 (l.map u8 ++ post).toArray) (hl : ∀ x ∈ l, x < 256) : Pc w g 0 l :=
  ⟨hl, fun k hk => by
    rw [h.cell, List.getElem?_toArray, Nat.zero_add, List.getElem?_append_left (by simpa using hk), List.getElem?_map, List.getElem?_eq_getElem hk, at8_eq l k hk]; rfl⟩
theorem oldFileB_lt (low : Bool) {c : Cap} (h : ∀ p ∈ c.pkts, ∀ x ∈ p.data, x < 256) : ∀ x ∈ oldFileB low c, x < 256 := by
  unfold oldFileB oldB
  refine app_lt (app_lt (app_lt (numsB_lt _ _ _) (app_lt (numsB_lt _ _ _) (numsB_lt _ _ _))) (numsB_lt _ _ _)) fun x hx => ?_
  obtain ⟨p, hp, hx⟩ := List.mem_flatMap.1 hx
  exact app_lt (numsB_lt _ _ _) (h p hp) x hx
theorem blkB_lt (low : Bool) (k : Nat) {body : List Nat} (h : ∀ x ∈ body, x < 256) : ∀ x ∈ blkB low k body, x < 256 :=
  app_lt (numsB_lt _ _ _) (app_lt (app_lt h (rep_lt _ _ (by decide))) (numsB_lt _ _ _))
theorem fileB_len {c : Cap} (ho : Okay c) (old low : Bool) : (fileB old low c).length ≤ 131072 := by
  cases old with
  | true => exact old_len ho low
  | false => exact blocks_len ho low
theorem capM_lt {w : World} {B : Nat} {p : Pl} {c : Cap} (h : CapM w B p c) : (∀ x ∈ c.names, ∀ y ∈ x.addr, y < 256) ∧ (∀ x ∈ c.secs, ∀ y ∈ x.key, y < 256) ∧ (∀ x ∈ c.pkts, ∀ y ∈ x.data, y < 256) := by
  refine ⟨fun x hx => ?_, fun x hx => ?_, fun x hx => ?_⟩
  · obtain ⟨i, hi, rfl⟩ := List.mem_iff_getElem.1 hx
    obtain ⟨b, o, _, _, vs, _, ⟨A, cc, _, hb, _⟩, _⟩ := h.names.row i hi
    exact hb.byt.lt
  · obtain ⟨i, hi, rfl⟩ := List.mem_iff_getElem.1 hx
    obtain ⟨b, o, _, _, vs, _, ⟨A, cc, _, hb, _⟩, _⟩ := h.secs.row i hi
    exact hb.byt.lt
  · obtain ⟨i, hi, rfl⟩ := List.mem_iff_getElem.1 hx
    obtain ⟨b, o, _, _, vs, _, ⟨A, cc, _, hb, _⟩, _⟩ := h.pkts.row i hi
    exact hb.byt.lt
theorem fileB_lt (old low : Bool) {w : World} {B : Nat} {p : Pl} {c : Cap} (h : CapM w B p c) : ∀ x ∈ fileB old low c, x < 256 := by
  obtain ⟨h1, h2, h3⟩ := capM_lt h
  cases old with
  | true => exact oldFileB_lt low h3
  | false =>
    show ∀ x ∈ blocksB low c, x < 256
    rw [blocksB_its]
    intro x hx
    obtain ⟨i, hi, hx⟩ := List.mem_flatMap.1 hx
    refine blkB_lt low _ ?_ x hx
    cases i with
    | sect s => exact app_lt (secH_lt low) (optB_lt _ _ _ _)
    | face f => exact facBy_lt _ _ _ _
    | name f => exact pairB_lt low (h1 f (by simpa [itsC] using hi)) (strL_lt _)
    | secr f => exact pairB_lt low (strL_lt _) (h2 f (by simpa [itsC] using hi))
    | pkt f => exact pktBy_lt _ _ _ _ _ (h3 f (by simpa [itsC] using hi))

end Go.Proofs.Ytlimkckomdipkaa
