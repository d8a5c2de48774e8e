/- Bytes in memory: what a slice of bytes reads as; the sums of bytes as plain functions. -/
import Derived.Test.YtghdilmlfficlaaS1Leaf2
import Derived.Below
import Derived.Laws.OwnMore
namespace Go.Proofs.Ytghdilmlfficlaa.S1
open Go.RowKit

/-- The byte at a place; 0 where there is none. -/
def at8 (bs : List Nat) (k : Nat) : Nat := bs[k]?.getD 0
theorem at8_eq (bs : List Nat) (k : Nat) (h : k < bs.length) : at8 bs k = bs[k] := by simp [at8, h]
theorem at8_out (bs : List Nat) (k : Nat) (h : bs.length ≤ k) : at8 bs k = 0 := by simp [at8, List.getElem?_eq_none h]

/-- The slice that begins at A reads, in w, as the bytes bs, and lies below block B. -/
structure Byt (w : World) (B : Nat) (A : Option Addr) (bs : List Nat) : Prop where
  lt : ∀ x ∈ bs, x < 256
  cells : 0 < bs.length → ∃ b o, A = some ⟨b, o, none⟩ ∧ b < B ∧ ∀ k, k < bs.length → w.cell? ⟨b, o + k, none⟩ = some (.int .u8 (at8 bs k : Nat))

theorem at8_lt {bs : List Nat} (h : ∀ x ∈ bs, x < 256) (k : Nat) : at8 bs k < 256 := by
  by_cases hk : k < bs.length
  · rw [at8_eq bs k hk]; exact h _ (List.getElem_mem hk)
  · rw [at8_out bs k (by omega)]; omega
section
variable {w w' : World} {B B' : Nat} {A : Option Addr} {bs : List Nat}
theorem Byt.nil (w : World) (B : Nat) (A : Option Addr) : Byt w B A [] := ⟨by simp, by simp⟩
theorem Byt.more (h : Byt w B A bs) (hB : B ≤ B') : Byt w B' A bs :=
  ⟨h.lt, fun hn => by obtain ⟨b, o, e, hb, hc⟩ := h.cells hn; exact ⟨b, o, e, by omega, hc⟩⟩
theorem Byt.keep (h : Byt w B A bs) (hk : ∀ b o, b < B → w'.cell? ⟨b, o, none⟩ = w.cell? ⟨b, o, none⟩) : Byt w' B A bs :=
  ⟨h.lt, fun hn => by obtain ⟨b, o, e, hb, hc⟩ := h.cells hn; exact ⟨b, o, e, hb, fun k hk' => (hk _ _ hb).trans (hc k hk')⟩⟩
theorem Byt.below (h : Byt w B A bs) (hb : Below B w w') : Byt w' B A bs := h.keep fun b o hp => hb.cell (p := ⟨b, o, none⟩) hp
theorem Byt.alloc (h : Byt w B A bs) (hB : B ≤ w.heap.size) (o : Obj) : Byt (w.alloc o) B A bs := h.below ((Below.refl _ _).alloc hB o)
end

/-! ### The sums -/
/-- The 16 bit numbers of the first k bytes, added. -/
def rawSum (bs : List Nat) : Nat → Nat
  | 0 => 0
  | k + 1 => rawSum bs k + (if k % 2 = 0 then 256 * at8 bs k else at8 bs k)
theorem rawSum_le (bs : List Nat) (h : ∀ x ∈ bs, x < 256) : ∀ k, rawSum bs k ≤ 65280 * k
  | 0 => by simp [rawSum]
  | k + 1 => by
    have := rawSum_le bs h k
    have := at8_lt h k
    simp only [rawSum]
    split <;> omega
theorem rawSum_even (bs : List Nat) (k : Nat) (h : k % 2 = 0) : rawSum bs (k + 1) = rawSum bs k + 256 * at8 bs k := by simp [rawSum, h]
theorem rawSum_odd (bs : List Nat) (k : Nat) (h : k % 2 = 1) : rawSum bs (k + 1) = rawSum bs k + at8 bs k := by simp [rawSum, h]
/-- The check of the internet of bytes. -/
def sumV (bs : List Nat) : Nat := 65535 - foldN (rawSum bs bs.length)

/-- The two sums of Adler. -/
def adl (bs : List Nat) : Nat → Nat × Nat
  | 0 => (1, 0)
  | k + 1 => (((adl bs k).1 + at8 bs k) % 65521, ((adl bs k).2 + ((adl bs k).1 + at8 bs k) % 65521) % 65521)
theorem adl_lt (bs : List Nat) : ∀ k, (adl bs k).1 < 65521 ∧ (adl bs k).2 < 65521
  | 0 => by simp [adl]
  | k + 1 => by simp only [adl]; exact ⟨Nat.mod_lt _ (by decide), Nat.mod_lt _ (by decide)⟩
def adlerV (bs : List Nat) : Nat := (adl bs bs.length).2 * 65536 + (adl bs bs.length).1
end Go.Proofs.Ytghdilmlfficlaa.S1
