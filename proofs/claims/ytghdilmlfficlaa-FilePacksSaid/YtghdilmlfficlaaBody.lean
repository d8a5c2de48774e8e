/- addBlock. -/
import Derived.Test.YtghdilmlfficlaaSet
import Derived.Test.YtghdilmlfficlaaAdd
import Derived.Laws.CopyOwn
import Derived.Deep.RegionLaw
import Derived.Deep.RegionHeld3
namespace Go.Proofs.Ytghdilmlfficlaa
open Go.RowKit

theorem ext_ne {w : World} {base : Nat} {v vb vb1 : Value} {bs : List Nat} (hown : w.ownsRow base 5 1 v bs.length (bs.map u8)) (hd : ∀ g, v.ownBlock = some g → vb.ownBlock ≠ some g) (hx : Ext w vb vb1) : ∀ g, v.ownBlock = some g → vb1.ownBlock ≠ some g := by
  intro g hg
  rcases hx with e | ⟨g', e, hg'⟩
  · rw [e]; exact hd g hg
  · rw [e]
    have := (hown.lt g hg).2
    intro h; injection h with h; omega

end Go.Proofs.Ytghdilmlfficlaa
/- slices.Repeat of one byte, eight times. -/
namespace Go.Proofs.Ytghdilmlfficlaa
open Go.RowKit

set_option maxRecDepth 100000 in
set_option maxHeartbeats 2000000 in
theorem mul64_18 (w : World) : Calls Try.prog 107 #[.int .u64 1, .int .u64 8] w fun e w' => e = .returned (.tuple #[.int .u64 0, .int .u64 8]) ∧ w = w' := by
  have h1 : bits .and .u64 1 4294967295 = 1 := by decide
  have h8 : bits .and .u64 8 4294967295 = 8 := by decide
  have h0 : bits .and .u64 0 4294967295 = 0 := by decide
  have w8 : IntKind.u64.wrap 8 = 8 := by decide
  have w0 : IntKind.u64.wrap 0 = 0 := by decide
  go_enter Try.func107, Try.ntmps107
  go_wp2
  go_ret2
  exact ⟨rfl, rfl⟩

theorem size5 : (Try.prog.info? 5).map (·.size) = some 1 := by kernel_rfl
def ffs (k : Nat) : List Value := (List.replicate k 255 ++ List.replicate (8 - k) 0).map u8
theorem toList_madeCells : (madeCells (Value.int IntKind.u8 0).cells (8 * 1)).toList = List.replicate 8 (.int .u8 0) := toList_madeCells_one _ 8
theorem splice_0 : splice (ffs 0) 0 [u8 255] = ffs 1 := rfl
theorem splice_1 : splice (ffs 1) 1 (List.replicate 1 (u8 255)) = ffs 2 := rfl
theorem take_1 : (ffs 1).take 1 = List.replicate 1 (u8 255) := rfl
theorem splice_2 : splice (ffs 2) 2 (List.replicate 2 (u8 255)) = ffs 4 := rfl
theorem take_2 : (ffs 2).take 2 = List.replicate 2 (u8 255) := rfl
theorem splice_4 : splice (ffs 4) 4 (List.replicate 4 (u8 255)) = ffs 8 := rfl
theorem take_4 : (ffs 4).take 4 = List.replicate 4 (u8 255) := rfl

theorem made8 {w w1 : World} (hown : w1.ownsRow w.heap.size 5 1 (Value.slice (some ⟨w.heap.size, 0, none⟩) 8 8) 8 (madeCells (Value.int IntKind.u8 0).cells (8 * 1)).toList) (hgrow : w.grownBy w1 none) :
    Hid (w1.heap[w.heap.size]? = some (.cells (ffs 0).toArray 5 (0, 0))) ∧ Hid (Below w.heap.size w w1) := by
  refine ⟨Lib.hid ?_, Lib.hid ((Below.refl w.heap.size w).grown hgrow (Nat.le_refl _) (fun k h => by cases h))⟩
  rcases hown.2 with ⟨e, _⟩ | ⟨g, cap, cur, e, _, hg, hc, hm, hs, ht⟩
  · cases e
  · injection e with e1 e2 e3
    injection e1 with e1
    injection e1 with e1
    subst e1; subst e3
    have e5 : cur.toList = ffs 0 := by
      rw [← List.take_of_length_le (l := cur.toList) (i := 8 * 1) (by rw [Array.length_toList, hs]; exact Nat.le_refl _), ht, toList_madeCells]
      rfl
    rw [← e5]
    exact hg

/-- The first k bytes of a row, as what a copy reads. -/
theorem row_src {w : World} {g k : Nat} (h : w.heap[g]? = some (.cells (ffs k).toArray 5 (0, 0))) : ∀ (j : Nat) (v : Value), ((ffs k).take k)[j]? = some v → w.cell? ((⟨g, 0, none⟩ : Addr).add j) = some v := by
  intro j v hj
  rw [Go.WideShapes.add_plain, Nat.zero_add, cell_of_row w g j _ 5 (0, 0) h, List.getElem?_toArray]
  rw [List.getElem?_take] at hj
  split at hj
  · exact hj
  · cases hj

end Go.Proofs.Ytghdilmlfficlaa
/- The bytes with which files begin; the bodies of blocks. -/
namespace Go.Proofs.Ytghdilmlfficlaa
open Go.RowKit

theorem own_mono {w : World} {base base' n : Nat} {v : Value} {xs : List Value} (h : w.ownsRow base 5 1 v n xs) (hb : base' ≤ base) : w.ownsRow base' 5 1 v n xs := by
  refine ⟨h.1, ?_⟩
  rcases h.2 with h | ⟨g, cap, cur, e1, e2, e3⟩
  · exact .inl h
  · exact .inr ⟨g, cap, cur, e1, by omega, e3⟩
theorem app_below {w w' : World} {base : Nat} {v' : Value} {bs new : List Nat} (h : App w base (.slice none 0 0) bs new v' w') : Below w.heap.size w w' :=
  (Below.refl _ _).grown h.grown (Nat.le_refl _) (by simp [Value.ownBlock])
theorem nil_own (w : World) (base : Nat) : w.ownsRow base 5 1 (.slice none 0 0) ([] : List Nat).length (([] : List Nat).map u8) := World.ownsRow_nil w base 5 1
theorem len2 (low : Bool) (a b : Nat) : (numsB low 2 [a, b]).length = 4 := by rw [numsB_len]; rfl
theorem len4 (low : Bool) (a : Nat) : (numsB low 4 [a]).length = 4 := by rw [numsB_len]; rfl
theorem len42 (low : Bool) (a b : Nat) : (numsB low 4 [a, b]).length = 8 := by rw [numsB_len]; rfl
theorem len44 (low : Bool) (a b c d : Nat) : (numsB low 4 [a, b, c, d]).length = 16 := by rw [numsB_len]; rfl
theorem len45 (low : Bool) (a b c d e : Nat) : (numsB low 4 [a, b, c, d, e]).length = 20 := by rw [numsB_len]; rfl

def oldB (low : Bool) : List Nat := numsB low 4 [2712847316] ++ (numsB low 2 [2, 4] ++ numsB low 4 [0, 0])
def secH (low : Bool) : List Nat := numsB low 4 [439041101] ++ (numsB low 2 [1, 0] ++ List.replicate 8 255)
/-- The body of an interface. -/
def facBy (low : Bool) (lk sn : Nat) (name : ByteArray) : List Nat := numsB low 2 [lk, 0] ++ (numsB low 4 [sn] ++ optB low 2 8 name)
/-- The body of a name or a secret. -/
def pairB (low : Bool) (a b : List Nat) : List Nat := numsB low 2 [a.length, b.length] ++ (a ++ b)
/-- The body of a packet. -/
def pktBy (low : Bool) (fc t rl : Nat) (data : List Nat) (note : ByteArray) : List Nat :=
  numsB low 4 [fc, t / 4294967296, t, data.length, rl] ++ (data ++ (padB (20 + data.length) ++ optB low 1 (20 + data.length + padN (20 + data.length)) note))

end Go.Proofs.Ytghdilmlfficlaa
