/- What every statement of this layer asks besides: the document's own four examples. -/
import Derived.Test.YtbgkkaecpmgnoaaDoorGet2
import Derived.Test.YtbgkkaecpmgnoaaDoorSums
import Derived.Test.YtbgkkaecpmgnoaaDoorCrc
import Derived.Test.YtbgkkaecpmgnoaaDoorSev
import Derived.Laws.BytesArg
import Derived.Lib.SmallJoins
import Derived.Lib.SlBytesConst
namespace Go.Proofs.YtbgkkaecpmgnoaaDoor
open Go.RowKit Go.Shelf

theorem Tab.below {w w' : World} {B : Nat} (h : Tab w) (hb : Below B w w') (h0 : 0 < B) : Tab w' := fun j hj => (hb.cell (p := ⟨0, j, none⟩) h0).trans (h j hj)

/-- Bytes as a string. -/
def strB (bs : List Nat) : ByteArray := strOfNums (bs.map Int.ofNat)
theorem conv_any {w : World} {B : Nat} {A : Option Addr} {bs : List Nat} (hm : Byt w B A bs) (c : Nat) :
    (convert 22 9 (.slice A bs.length c)).run Tryd.prog w = .ok (.string (strB bs)) w := by
  by_cases h0 : 0 < bs.length
  · obtain ⟨b, o, rfl, _, hc⟩ := hm.cells h0
    exact run_convert_bytes_arg w 22 5 Tryd.underlying22 Tryd.underlying5 b o bs.length c (bs.map Int.ofNat) (by simp) (fun i hi => by
      rw [hc i hi, at8_eq bs i hi]; simp [hi]) 9 Tryd.underlying9
  · have : bs = [] := List.length_eq_zero_iff.1 (by omega)
    subst this
    have e := run_convert_bytes_string (P := Tryd.prog) w 22 9 5 A 0 c Tryd.underlying22 Tryd.underlying5 Tryd.underlying9
    show (convert 22 9 (.slice A 0 c)).run Tryd.prog w = _
    rw [e]
    cases A with
    | none => simp [Conv.bytesToString]; rfl
    | some a =>
      have h := run_bytesToString (P := Tryd.prog) w a 0 c [] (by
        have := run_loadCells_list (P := Tryd.prog) w a [] (fun j v hj => by simp at hj)
        simpa using this)
      rw [h]; rfl

/-- What a slice of the call's own reads as. -/
theorem Byt.of_own {w : World} {base : Nat} {v : Value} {bs : List Nat} (hb : ∀ x ∈ bs, x < 256) (h : w.ownsRow base 5 1 v bs.length (bs.map u8)) :
    ∃ A c, v = .slice A bs.length c ∧ bs.length ≤ c ∧ Byt w w.heap.size A bs := by
  rcases h.2 with ⟨rfl, hn⟩ | ⟨g, cap, cur, rfl, _, hg, hcap, _, hsz, htake⟩
  · have : bs = [] := List.length_eq_zero_iff.1 hn
    subst this
    exact ⟨none, 0, rfl, Nat.le_refl _, Byt.nil _ _ _⟩
  · refine ⟨_, cap, rfl, hcap, hb, fun hn => ⟨g, 0, rfl, (Array.getElem?_eq_some_iff.1 hg).1, fun k hk => ?_⟩⟩
    rw [Nat.zero_add, cell_of_row w g k cur 5 (0, 0) hg]
    have e : (cur.toList.take (bs.length * 1))[k]? = (bs.map u8)[k]? := by rw [htake]
    rw [List.getElem?_take_of_lt (by omega), List.getElem?_map, List.getElem?_eq_getElem hk] at e
    rw [at8_eq bs k hk, ← Array.getElem?_toList, e]
    rfl

theorem byt_new (w : World) (cs : List Nat) (hb : ∀ x ∈ cs, x < 256) (fr : Nat × Nat := (0, 0)) (g : Nat := w.heap.size) (hg : g = w.heap.size := by rfl) : Byt (w.alloc (.cells (cs.map u8).toArray 5 fr)) (g + 1) (some ⟨g, 0, none⟩) cs := by
  subst hg
  refine ⟨hb, fun _ => ⟨w.heap.size, 0, rfl, by omega, fun k hk => ?_⟩⟩
  rw [Nat.zero_add, World.cell?_alloc_mark]
  simp [at8, hk]

set_option maxHeartbeats 1000000 in
theorem known_any (w : World) (hT : Tab w) (h0 : 0 < w.heap.size) :
    Calls Tryd.prog 12 #[] w fun e w' => e = .returned (.bool true) ∧ Below w.heap.size w w' := by
  have b1 : Byt (w.alloc (.cells #[.int .u8 240, .int .u8 15] 5)) (w.heap.size + 1) (some ⟨w.heap.size, 0, none⟩) [240, 15] := byt_new w [240, 15] (by decide)
  have hB1 : Below w.heap.size w (w.alloc (.cells #[.int .u8 240, .int .u8 15] 5)) := (Below.refl _ _).alloc (Nat.le_refl _) _
  have g1 : getV [240, 15] 0 16 true = 4080 := by decide
  have g2 : sumV [0, 1, 242, 3] = 3579 := by decide
  have g3 := crc_example
  have HT := Lib.hid hT
  clear hT
  go_enter Tryd.func12, Tryd.ntmps12
  go_wp2_with fail
  refine (get_lo (c := 2) b1 0 16 (by decide) (by decide) (by decide) (by decide) (by decide) (by decide)).mono ?_
  rintro e w1 ⟨rfl, hB2⟩
  have hS1 := hB1.size
  have hS2 := hB2.size
  have hBB1 := hB1.trans (hB2.mono hS1)
  go_wp2_with fail
  refine (callsIn_wide.1 (seven_in 300 (by decide) w1)).mono ?_
  rintro e w2 ⟨v, rfl, hown, hB3⟩
  have hBB2 := hBB1.trans (hB3.mono (by omega))
  have hS3 := hB3.size
  rw [svB_300] at hown
  obtain ⟨A2, c2, rfl, _, hb2⟩ := Byt.of_own (by decide) hown
  have hconv : (convert 22 9 (.slice A2 2 c2)).run Tryd.prog w2 = .ok (.string ⟨#[172, 2]⟩) w2 := conv_any hb2 c2
  clear hb2 hown
  have b4 : Byt (w2.alloc (.cells #[.int .u8 0, .int .u8 1, .int .u8 242, .int .u8 3] 5)) (w2.heap.size + 1) (some ⟨w2.heap.size, 0, none⟩) [0, 1, 242, 3] := byt_new w2 [0, 1, 242, 3] (by decide)
  have hB4 : Below w.heap.size w2 (w2.alloc (.cells #[.int .u8 0, .int .u8 1, .int .u8 242, .int .u8 3] 5)) := (Below.refl _ _).alloc (by omega) _
  have hBB4 := hBB2.trans hB4
  have hs4 : w2.heap.size + 1 = (w2.alloc (.cells #[.int .u8 0, .int .u8 1, .int .u8 242, .int .u8 3] 5)).heap.size := by simp
  obtain ⟨C9, hC9⟩ : ∃ C9 : Array Value, C9 = #[.int .u8 49, .int .u8 50, .int .u8 51, .int .u8 52, .int .u8 53, .int .u8 54, .int .u8 55, .int .u8 56, .int .u8 57] := ⟨_, rfl⟩
  have kc := Joins.run_convert_bytes_const_at (P := Tryd.prog) (w2.alloc (.cells #[.int .u8 0, .int .u8 1, .int .u8 242, .int .u8 3] 5)) 22 5 C9 9 9 (w2.heap.size + 1) hs4 Tryd.underlying22 Tryd.underlying5
  have b9 : Byt ((w2.alloc (.cells #[.int .u8 0, .int .u8 1, .int .u8 242, .int .u8 3] 5)).alloc (.cells C9 5 (C9.size, C9.size + 1))) (w2.heap.size + 1 + 1) (some ⟨w2.heap.size + 1, 0, none⟩) [49, 50, 51, 52, 53, 54, 55, 56, 57] := by
    rw [hC9]; exact byt_new _ [49, 50, 51, 52, 53, 54, 55, 56, 57] (by decide) _ _ hs4
  have hBB9 := hBB4.trans ((Below.refl _ _).alloc (by rw [← hs4]; omega) (.cells C9 5 (C9.size, C9.size + 1)))
  rw [hC9] at kc b9 hBB9
  clear hC9
  have HT9 := Lib.hid (HT.out.below hBB9 h0)
  have HBB := Lib.hid hBB9
  have HB4 := Lib.hid b4
  have HB9 := Lib.hid b9
  clear hBB4 b4 hB4 hBB2 hBB1 hB1 hB2 hB3 b1 b9 hBB9 hs4
  go_wp2_with fail
  refine (sum_any (c := 4) HB4.out (by decide)).mono ?_
  rintro e w3 ⟨rfl, rfl⟩
  go_wp2_with fail
  refine (crc_any (c := 9) HT9.out HB9.out (by decide)).mono ?_
  rintro e w3 ⟨rfl, rfl⟩
  go_wp2
  go_ret
  exact ⟨rfl, HBB.out⟩
#print axioms known_any
end Go.Proofs.YtbgkkaecpmgnoaaDoor
