/- FileUnpacks: the two agree. -/
import Derived.Test.YtghdilmlfficlaaRefUn
import Derived.Test.YtghdilmlfficlaaKnown2
namespace Go.Proofs.Ytghdilmlfficlaa
open Go.RowKit

theorem unp_conv {w w' : World} {r : List Nat × Int} {A : Option Addr} {c : Nat} (ho : w'.ownsRow w.heap.size 5 1 (.slice A r.1.length c) r.1.length (r.1.map u8)) (hlt : ∀ x ∈ r.1, x < 256) :
    S1.Byt w' w'.heap.size A r.1 := by
  obtain ⟨A', c', hv, hcc, hB⟩ := S1.Byt.of_own hlt ho
  injection hv with e1 e2 e3
  subst e1; subst e3
  exact hB

set_option maxRecDepth 100000 in
set_option maxHeartbeats 8000000 in
theorem lawUn_any {w : World} {A : Option Addr} {c : Nat} {b : List Nat} (hb : Byt w w.heap.size A b) (hc : b.length ≤ c) :
    Calls Try.prog 10 #[.slice A b.length c] w fun e w' => e = .returned (.bool true) ∧ Below w.heap.size w w' := by
  obtain ⟨L, hL⟩ : ∃ L, b.length = L := ⟨_, rfl⟩
  by_cases h1 : 400000 < L
  · have hd1 : decide ((400000 : Int) < (L : Int)) = true := decide_eq_true (by omega)
    have HK := Lib.hid (known_any w)
    rw [hL]
    clear hb hc hL h1
    go_enter Try.func10, Try.ntmps10
    go_wp2_with fail
    with_reducible refine HK.out.mono ?_
    rintro e w1 ⟨rfl, hb1⟩
    have HB1 := Lib.hid hb1
    clear hb1
    go_wp2
    go_ret
    exact ⟨rfl, HB1.out⟩
  · have hd1 : decide ((400000 : Int) < (L : Int)) = false := decide_eq_false (by omega)
    have HU := Lib.hid (unpack_any (w := w) hb hc (by omega))
    have HBB := Lib.hid hb
    have HC := Lib.hid hc
    have HLL := Lib.hid hL
    have hL4 : L ≤ 400000 := by omega
    rw [hL] at HU ⊢
    clear hb hc hL h1
    obtain ⟨B, hB⟩ : ∃ B, w.heap.size = B := ⟨_, rfl⟩
    have HBS := Lib.hid hB
    rw [hB]
    clear hB
    go_enter Try.func10, Try.ntmps10
    go_wp2_with fail
    with_reducible refine HU.out.mono ?_
    rintro e w1 ⟨A1, c1, rfl, ho1, hlt1, hb1⟩
    have hR := runp_any (w := w1) ((HBB.out.below hb1).more hb1.size) HC.out (by rw [HLL.out]; omega)
    rw [HLL.out] at hR
    have HR := Lib.hid hR
    have HY1 := Lib.hid (unp_conv ho1 hlt1)
    have HB1 := Lib.hid hb1
    clear ho1 hlt1 hb1 hR HU
    obtain ⟨r, hr⟩ : ∃ r, unpackR b = r := ⟨_, rfl⟩
    rw [hr] at HR HY1 ⊢
    clear hr
    obtain ⟨o, k⟩ := r
    dsimp only at HR HY1 ⊢
    go_wp2_with fail
    with_reducible refine HR.out.mono ?_
    rintro e w2 ⟨A2, c2, rfl, ho2, hlt2, hb2⟩
    have hy2 := unp_conv ho2 hlt2
    have hy1 : S1.Byt w2 w2.heap.size A1 o := by
      have := HY1.out
      exact ⟨this.lt, ((⟨this.lt, this.cells⟩ : Byt w1 w1.heap.size A1 o).below hb2 |>.more hb2.size).cells⟩
    obtain ⟨S, hS⟩ : ∃ S, S1.strB o = S := ⟨_, rfl⟩
    have v1 := S1.conv_any hy1 c1
    have v2 := S1.conv_any hy2 c2
    dsimp only at v2
    rw [hS] at v1 v2
    have HB2 : Hid (Below B w w2) := Lib.hid (by
      have h := HB1.out
      rw [← HBS.out]
      exact h.trans (hb2.mono h.size))
    have HK := Lib.hid (known_any w2)
    clear hy1 hy2 ho2 hlt2 hb2 hS HR HY1
    dsimp only
    obtain ⟨ol, hol⟩ : ∃ ol, o.length = ol := ⟨_, rfl⟩
    rw [hol] at v1 v2 ⊢
    clear hol
    go_wp2_with fail
    with_reducible refine HK.out.mono ?_
    rintro e w3 ⟨rfl, hb3⟩
    have HB3 : Hid (Below B w w3) := Lib.hid (HB2.out.trans (hb3.mono (by have := HB2.out.size; rw [HBS.out] at this; exact this)))
    clear hb3
    go_wp2
    go_ret
    exact ⟨rfl, HB3.out⟩
end Go.Proofs.Ytghdilmlfficlaa
