/- FilePacks: what was packed is unpacked to the same, and is not too long. -/
import Derived.Test.YtghdilmlfficlaaPack
import Derived.Test.YtghdilmlfficlaaRefUn
import Derived.Test.YtghdilmlfficlaaKnown2
import Derived.Test.YtghdilmlfficlaaLawUn
namespace Go.Proofs.Ytghdilmlfficlaa
open Go.RowKit

theorem sv_last (n : Nat) (h : n < 128) : (S1.svB n).length = 1 := by unfold S1.svB; rw [S1.prt_last n (by omega)]; rfl
theorem sv_more (n : Nat) (h : 128 ≤ n) : (S1.svB n).length = (S1.svB (n / 128)).length + 1 := by unfold S1.svB; rw [S1.prt_more n (by omega)]; simp
theorem unpackR_pack {b out : List Nat} (h : PackOk b out) (hb : b.length ≤ 131072) : unpackR out = (b, 0) ∧ out.length ≤ b.length + (b.length + 127) / 128 + (S1.svB b.length).length := by
  obtain ⟨body, rfl, hd, hl, hlt⟩ := h
  obtain ⟨t, h1, h2, h3, h4, h5⟩ := S1.svB_ends body b.length
  have h7 := S1.svB_len b.length (by omega)
  have hE : S1.Ends (S1.svB b.length ++ body) t := ⟨by rw [List.length_append]; omega, by omega, h2, h3⟩
  have hO : S1.unsOk (S1.svB b.length ++ body) t := ⟨by rw [h4]; omega, by
    rcases Nat.eq_zero_or_pos b.length with h0 | h0
    · left
      have := sv_last b.length (by omega)
      omega
    · exact Or.inr (h5 h0)⟩
  refine ⟨?_, by rw [List.length_append]; omega⟩
  have hu := unsV_some hE hO
  rw [h4] at hu
  have hdr : (S1.svB b.length ++ body).drop (t + 1) = body := by
    rw [← h1]; simp
  have hrun := hd []
  rw [List.append_nil, List.take_length] at hrun
  unfold unpackR
  rw [if_neg (by rw [List.length_append]; omega), hu]
  dsimp only
  rw [if_neg (by omega), hdr, hrun]
  rw [show ([] : List Nat).length + 1 = 1 from rfl, runU_end, if_pos rfl]

set_option maxRecDepth 100000 in
set_option maxHeartbeats 4000000 in
theorem pack_big {w : World} {A : Option Addr} {L c : Nat} (h : 131072 < L) :
    Calls Try.prog 39 #[.slice A L c] w fun e w' => e = .returned (.tuple #[.slice none 0 0, .int .i64 3]) ∧ w' = w := by
  have hd1 : decide ((131072 : Int) < (L : Int)) = true := decide_eq_true (by omega)
  go_enter Try.func39, Try.ntmps39
  go_wp2
  go_ret2
  exact ⟨rfl, rfl⟩

set_option maxRecDepth 100000 in
set_option maxHeartbeats 8000000 in
theorem lawPk_any {w : World} {A : Option Addr} {c : Nat} {b : List Nat} (hb : Byt w w.heap.size A b) (hc : b.length ≤ c) :
    Calls Try.prog 11 #[.slice A b.length c] w fun e w' => e = .returned (.bool true) ∧ Below w.heap.size w w' := by
  obtain ⟨L, hL⟩ : ∃ L, b.length = L := ⟨_, rfl⟩
  by_cases h1 : 400000 < L
  · have hd1 : decide ((400000 : Int) < (L : Int)) = true := decide_eq_true (by omega)
    have HK := Lib.hid (known_any w)
    rw [hL]
    clear hb hc hL h1
    go_enter Try.func11, Try.ntmps11
    go_wp2_with fail
    with_reducible refine HK.out.mono ?_
    rintro e w1 ⟨rfl, hb1⟩
    have HB1 := Lib.hid hb1
    clear hb1
    go_wp2
    go_ret
    exact ⟨rfl, HB1.out⟩
  · have hd1 : decide ((400000 : Int) < (L : Int)) = false := decide_eq_false (by omega)
    by_cases h2 : 131072 < L
    · have hd2 : decide ((131072 : Int) < (L : Int)) = true := decide_eq_true (by omega)
      have HP := Lib.hid (pack_big (w := w) (A := A) (c := c) h2)
      have HK := Lib.hid (known_any w)
      rw [hL]
      clear hb hc hL h1 h2
      go_enter Try.func11, Try.ntmps11
      go_wp2_with fail
      with_reducible refine HP.out.mono ?_
      rintro e w1 ⟨rfl, rfl⟩
      go_wp2_with fail
      with_reducible refine HK.out.mono ?_
      rintro e w2 ⟨rfl, hb2⟩
      have HB2 := Lib.hid hb2
      clear hb2
      go_wp2
      go_ret
      exact ⟨rfl, HB2.out⟩
    · have hd2 : decide ((131072 : Int) < (L : Int)) = false := decide_eq_false (by omega)
      have HP := Lib.hid (pack_any (w := w) hb hc (by omega))
      have HBB := Lib.hid hb
      have HC := Lib.hid hc
      have HLL := Lib.hid hL
      have hL4 : L ≤ 131072 := by omega
      rw [hL] at HP ⊢
      clear hb hc hL h1 h2
      obtain ⟨B, hB⟩ : ∃ B, w.heap.size = B := ⟨_, rfl⟩
      have HBS := Lib.hid hB
      rw [hB]
      clear hB
      go_enter Try.func11, Try.ntmps11
      go_wp2_with fail
      with_reducible refine HP.out.mono ?_
      rintro e w1 ⟨out, A1, c1, rfl, hok, ho1, hb1⟩
      obtain ⟨hur, hle⟩ := unpackR_pack hok (by rw [HLL.out]; exact hL4)
      have hlt : ∀ x ∈ out, x < 256 := by obtain ⟨_, _, _, _, h⟩ := hok; exact h
      obtain ⟨_, c1', e1, hcc, _⟩ := own_form2 ho1
      injection e1 with e1 e2 e3
      have hs7 := S1.svB_len L (by omega)
      rw [HLL.out] at hle
      have hR := runp_any (w := w1) (A := A1) (c := c1) (byt_own hlt ho1) (by omega) (by omega)
      rw [hur] at hR
      have HR := Lib.hid hR
      have HB1 := Lib.hid hb1
      obtain ⟨sl, hsl⟩ : ∃ sl, (S1.svB L).length = sl := ⟨_, rfl⟩
      obtain ⟨ol, hol⟩ : ∃ ol, out.length = ol := ⟨_, rfl⟩
      rw [hol] at HR hle ⊢
      rw [hsl] at hle hs7
      have HSL := Lib.hid hsl
      have HLE := Lib.hid hle
      clear e1 e2 e3 hcc hlt hok hur ho1 hb1 hR hol hsl hle
      go_wp2_with fail
      with_reducible refine HR.out.mono ?_
      rintro e w2 ⟨A2, c2, rfl, ho2, hlt2, hb2⟩
      dsimp only at ho2 hlt2
      have HY2 := Lib.hid (unp_conv (r := (b, 0)) ho2 hlt2)
      have HB2 : Hid (Below B w w2) := Lib.hid (by
        have h := HB1.out
        rw [← HBS.out]
        exact h.trans (hb2.mono h.size))
      clear ho2 hlt2 hb2 HR HP
      dsimp only
      rw [HLL.out]
      go_wp2
      go_loopw [7, 8] (fun t7 t8 wr => ∃ k n : Nat, t7 = .int .i64 k ∧ t8 = .int .i64 n ∧ n ≤ 131072 ∧ k ≤ 100 ∧ wr = w2 ∧ Hid (k + (S1.svB n).length = sl + 1)) (fun _ t8 _ => (intOf t8).toNat)
      case atStart => exact ⟨1, L, rfl, rfl, hL4, by omega, rfl, Lib.hid (by rw [HSL.out]; omega)⟩
      case round =>
        obtain ⟨k, n, rfl, rfl, hn, hk, rfl, HKN⟩ := hrel
        by_cases h128 : 128 ≤ n
        · have hdn : decide ((128 : Int) ≤ (n : Int)) = true := decide_eq_true (by omega)
          have hmore := sv_more n h128
          have hk8 : k ≤ 8 := by have := HKN.out; omega
          have hw1 : IntKind.i64.wrap ((k : Int) + 1) = ((k + 1 : Nat) : Int) := by rw [IntKind.wrap_i64]; omega
          have HKN2 : Hid (k + 1 + (S1.svB (n / 128)).length = sl + 1) := Lib.hid (by have := HKN.out; omega)
          clear hmore
          go_wp2
          go_roundw
          case rel => exact ⟨k + 1, n / 128, by go_num, by go_num, by omega, by omega, by first | rfl | trivial, HKN2⟩
          case measure => simp [intOf]; omega
        · have hdn : decide ((128 : Int) ≤ (n : Int)) = false := decide_eq_false (by omega)
          have hksl : k = sl := by have := HKN.out; have := sv_last n (by omega); omega
          have hy1 : S1.Byt wr wr.heap.size A b := by
            have h := (HBB.out.below (by rw [HBS.out]; exact HB2.out)).more (w := wr) (by have := HB2.out.size; rw [HBS.out] at this ⊢; exact this)
            exact s1byt h
          obtain ⟨S, hS⟩ : ∃ S, S1.strB b = S := ⟨_, rfl⟩
          have v1 := S1.conv_any hy1 c
          have v2 := S1.conv_any HY2.out c2
          rw [hS, HLL.out] at v1 v2
          have HK := Lib.hid (known_any wr)
          have hole : (ol : Int) ≤ (L : Int) + ((L : Int) + 127) / 128 + (k : Int) := by have := HLE.out; omega
          clear hksl hS hy1
          go_wp2_with fail
          with_reducible refine HK.out.mono ?_
          rintro e w3 ⟨rfl, hb3⟩
          have HB3 : Hid (Below B w w3) := Lib.hid (HB2.out.trans (hb3.mono (by have := HB2.out.size; rw [HBS.out] at this; exact this)))
          clear hb3
          go_wp2
          go_ret
          exact ⟨rfl, HB3.out⟩
end Go.Proofs.Ytghdilmlfficlaa
