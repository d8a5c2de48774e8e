/- A part of packed bytes. -/
import Derived.Test.YtghdilmlfficlaaMerge
namespace Go.Proofs.Ytghdilmlfficlaa
open Go.RowKit

/-- m bytes more, each that which stands as far back. -/
def repU (out : List Nat) (fr : Nat) : Nat → List Nat
  | 0 => out
  | m + 1 => repU out fr m ++ [at8 (repU out fr m) (fr + m)]
theorem repU_len (out : List Nat) (fr : Nat) : ∀ m, (repU out fr m).length = out.length + m
  | 0 => rfl
  | m + 1 => by rw [repU, List.length_append, repU_len out fr m]; rfl
theorem repU_lt {out : List Nat} {fr : Nat} (h : ∀ x ∈ out, x < 256) : ∀ m, ∀ x ∈ repU out fr m, x < 256
  | 0 => h
  | m + 1 => by
    intro x hx
    rw [repU] at hx
    rcases List.mem_append.1 hx with hx | hx
    · exact repU_lt h m x hx
    · rw [List.mem_singleton] at hx; subst hx; exact at8_lt (repU_lt h m) _
/-- What a part makes of the bytes before it, and how many bytes it has. -/
def partU (out b : List Nat) : Option (List Nat × Nat) :=
  if at8 b 0 < 128 then (if at8 b 0 + 2 ≤ b.length then some (out ++ (b.drop 1).take (at8 b 0 + 1), at8 b 0 + 2) else none)
  else if b.length < 3 then none
  else if at8 b 1 * 256 + at8 b 2 = 0 ∨ out.length < at8 b 1 * 256 + at8 b 2 then none
  else some (repU out (out.length - (at8 b 1 * 256 + at8 b 2)) (at8 b 0 - 125), 3)
theorem byt_sub {w : World} {B bb ob m : Nat} {b : List Nat} (h : Byt w B (some ⟨bb, ob, none⟩) b) (h0 : 0 < b.length) (hm : m + 1 ≤ b.length) : Byt w B (some ⟨bb, ob + 1, none⟩) ((b.drop 1).take m) := by
  refine ⟨fun x hx => h.lt x (List.mem_of_mem_drop (List.mem_of_mem_take hx)), fun hn => ?_⟩
  obtain ⟨b', o', e, hb, hc⟩ := h.cells h0
  injection e with e
  injection e with e1 e2
  subst e1; subst e2
  refine ⟨bb, ob + 1, rfl, hb, fun k hk => ?_⟩
  have hk2 : k < m := by rw [List.length_take] at hk; omega
  have hc' := hc (k + 1) (by omega)
  have e : at8 ((b.drop 1).take m) k = at8 b (k + 1) := by
    unfold at8
    rw [List.getElem?_take_of_lt hk2, List.getElem?_drop, Nat.add_comm]
  rw [e, show ob + 1 + k = ob + (k + 1) by omega]
  exact hc'
/-- What addPart leaves. -/
def PartP (w : World) (base : Nat) (r : Option (List Nat × Nat)) (e : Ending) (w' : World) : Prop :=
  match r with
  | none => e = .returned (.tuple #[.slice none 0 0, .int .i64 0]) ∧ Below base w w'
  | some (o, u) => ∃ A c, e = .returned (.tuple #[.slice A o.length c, .int .i64 u]) ∧ w'.ownsRow base 5 1 (.slice A o.length c) o.length (o.map u8) ∧ Below base w w'

set_option maxRecDepth 100000 in
set_option maxHeartbeats 4000000 in
theorem part_any {w : World} {base co c : Nat} {Ao A : Option Addr} {out b : List Nat} (ho : w.ownsRow base 5 1 (.slice Ao out.length co) out.length (out.map u8)) (hlo : ∀ x ∈ out, x < 256) (hb : Byt w base A b) (hc : b.length ≤ c) (h0 : 0 < b.length) (hbase : base ≤ w.heap.size) (hol : out.length ≤ 200000) (hbl : b.length ≤ 300000) :
    Calls Try.prog 82 #[.slice Ao out.length co, .slice A b.length c] w (PartP w base (partU out b)) := by
  obtain ⟨bb, ob, hA, hbb, hcell⟩ := hb.cells h0
  subst hA
  have c0 : w.cell? ⟨bb, ob, none⟩ = some (.int .u8 (at8 b 0 : Nat)) := by have := hcell 0 h0; simpa using this
  have hx0 := at8_lt hb.lt 0
  obtain ⟨n, hn⟩ : ∃ n, at8 b 0 = n := ⟨_, rfl⟩
  obtain ⟨L, hL⟩ : ∃ L, b.length = L := ⟨_, rfl⟩
  rw [hn] at c0 hx0
  have HLL := Lib.hid hL
  have HNN := Lib.hid hn
  have HO := Lib.hid ho
  have HB := Lib.hid hb
  have HC := Lib.hid hcell
  have HLO := Lib.hid hlo
  have HOF := Lib.hid (own_bounds ho)
  by_cases h1 : n < 128
  · by_cases h2 : n + 2 ≤ L
    · have HR : Hid (partU out b = some (out ++ (b.drop 1).take (n + 1), n + 2)) := Lib.hid (by unfold partU; rw [hn, hL, if_pos h1, if_pos h2])
      have hbt : Byt w base (some ⟨bb, ob + 1, none⟩) ((b.drop 1).take (n + 1)) := byt_sub hb h0 (by omega)
      have hll : ((b.drop 1).take (n + 1)).length = n + 1 := by rw [List.length_take, List.length_drop]; omega
      obtain ⟨v7, w7, hrun, happ⟩ := run_own_byt w base _ out ho (c - 1) hbt (by omega) (by omega) hbase
      rw [hll] at hrun
      have HAP := Lib.hid happ
      obtain ⟨A7, c7, rfl⟩ : ∃ A7 c7, v7 = .slice A7 (out ++ (b.drop 1).take (n + 1)).length c7 := by
        rcases happ.own.2 with ⟨e, h0'⟩ | ⟨g, cap, _, e, _⟩
        · rw [h0']; exact ⟨none, 0, e⟩
        · exact ⟨_, _, e⟩
      have HBW : Hid (Below base w w7) := Lib.hid ((Below.refl _ _).grown happ.grown hbase (fun j hj => (ho.lt _ hj).1))
      obtain ⟨nl, hnl⟩ : ∃ nl, (out ++ (b.drop 1).take (n + 1)).length = nl := ⟨_, rfl⟩
      have HNL := Lib.hid hnl
      rw [hnl] at hrun
      rw [hL] at hc h0 hbl ⊢
      have hd1 : decide ((n : Int) < 128) = true := decide_eq_true (by omega)
      have hd2 : decide ((L : Int) < (n : Int) + 2) = false := decide_eq_false (by omega)
      have hc1 : ¬ c = 1 := by omega
      have hh1 : (1 : Int) ≤ (n : Int) + 2 := by omega
      have hh2 : (n : Int) + 2 ≤ (c : Int) := by omega
      have ht2 : ((n : Int) + 2).toNat = n + 2 := by omega
      clear ho hb hcell hlo hn hL HO HB HC HLO h1 h2 happ hbt hll hnl
      go_enter Try.func82, Try.ntmps82
      go_wp2_with (at_builtin; refine Lib.wpList_append_run _ rfl _ _ _ _ rfl _ _ rfl rfl _ _ hrun ?_)
      go_ret2
      rw [HR.out]
      exact ⟨A7, c7, by rw [HNL.out]; rfl, HAP.out.own, HBW.out⟩
    · have HR : Hid (partU out b = none) := Lib.hid (by unfold partU; rw [hn, hL, if_pos h1, if_neg h2])
      rw [hL] at hc h0 hbl ⊢
      have hd1 : decide ((n : Int) < 128) = true := decide_eq_true (by omega)
      have hd2 : decide ((L : Int) < (n : Int) + 2) = true := decide_eq_true (by omega)
      clear ho hb hcell hlo hn hL HO HB HC HLO h1 h2
      go_enter Try.func82, Try.ntmps82
      go_wp2
      go_ret2
      rw [HR.out]
      exact ⟨rfl, Below.refl _ _⟩
  · by_cases h2 : L < 3
    · have HR : Hid (partU out b = none) := Lib.hid (by unfold partU; rw [hn, hL, if_neg h1, if_pos h2])
      rw [hL] at hc h0 hbl ⊢
      have hd1 : decide ((n : Int) < 128) = false := decide_eq_false (by omega)
      have hd2 : decide ((L : Int) < 3) = true := decide_eq_true (by omega)
      clear ho hb hcell hlo hn hL HO HB HC HLO h1 h2
      go_enter Try.func82, Try.ntmps82
      go_wp2
      go_ret2
      rw [HR.out]
      exact ⟨rfl, Below.refl _ _⟩
    · have c1 : w.cell? ⟨bb, ob + 1, none⟩ = some (.int .u8 (at8 b 1 : Nat)) := hcell 1 (by omega)
      have c2 : w.cell? ⟨bb, ob + 2, none⟩ = some (.int .u8 (at8 b 2 : Nat)) := hcell 2 (by omega)
      have hx1 := at8_lt hb.lt 1
      have hx2 := at8_lt hb.lt 2
      obtain ⟨X, hX⟩ : ∃ X, at8 b 1 = X := ⟨_, rfl⟩
      obtain ⟨Y, hY⟩ : ∃ Y, at8 b 2 = Y := ⟨_, rfl⟩
      have HPU : Hid (partU out b = if X * 256 + Y = 0 ∨ out.length < X * 256 + Y then none else some (repU out (out.length - (X * 256 + Y)) (n - 125), 3)) := Lib.hid (by unfold partU; rw [hn, hL, if_neg h1, if_neg h2, hX, hY])
      rw [hX] at c1 hx1
      rw [hY] at c2 hx2
      rw [hL] at hc h0 hbl ⊢
      have hd1 : decide ((n : Int) < 128) = false := decide_eq_false (by omega)
      have hd2 : decide ((L : Int) < 3) = false := decide_eq_false (by omega)
      have hL3 : 3 ≤ L := by omega
      obtain ⟨l, hl⟩ : ∃ l, out.length = l := ⟨_, rfl⟩
      have HLE := Lib.hid hl
      rw [hl] at hol HPU ⊢
      obtain ⟨S, hS⟩ : ∃ S : Nat, X * 256 = S := ⟨_, rfl⟩
      have hsh : Op.shift .shl .i64 (X : Int) .u64 8 = pure (.int .i64 (S : Int)) := by
        rw [shift_shl .i64 .u64 X 8 (by omega) (by simp [IntKind.bits])]
        have : IntKind.i64.wrap ((X : Int) * 2 ^ (8 : Int).toNat) = (S : Int) := by rw [IntKind.wrap_i64]; simp; omega
        rw [this]
      have hs0 : S ≤ 65280 := by omega
      have hw1 : IntKind.i64.wrap ((l : Int) - (S : Int)) = (l : Int) - (S : Int) := by rw [IntKind.wrap_i64]; omega
      have hw2 : IntKind.i64.wrap ((l : Int) - (S : Int) - (Y : Int)) = (l : Int) - (S : Int) - (Y : Int) := by rw [IntKind.wrap_i64]; omega
      have HSX := Lib.hid hS
      by_cases h3 : X * 256 + Y = 0 ∨ l < X * 256 + Y
      · have HR : Hid (partU out b = none) := Lib.hid (by rw [HPU.out, if_pos h3])
        obtain ⟨fr, hfr⟩ : ∃ fr : Int, (l : Int) - (S : Int) - (Y : Int) = fr := ⟨_, rfl⟩
        have hor : fr < 0 ∨ fr = l := by omega
        clear ho hb hcell hlo hn hL HO HB HC HLO h1 h2 hX hY HPU hS hl h3
        rcases hor with hlt | heq
        · have hd3 : decide (fr < 0) = true := decide_eq_true hlt
          go_enter Try.func82, Try.ntmps82
          go_wp2
          go_quiet (fail)
          go_wp2
          go_ret2
          rw [HR.out]
          exact ⟨rfl, below_drewN (Below.refl _ _) _⟩
        · have hd3 : decide (fr < 0) = false := decide_eq_false (by omega)
          have hd4 : (fr == (l : Int)) = true := by simpa using heq
          clear heq
          go_enter Try.func82, Try.ntmps82
          go_wp2
          go_quiet (fail)
          go_wp2
          go_ret2
          rw [HR.out]
          exact ⟨rfl, below_drewN (Below.refl _ _) _⟩
      · obtain ⟨F, hF⟩ : ∃ F : Nat, (l : Int) - (S : Int) - (Y : Int) = F := ⟨l - (X * 256 + Y), by omega⟩
        have hFl : F < l := by omega
        have HR : Hid (partU out b = some (repU out F (n - 125), 3)) := Lib.hid (by rw [HPU.out, if_neg h3, show l - (X * 256 + Y) = F by omega])
        have hd3 : decide ((F : Int) < 0) = false := decide_eq_false (by omega)
        have hd4 : ((F : Int) == (l : Int)) = false := by simp; omega
        have hn128 : 128 ≤ n := by omega
        clear hb hcell hlo hn hL HB HC h1 h2 hX hY HPU hS hl h3 ho
        go_enter Try.func82, Try.ntmps82
        go_wp2
        go_quiet (fail)
        go_wp2
        go_loopw [0, 9, 54] (fun t _ i wr => ∃ (m : Nat) (A' : Option Addr) (c' : Nat), i = .int .i64 m ∧ t = .slice A' (l + m) c' ∧ m ≤ n - 125 ∧ Hid (wr.ownsRow base 5 1 (.slice A' (l + m) c') (l + m) ((repU out F m).map u8)) ∧ Hid (Below base w wr)) (fun _ _ i _ => n - 125 - (intOf i).toNat)
        case atStart => exact ⟨0, Ao, co, rfl, rfl, Nat.zero_le _, Lib.hid (by have h := HO.out; rw [HLE.out] at h; exact h), Lib.hid (below_drewN (Below.refl _ _) _)⟩
        case round =>
          obtain ⟨m, A', c', rfl, rfl, hm, HOW, HBW⟩ := hrel
          by_cases hlt : m < n - 125
          · have hrl : (repU out F m).length = l + m := by rw [repU_len, HLE.out]
            have hby : Byt wr wr.heap.size A' (repU out F m) := byt_own (c := c') (repU_lt HLO.out m) (by rw [hrl]; exact HOW.out)
            obtain ⟨g, o, rfl, hg, hc'⟩ := hby.cells (by omega)
            have cx := hc' (F + m) (by omega)
            obtain ⟨x, hx⟩ : ∃ x, at8 (repU out F m) (F + m) = x := ⟨_, rfl⟩
            have HXX := Lib.hid hx
            rw [hx] at cx
            have hsz := HBW.out.size
            have hbw : base ≤ wr.heap.size := by omega
            obtain ⟨v7, w7, hrun, ho7, hg7, _⟩ := run_own_struct wr base 5 1 1 48 _ Try.underlying48 info5 (by rfl) (by decide) _ _ _ HOW.out [.int .u8 (x : Int)] rfl (by
              intro u hu; simp only [List.mem_cons, List.not_mem_nil, or_false] at hu; rcases hu with rfl; rfl) (by unfold maxLen; omega) (by omega) hbw
            obtain ⟨A7, c7, rfl⟩ : ∃ A c, v7 = .slice A (l + m + 1) c := by
              rcases ho7.2 with ⟨e, h0⟩ | ⟨g, cap, _, e, _⟩
              · omega
              · exact ⟨_, _, e⟩
            have HO7 : Hid (w7.ownsRow base 5 1 (.slice A7 (l + m + 1) c7) (l + m + 1) ((repU out F (m + 1)).map u8)) := Lib.hid (by
              rw [repU, List.map_append, HXX.out]
              exact ho7)
            have HB7 : Hid (Below base w w7) := Lib.hid ((HBW.out.alloc hbw _).grown hg7 (by rw [alloc_size]; omega) (fun j hj => (HOW.out.lt _ hj).1))
            have hti : ((F : Int) + (m : Int)).toNat = F + m := by omega
            have hfm : (F : Int) + (m : Int) < ((l + m : Nat) : Int) := by omega
            have hfm0 : (0 : Int) ≤ (F : Int) + (m : Int) := by omega
            clear hby hc' hx ho7 hg7 hrl HOW HBW
            go_wp2_with (at_builtin; refine Lib.wpList_append_run _ rfl _ _ _ _ rfl _ _ rfl rfl _ _ hrun ?_)
            go_roundw
            case rel => exact ⟨m + 1, A7, c7, by go_num, rfl, by omega, HO7, HB7⟩
            case measure => simp [intOf]; omega
          · have hme : m = n - 125 := by omega
            have HRL : Hid ((repU out F (n - 125)).length = l + (n - 125)) := Lib.hid (by rw [repU_len, HLE.out])
            subst hme
            go_wp2
            go_ret2
            rw [HR.out]
            exact ⟨A', c', by rw [HRL.out]; rfl, by rw [HRL.out]; exact HOW.out, HBW.out⟩
end Go.Proofs.Ytghdilmlfficlaa
