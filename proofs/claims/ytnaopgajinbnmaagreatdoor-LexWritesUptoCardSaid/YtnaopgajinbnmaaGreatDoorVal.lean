/- valueOf: the number of digits; what the package variables hold. -/
import Derived.Test.YtnaopgajinbnmaaGreatDoorPuA
import Derived.Test.YtnaopgajinbnmaaGreatDoorPuB
import Derived.Test.YtnaopgajinbnmaaGreatDoorPuC
import Derived.Test.YtnaopgajinbnmaaGreatDoorPuD
import Derived.Test.YtnaopgajinbnmaaGreatDoorShelf
import Derived.Lib.SplitLaws
import Derived.Lib.IndexBytes
namespace Go.Proofs.YtnaopgajinbnmaaGreatDoor
open Go.RowKit

/-- What the package variables hold that the program reads. -/
structure Laid (w : World) : Prop where
  tab : Tab w
  syn : ∃ t p, w.cell? ⟨2, 0, none⟩ = some (.iface t p)
  rng : ∃ t p, w.cell? ⟨3, 0, none⟩ = some (.iface t p)
  most : ∃ m : Int, w.cell? ⟨6, 0, none⟩ = some (.int .i64 m)
  pow : Lib.TabIs Tryz.prog w "internal/strconv.uint64pow10" .u64 Lib.pow10Tab
  lt : 7 ≤ w.heap.size
theorem pow_below {n : String} {g : Nat} {k : IntKind} {zs : List Int} {w w' : World} (hg : Tryz.prog.globalNamed n = some g) (h : Lib.TabIs Tryz.prog w n k zs) (hb : Below w.heap.size w w') : Lib.TabIs Tryz.prog w' n k zs := by
  unfold Lib.TabIs World.var? at h ⊢
  rw [hg] at h ⊢
  simp only [Option.bind_some] at h ⊢
  have hlt : g < w.heap.size := by
    rcases Nat.lt_or_ge g w.heap.size with h' | h'
    · exact h'
    · rw [Array.getElem?_eq_none h'] at h; cases h
  rw [hb.block g hlt]
  exact h
theorem gPow : Tryz.prog.globalNamed "internal/strconv.uint64pow10" = some 1 := by kernel_rfl
theorem Laid.below {w w' : World} (h : Laid w) (hb : Below w.heap.size w w') : Laid w' := by
  have hl := h.lt
  have key : ∀ b o, b < 7 → w'.cell? ⟨b, o, none⟩ = w.cell? ⟨b, o, none⟩ := fun b o hlt => hb.cell (p := ⟨b, o, none⟩) (by show b < _; omega)
  refine ⟨fun j hj => (key 0 j (by omega)).trans (h.tab j hj), ?_, ?_, ?_, ?_, Nat.le_trans hl hb.size⟩
  · obtain ⟨t, p, hc⟩ := h.syn; exact ⟨t, p, (key 2 0 (by omega)).trans hc⟩
  · obtain ⟨t, p, hc⟩ := h.rng; exact ⟨t, p, (key 3 0 (by omega)).trans hc⟩
  · obtain ⟨m, hc⟩ := h.most; exact ⟨m, (key 6 0 (by omega)).trans hc⟩
  · exact pow_below gPow h.pow hb

/-- The sizes that numbers are read at. -/
def Sz (base bits : Int) (b top : Nat) : Prop :=
  (base = 10 ∧ b = 10 ∧ bits = 48 ∧ top = 281474976710656) ∨ (base = 10 ∧ b = 10 ∧ bits = 8 ∧ top = 256) ∨ (base = 16 ∧ b = 16 ∧ bits = 48 ∧ top = 281474976710656) ∨ (base = 16 ∧ b = 16 ∧ bits = 8 ∧ top = 256)

theorem pu_all {base bits : Int} {b top : Nat} (h : Sz base bits b top) (s : ByteArray) (hmax : s.size ≤ 1048576) (w : World) :
    Calls Tryz.prog 68 #[.string s, .int .i64 base, .int .i64 bits] w fun e w' => PuPost (valP b top (bl s)) e ∧ Below w.heap.size w w' := by
  by_cases h0 : s.size = 0
  · have hs : s = ⟨#[]⟩ := bl_ext (List.eq_nil_of_length_eq_zero (by rw [bl_len]; exact h0))
    subst hs
    refine (pu_empty base bits w).mono ?_
    rintro e w' ⟨he, rfl⟩
    exact ⟨by have : valP b top (bl ⟨#[]⟩) = none := by simp [valP, bl]
              rw [this]; exact he, Below.refl _ _⟩
  · have hne : bl s ≠ [] := fun he => h0 (by rw [← bl_len, he]; rfl)
    rcases h with ⟨rfl, rfl, rfl, rfl⟩ | ⟨rfl, rfl, rfl, rfl⟩ | ⟨rfl, rfl, rfl, rfl⟩ | ⟨rfl, rfl, rfl, rfl⟩
    all_goals rw [valP_eq _ _ (by decide) (by decide) _ hne]
    · exact (pu_10_48 s h0 hmax w).mono fun e w' ⟨h1, h2⟩ => ⟨h1, h2 ▸ Lib.bytesWorld_below _ _ _⟩
    · exact (pu_10_8 s h0 hmax w).mono fun e w' ⟨h1, h2⟩ => ⟨h1, h2 ▸ Lib.bytesWorld_below _ _ _⟩
    · exact (pu_16_48 s h0 hmax w).mono fun e w' ⟨h1, h2⟩ => ⟨h1, h2 ▸ Lib.bytesWorld_below _ _ _⟩
    · exact (pu_16_8 s h0 hmax w).mono fun e w' ⟨h1, h2⟩ => ⟨h1, h2 ▸ Lib.bytesWorld_below _ _ _⟩

/-- What the library's function answers: the number and no error, or an error. -/
def PvPost (r : Option Nat) (e : Ending) : Prop := match r with
  | some v => e = .returned (.tuple #[.int .u64 (v : Int), .nilIface])
  | none => ∃ (x : Int) (p : Value), e = .returned (.tuple #[.int .u64 x, .iface 105 p])
theorem pv_ok {r : Option Nat} {v : Nat} (h : r = some v) : PvPost r (.returned (.tuple #[.int .u64 (v : Int), .nilIface])) := by subst h; rfl
theorem pv_err {r : Option Nat} {x : Int} {p : Value} (h : r = none) : PvPost r (.returned (.tuple #[.int .u64 x, .iface 105 p])) := by subst h; exact ⟨x, p, rfl⟩

set_option maxHeartbeats 4000000 in
set_option maxRecDepth 100000 in
theorem parse_any {base bits : Int} {b top : Nat} (h : Sz base bits b top) (s : ByteArray) (hmax : s.size ≤ 1048576) {w : World} (hL : Laid w) :
    Calls Tryz.prog 61 #[.string s, .int .i64 base, .int .i64 bits] w fun e w' => PvPost (valP b top (bl s)) e ∧ Below w.heap.size w w' := by
  have hI := pu_all h s hmax w
  have HL := Lib.hid hL
  clear hL
  cases hr : valP b top (bl s) with
  | some v =>
    rw [hr] at hI
    go_enter Tryz.func61, Tryz.ntmps61
    go_wp2_with (go_at_call 68; refine hI.mono ?_; rintro e w' ⟨rfl, hb⟩)
    go_ret2
    exact ⟨rfl, hb⟩
  | none =>
    rw [hr] at hI
    clear hr
    go_enter Tryz.func61, Tryz.ntmps61
    go_wp2_with (go_at_call 68; refine hI.mono ?_)
    rintro e w1 ⟨⟨x, k, hk, rfl⟩, hb⟩
    have HL1 := Lib.hid (HL.out.below hb)
    rcases hk with rfl | rfl
    · obtain ⟨t, p, hc⟩ := HL1.out.rng
      go_wp2_with (go_at_call 69; refine (Tryz.strconv_toError_range ⟨#[80, 97, 114, 115, 101, 85, 105, 110, 116]⟩ s base bits _ _ (by omega) hc (.inr ⟨t, p, rfl⟩)).mono ?_)
      rintro e w2 ⟨n, rfl, h1, h2, h3⟩
      go_wp2
      go_ret2
      exact ⟨⟨_, _, rfl⟩, hb.trans (h3.mono hb.size)⟩
    · obtain ⟨t, p, hc⟩ := HL1.out.syn
      go_wp2_with (go_at_call 69; refine (Tryz.strconv_toError_syntax ⟨#[80, 97, 114, 115, 101, 85, 105, 110, 116]⟩ s base bits _ _ (by omega) hc (.inr ⟨t, p, rfl⟩)).mono ?_)
      rintro e w2 ⟨n, rfl, h1, h2, h3⟩
      go_wp2
      go_ret2
      exact ⟨⟨_, _, rfl⟩, hb.trans (h3.mono hb.size)⟩

/-- What valueOf answers. -/
abbrev optV (r : Option Nat) : Value := .tuple #[.int .i64 (r.getD 0 : Nat), .bool r.isSome]

set_option maxHeartbeats 4000000 in
theorem value_any {base bits : Int} {b top : Nat} (h : Sz base bits b top) (s : ByteArray) (hmax : s.size ≤ 1048576) {w : World} (hL : Laid w) :
    Calls Tryz.prog 52 #[.string s, .int .i64 base, .int .i64 bits] w fun e w' => e = .returned (optV (valP b top (bl s))) ∧ Below w.heap.size w w' := by
  have hI := parse_any h s hmax hL
  clear hL
  cases hr : valP b top (bl s) with
  | some v =>
    have hv : v < 281474976710656 := by
      have := valP_lt hr
      rcases h with ⟨_, _, _, h⟩ | ⟨_, _, _, h⟩ | ⟨_, _, _, h⟩ | ⟨_, _, _, h⟩ <;> omega
    rw [hr] at hI
    clear hr
    go_enter Tryz.func52, Tryz.ntmps52
    go_wp2_with (go_at_call 61; refine hI.mono ?_; rintro e w' ⟨rfl, hb⟩)
    go_ret2
    exact ⟨rfl, hb⟩
  | none =>
    rw [hr] at hI
    clear hr
    go_enter Tryz.func52, Tryz.ntmps52
    go_wp2_with (go_at_call 61; refine hI.mono ?_)
    rintro e w1 ⟨⟨x, p, rfl⟩, hb⟩
    go_wp2
    go_ret2
    exact ⟨rfl, hb⟩

theorem splitK_eq (l : List UInt8) : Lib.splitK [46] 0 (Lib.count l [46]) l = splitD l := by
  induction l with
  | nil => rfl
  | cons b r ih =>
    rw [Lib.count_one] at ih ⊢
    by_cases hb : b = 46
    · subst hb
      have hc : (46 :: r).count (46 : UInt8) = r.count 46 + 1 := by simp
      have hi : Lib.index (46 :: r) [46] = 0 := by rw [Lib.index_one]; simp [Lib.indexByte]
      rw [hc, Lib.splitK, hi, splitD]
      simp [ih]
    · have hc : (b :: r).count (46 : UInt8) = r.count 46 := by rw [List.count_cons]; simp [hb]
      have hi : Lib.index (b :: r) [46] = if Lib.index r [46] == -1 then -1 else Lib.index r [46] + 1 := by
        rw [Lib.index_one, Lib.index_one, Lib.indexByte]; simp [hb]
      have hb2 : ¬ b.toNat = 46 := fun h => hb (UInt8.toNat_inj.1 (by rw [h]; rfl))
      have hsD : splitD (b :: r) = match splitD r with | [] => [[b]] | p :: q => (b :: p) :: q := by rw [splitD]; simp [hb2]; cases splitD r <;> rfl
      rw [hc, hsD, ← ih]
      cases hk : r.count (46 : UInt8) with
      | zero => simp [Lib.splitK]
      | succ k =>
        rw [Lib.splitK, Lib.splitK, hi]
        by_cases hm : Lib.index r [46] = -1
        · simp [hm]
        · have hg := Lib.index_ge r [46]
          obtain ⟨i, hi2⟩ : ∃ i : Nat, Lib.index r [46] = i := ⟨(Lib.index r [46]).toNat, by omega⟩
          rw [hi2] at hm ⊢
          have hne : ¬ ((i : Int) + 1 = -1) := by omega
          have hne2 : ¬ ((i : Int) = -1) := by omega
          have ht : ((i : Int) + 1).toNat = i + 1 := by omega
          simp [hne, hne2, ht]
end Go.Proofs.YtnaopgajinbnmaaGreatDoor
