/- ParseUint in the base 10 or 16, at 48 or 8 bits: the number that digits stand for. -/
import Derived.Test.YtnaopgajinbnmaaGreatDoorIs
import Derived.Lib.Walk
import Derived.Lib.ConvBytes
import Derived.Lib.ParseIntBMem
import Derived.Laws.Strings3
import Derived.Laws.Closers25
import Derived.Laws.Closers25b
import Derived.BigCall
import Derived.BigGuard
namespace Go.Proofs.YtnaopgajinbnmaaGreatDoor
open Go.RowKit

/-- The number that is gathered, digit by digit. -/
def parseR (base top : Nat) (acc : Nat) : List UInt8 → Option Nat
  | [] => some acc
  | c :: r => if okDig base c then (if acc * base + hexV c < top then parseR base top (acc * base + hexV c) r else none) else none
theorem valF_ge (base : Nat) (hb : 1 ≤ base) (l : List UInt8) : ∀ acc, acc ≤ valF base acc l := by
  induction l with
  | nil => intro acc; exact Nat.le_refl _
  | cons c r ih =>
    intro acc
    have := ih (acc * base + hexV c)
    have h2 : acc ≤ acc * base := Nat.le_mul_of_pos_right _ hb
    show acc ≤ valF base (acc * base + hexV c) r
    omega
theorem parseR_eq (base top : Nat) (hb : 1 ≤ base) (l : List UInt8) : ∀ acc, acc < top → parseR base top acc l = if l.all (okDig base) = true ∧ valF base acc l < top then some (valF base acc l) else none := by
  induction l with
  | nil => intro acc h; simp [parseR, valF, h]
  | cons c r ih =>
    intro acc h
    rw [parseR]
    show _ = if (c :: r).all (okDig base) = true ∧ valF base (acc * base + hexV c) r < top then some (valF base (acc * base + hexV c) r) else none
    by_cases h1 : okDig base c = true
    · rw [if_pos h1]
      by_cases h2 : acc * base + hexV c < top
      · rw [if_pos h2, ih _ h2]; simp [h1]
      · rw [if_neg h2, if_neg]
        rintro ⟨_, h3⟩
        have := valF_ge base hb r (acc * base + hexV c)
        omega
    · rw [if_neg h1, if_neg]
      rintro ⟨h3, _⟩
      simp [h1] at h3
theorem valP_eq (base top : Nat) (hb : 1 ≤ base) (ht : 0 < top) (l : List UInt8) (hl : l ≠ []) : valP base top l = parseR base top 0 l := by
  rw [parseR_eq base top hb l 0 ht]; unfold valP; simp [hl]
theorem valP_lt {base top : Nat} {l : List UInt8} {v : Nat} (h : valP base top l = some v) : v < top := by
  unfold valP at h; split at h
  · rename_i h2; cases h; exact h2.2.2
  · cases h

theorem digit_or (c : UInt8) (h : okDig 16 c = true) (h2 : digitB c = false) : bits .or .u8 (c.toNat : Int) 32 = ((hexV c + 87 : Nat) : Int) ∧ 10 ≤ hexV c ∧ hexV c < 16 := by
  have key := all256 (fun c => !(okDig 16 c) || digitB c || (decide (bits .or .u8 (c.toNat : Int) 32 = ((hexV c + 87 : Nat) : Int)) && decide (10 ≤ hexV c) && decide (hexV c < 16))) (by decide +kernel) c
  simp [h, h2] at key
  exact ⟨key.1.1, key.1.2, key.2⟩
theorem other_or (c : UInt8) (h : okDig 16 c = false) : ¬ (97 ≤ bits .or .u8 (c.toNat : Int) 32 ∧ bits .or .u8 (c.toNat : Int) 32 ≤ 102) := by
  have key := all256 (fun c => okDig 16 c || !(decide (97 ≤ bits .or .u8 (c.toNat : Int) 32 ∧ bits .or .u8 (c.toNat : Int) 32 ≤ 102))) (by decide +kernel) c
  simp [h] at key
  omega
theorem okDig_ten (c : UInt8) : okDig 10 c = digitB c := by
  have := all256 (fun c => okDig 10 c == digitB c) (by decide +kernel) c; simpa using this
theorem okDig_sixteen (c : UInt8) : okDig 16 c = hexB c := by
  have := all256 (fun c => okDig 16 c == hexB c) (by decide +kernel) c; simpa using this
theorem digit_ok (c : UInt8) (h : digitB c = true) : okDig 16 c = true ∧ hexV c = c.toNat - 48 ∧ 48 ≤ c.toNat ∧ c.toNat ≤ 57 := by
  have hh : hexB c = true := by unfold hexB; rw [h]; rfl
  refine ⟨by rw [okDig_sixteen, hh], by unfold hexV; rw [h]; rfl, ?_⟩
  unfold digitB at h; simp at h; exact h
theorem digit_no (c : UInt8) (h : digitB c = false) : ¬ (48 ≤ c.toNat ∧ c.toNat ≤ 57) := by
  unfold digitB at h; simp at h; omega

/-- lower: the bit 32 set. -/
theorem lower_any (c : Int) (w : World) : Calls Tryz.prog 76 #[.int .u8 c] w fun e w' => e = .returned (.int .u8 (bits .or .u8 c 32)) ∧ w' = w := by
  go_enter Tryz.func76, Tryz.ntmps76
  go_wp2
  go_ret
  exact ⟨rfl, rfl⟩

/-- What ParseUint answers: the number and no error, or an error. -/
def PuPost (r : Option Nat) (e : Ending) : Prop := match r with
  | some v => e = .returned (.tuple #[.int .u64 (v : Int), .nilIface])
  | none => ∃ x k : Int, (k = 1 ∨ k = 2) ∧ e = .returned (.tuple #[.int .u64 x, .iface 102 (.int .i64 k)])

theorem pu_err {r : Option Nat} {x : Int} (k : Int) (h : r = none) (hk : k = 1 ∨ k = 2) : PuPost r (.returned (.tuple #[.int .u64 x, .iface 102 (.int .i64 k)])) := by subst h; exact ⟨x, k, hk, rfl⟩
theorem pu_ok {r : Option Nat} {v : Nat} (h : r = some v) : PuPost r (.returned (.tuple #[.int .u64 (v : Int), .nilIface])) := by subst h; rfl

set_option maxRecDepth 100000 in
set_option maxHeartbeats 1000000 in
theorem pu_empty (base size : Int) (w : World) : Calls Tryz.prog 68 #[.string ⟨#[]⟩, .int .i64 base, .int .i64 size] w fun e w' => PuPost none e ∧ w' = w := by
  go_enter Tryz.func68, Tryz.ntmps68
  go_wp2
  go_ret2
  exact ⟨pu_err 2 rfl (.inr rfl), rfl⟩
end Go.Proofs.YtnaopgajinbnmaaGreatDoor
