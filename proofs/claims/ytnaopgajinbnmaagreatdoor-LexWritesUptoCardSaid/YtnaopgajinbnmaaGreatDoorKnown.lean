/- known: Lex at the document's example. -/
import Derived.Test.YtnaopgajinbnmaaGreatDoorLex
namespace Go.Proofs.YtnaopgajinbnmaaGreatDoor
open Go.RowKit

def exS : ByteArray := ⟨#[49, 48, 46, 48, 46, 48, 46, 49, 32, 97, 46, 98, 46, 46, 99]⟩
theorem ex_lex : lexR (bl exS) = ([⟨1, 167772161, 0, []⟩, ⟨0, 0, 9, [97, 46, 98]⟩, ⟨3, 0, 12, [46, 46]⟩, ⟨0, 0, 14, [99]⟩], 4, 0) := by decide +kernel

set_option maxRecDepth 100000 in
set_option maxHeartbeats 4000000 in
theorem known_any {w : World} (hL : Laid w) : Calls Tryz.prog 5 #[] w fun e w' => e = .returned (.bool true) ∧ Below w.heap.size w w' := by
  have hX := lex_any exS w hL
  rw [ex_lex] at hX
  have hX2 : Calls Tryz.prog 10 #[.string ⟨#[49, 48, 46, 48, 46, 48, 46, 49, 32, 97, 46, 98, 46, 46, 99]⟩] w _ := hX
  go_enter Tryz.func5, Tryz.ntmps5
  go_wp2_with (go_at_call 10; refine hX2.mono ?_)
  rintro e w1 ⟨v, rfl, hrow, hb⟩
  obtain ⟨A, cp, rfl, hA⟩ := own_form hrow
  cases A with
  | none => exact absurd (hA rfl) (by decide)
  | some a =>
    obtain ⟨g, o, r⟩ := a
    have hg : o = 0 ∧ r = none := by
      rcases hrow.2 with ⟨h, _⟩ | ⟨g', cap, cur, h, _⟩
      · cases h
      · injection h with h _ _; injection h with h; injection h with h1 h2 h3; exact ⟨h2, h3⟩
    obtain ⟨rfl, rfl⟩ := hg
    have hcap : 4 ≤ cp := by
      rcases hrow.2 with ⟨h, _⟩ | ⟨g', cap, cur, h, _, _, h2, _⟩
      · cases h
      · injection h with _ _ h; rw [h]; exact h2
    have hr2 : w1.ownsRow w.heap.size 32 4 (.slice (some ⟨g, 0, none⟩) 4 cp) 4 _ := hrow
    have q0 : w1.cell? ⟨g, 1, none⟩ = some (.int .i64 167772161) := hr2.cellAt 1 (by decide)
    have q1 : w1.cell? ⟨g, 7, none⟩ = some (.string ⟨#[97, 46, 98]⟩) := hr2.cellAt 7 (by decide)
    have q2 : w1.cell? ⟨g, 11, none⟩ = some (.string ⟨#[46, 46]⟩) := hr2.cellAt 11 (by decide)
    have q3 : w1.cell? ⟨g, 15, none⟩ = some (.string ⟨#[99]⟩) := hr2.cellAt 15 (by decide)
    have HB := Lib.hid hb
    clear hrow hr2 hb hX hX2 hA
    go_wp2
    go_ret
    exact ⟨rfl, HB.out⟩
end Go.Proofs.YtnaopgajinbnmaaGreatDoor
