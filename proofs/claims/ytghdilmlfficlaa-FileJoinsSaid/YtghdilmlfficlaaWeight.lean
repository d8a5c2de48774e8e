/- Weight and over: some number, some answer. -/
import Derived.Test.YtghdilmlfficlaaMem
namespace Go.Proofs.Ytghdilmlfficlaa
open Go.RowKit

/-- Whatever number. -/
def SomeInt (w : World) (e : Ending) (w' : World) : Prop := (∃ z, e = .returned (.int .i64 z)) ∧ Below w.heap.size w w'

set_option maxRecDepth 100000 in
set_option maxHeartbeats 4000000 in
theorem weight_any {w : World} {p : Pl} {c : Cap} (hm : CapM w w.heap.size p c) :
    Calls Try.prog 18 #[capV p c] w (SomeInt w) := by
  obtain ⟨B, hB⟩ : ∃ B, w.heap.size = B := ⟨_, rfl⟩
  have HB := Lib.hid hB
  have lf : c.faces.length ≤ 140737488355328 := by have := hm.lf; omega
  have ln : c.names.length ≤ 140737488355328 := by have := hm.ln; omega
  have ls : c.secs.length ≤ 140737488355328 := by have := hm.ls; omega
  have lp : c.pkts.length ≤ 140737488355328 := by have := hm.lp; omega
  have HM := Lib.hid hm
  have hnote := hm.note
  rw [hB] at HM
  clear hB hm
  go_enter Try.func18, Try.ntmps18
  go_wp2
  rw [HB.out]
  go_loopw [3, 4] (fun n i wr => ∃ (z : Int) (k : Nat), n = .int .i64 z ∧ i = .int .i64 k ∧ k ≤ c.faces.length ∧ Hid (Blk wr B 31 (capV p c).cells ∧ Below B w wr)) (fun _ i _ => c.faces.length - (intOf i).toNat)
  case atStart => exact ⟨_, 0, rfl, rfl, Nat.zero_le _, Lib.hid ⟨by rw [← HB.out]; exact Blk.new _ _ _, (Below.refl _ _).alloc (by rw [HB.out]; omega) _⟩⟩
  case round =>
    obtain ⟨z, k, rfl, rfl, hk, HW⟩ := hrel
    have hbc := HW.out.1.cell 1
    by_cases hlt : k < c.faces.length
    · obtain ⟨b, o, hA, hb, vs, hl, ⟨rfl, hbig, _, _⟩, hcell⟩ := (HM.out.faces.keep facK HW.out.2 (Nat.le_refl _)).row k hlt
      have c0 : wr.cell? ⟨b, o + k * 3, none⟩ = _ := hcell 0 _ rfl
      clear hcell
      go_wp2
      go_roundw
      case rel => exact ⟨_, k + 1, rfl, by go_num, by omega, HW⟩
      case measure => simp [intOf]; omega
    · have hkn : k = c.faces.length := by omega
      subst hkn
      go_wp2
      clear hbc
      go_loopw [3, 5] (fun n i wr => ∃ (z : Int) (k : Nat), n = .int .i64 z ∧ i = .int .i64 k ∧ k ≤ c.names.length ∧ Hid (Blk wr B 31 (capV p c).cells ∧ Below B w wr)) (fun _ i _ => c.names.length - (intOf i).toNat)
      case atStart => exact ⟨_, 0, rfl, rfl, Nat.zero_le _, Lib.hid ⟨HW.out.1, HW.out.2⟩⟩
      case round =>
        obtain ⟨z, k, rfl, rfl, hk, HW⟩ := hrel
        have hbc := HW.out.1.cell 2
        by_cases hlt : k < c.names.length
        · obtain ⟨b, o, hA, hb, vs, hl, ⟨A2, cp2, rfl, hbyc, hbig⟩, hcell⟩ := (HM.out.names.keep namK HW.out.2 (Nat.le_refl _)).row k hlt
          have c0 : wr.cell? ⟨b, o + k * 2, none⟩ = _ := hcell 0 _ rfl
          have c1 := hcell 1 _ rfl
          have hlen2 := hbyc.le
          have hcap2 := hbyc.cap
          clear hcell
          go_wp2
          go_quiet (fail)
          go_wp2
          go_roundw
          case rel => exact ⟨_, k + 1, rfl, by go_num, by omega, Lib.hid ⟨HW.out.1.drewN _, below_drewN HW.out.2 _⟩⟩
          case measure => simp [intOf]; omega
        · have hkn : k = c.names.length := by omega
          subst hkn
          go_wp2
          clear hbc
          go_loopw [3, 6] (fun n i wr => ∃ (z : Int) (k : Nat), n = .int .i64 z ∧ i = .int .i64 k ∧ k ≤ c.secs.length ∧ Hid (Blk wr B 31 (capV p c).cells ∧ Below B w wr)) (fun _ i _ => c.secs.length - (intOf i).toNat)
          case atStart => exact ⟨_, 0, rfl, rfl, Nat.zero_le _, Lib.hid ⟨HW.out.1, HW.out.2⟩⟩
          case round =>
            obtain ⟨z, k, rfl, rfl, hk, HW⟩ := hrel
            have hbc := HW.out.1.cell 3
            by_cases hlt : k < c.secs.length
            · obtain ⟨b, o, hA, hb, vs, hl, ⟨A2, cp2, rfl, hbyc, hbig⟩, hcell⟩ := (HM.out.secs.keep secK HW.out.2 (Nat.le_refl _)).row k hlt
              have c0 : wr.cell? ⟨b, o + k * 2, none⟩ = _ := hcell 0 _ rfl
              have c1 := hcell 1 _ rfl
              have hlen2 := hbyc.le
              have hcap2 := hbyc.cap
              clear hcell
              go_wp2
              go_quiet (fail)
              go_wp2
              go_roundw
              case rel => exact ⟨_, k + 1, rfl, by go_num, by omega, Lib.hid ⟨HW.out.1.drewN _, below_drewN HW.out.2 _⟩⟩
              case measure => simp [intOf]; omega
            · have hkn : k = c.secs.length := by omega
              subst hkn
              go_wp2
              clear hbc
              go_loopw [3, 7] (fun n i wr => ∃ (z : Int) (k : Nat), n = .int .i64 z ∧ i = .int .i64 k ∧ k ≤ c.pkts.length ∧ Hid (Blk wr B 31 (capV p c).cells ∧ Below B w wr)) (fun _ i _ => c.pkts.length - (intOf i).toNat)
              case atStart => exact ⟨_, 0, rfl, rfl, Nat.zero_le _, Lib.hid ⟨HW.out.1, HW.out.2⟩⟩
              case round =>
                obtain ⟨z, k, rfl, rfl, hk, HW⟩ := hrel
                have hbc := HW.out.1.cell 4
                by_cases hlt : k < c.pkts.length
                · obtain ⟨b, o, hA, hb, vs, hl, ⟨A2, cp2, rfl, hbyc, hbig, _, _, _⟩, hcell⟩ := (HM.out.pkts.keep pktK HW.out.2 (Nat.le_refl _)).row k hlt
                  have c0 := hcell 3 _ rfl
                  have c1 := hcell 4 _ rfl
                  have hlen2 := hbyc.le
                  have hcap2 := hbyc.cap
                  clear hcell
                  go_wp2
                  go_quiet (fail)
                  go_wp2
                  go_roundw
                  case rel => exact ⟨_, k + 1, rfl, by go_num, by omega, Lib.hid ⟨HW.out.1.drewN _, below_drewN HW.out.2 _⟩⟩
                  case measure => simp [intOf]; omega
                · have hkn : k = c.pkts.length := by omega
                  subst hkn
                  go_wp2
                  clear hbc
                  go_ret
                  exact ⟨⟨_, rfl⟩, by rw [HB.out]; exact HW.out.2⟩

end Go.Proofs.Ytghdilmlfficlaa
