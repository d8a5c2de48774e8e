/- The reference's Write. -/
import Derived.Test.YtlimkckomdipkaaRRes
import Derived.Test.YtlimkckomdipkaaRVald
import Derived.Test.YtlimkckomdipkaaW10
import Derived.Deep.DeepCutAuto
namespace Go.Proofs.Ytlimkckomdipkaa
open Go.RowKit

theorem sec_ref (low : Bool) (s : ByteArray) : numB low 4 439041101 ++ (numB low 2 1 ++ (numB low 2 0 ++ (List.replicate 8 255 ++ optB low 1 16 s))) = secH low ++ optB low 1 16 s := by
 unfold secH
 rw [numsB_o, numsB_c, numsB_o]
 simp
theorem fac_ref (low : Bool) (lk sn : Nat) (s : ByteArray) : numB low 2 lk ++ (numB low 2 0 ++ (numB low 4 sn ++ optB low 2 8 s)) = facBy low lk sn s := by
 unfold facBy
 rw [numsB_o, numsB_c, numsB_o]
 simp
theorem pair_ref (low : Bool) (a b : List Nat) : numB low 2 a.length ++ (numB low 2 b.length ++ (a ++ b)) = pairB low a b := by
 unfold pairB
 rw [numsB_c, numsB_o]
 simp
theorem pkt_ref (low : Bool) (fc t rl : Nat) (d : List Nat) (s : ByteArray) : (numB low 4 fc ++ (numB low 4 (t / 4294967296) ++ (numB low 4 (t % 4294967296) ++ (numB low 4 d.length ++ numB low 4 rl)))) ++ ((d ++ padB d.length) ++ optB low 1 (20 + d.length + padN (20 + d.length)) s) = pktBy low fc t rl d s := by
 unfold pktBy
 rw [numB_low, numsB_c, numsB_c, numsB_c, numsB_c, numsB_o]
 have e : padB (20 + d.length) = padB d.length := by unfold padB padN; rw [show (20 + d.length) % 4 = d.length % 4 by omega]
 rw [e]
 simp

set_option maxRecDepth 100000 in
set_option maxHeartbeats 16000000 in
/-- The section's block: the first of the walk. -/
theorem rwfirst {w w1 : World} {B : Nat} {pf pn ps pp : Option Addr} {cf cn cs cp : Nat} {c : Cap} {low : Bool} {K : Act → World → Prop} {PP : Ending → World → Prop} (HOK : Hid (Okay2 c)) (HK1 : Hid (Blk w1 B 27 #[.string c.note, .slice pf c.faces.length cf, .slice pn c.names.length cn, .slice ps c.secs.length cs, .slice pp c.pkts.length cp] ∧ Below B w w1))
  (hT : ∀ v wx t35 t37 t39 t40 t41 t45 t46 t47 t49, Hid (Gro wx (B + 1) v (sectB low c.note)) → Hid (Blk wx B 27 (capV ⟨pf, cf, pn, cn, ps, cs, pp, cp⟩ c).cells ∧ Below B w wx) → K ⟨#[capV ⟨pf, cf, pn, cn, ps, cs, pp, cp⟩ c, .bool false, .bool low, .pointer (some { block := B, off := 0 }), undef, undef, .slice none 0 0, .int IntKind.i64 0, .int IntKind.i64 0, v, undef, undef, undef, undef, undef, undef, undef, undef, undef, .agg #[.string c.note, .slice pf c.faces.length cf, .slice pn c.names.length cn, .slice ps c.secs.length cs, .slice pp c.pkts.length cp], .int IntKind.i64 0, .int IntKind.i64 0, .bool false, undef, .bool false, .bool false, undef, undef, undef, .bool false, .bool false, undef, undef, undef, .bool low, t35, .bool low, t37, .bool low, t39, t40, t41, .pointer (some ⟨B, 0, none⟩), .string c.note, .bool low, t45, t46, t47, .bool low, t49, undef, undef, undef, undef, undef, undef, undef, undef, undef, undef, undef, undef, undef, undef, undef, undef, undef, undef, undef, undef, undef, undef, undef, undef, undef, undef, undef, undef, undef, undef, undef, undef, undef, undef, undef, undef, undef, undef, undef, undef, undef, undef, undef, undef, undef, undef, undef, undef, undef, undef, undef, undef, undef, undef, undef, undef, undef, undef, undef, undef, undef, undef, undef, undef, undef, undef, undef, undef, undef, undef, undef, undef, undef, undef, undef, undef, undef, undef, undef, undef, undef, undef, undef, undef, undef, undef, undef, undef, undef, undef, undef, undef, undef, undef, undef, undef, undef, undef, undef, undef, undef, undef, undef, undef, undef, undef, undef, undef, undef, undef, undef, undef, undef, undef, undef, undef, undef, undef, undef, undef, undef, undef, undef, undef, undef, undef, undef, undef, undef, undef, undef, undef, undef, undef, undef, undef, undef, undef, undef, undef, undef, undef, undef, undef, undef, undef, undef, undef, undef, undef, undef], []⟩ wx) :
  (Code.region 8 #[{ dst := some 34, op := Op.move (Operand.tmp 2), type := 4, pos := "ref.go:211", after := #[], guard := none }, { dst := some 35, op := Op.call { callee := Callee.value (Operand.func 34), args := #[Operand.const (Value.int IntKind.i64 439041101), Operand.tmp 34], argTypes := #[3, 4] }, type := 30, pos := "ref.go:211", after := #[{ on := 0, ground := Ground.data }], guard := none }, { dst := some 36, op := Op.move (Operand.tmp 2), type := 4, pos := "ref.go:211", after := #[], guard := none }, { dst := some 37, op := Op.call { callee := Callee.value (Operand.func 35), args := #[Operand.const (Value.int IntKind.i64 1), Operand.tmp 36], argTypes := #[3, 4] }, type := 30, pos := "ref.go:211", after := #[{ on := 2, ground := Ground.data }, { on := 1, ground := Ground.chain }], guard := none }, { dst := some 38, op := Op.move (Operand.tmp 2), type := 4, pos := "ref.go:211", after := #[], guard := none }, { dst := some 39, op := Op.call { callee := Callee.value (Operand.func 35), args := #[Operand.const (Value.int IntKind.i64 0), Operand.tmp 38], argTypes := #[3, 4] }, type := 30, pos := "ref.go:211", after := #[{ on := 4, ground := Ground.data }, { on := 3, ground := Ground.chain }], guard := none }, { dst := some 40, op := Op.buildSlice 30 8 #[(0, Operand.const (Value.int IntKind.u8 255)), (1, Operand.const (Value.int IntKind.u8 255)), (2, Operand.const (Value.int IntKind.u8 255)), (3, Operand.const (Value.int IntKind.u8 255)), (4, Operand.const (Value.int IntKind.u8 255)), (5, Operand.const (Value.int IntKind.u8 255)), (6, Operand.const (Value.int IntKind.u8 255)), (7, Operand.const (Value.int IntKind.u8 255))], type := 30, pos := "ref.go:211", after := #[], guard := none }, { dst := some 41, op := Op.convert 30 30 (Operand.tmp 40), type := 30, pos := "ref.go:211", after := #[{ on := 6, ground := Ground.data }], guard := none }, { dst := some 42, op := Op.fieldAddr 27 (Operand.tmp 3) 0, type := 0, pos := "ref.go:211", after := #[], guard := none }, { dst := some 43, op := Op.load 9 (Operand.tmp 42), type := 9, pos := "ref.go:211", after := #[{ on := 8, ground := Ground.data }], guard := none }, { dst := some 44, op := Op.move (Operand.tmp 2), type := 4, pos := "ref.go:211", after := #[], guard := none }, { dst := some 45, op := Op.call { callee := Callee.value (Operand.func 36), args := #[Operand.const (Value.int IntKind.i64 1), Operand.tmp 43, Operand.tmp 44], argTypes := #[3, 9, 4] }, type := 30, pos := "ref.go:211", after := #[{ on := 9, ground := Ground.data }, { on := 10, ground := Ground.data }, { on := 5, ground := Ground.chain }], guard := none }, { dst := some 46, op := Op.buildSlice 99 5 #[(0, Operand.tmp 35), (1, Operand.tmp 37), (2, Operand.tmp 39), (3, Operand.tmp 41), (4, Operand.tmp 45)], type := 99, pos := "ref.go:211", after := #[{ on := 1, ground := Ground.data }, { on := 3, ground := Ground.data }, { on := 5, ground := Ground.data }, { on := 7, ground := Ground.data }, { on := 11, ground := Ground.data }], guard := none }, { dst := some 47, op := Op.call { callee := Callee.value (Operand.func 33), args := #[Operand.tmp 46], argTypes := #[99] }, type := 30, pos := "ref.go:211", after := #[{ on := 12, ground := Ground.data }, { on := 11, ground := Ground.chain }], guard := none }, { dst := some 48, op := Op.move (Operand.tmp 2), type := 4, pos := "ref.go:211", after := #[], guard := none }, { dst := some 49, op := Op.call { callee := Callee.value (Operand.func 32), args := #[Operand.const (Value.int IntKind.i64 168627466), Operand.tmp 47, Operand.tmp 48], argTypes := #[3, 30, 4] }, type := 30, pos := "ref.go:211", after := #[{ on := 13, ground := Ground.data }, { on := 14, ground := Ground.data }, { on := 13, ground := Ground.chain }], guard := none }, { dst := some 9, op := Op.assign (Operand.tmp 49), type := 30, pos := "ref.go:211", after := #[{ on := 15, ground := Ground.data }, { on := 15, ground := Ground.chain }, { on := 0, ground := Ground.phase }, { on := 1, ground := Ground.phase }, { on := 2, ground := Ground.phase }, { on := 3, ground := Ground.phase }, { on := 4, ground := Ground.phase }, { on := 5, ground := Ground.phase }, { on := 6, ground := Ground.phase }, { on := 7, ground := Ground.phase }, { on := 8, ground := Ground.phase }, { on := 9, ground := Ground.phase }, { on := 10, ground := Ground.phase }, { on := 11, ground := Ground.phase }, { on := 12, ground := Ground.phase }, { on := 13, ground := Ground.phase }, { on := 14, ground := Ground.phase }, { on := 15, ground := Ground.phase }], guard := none }] true).wp Try.prog (Exit.then K (bodyPost Try.prog Try.f11 PP)) ⟨#[capV ⟨pf, cf, pn, cn, ps, cs, pp, cp⟩ c, .bool false, .bool low, .pointer (some { block := B, off := 0 }), undef, undef, .slice none 0 0, .int IntKind.i64 0, .int IntKind.i64 0, undef, undef, undef, undef, undef, undef, undef, undef, undef, undef, .agg #[.string c.note, .slice pf c.faces.length cf, .slice pn c.names.length cn, .slice ps c.secs.length cs, .slice pp c.pkts.length cp], .int IntKind.i64 0, .int IntKind.i64 0, .bool false, undef, .bool false, .bool false, undef, undef, undef, .bool false, .bool false, undef, undef, undef, undef, undef, undef, undef, undef, undef, undef, undef, undef, undef, undef, undef, undef, undef, undef, undef, undef, undef, undef, undef, undef, undef, undef, undef, undef, undef, undef, undef, undef, undef, undef, undef, undef, undef, undef, undef, undef, undef, undef, undef, undef, undef, undef, undef, undef, undef, undef, undef, undef, undef, undef, undef, undef, undef, undef, undef, undef, undef, undef, undef, undef, undef, undef, undef, undef, undef, undef, undef, undef, undef, undef, undef, undef, undef, undef, undef, undef, undef, undef, undef, undef, undef, undef, undef, undef, undef, undef, undef, undef, undef, undef, undef, undef, undef, undef, undef, undef, undef, undef, undef, undef, undef, undef, undef, undef, undef, undef, undef, undef, undef, undef, undef, undef, undef, undef, undef, undef, undef, undef, undef, undef, undef, undef, undef, undef, undef, undef, undef, undef, undef, undef, undef, undef, undef, undef, undef, undef, undef, undef, undef, undef, undef, undef, undef, undef, undef, undef, undef, undef, undef, undef, undef, undef, undef, undef, undef, undef, undef, undef, undef, undef, undef, undef, undef, undef, undef, undef], []⟩ w1 := by
  have HS0 : Hid (Blk w1 B 27 #[.string c.note, .slice pf c.faces.length cf, .slice pn c.names.length cn, .slice ps c.secs.length cs, .slice pp c.pkts.length cp]) := Lib.hid HK1.out.1
  have hnote := HOK.out.note
  have HSd : Hid (Blk w1.drew B 27 #[.string c.note, .slice pf c.faces.length cf, .slice pn c.names.length cn, .slice ps c.secs.length cs, .slice pp c.pkts.length cp]) := HS0
  have KB00 : Hid (Below w1.heap.size w1 w1.drew) := Lib.hid (Below.refl _ _).drew
  have s0d : (fun y => y.cell? ⟨B, 0, none⟩ = some (.string c.note)) w1.drew := HS0.out.cell 0
  refine wp_region_held_drew (S := fun y => y.cell? ⟨B, 0, none⟩ = some (.string c.note)) (by kernel_rfl) s0d (fun hHeld => ?_)
  generalize w1.drew = y0 at s0d HSd KB00 hHeld ⊢
  have s0 := s0d
  have KBd := KB00
  clear s0d KB00
  refine tky 0 ?_
  repeat (rw [putL]; simp only [List.set])
  refine tky 2 ?_
  repeat (rw [putL]; simp only [List.set])
  refine tky 4 ?_
  repeat (rw [putL]; simp only [List.set])
  refine tky 8 ?_
  repeat (rw [putL]; simp only [List.set])
  refine tky 9 ?_
  repeat (rw [putL]; simp only [List.set])
  refine tky 10 ?_
  repeat (rw [putL]; simp only [List.set])
  refine tky 14 ?_
  repeat (rw [putL]; simp only [List.set])
  refine wpAnyH_ready (rs := [1, 6]) (by kernel_rfl) (by simp) ?_
  refine rdy rfl (fun K hK => ?_) (rdy rfl (fun K hK => ?_) (AllReadyH.nil))
  have CC : Calls Try.prog 34 #[.int .i64 439041101, .bool low] y0 (OwnG y0 y0.heap.size (numB low 4 439041101)) := rfourG y0 low 439041101
  go_simp
  go_at_call 34
  with_reducible refine CC.mono ?_
  rintro e y1 ⟨v0, rfl, g0, bb⟩
  clear CC
  obtain ⟨Am, Lm, cm, rfl, r0⟩ := res_of (N := w1.heap.size) g0 KBd.out.size
  have HLBm : Hid (Lm ≤ 700) := Lib.hid (by rw [← r0.l, numB_len]; omega)
  have Rm := Lib.hid r0
  clear r0 g0
  have KB1 : Hid (Below w1.heap.size w1 y1) := Lib.hid (KBd.out.trans (bb.mono KBd.out.size))
  have HS1 := Lib.hid (HSd.out.below bb HSd.out.lt)
  have s1 : (fun y => y.cell? ⟨B, 0, none⟩ = some (.string c.note)) y1 := HS1.out.cell 0
  clear bb
  dsimp only
  refine hK.out _ _ s1 (fun hHeld => ?_)
  clear hK K
  repeat (rw [putL]; simp only [List.set])
  refine wpAnyH_ready (rs := [3, 6]) (by kernel_rfl) (by simp) ?_
  refine rdy rfl (fun K hK => ?_) (rdy rfl (fun K hK => ?_) (AllReadyH.nil))
  have CC : Calls Try.prog 35 #[.int .i64 1, .bool low] y1 (OwnG y1 y1.heap.size (numB low 2 1)) := rtwoG y1 low 1
  go_simp
  go_at_call 35
  with_reducible refine CC.mono ?_
  rintro e y2 ⟨v0, rfl, g0, bb⟩
  clear CC
  obtain ⟨Ao, Lo, co, rfl, r0⟩ := res_of (N := w1.heap.size) g0 KB1.out.size
  have HLBo : Hid (Lo ≤ 700) := Lib.hid (by rw [← r0.l, numB_len]; omega)
  have Ro := Lib.hid r0
  clear r0 g0
  replace Rm := Lib.hid (Rm.out.below bb)
  have KB2 : Hid (Below w1.heap.size w1 y2) := Lib.hid (KB1.out.trans (bb.mono KB1.out.size))
  have HS2 := Lib.hid (HS1.out.below bb HS1.out.lt)
  have s2 : (fun y => y.cell? ⟨B, 0, none⟩ = some (.string c.note)) y2 := HS2.out.cell 0
  clear bb
  dsimp only
  refine hK.out _ _ s2 (fun hHeld => ?_)
  clear hK K
  repeat (rw [putL]; simp only [List.set])
  refine wpAnyH_ready (rs := [5, 6]) (by kernel_rfl) (by simp) ?_
  refine rdy rfl (fun K hK => ?_) (rdy rfl (fun K hK => ?_) (AllReadyH.nil))
  have CC : Calls Try.prog 35 #[.int .i64 0, .bool low] y2 (OwnG y2 y2.heap.size (numB low 2 0)) := rtwoG y2 low 0
  go_simp
  go_at_call 35
  with_reducible refine CC.mono ?_
  rintro e y3 ⟨v0, rfl, g0, bb⟩
  clear CC
  obtain ⟨Az, Lz, cz, rfl, r0⟩ := res_of (N := w1.heap.size) g0 KB2.out.size
  have HLBz : Hid (Lz ≤ 700) := Lib.hid (by rw [← r0.l, numB_len]; omega)
  have Rz := Lib.hid r0
  clear r0 g0
  replace Rm := Lib.hid (Rm.out.below bb)
  replace Ro := Lib.hid (Ro.out.below bb)
  have KB3 : Hid (Below w1.heap.size w1 y3) := Lib.hid (KB2.out.trans (bb.mono KB2.out.size))
  have HS3 := Lib.hid (HS2.out.below bb HS2.out.lt)
  have s3 : (fun y => y.cell? ⟨B, 0, none⟩ = some (.string c.note)) y3 := HS3.out.cell 0
  clear bb
  dsimp only
  refine hK.out _ _ s3 (fun hHeld => ?_)
  clear hK K
  repeat (rw [putL]; simp only [List.set])
  refine wpAnyH_ready (rs := [6, 11]) (by kernel_rfl) (by simp) ?_
  refine rdy rfl (fun K hK => ?_) (rdy rfl (fun K hK => ?_) (AllReadyH.nil))
  obtain ⟨m, hm⟩ : ∃ m, y3.heap.size = m := ⟨_, rfl⟩
  have Dm : Hid (∀ g, (Value.slice Am Lm cm).ownBlock = some g → g ≠ m) := Lib.hid (fun g hg e => by have := (Rm.out.g.lt g hg).2; omega)
  have Do : Hid (∀ g, (Value.slice Ao Lo co).ownBlock = some g → g ≠ m) := Lib.hid (fun g hg e => by have := (Ro.out.g.lt g hg).2; omega)
  have Dz : Hid (∀ g, (Value.slice Az Lz cz).ownBlock = some g → g ≠ m) := Lib.hid (fun g hg e => by have := (Rz.out.g.lt g hg).2; omega)
  have g1 := lit_gro y3
  have bb : Below y3.heap.size y3 (y3.alloc (.cells #[.int .u8 255, .int .u8 255, .int .u8 255, .int .u8 255, .int .u8 255, .int .u8 255, .int .u8 255, .int .u8 255] 5)) := (Below.refl _ y3).alloc (Nat.le_refl _) _
  go_simp
  generalize y3.alloc (.cells #[.int .u8 255, .int .u8 255, .int .u8 255, .int .u8 255, .int .u8 255, .int .u8 255, .int .u8 255, .int .u8 255] 5) = y4 at g1 bb ⊢
  rw [hm] at g1
  try rw [hm]
  have Rq : Hid (Res y4 w1.heap.size (some ⟨m, 0, none⟩) 8 8 (List.replicate 8 255)) := Lib.hid ⟨g1.mono (by have := KB3.out.size; omega), rfl⟩
  clear g1
  replace Rm := Lib.hid (Rm.out.below bb)
  replace Ro := Lib.hid (Ro.out.below bb)
  replace Rz := Lib.hid (Rz.out.below bb)
  have KB4 : Hid (Below w1.heap.size w1 y4) := Lib.hid (KB3.out.trans (bb.mono KB3.out.size))
  have HS4 := Lib.hid (HS3.out.below bb HS3.out.lt)
  have s4 : (fun y => y.cell? ⟨B, 0, none⟩ = some (.string c.note)) y4 := HS4.out.cell 0
  clear bb
  clear hm
  refine hK.out _ _ s4 (fun hHeld => ?_)
  clear hK K
  repeat (rw [putL]; simp only [List.set])
  refine wpAnyH_ready (rs := [7, 11]) (by kernel_rfl) (by simp) ?_
  refine rdy rfl (fun K hK => ?_) (rdy rfl (fun K hK => ?_) (AllReadyH.nil))
  obtain ⟨y5, hcv, g1, hgr⟩ := mark_gro Rq.out.g
  go_simp
  try simp only [hcv, Result.andThen_ok]
  replace Rm := Lib.hid (Rm.out.kept hgr Dm.out)
  replace Ro := Lib.hid (Ro.out.kept hgr Do.out)
  replace Rz := Lib.hid (Rz.out.kept hgr Dz.out)
  have bb : Below w1.heap.size y4 y5 := (Below.refl _ _).grown hgr KB4.out.size (fun q hq => by injection hq with hq; have := (Rq.out.g.lt m rfl).1; omega)
  replace Rq : Hid (Res y5 w1.heap.size (some ⟨m, 0, none⟩) 8 8 (List.replicate 8 255)) := Lib.hid ⟨g1, rfl⟩
  clear g1 hgr hcv
  have KB5 : Hid (Below w1.heap.size w1 y5) := Lib.hid (KB4.out.trans bb)
  have HS5 := Lib.hid (HS4.out.below bb HS0.out.lt)
  have s5 : (fun y => y.cell? ⟨B, 0, none⟩ = some (.string c.note)) y5 := HS5.out.cell 0
  clear bb
  refine hK.out _ _ s5 (fun hHeld => ?_)
  clear hK K
  repeat (rw [putL]; simp only [List.set])
  refine wpAnyH_ready (rs := [11]) (by kernel_rfl) (by simp) ?_
  refine rdy rfl (fun K hK => ?_) (AllReadyH.nil)
  have CC : Calls Try.prog 36 #[.int .i64 1, .string c.note, .bool low] y5 (OwnG y5 y5.heap.size (optB low 1 16 c.note)) := roption_any (w := y5) low 1 16 c.note hnote rfl
  go_simp
  go_at_call 36
  with_reducible refine CC.mono ?_
  rintro e y6 ⟨v0, rfl, g0, bb⟩
  clear CC
  obtain ⟨At, Lt, ct, rfl, r0⟩ := res_of (N := w1.heap.size) g0 KB5.out.size
  have HLBt : Hid (Lt ≤ 700) := Lib.hid (by have h1 := r0.l; have := optB_len low 1 (16) c.note; have := hnote; omega)
  have Rt := Lib.hid r0
  clear r0 g0
  replace Rm := Lib.hid (Rm.out.below bb)
  replace Ro := Lib.hid (Ro.out.below bb)
  replace Rz := Lib.hid (Rz.out.below bb)
  replace Rq := Lib.hid (Rq.out.below bb)
  have KB6 : Hid (Below w1.heap.size w1 y6) := Lib.hid (KB5.out.trans (bb.mono KB5.out.size))
  have HS6 := Lib.hid (HS5.out.below bb HS5.out.lt)
  have s6 : (fun y => y.cell? ⟨B, 0, none⟩ = some (.string c.note)) y6 := HS6.out.cell 0
  clear bb
  dsimp only
  refine hK.out _ _ s6 (fun hHeld => ?_)
  clear hK K
  repeat (rw [putL]; simp only [List.set])
  rotate_left 1
  have CC : Calls Try.prog 36 #[.int .i64 1, .string c.note, .bool low] y4 (OwnG y4 y4.heap.size (optB low 1 16 c.note)) := roption_any (w := y4) low 1 16 c.note hnote rfl
  go_simp
  go_at_call 36
  with_reducible refine CC.mono ?_
  rintro e y5 ⟨v0, rfl, g0, bb⟩
  clear CC
  have Dt : Hid (∀ g, v0.ownBlock = some g → g ≠ m) := Lib.hid (fun g hg e => by have h1 := (g0.lt g hg).1; have h2 := (Rq.out.g.lt m rfl).2; omega)
  obtain ⟨At, Lt, ct, rfl, r0⟩ := res_of (N := w1.heap.size) g0 KB4.out.size
  have HLBt : Hid (Lt ≤ 700) := Lib.hid (by have h1 := r0.l; have := optB_len low 1 (16) c.note; have := hnote; omega)
  have Rt := Lib.hid r0
  clear r0 g0
  replace Rm := Lib.hid (Rm.out.below bb)
  replace Ro := Lib.hid (Ro.out.below bb)
  replace Rz := Lib.hid (Rz.out.below bb)
  replace Rq := Lib.hid (Rq.out.below bb)
  have KB5 : Hid (Below w1.heap.size w1 y5) := Lib.hid (KB4.out.trans (bb.mono KB4.out.size))
  have HS5 := Lib.hid (HS4.out.below bb HS4.out.lt)
  have s5 : (fun y => y.cell? ⟨B, 0, none⟩ = some (.string c.note)) y5 := HS5.out.cell 0
  clear bb
  dsimp only
  refine hK.out _ _ s5 (fun hHeld => ?_)
  clear hK K
  repeat (rw [putL]; simp only [List.set])
  refine wpAnyH_ready (rs := [7]) (by kernel_rfl) (by simp) ?_
  refine rdy rfl (fun K hK => ?_) (AllReadyH.nil)
  obtain ⟨y6, hcv, g1, hgr⟩ := mark_gro Rq.out.g
  go_simp
  try simp only [hcv, Result.andThen_ok]
  replace Rm := Lib.hid (Rm.out.kept hgr Dm.out)
  replace Ro := Lib.hid (Ro.out.kept hgr Do.out)
  replace Rz := Lib.hid (Rz.out.kept hgr Dz.out)
  replace Rt := Lib.hid (Rt.out.kept hgr Dt.out)
  have bb : Below w1.heap.size y5 y6 := (Below.refl _ _).grown hgr KB5.out.size (fun q hq => by injection hq with hq; have := (Rq.out.g.lt m rfl).1; omega)
  replace Rq : Hid (Res y6 w1.heap.size (some ⟨m, 0, none⟩) 8 8 (List.replicate 8 255)) := Lib.hid ⟨g1, rfl⟩
  clear g1 hgr hcv
  have KB6 : Hid (Below w1.heap.size w1 y6) := Lib.hid (KB5.out.trans bb)
  have HS6 := Lib.hid (HS5.out.below bb HS0.out.lt)
  have s6 : (fun y => y.cell? ⟨B, 0, none⟩ = some (.string c.note)) y6 := HS6.out.cell 0
  clear bb
  refine hK.out _ _ s6 (fun hHeld => ?_)
  clear hK K
  repeat (rw [putL]; simp only [List.set])
  rotate_left 1
  have CC : Calls Try.prog 36 #[.int .i64 1, .string c.note, .bool low] y3 (OwnG y3 y3.heap.size (optB low 1 16 c.note)) := roption_any (w := y3) low 1 16 c.note hnote rfl
  go_simp
  go_at_call 36
  with_reducible refine CC.mono ?_
  rintro e y4 ⟨v0, rfl, g0, bb⟩
  clear CC
  obtain ⟨At, Lt, ct, rfl, r0⟩ := res_of (N := w1.heap.size) g0 KB3.out.size
  have HLBt : Hid (Lt ≤ 700) := Lib.hid (by have h1 := r0.l; have := optB_len low 1 (16) c.note; have := hnote; omega)
  have Rt := Lib.hid r0
  clear r0 g0
  replace Rm := Lib.hid (Rm.out.below bb)
  replace Ro := Lib.hid (Ro.out.below bb)
  replace Rz := Lib.hid (Rz.out.below bb)
  have KB4 : Hid (Below w1.heap.size w1 y4) := Lib.hid (KB3.out.trans (bb.mono KB3.out.size))
  have HS4 := Lib.hid (HS3.out.below bb HS3.out.lt)
  have s4 : (fun y => y.cell? ⟨B, 0, none⟩ = some (.string c.note)) y4 := HS4.out.cell 0
  clear bb
  dsimp only
  refine hK.out _ _ s4 (fun hHeld => ?_)
  clear hK K
  repeat (rw [putL]; simp only [List.set])
  refine wpAnyH_ready (rs := [6]) (by kernel_rfl) (by simp) ?_
  refine rdy rfl (fun K hK => ?_) (AllReadyH.nil)
  obtain ⟨m, hm⟩ : ∃ m, y4.heap.size = m := ⟨_, rfl⟩
  have Dm : Hid (∀ g, (Value.slice Am Lm cm).ownBlock = some g → g ≠ m) := Lib.hid (fun g hg e => by have := (Rm.out.g.lt g hg).2; omega)
  have Do : Hid (∀ g, (Value.slice Ao Lo co).ownBlock = some g → g ≠ m) := Lib.hid (fun g hg e => by have := (Ro.out.g.lt g hg).2; omega)
  have Dz : Hid (∀ g, (Value.slice Az Lz cz).ownBlock = some g → g ≠ m) := Lib.hid (fun g hg e => by have := (Rz.out.g.lt g hg).2; omega)
  have Dt : Hid (∀ g, (Value.slice At Lt ct).ownBlock = some g → g ≠ m) := Lib.hid (fun g hg e => by have := (Rt.out.g.lt g hg).2; omega)
  have g1 := lit_gro y4
  have bb : Below y4.heap.size y4 (y4.alloc (.cells #[.int .u8 255, .int .u8 255, .int .u8 255, .int .u8 255, .int .u8 255, .int .u8 255, .int .u8 255, .int .u8 255] 5)) := (Below.refl _ y4).alloc (Nat.le_refl _) _
  go_simp
  generalize y4.alloc (.cells #[.int .u8 255, .int .u8 255, .int .u8 255, .int .u8 255, .int .u8 255, .int .u8 255, .int .u8 255, .int .u8 255] 5) = y5 at g1 bb ⊢
  rw [hm] at g1
  try rw [hm]
  have Rq : Hid (Res y5 w1.heap.size (some ⟨m, 0, none⟩) 8 8 (List.replicate 8 255)) := Lib.hid ⟨g1.mono (by have := KB4.out.size; omega), rfl⟩
  clear g1
  replace Rm := Lib.hid (Rm.out.below bb)
  replace Ro := Lib.hid (Ro.out.below bb)
  replace Rz := Lib.hid (Rz.out.below bb)
  replace Rt := Lib.hid (Rt.out.below bb)
  have KB5 : Hid (Below w1.heap.size w1 y5) := Lib.hid (KB4.out.trans (bb.mono KB4.out.size))
  have HS5 := Lib.hid (HS4.out.below bb HS4.out.lt)
  have s5 : (fun y => y.cell? ⟨B, 0, none⟩ = some (.string c.note)) y5 := HS5.out.cell 0
  clear bb
  clear hm
  refine hK.out _ _ s5 (fun hHeld => ?_)
  clear hK K
  repeat (rw [putL]; simp only [List.set])
  refine wpAnyH_ready (rs := [7]) (by kernel_rfl) (by simp) ?_
  refine rdy rfl (fun K hK => ?_) (AllReadyH.nil)
  obtain ⟨y6, hcv, g1, hgr⟩ := mark_gro Rq.out.g
  go_simp
  try simp only [hcv, Result.andThen_ok]
  replace Rm := Lib.hid (Rm.out.kept hgr Dm.out)
  replace Ro := Lib.hid (Ro.out.kept hgr Do.out)
  replace Rz := Lib.hid (Rz.out.kept hgr Dz.out)
  replace Rt := Lib.hid (Rt.out.kept hgr Dt.out)
  have bb : Below w1.heap.size y5 y6 := (Below.refl _ _).grown hgr KB5.out.size (fun q hq => by injection hq with hq; have := (Rq.out.g.lt m rfl).1; omega)
  replace Rq : Hid (Res y6 w1.heap.size (some ⟨m, 0, none⟩) 8 8 (List.replicate 8 255)) := Lib.hid ⟨g1, rfl⟩
  clear g1 hgr hcv
  have KB6 : Hid (Below w1.heap.size w1 y6) := Lib.hid (KB5.out.trans bb)
  have HS6 := Lib.hid (HS5.out.below bb HS0.out.lt)
  have s6 : (fun y => y.cell? ⟨B, 0, none⟩ = some (.string c.note)) y6 := HS6.out.cell 0
  clear bb
  refine hK.out _ _ s6 (fun hHeld => ?_)
  clear hK K
  repeat (rw [putL]; simp only [List.set])
  rotate_left 1
  obtain ⟨m, hm⟩ : ∃ m, y2.heap.size = m := ⟨_, rfl⟩
  have Dm : Hid (∀ g, (Value.slice Am Lm cm).ownBlock = some g → g ≠ m) := Lib.hid (fun g hg e => by have := (Rm.out.g.lt g hg).2; omega)
  have Do : Hid (∀ g, (Value.slice Ao Lo co).ownBlock = some g → g ≠ m) := Lib.hid (fun g hg e => by have := (Ro.out.g.lt g hg).2; omega)
  have g1 := lit_gro y2
  have bb : Below y2.heap.size y2 (y2.alloc (.cells #[.int .u8 255, .int .u8 255, .int .u8 255, .int .u8 255, .int .u8 255, .int .u8 255, .int .u8 255, .int .u8 255] 5)) := (Below.refl _ y2).alloc (Nat.le_refl _) _
  go_simp
  generalize y2.alloc (.cells #[.int .u8 255, .int .u8 255, .int .u8 255, .int .u8 255, .int .u8 255, .int .u8 255, .int .u8 255, .int .u8 255] 5) = y3 at g1 bb ⊢
  rw [hm] at g1
  try rw [hm]
  have Rq : Hid (Res y3 w1.heap.size (some ⟨m, 0, none⟩) 8 8 (List.replicate 8 255)) := Lib.hid ⟨g1.mono (by have := KB2.out.size; omega), rfl⟩
  clear g1
  replace Rm := Lib.hid (Rm.out.below bb)
  replace Ro := Lib.hid (Ro.out.below bb)
  have KB3 : Hid (Below w1.heap.size w1 y3) := Lib.hid (KB2.out.trans (bb.mono KB2.out.size))
  have HS3 := Lib.hid (HS2.out.below bb HS2.out.lt)
  have s3 : (fun y => y.cell? ⟨B, 0, none⟩ = some (.string c.note)) y3 := HS3.out.cell 0
  clear bb
  clear hm
  refine hK.out _ _ s3 (fun hHeld => ?_)
  clear hK K
  repeat (rw [putL]; simp only [List.set])
  refine wpAnyH_ready (rs := [5, 7]) (by kernel_rfl) (by simp) ?_
  refine rdy rfl (fun K hK => ?_) (rdy rfl (fun K hK => ?_) (AllReadyH.nil))
  have CC : Calls Try.prog 35 #[.int .i64 0, .bool low] y3 (OwnG y3 y3.heap.size (numB low 2 0)) := rtwoG y3 low 0
  go_simp
  go_at_call 35
  with_reducible refine CC.mono ?_
  rintro e y4 ⟨v0, rfl, g0, bb⟩
  clear CC
  have Dz : Hid (∀ g, v0.ownBlock = some g → g ≠ m) := Lib.hid (fun g hg e => by have h1 := (g0.lt g hg).1; have h2 := (Rq.out.g.lt m rfl).2; omega)
  obtain ⟨Az, Lz, cz, rfl, r0⟩ := res_of (N := w1.heap.size) g0 KB3.out.size
  have HLBz : Hid (Lz ≤ 700) := Lib.hid (by rw [← r0.l, numB_len]; omega)
  have Rz := Lib.hid r0
  clear r0 g0
  replace Rm := Lib.hid (Rm.out.below bb)
  replace Ro := Lib.hid (Ro.out.below bb)
  replace Rq := Lib.hid (Rq.out.below bb)
  have KB4 : Hid (Below w1.heap.size w1 y4) := Lib.hid (KB3.out.trans (bb.mono KB3.out.size))
  have HS4 := Lib.hid (HS3.out.below bb HS3.out.lt)
  have s4 : (fun y => y.cell? ⟨B, 0, none⟩ = some (.string c.note)) y4 := HS4.out.cell 0
  clear bb
  dsimp only
  refine hK.out _ _ s4 (fun hHeld => ?_)
  clear hK K
  repeat (rw [putL]; simp only [List.set])
  refine wpAnyH_ready (rs := [7, 11]) (by kernel_rfl) (by simp) ?_
  refine rdy rfl (fun K hK => ?_) (rdy rfl (fun K hK => ?_) (AllReadyH.nil))
  obtain ⟨y5, hcv, g1, hgr⟩ := mark_gro Rq.out.g
  go_simp
  try simp only [hcv, Result.andThen_ok]
  replace Rm := Lib.hid (Rm.out.kept hgr Dm.out)
  replace Ro := Lib.hid (Ro.out.kept hgr Do.out)
  replace Rz := Lib.hid (Rz.out.kept hgr Dz.out)
  have bb : Below w1.heap.size y4 y5 := (Below.refl _ _).grown hgr KB4.out.size (fun q hq => by injection hq with hq; have := (Rq.out.g.lt m rfl).1; omega)
  replace Rq : Hid (Res y5 w1.heap.size (some ⟨m, 0, none⟩) 8 8 (List.replicate 8 255)) := Lib.hid ⟨g1, rfl⟩
  clear g1 hgr hcv
  have KB5 : Hid (Below w1.heap.size w1 y5) := Lib.hid (KB4.out.trans bb)
  have HS5 := Lib.hid (HS4.out.below bb HS0.out.lt)
  have s5 : (fun y => y.cell? ⟨B, 0, none⟩ = some (.string c.note)) y5 := HS5.out.cell 0
  clear bb
  refine hK.out _ _ s5 (fun hHeld => ?_)
  clear hK K
  repeat (rw [putL]; simp only [List.set])
  refine wpAnyH_ready (rs := [11]) (by kernel_rfl) (by simp) ?_
  refine rdy rfl (fun K hK => ?_) (AllReadyH.nil)
  have CC : Calls Try.prog 36 #[.int .i64 1, .string c.note, .bool low] y5 (OwnG y5 y5.heap.size (optB low 1 16 c.note)) := roption_any (w := y5) low 1 16 c.note hnote rfl
  go_simp
  go_at_call 36
  with_reducible refine CC.mono ?_
  rintro e y6 ⟨v0, rfl, g0, bb⟩
  clear CC
  obtain ⟨At, Lt, ct, rfl, r0⟩ := res_of (N := w1.heap.size) g0 KB5.out.size
  have HLBt : Hid (Lt ≤ 700) := Lib.hid (by have h1 := r0.l; have := optB_len low 1 (16) c.note; have := hnote; omega)
  have Rt := Lib.hid r0
  clear r0 g0
  replace Rm := Lib.hid (Rm.out.below bb)
  replace Ro := Lib.hid (Ro.out.below bb)
  replace Rq := Lib.hid (Rq.out.below bb)
  replace Rz := Lib.hid (Rz.out.below bb)
  have KB6 : Hid (Below w1.heap.size w1 y6) := Lib.hid (KB5.out.trans (bb.mono KB5.out.size))
  have HS6 := Lib.hid (HS5.out.below bb HS5.out.lt)
  have s6 : (fun y => y.cell? ⟨B, 0, none⟩ = some (.string c.note)) y6 := HS6.out.cell 0
  clear bb
  dsimp only
  refine hK.out _ _ s6 (fun hHeld => ?_)
  clear hK K
  repeat (rw [putL]; simp only [List.set])
  rotate_left 1
  have CC : Calls Try.prog 36 #[.int .i64 1, .string c.note, .bool low] y4 (OwnG y4 y4.heap.size (optB low 1 16 c.note)) := roption_any (w := y4) low 1 16 c.note hnote rfl
  go_simp
  go_at_call 36
  with_reducible refine CC.mono ?_
  rintro e y5 ⟨v0, rfl, g0, bb⟩
  clear CC
  have Dt : Hid (∀ g, v0.ownBlock = some g → g ≠ m) := Lib.hid (fun g hg e => by have h1 := (g0.lt g hg).1; have h2 := (Rq.out.g.lt m rfl).2; omega)
  obtain ⟨At, Lt, ct, rfl, r0⟩ := res_of (N := w1.heap.size) g0 KB4.out.size
  have HLBt : Hid (Lt ≤ 700) := Lib.hid (by have h1 := r0.l; have := optB_len low 1 (16) c.note; have := hnote; omega)
  have Rt := Lib.hid r0
  clear r0 g0
  replace Rm := Lib.hid (Rm.out.below bb)
  replace Ro := Lib.hid (Ro.out.below bb)
  replace Rq := Lib.hid (Rq.out.below bb)
  replace Rz := Lib.hid (Rz.out.below bb)
  have KB5 : Hid (Below w1.heap.size w1 y5) := Lib.hid (KB4.out.trans (bb.mono KB4.out.size))
  have HS5 := Lib.hid (HS4.out.below bb HS4.out.lt)
  have s5 : (fun y => y.cell? ⟨B, 0, none⟩ = some (.string c.note)) y5 := HS5.out.cell 0
  clear bb
  dsimp only
  refine hK.out _ _ s5 (fun hHeld => ?_)
  clear hK K
  repeat (rw [putL]; simp only [List.set])
  refine wpAnyH_ready (rs := [7]) (by kernel_rfl) (by simp) ?_
  refine rdy rfl (fun K hK => ?_) (AllReadyH.nil)
  obtain ⟨y6, hcv, g1, hgr⟩ := mark_gro Rq.out.g
  go_simp
  try simp only [hcv, Result.andThen_ok]
  replace Rm := Lib.hid (Rm.out.kept hgr Dm.out)
  replace Ro := Lib.hid (Ro.out.kept hgr Do.out)
  replace Rz := Lib.hid (Rz.out.kept hgr Dz.out)
  replace Rt := Lib.hid (Rt.out.kept hgr Dt.out)
  have bb : Below w1.heap.size y5 y6 := (Below.refl _ _).grown hgr KB5.out.size (fun q hq => by injection hq with hq; have := (Rq.out.g.lt m rfl).1; omega)
  replace Rq : Hid (Res y6 w1.heap.size (some ⟨m, 0, none⟩) 8 8 (List.replicate 8 255)) := Lib.hid ⟨g1, rfl⟩
  clear g1 hgr hcv
  have KB6 : Hid (Below w1.heap.size w1 y6) := Lib.hid (KB5.out.trans bb)
  have HS6 := Lib.hid (HS5.out.below bb HS0.out.lt)
  have s6 : (fun y => y.cell? ⟨B, 0, none⟩ = some (.string c.note)) y6 := HS6.out.cell 0
  clear bb
  refine hK.out _ _ s6 (fun hHeld => ?_)
  clear hK K
  repeat (rw [putL]; simp only [List.set])
  rotate_left 1
  obtain ⟨y4, hcv, g1, hgr⟩ := mark_gro Rq.out.g
  go_simp
  try simp only [hcv, Result.andThen_ok]
  replace Rm := Lib.hid (Rm.out.kept hgr Dm.out)
  replace Ro := Lib.hid (Ro.out.kept hgr Do.out)
  have bb : Below w1.heap.size y3 y4 := (Below.refl _ _).grown hgr KB3.out.size (fun q hq => by injection hq with hq; have := (Rq.out.g.lt m rfl).1; omega)
  replace Rq : Hid (Res y4 w1.heap.size (some ⟨m, 0, none⟩) 8 8 (List.replicate 8 255)) := Lib.hid ⟨g1, rfl⟩
  clear g1 hgr hcv
  have KB4 : Hid (Below w1.heap.size w1 y4) := Lib.hid (KB3.out.trans bb)
  have HS4 := Lib.hid (HS3.out.below bb HS0.out.lt)
  have s4 : (fun y => y.cell? ⟨B, 0, none⟩ = some (.string c.note)) y4 := HS4.out.cell 0
  clear bb
  refine hK.out _ _ s4 (fun hHeld => ?_)
  clear hK K
  repeat (rw [putL]; simp only [List.set])
  refine wpAnyH_ready (rs := [5]) (by kernel_rfl) (by simp) ?_
  refine rdy rfl (fun K hK => ?_) (AllReadyH.nil)
  have CC : Calls Try.prog 35 #[.int .i64 0, .bool low] y4 (OwnG y4 y4.heap.size (numB low 2 0)) := rtwoG y4 low 0
  go_simp
  go_at_call 35
  with_reducible refine CC.mono ?_
  rintro e y5 ⟨v0, rfl, g0, bb⟩
  clear CC
  obtain ⟨Az, Lz, cz, rfl, r0⟩ := res_of (N := w1.heap.size) g0 KB4.out.size
  have HLBz : Hid (Lz ≤ 700) := Lib.hid (by rw [← r0.l, numB_len]; omega)
  have Rz := Lib.hid r0
  clear r0 g0
  replace Rm := Lib.hid (Rm.out.below bb)
  replace Ro := Lib.hid (Ro.out.below bb)
  replace Rq := Lib.hid (Rq.out.below bb)
  have KB5 : Hid (Below w1.heap.size w1 y5) := Lib.hid (KB4.out.trans (bb.mono KB4.out.size))
  have HS5 := Lib.hid (HS4.out.below bb HS4.out.lt)
  have s5 : (fun y => y.cell? ⟨B, 0, none⟩ = some (.string c.note)) y5 := HS5.out.cell 0
  clear bb
  dsimp only
  refine hK.out _ _ s5 (fun hHeld => ?_)
  clear hK K
  repeat (rw [putL]; simp only [List.set])
  refine wpAnyH_ready (rs := [11]) (by kernel_rfl) (by simp) ?_
  refine rdy rfl (fun K hK => ?_) (AllReadyH.nil)
  have CC : Calls Try.prog 36 #[.int .i64 1, .string c.note, .bool low] y5 (OwnG y5 y5.heap.size (optB low 1 16 c.note)) := roption_any (w := y5) low 1 16 c.note hnote rfl
  go_simp
  go_at_call 36
  with_reducible refine CC.mono ?_
  rintro e y6 ⟨v0, rfl, g0, bb⟩
  clear CC
  obtain ⟨At, Lt, ct, rfl, r0⟩ := res_of (N := w1.heap.size) g0 KB5.out.size
  have HLBt : Hid (Lt ≤ 700) := Lib.hid (by have h1 := r0.l; have := optB_len low 1 (16) c.note; have := hnote; omega)
  have Rt := Lib.hid r0
  clear r0 g0
  replace Rm := Lib.hid (Rm.out.below bb)
  replace Ro := Lib.hid (Ro.out.below bb)
  replace Rq := Lib.hid (Rq.out.below bb)
  replace Rz := Lib.hid (Rz.out.below bb)
  have KB6 : Hid (Below w1.heap.size w1 y6) := Lib.hid (KB5.out.trans (bb.mono KB5.out.size))
  have HS6 := Lib.hid (HS5.out.below bb HS5.out.lt)
  have s6 : (fun y => y.cell? ⟨B, 0, none⟩ = some (.string c.note)) y6 := HS6.out.cell 0
  clear bb
  dsimp only
  refine hK.out _ _ s6 (fun hHeld => ?_)
  clear hK K
  repeat (rw [putL]; simp only [List.set])
  rotate_left 1
  obtain ⟨m, hm⟩ : ∃ m, y1.heap.size = m := ⟨_, rfl⟩
  have Dm : Hid (∀ g, (Value.slice Am Lm cm).ownBlock = some g → g ≠ m) := Lib.hid (fun g hg e => by have := (Rm.out.g.lt g hg).2; omega)
  have g1 := lit_gro y1
  have bb : Below y1.heap.size y1 (y1.alloc (.cells #[.int .u8 255, .int .u8 255, .int .u8 255, .int .u8 255, .int .u8 255, .int .u8 255, .int .u8 255, .int .u8 255] 5)) := (Below.refl _ y1).alloc (Nat.le_refl _) _
  go_simp
  generalize y1.alloc (.cells #[.int .u8 255, .int .u8 255, .int .u8 255, .int .u8 255, .int .u8 255, .int .u8 255, .int .u8 255, .int .u8 255] 5) = y2 at g1 bb ⊢
  rw [hm] at g1
  try rw [hm]
  have Rq : Hid (Res y2 w1.heap.size (some ⟨m, 0, none⟩) 8 8 (List.replicate 8 255)) := Lib.hid ⟨g1.mono (by have := KB1.out.size; omega), rfl⟩
  clear g1
  replace Rm := Lib.hid (Rm.out.below bb)
  have KB2 : Hid (Below w1.heap.size w1 y2) := Lib.hid (KB1.out.trans (bb.mono KB1.out.size))
  have HS2 := Lib.hid (HS1.out.below bb HS1.out.lt)
  have s2 : (fun y => y.cell? ⟨B, 0, none⟩ = some (.string c.note)) y2 := HS2.out.cell 0
  clear bb
  clear hm
  refine hK.out _ _ s2 (fun hHeld => ?_)
  clear hK K
  repeat (rw [putL]; simp only [List.set])
  refine wpAnyH_ready (rs := [3, 7]) (by kernel_rfl) (by simp) ?_
  refine rdy rfl (fun K hK => ?_) (rdy rfl (fun K hK => ?_) (AllReadyH.nil))
  have CC : Calls Try.prog 35 #[.int .i64 1, .bool low] y2 (OwnG y2 y2.heap.size (numB low 2 1)) := rtwoG y2 low 1
  go_simp
  go_at_call 35
  with_reducible refine CC.mono ?_
  rintro e y3 ⟨v0, rfl, g0, bb⟩
  clear CC
  have Do : Hid (∀ g, v0.ownBlock = some g → g ≠ m) := Lib.hid (fun g hg e => by have h1 := (g0.lt g hg).1; have h2 := (Rq.out.g.lt m rfl).2; omega)
  obtain ⟨Ao, Lo, co, rfl, r0⟩ := res_of (N := w1.heap.size) g0 KB2.out.size
  have HLBo : Hid (Lo ≤ 700) := Lib.hid (by rw [← r0.l, numB_len]; omega)
  have Ro := Lib.hid r0
  clear r0 g0
  replace Rm := Lib.hid (Rm.out.below bb)
  replace Rq := Lib.hid (Rq.out.below bb)
  have KB3 : Hid (Below w1.heap.size w1 y3) := Lib.hid (KB2.out.trans (bb.mono KB2.out.size))
  have HS3 := Lib.hid (HS2.out.below bb HS2.out.lt)
  have s3 : (fun y => y.cell? ⟨B, 0, none⟩ = some (.string c.note)) y3 := HS3.out.cell 0
  clear bb
  dsimp only
  refine hK.out _ _ s3 (fun hHeld => ?_)
  clear hK K
  repeat (rw [putL]; simp only [List.set])
  refine wpAnyH_ready (rs := [5, 7]) (by kernel_rfl) (by simp) ?_
  refine rdy rfl (fun K hK => ?_) (rdy rfl (fun K hK => ?_) (AllReadyH.nil))
  have CC : Calls Try.prog 35 #[.int .i64 0, .bool low] y3 (OwnG y3 y3.heap.size (numB low 2 0)) := rtwoG y3 low 0
  go_simp
  go_at_call 35
  with_reducible refine CC.mono ?_
  rintro e y4 ⟨v0, rfl, g0, bb⟩
  clear CC
  have Dz : Hid (∀ g, v0.ownBlock = some g → g ≠ m) := Lib.hid (fun g hg e => by have h1 := (g0.lt g hg).1; have h2 := (Rq.out.g.lt m rfl).2; omega)
  obtain ⟨Az, Lz, cz, rfl, r0⟩ := res_of (N := w1.heap.size) g0 KB3.out.size
  have HLBz : Hid (Lz ≤ 700) := Lib.hid (by rw [← r0.l, numB_len]; omega)
  have Rz := Lib.hid r0
  clear r0 g0
  replace Rm := Lib.hid (Rm.out.below bb)
  replace Rq := Lib.hid (Rq.out.below bb)
  replace Ro := Lib.hid (Ro.out.below bb)
  have KB4 : Hid (Below w1.heap.size w1 y4) := Lib.hid (KB3.out.trans (bb.mono KB3.out.size))
  have HS4 := Lib.hid (HS3.out.below bb HS3.out.lt)
  have s4 : (fun y => y.cell? ⟨B, 0, none⟩ = some (.string c.note)) y4 := HS4.out.cell 0
  clear bb
  dsimp only
  refine hK.out _ _ s4 (fun hHeld => ?_)
  clear hK K
  repeat (rw [putL]; simp only [List.set])
  refine wpAnyH_ready (rs := [7, 11]) (by kernel_rfl) (by simp) ?_
  refine rdy rfl (fun K hK => ?_) (rdy rfl (fun K hK => ?_) (AllReadyH.nil))
  obtain ⟨y5, hcv, g1, hgr⟩ := mark_gro Rq.out.g
  go_simp
  try simp only [hcv, Result.andThen_ok]
  replace Rm := Lib.hid (Rm.out.kept hgr Dm.out)
  replace Ro := Lib.hid (Ro.out.kept hgr Do.out)
  replace Rz := Lib.hid (Rz.out.kept hgr Dz.out)
  have bb : Below w1.heap.size y4 y5 := (Below.refl _ _).grown hgr KB4.out.size (fun q hq => by injection hq with hq; have := (Rq.out.g.lt m rfl).1; omega)
  replace Rq : Hid (Res y5 w1.heap.size (some ⟨m, 0, none⟩) 8 8 (List.replicate 8 255)) := Lib.hid ⟨g1, rfl⟩
  clear g1 hgr hcv
  have KB5 : Hid (Below w1.heap.size w1 y5) := Lib.hid (KB4.out.trans bb)
  have HS5 := Lib.hid (HS4.out.below bb HS0.out.lt)
  have s5 : (fun y => y.cell? ⟨B, 0, none⟩ = some (.string c.note)) y5 := HS5.out.cell 0
  clear bb
  refine hK.out _ _ s5 (fun hHeld => ?_)
  clear hK K
  repeat (rw [putL]; simp only [List.set])
  refine wpAnyH_ready (rs := [11]) (by kernel_rfl) (by simp) ?_
  refine rdy rfl (fun K hK => ?_) (AllReadyH.nil)
  have CC : Calls Try.prog 36 #[.int .i64 1, .string c.note, .bool low] y5 (OwnG y5 y5.heap.size (optB low 1 16 c.note)) := roption_any (w := y5) low 1 16 c.note hnote rfl
  go_simp
  go_at_call 36
  with_reducible refine CC.mono ?_
  rintro e y6 ⟨v0, rfl, g0, bb⟩
  clear CC
  obtain ⟨At, Lt, ct, rfl, r0⟩ := res_of (N := w1.heap.size) g0 KB5.out.size
  have HLBt : Hid (Lt ≤ 700) := Lib.hid (by have h1 := r0.l; have := optB_len low 1 (16) c.note; have := hnote; omega)
  have Rt := Lib.hid r0
  clear r0 g0
  replace Rm := Lib.hid (Rm.out.below bb)
  replace Rq := Lib.hid (Rq.out.below bb)
  replace Ro := Lib.hid (Ro.out.below bb)
  replace Rz := Lib.hid (Rz.out.below bb)
  have KB6 : Hid (Below w1.heap.size w1 y6) := Lib.hid (KB5.out.trans (bb.mono KB5.out.size))
  have HS6 := Lib.hid (HS5.out.below bb HS5.out.lt)
  have s6 : (fun y => y.cell? ⟨B, 0, none⟩ = some (.string c.note)) y6 := HS6.out.cell 0
  clear bb
  dsimp only
  refine hK.out _ _ s6 (fun hHeld => ?_)
  clear hK K
  repeat (rw [putL]; simp only [List.set])
  rotate_left 1
  have CC : Calls Try.prog 36 #[.int .i64 1, .string c.note, .bool low] y4 (OwnG y4 y4.heap.size (optB low 1 16 c.note)) := roption_any (w := y4) low 1 16 c.note hnote rfl
  go_simp
  go_at_call 36
  with_reducible refine CC.mono ?_
  rintro e y5 ⟨v0, rfl, g0, bb⟩
  clear CC
  have Dt : Hid (∀ g, v0.ownBlock = some g → g ≠ m) := Lib.hid (fun g hg e => by have h1 := (g0.lt g hg).1; have h2 := (Rq.out.g.lt m rfl).2; omega)
  obtain ⟨At, Lt, ct, rfl, r0⟩ := res_of (N := w1.heap.size) g0 KB4.out.size
  have HLBt : Hid (Lt ≤ 700) := Lib.hid (by have h1 := r0.l; have := optB_len low 1 (16) c.note; have := hnote; omega)
  have Rt := Lib.hid r0
  clear r0 g0
  replace Rm := Lib.hid (Rm.out.below bb)
  replace Rq := Lib.hid (Rq.out.below bb)
  replace Ro := Lib.hid (Ro.out.below bb)
  replace Rz := Lib.hid (Rz.out.below bb)
  have KB5 : Hid (Below w1.heap.size w1 y5) := Lib.hid (KB4.out.trans (bb.mono KB4.out.size))
  have HS5 := Lib.hid (HS4.out.below bb HS4.out.lt)
  have s5 : (fun y => y.cell? ⟨B, 0, none⟩ = some (.string c.note)) y5 := HS5.out.cell 0
  clear bb
  dsimp only
  refine hK.out _ _ s5 (fun hHeld => ?_)
  clear hK K
  repeat (rw [putL]; simp only [List.set])
  refine wpAnyH_ready (rs := [7]) (by kernel_rfl) (by simp) ?_
  refine rdy rfl (fun K hK => ?_) (AllReadyH.nil)
  obtain ⟨y6, hcv, g1, hgr⟩ := mark_gro Rq.out.g
  go_simp
  try simp only [hcv, Result.andThen_ok]
  replace Rm := Lib.hid (Rm.out.kept hgr Dm.out)
  replace Ro := Lib.hid (Ro.out.kept hgr Do.out)
  replace Rz := Lib.hid (Rz.out.kept hgr Dz.out)
  replace Rt := Lib.hid (Rt.out.kept hgr Dt.out)
  have bb : Below w1.heap.size y5 y6 := (Below.refl _ _).grown hgr KB5.out.size (fun q hq => by injection hq with hq; have := (Rq.out.g.lt m rfl).1; omega)
  replace Rq : Hid (Res y6 w1.heap.size (some ⟨m, 0, none⟩) 8 8 (List.replicate 8 255)) := Lib.hid ⟨g1, rfl⟩
  clear g1 hgr hcv
  have KB6 : Hid (Below w1.heap.size w1 y6) := Lib.hid (KB5.out.trans bb)
  have HS6 := Lib.hid (HS5.out.below bb HS0.out.lt)
  have s6 : (fun y => y.cell? ⟨B, 0, none⟩ = some (.string c.note)) y6 := HS6.out.cell 0
  clear bb
  refine hK.out _ _ s6 (fun hHeld => ?_)
  clear hK K
  repeat (rw [putL]; simp only [List.set])
  rotate_left 1
  obtain ⟨y4, hcv, g1, hgr⟩ := mark_gro Rq.out.g
  go_simp
  try simp only [hcv, Result.andThen_ok]
  replace Rm := Lib.hid (Rm.out.kept hgr Dm.out)
  replace Ro := Lib.hid (Ro.out.kept hgr Do.out)
  have bb : Below w1.heap.size y3 y4 := (Below.refl _ _).grown hgr KB3.out.size (fun q hq => by injection hq with hq; have := (Rq.out.g.lt m rfl).1; omega)
  replace Rq : Hid (Res y4 w1.heap.size (some ⟨m, 0, none⟩) 8 8 (List.replicate 8 255)) := Lib.hid ⟨g1, rfl⟩
  clear g1 hgr hcv
  have KB4 : Hid (Below w1.heap.size w1 y4) := Lib.hid (KB3.out.trans bb)
  have HS4 := Lib.hid (HS3.out.below bb HS0.out.lt)
  have s4 : (fun y => y.cell? ⟨B, 0, none⟩ = some (.string c.note)) y4 := HS4.out.cell 0
  clear bb
  refine hK.out _ _ s4 (fun hHeld => ?_)
  clear hK K
  repeat (rw [putL]; simp only [List.set])
  refine wpAnyH_ready (rs := [5]) (by kernel_rfl) (by simp) ?_
  refine rdy rfl (fun K hK => ?_) (AllReadyH.nil)
  have CC : Calls Try.prog 35 #[.int .i64 0, .bool low] y4 (OwnG y4 y4.heap.size (numB low 2 0)) := rtwoG y4 low 0
  go_simp
  go_at_call 35
  with_reducible refine CC.mono ?_
  rintro e y5 ⟨v0, rfl, g0, bb⟩
  clear CC
  obtain ⟨Az, Lz, cz, rfl, r0⟩ := res_of (N := w1.heap.size) g0 KB4.out.size
  have HLBz : Hid (Lz ≤ 700) := Lib.hid (by rw [← r0.l, numB_len]; omega)
  have Rz := Lib.hid r0
  clear r0 g0
  replace Rm := Lib.hid (Rm.out.below bb)
  replace Rq := Lib.hid (Rq.out.below bb)
  replace Ro := Lib.hid (Ro.out.below bb)
  have KB5 : Hid (Below w1.heap.size w1 y5) := Lib.hid (KB4.out.trans (bb.mono KB4.out.size))
  have HS5 := Lib.hid (HS4.out.below bb HS4.out.lt)
  have s5 : (fun y => y.cell? ⟨B, 0, none⟩ = some (.string c.note)) y5 := HS5.out.cell 0
  clear bb
  dsimp only
  refine hK.out _ _ s5 (fun hHeld => ?_)
  clear hK K
  repeat (rw [putL]; simp only [List.set])
  refine wpAnyH_ready (rs := [11]) (by kernel_rfl) (by simp) ?_
  refine rdy rfl (fun K hK => ?_) (AllReadyH.nil)
  have CC : Calls Try.prog 36 #[.int .i64 1, .string c.note, .bool low] y5 (OwnG y5 y5.heap.size (optB low 1 16 c.note)) := roption_any (w := y5) low 1 16 c.note hnote rfl
  go_simp
  go_at_call 36
  with_reducible refine CC.mono ?_
  rintro e y6 ⟨v0, rfl, g0, bb⟩
  clear CC
  obtain ⟨At, Lt, ct, rfl, r0⟩ := res_of (N := w1.heap.size) g0 KB5.out.size
  have HLBt : Hid (Lt ≤ 700) := Lib.hid (by have h1 := r0.l; have := optB_len low 1 (16) c.note; have := hnote; omega)
  have Rt := Lib.hid r0
  clear r0 g0
  replace Rm := Lib.hid (Rm.out.below bb)
  replace Rq := Lib.hid (Rq.out.below bb)
  replace Ro := Lib.hid (Ro.out.below bb)
  replace Rz := Lib.hid (Rz.out.below bb)
  have KB6 : Hid (Below w1.heap.size w1 y6) := Lib.hid (KB5.out.trans (bb.mono KB5.out.size))
  have HS6 := Lib.hid (HS5.out.below bb HS5.out.lt)
  have s6 : (fun y => y.cell? ⟨B, 0, none⟩ = some (.string c.note)) y6 := HS6.out.cell 0
  clear bb
  dsimp only
  refine hK.out _ _ s6 (fun hHeld => ?_)
  clear hK K
  repeat (rw [putL]; simp only [List.set])
  rotate_left 1
  obtain ⟨y3, hcv, g1, hgr⟩ := mark_gro Rq.out.g
  go_simp
  try simp only [hcv, Result.andThen_ok]
  replace Rm := Lib.hid (Rm.out.kept hgr Dm.out)
  have bb : Below w1.heap.size y2 y3 := (Below.refl _ _).grown hgr KB2.out.size (fun q hq => by injection hq with hq; have := (Rq.out.g.lt m rfl).1; omega)
  replace Rq : Hid (Res y3 w1.heap.size (some ⟨m, 0, none⟩) 8 8 (List.replicate 8 255)) := Lib.hid ⟨g1, rfl⟩
  clear g1 hgr hcv
  have KB3 : Hid (Below w1.heap.size w1 y3) := Lib.hid (KB2.out.trans bb)
  have HS3 := Lib.hid (HS2.out.below bb HS0.out.lt)
  have s3 : (fun y => y.cell? ⟨B, 0, none⟩ = some (.string c.note)) y3 := HS3.out.cell 0
  clear bb
  refine hK.out _ _ s3 (fun hHeld => ?_)
  clear hK K
  repeat (rw [putL]; simp only [List.set])
  refine wpAnyH_ready (rs := [3]) (by kernel_rfl) (by simp) ?_
  refine rdy rfl (fun K hK => ?_) (AllReadyH.nil)
  have CC : Calls Try.prog 35 #[.int .i64 1, .bool low] y3 (OwnG y3 y3.heap.size (numB low 2 1)) := rtwoG y3 low 1
  go_simp
  go_at_call 35
  with_reducible refine CC.mono ?_
  rintro e y4 ⟨v0, rfl, g0, bb⟩
  clear CC
  obtain ⟨Ao, Lo, co, rfl, r0⟩ := res_of (N := w1.heap.size) g0 KB3.out.size
  have HLBo : Hid (Lo ≤ 700) := Lib.hid (by rw [← r0.l, numB_len]; omega)
  have Ro := Lib.hid r0
  clear r0 g0
  replace Rm := Lib.hid (Rm.out.below bb)
  replace Rq := Lib.hid (Rq.out.below bb)
  have KB4 : Hid (Below w1.heap.size w1 y4) := Lib.hid (KB3.out.trans (bb.mono KB3.out.size))
  have HS4 := Lib.hid (HS3.out.below bb HS3.out.lt)
  have s4 : (fun y => y.cell? ⟨B, 0, none⟩ = some (.string c.note)) y4 := HS4.out.cell 0
  clear bb
  dsimp only
  refine hK.out _ _ s4 (fun hHeld => ?_)
  clear hK K
  repeat (rw [putL]; simp only [List.set])
  refine wpAnyH_ready (rs := [5]) (by kernel_rfl) (by simp) ?_
  refine rdy rfl (fun K hK => ?_) (AllReadyH.nil)
  have CC : Calls Try.prog 35 #[.int .i64 0, .bool low] y4 (OwnG y4 y4.heap.size (numB low 2 0)) := rtwoG y4 low 0
  go_simp
  go_at_call 35
  with_reducible refine CC.mono ?_
  rintro e y5 ⟨v0, rfl, g0, bb⟩
  clear CC
  obtain ⟨Az, Lz, cz, rfl, r0⟩ := res_of (N := w1.heap.size) g0 KB4.out.size
  have HLBz : Hid (Lz ≤ 700) := Lib.hid (by rw [← r0.l, numB_len]; omega)
  have Rz := Lib.hid r0
  clear r0 g0
  replace Rm := Lib.hid (Rm.out.below bb)
  replace Rq := Lib.hid (Rq.out.below bb)
  replace Ro := Lib.hid (Ro.out.below bb)
  have KB5 : Hid (Below w1.heap.size w1 y5) := Lib.hid (KB4.out.trans (bb.mono KB4.out.size))
  have HS5 := Lib.hid (HS4.out.below bb HS4.out.lt)
  have s5 : (fun y => y.cell? ⟨B, 0, none⟩ = some (.string c.note)) y5 := HS5.out.cell 0
  clear bb
  dsimp only
  refine hK.out _ _ s5 (fun hHeld => ?_)
  clear hK K
  repeat (rw [putL]; simp only [List.set])
  refine wpAnyH_ready (rs := [11]) (by kernel_rfl) (by simp) ?_
  refine rdy rfl (fun K hK => ?_) (AllReadyH.nil)
  have CC : Calls Try.prog 36 #[.int .i64 1, .string c.note, .bool low] y5 (OwnG y5 y5.heap.size (optB low 1 16 c.note)) := roption_any (w := y5) low 1 16 c.note hnote rfl
  go_simp
  go_at_call 36
  with_reducible refine CC.mono ?_
  rintro e y6 ⟨v0, rfl, g0, bb⟩
  clear CC
  obtain ⟨At, Lt, ct, rfl, r0⟩ := res_of (N := w1.heap.size) g0 KB5.out.size
  have HLBt : Hid (Lt ≤ 700) := Lib.hid (by have h1 := r0.l; have := optB_len low 1 (16) c.note; have := hnote; omega)
  have Rt := Lib.hid r0
  clear r0 g0
  replace Rm := Lib.hid (Rm.out.below bb)
  replace Rq := Lib.hid (Rq.out.below bb)
  replace Ro := Lib.hid (Ro.out.below bb)
  replace Rz := Lib.hid (Rz.out.below bb)
  have KB6 : Hid (Below w1.heap.size w1 y6) := Lib.hid (KB5.out.trans (bb.mono KB5.out.size))
  have HS6 := Lib.hid (HS5.out.below bb HS5.out.lt)
  have s6 : (fun y => y.cell? ⟨B, 0, none⟩ = some (.string c.note)) y6 := HS6.out.cell 0
  clear bb
  dsimp only
  refine hK.out _ _ s6 (fun hHeld => ?_)
  clear hK K
  repeat (rw [putL]; simp only [List.set])
  rotate_left 1
  obtain ⟨m, hm⟩ : ∃ m, y0.heap.size = m := ⟨_, rfl⟩
  have g1 := lit_gro y0
  have bb : Below y0.heap.size y0 (y0.alloc (.cells #[.int .u8 255, .int .u8 255, .int .u8 255, .int .u8 255, .int .u8 255, .int .u8 255, .int .u8 255, .int .u8 255] 5)) := (Below.refl _ y0).alloc (Nat.le_refl _) _
  go_simp
  generalize y0.alloc (.cells #[.int .u8 255, .int .u8 255, .int .u8 255, .int .u8 255, .int .u8 255, .int .u8 255, .int .u8 255, .int .u8 255] 5) = y1 at g1 bb ⊢
  rw [hm] at g1
  try rw [hm]
  have Rq : Hid (Res y1 w1.heap.size (some ⟨m, 0, none⟩) 8 8 (List.replicate 8 255)) := Lib.hid ⟨g1.mono (by have := KBd.out.size; omega), rfl⟩
  clear g1
  have KB1 : Hid (Below w1.heap.size w1 y1) := Lib.hid (KBd.out.trans (bb.mono KBd.out.size))
  have HS1 := Lib.hid (HSd.out.below bb HSd.out.lt)
  have s1 : (fun y => y.cell? ⟨B, 0, none⟩ = some (.string c.note)) y1 := HS1.out.cell 0
  clear bb
  clear hm
  refine hK.out _ _ s1 (fun hHeld => ?_)
  clear hK K
  repeat (rw [putL]; simp only [List.set])
  refine wpAnyH_ready (rs := [1, 7]) (by kernel_rfl) (by simp) ?_
  refine rdy rfl (fun K hK => ?_) (rdy rfl (fun K hK => ?_) (AllReadyH.nil))
  have CC : Calls Try.prog 34 #[.int .i64 439041101, .bool low] y1 (OwnG y1 y1.heap.size (numB low 4 439041101)) := rfourG y1 low 439041101
  go_simp
  go_at_call 34
  with_reducible refine CC.mono ?_
  rintro e y2 ⟨v0, rfl, g0, bb⟩
  clear CC
  have Dm : Hid (∀ g, v0.ownBlock = some g → g ≠ m) := Lib.hid (fun g hg e => by have h1 := (g0.lt g hg).1; have h2 := (Rq.out.g.lt m rfl).2; omega)
  obtain ⟨Am, Lm, cm, rfl, r0⟩ := res_of (N := w1.heap.size) g0 KB1.out.size
  have HLBm : Hid (Lm ≤ 700) := Lib.hid (by rw [← r0.l, numB_len]; omega)
  have Rm := Lib.hid r0
  clear r0 g0
  replace Rq := Lib.hid (Rq.out.below bb)
  have KB2 : Hid (Below w1.heap.size w1 y2) := Lib.hid (KB1.out.trans (bb.mono KB1.out.size))
  have HS2 := Lib.hid (HS1.out.below bb HS1.out.lt)
  have s2 : (fun y => y.cell? ⟨B, 0, none⟩ = some (.string c.note)) y2 := HS2.out.cell 0
  clear bb
  dsimp only
  refine hK.out _ _ s2 (fun hHeld => ?_)
  clear hK K
  repeat (rw [putL]; simp only [List.set])
  refine wpAnyH_ready (rs := [3, 7]) (by kernel_rfl) (by simp) ?_
  refine rdy rfl (fun K hK => ?_) (rdy rfl (fun K hK => ?_) (AllReadyH.nil))
  have CC : Calls Try.prog 35 #[.int .i64 1, .bool low] y2 (OwnG y2 y2.heap.size (numB low 2 1)) := rtwoG y2 low 1
  go_simp
  go_at_call 35
  with_reducible refine CC.mono ?_
  rintro e y3 ⟨v0, rfl, g0, bb⟩
  clear CC
  have Do : Hid (∀ g, v0.ownBlock = some g → g ≠ m) := Lib.hid (fun g hg e => by have h1 := (g0.lt g hg).1; have h2 := (Rq.out.g.lt m rfl).2; omega)
  obtain ⟨Ao, Lo, co, rfl, r0⟩ := res_of (N := w1.heap.size) g0 KB2.out.size
  have HLBo : Hid (Lo ≤ 700) := Lib.hid (by rw [← r0.l, numB_len]; omega)
  have Ro := Lib.hid r0
  clear r0 g0
  replace Rq := Lib.hid (Rq.out.below bb)
  replace Rm := Lib.hid (Rm.out.below bb)
  have KB3 : Hid (Below w1.heap.size w1 y3) := Lib.hid (KB2.out.trans (bb.mono KB2.out.size))
  have HS3 := Lib.hid (HS2.out.below bb HS2.out.lt)
  have s3 : (fun y => y.cell? ⟨B, 0, none⟩ = some (.string c.note)) y3 := HS3.out.cell 0
  clear bb
  dsimp only
  refine hK.out _ _ s3 (fun hHeld => ?_)
  clear hK K
  repeat (rw [putL]; simp only [List.set])
  refine wpAnyH_ready (rs := [5, 7]) (by kernel_rfl) (by simp) ?_
  refine rdy rfl (fun K hK => ?_) (rdy rfl (fun K hK => ?_) (AllReadyH.nil))
  have CC : Calls Try.prog 35 #[.int .i64 0, .bool low] y3 (OwnG y3 y3.heap.size (numB low 2 0)) := rtwoG y3 low 0
  go_simp
  go_at_call 35
  with_reducible refine CC.mono ?_
  rintro e y4 ⟨v0, rfl, g0, bb⟩
  clear CC
  have Dz : Hid (∀ g, v0.ownBlock = some g → g ≠ m) := Lib.hid (fun g hg e => by have h1 := (g0.lt g hg).1; have h2 := (Rq.out.g.lt m rfl).2; omega)
  obtain ⟨Az, Lz, cz, rfl, r0⟩ := res_of (N := w1.heap.size) g0 KB3.out.size
  have HLBz : Hid (Lz ≤ 700) := Lib.hid (by rw [← r0.l, numB_len]; omega)
  have Rz := Lib.hid r0
  clear r0 g0
  replace Rq := Lib.hid (Rq.out.below bb)
  replace Rm := Lib.hid (Rm.out.below bb)
  replace Ro := Lib.hid (Ro.out.below bb)
  have KB4 : Hid (Below w1.heap.size w1 y4) := Lib.hid (KB3.out.trans (bb.mono KB3.out.size))
  have HS4 := Lib.hid (HS3.out.below bb HS3.out.lt)
  have s4 : (fun y => y.cell? ⟨B, 0, none⟩ = some (.string c.note)) y4 := HS4.out.cell 0
  clear bb
  dsimp only
  refine hK.out _ _ s4 (fun hHeld => ?_)
  clear hK K
  repeat (rw [putL]; simp only [List.set])
  refine wpAnyH_ready (rs := [7, 11]) (by kernel_rfl) (by simp) ?_
  refine rdy rfl (fun K hK => ?_) (rdy rfl (fun K hK => ?_) (AllReadyH.nil))
  obtain ⟨y5, hcv, g1, hgr⟩ := mark_gro Rq.out.g
  go_simp
  try simp only [hcv, Result.andThen_ok]
  replace Rm := Lib.hid (Rm.out.kept hgr Dm.out)
  replace Ro := Lib.hid (Ro.out.kept hgr Do.out)
  replace Rz := Lib.hid (Rz.out.kept hgr Dz.out)
  have bb : Below w1.heap.size y4 y5 := (Below.refl _ _).grown hgr KB4.out.size (fun q hq => by injection hq with hq; have := (Rq.out.g.lt m rfl).1; omega)
  replace Rq : Hid (Res y5 w1.heap.size (some ⟨m, 0, none⟩) 8 8 (List.replicate 8 255)) := Lib.hid ⟨g1, rfl⟩
  clear g1 hgr hcv
  have KB5 : Hid (Below w1.heap.size w1 y5) := Lib.hid (KB4.out.trans bb)
  have HS5 := Lib.hid (HS4.out.below bb HS0.out.lt)
  have s5 : (fun y => y.cell? ⟨B, 0, none⟩ = some (.string c.note)) y5 := HS5.out.cell 0
  clear bb
  refine hK.out _ _ s5 (fun hHeld => ?_)
  clear hK K
  repeat (rw [putL]; simp only [List.set])
  refine wpAnyH_ready (rs := [11]) (by kernel_rfl) (by simp) ?_
  refine rdy rfl (fun K hK => ?_) (AllReadyH.nil)
  have CC : Calls Try.prog 36 #[.int .i64 1, .string c.note, .bool low] y5 (OwnG y5 y5.heap.size (optB low 1 16 c.note)) := roption_any (w := y5) low 1 16 c.note hnote rfl
  go_simp
  go_at_call 36
  with_reducible refine CC.mono ?_
  rintro e y6 ⟨v0, rfl, g0, bb⟩
  clear CC
  obtain ⟨At, Lt, ct, rfl, r0⟩ := res_of (N := w1.heap.size) g0 KB5.out.size
  have HLBt : Hid (Lt ≤ 700) := Lib.hid (by have h1 := r0.l; have := optB_len low 1 (16) c.note; have := hnote; omega)
  have Rt := Lib.hid r0
  clear r0 g0
  replace Rq := Lib.hid (Rq.out.below bb)
  replace Rm := Lib.hid (Rm.out.below bb)
  replace Ro := Lib.hid (Ro.out.below bb)
  replace Rz := Lib.hid (Rz.out.below bb)
  have KB6 : Hid (Below w1.heap.size w1 y6) := Lib.hid (KB5.out.trans (bb.mono KB5.out.size))
  have HS6 := Lib.hid (HS5.out.below bb HS5.out.lt)
  have s6 : (fun y => y.cell? ⟨B, 0, none⟩ = some (.string c.note)) y6 := HS6.out.cell 0
  clear bb
  dsimp only
  refine hK.out _ _ s6 (fun hHeld => ?_)
  clear hK K
  repeat (rw [putL]; simp only [List.set])
  rotate_left 1
  have CC : Calls Try.prog 36 #[.int .i64 1, .string c.note, .bool low] y4 (OwnG y4 y4.heap.size (optB low 1 16 c.note)) := roption_any (w := y4) low 1 16 c.note hnote rfl
  go_simp
  go_at_call 36
  with_reducible refine CC.mono ?_
  rintro e y5 ⟨v0, rfl, g0, bb⟩
  clear CC
  have Dt : Hid (∀ g, v0.ownBlock = some g → g ≠ m) := Lib.hid (fun g hg e => by have h1 := (g0.lt g hg).1; have h2 := (Rq.out.g.lt m rfl).2; omega)
  obtain ⟨At, Lt, ct, rfl, r0⟩ := res_of (N := w1.heap.size) g0 KB4.out.size
  have HLBt : Hid (Lt ≤ 700) := Lib.hid (by have h1 := r0.l; have := optB_len low 1 (16) c.note; have := hnote; omega)
  have Rt := Lib.hid r0
  clear r0 g0
  replace Rq := Lib.hid (Rq.out.below bb)
  replace Rm := Lib.hid (Rm.out.below bb)
  replace Ro := Lib.hid (Ro.out.below bb)
  replace Rz := Lib.hid (Rz.out.below bb)
  have KB5 : Hid (Below w1.heap.size w1 y5) := Lib.hid (KB4.out.trans (bb.mono KB4.out.size))
  have HS5 := Lib.hid (HS4.out.below bb HS4.out.lt)
  have s5 : (fun y => y.cell? ⟨B, 0, none⟩ = some (.string c.note)) y5 := HS5.out.cell 0
  clear bb
  dsimp only
  refine hK.out _ _ s5 (fun hHeld => ?_)
  clear hK K
  repeat (rw [putL]; simp only [List.set])
  refine wpAnyH_ready (rs := [7]) (by kernel_rfl) (by simp) ?_
  refine rdy rfl (fun K hK => ?_) (AllReadyH.nil)
  obtain ⟨y6, hcv, g1, hgr⟩ := mark_gro Rq.out.g
  go_simp
  try simp only [hcv, Result.andThen_ok]
  replace Rm := Lib.hid (Rm.out.kept hgr Dm.out)
  replace Ro := Lib.hid (Ro.out.kept hgr Do.out)
  replace Rz := Lib.hid (Rz.out.kept hgr Dz.out)
  replace Rt := Lib.hid (Rt.out.kept hgr Dt.out)
  have bb : Below w1.heap.size y5 y6 := (Below.refl _ _).grown hgr KB5.out.size (fun q hq => by injection hq with hq; have := (Rq.out.g.lt m rfl).1; omega)
  replace Rq : Hid (Res y6 w1.heap.size (some ⟨m, 0, none⟩) 8 8 (List.replicate 8 255)) := Lib.hid ⟨g1, rfl⟩
  clear g1 hgr hcv
  have KB6 : Hid (Below w1.heap.size w1 y6) := Lib.hid (KB5.out.trans bb)
  have HS6 := Lib.hid (HS5.out.below bb HS0.out.lt)
  have s6 : (fun y => y.cell? ⟨B, 0, none⟩ = some (.string c.note)) y6 := HS6.out.cell 0
  clear bb
  refine hK.out _ _ s6 (fun hHeld => ?_)
  clear hK K
  repeat (rw [putL]; simp only [List.set])
  rotate_left 1
  obtain ⟨y4, hcv, g1, hgr⟩ := mark_gro Rq.out.g
  go_simp
  try simp only [hcv, Result.andThen_ok]
  replace Rm := Lib.hid (Rm.out.kept hgr Dm.out)
  replace Ro := Lib.hid (Ro.out.kept hgr Do.out)
  have bb : Below w1.heap.size y3 y4 := (Below.refl _ _).grown hgr KB3.out.size (fun q hq => by injection hq with hq; have := (Rq.out.g.lt m rfl).1; omega)
  replace Rq : Hid (Res y4 w1.heap.size (some ⟨m, 0, none⟩) 8 8 (List.replicate 8 255)) := Lib.hid ⟨g1, rfl⟩
  clear g1 hgr hcv
  have KB4 : Hid (Below w1.heap.size w1 y4) := Lib.hid (KB3.out.trans bb)
  have HS4 := Lib.hid (HS3.out.below bb HS0.out.lt)
  have s4 : (fun y => y.cell? ⟨B, 0, none⟩ = some (.string c.note)) y4 := HS4.out.cell 0
  clear bb
  refine hK.out _ _ s4 (fun hHeld => ?_)
  clear hK K
  repeat (rw [putL]; simp only [List.set])
  refine wpAnyH_ready (rs := [5]) (by kernel_rfl) (by simp) ?_
  refine rdy rfl (fun K hK => ?_) (AllReadyH.nil)
  have CC : Calls Try.prog 35 #[.int .i64 0, .bool low] y4 (OwnG y4 y4.heap.size (numB low 2 0)) := rtwoG y4 low 0
  go_simp
  go_at_call 35
  with_reducible refine CC.mono ?_
  rintro e y5 ⟨v0, rfl, g0, bb⟩
  clear CC
  obtain ⟨Az, Lz, cz, rfl, r0⟩ := res_of (N := w1.heap.size) g0 KB4.out.size
  have HLBz : Hid (Lz ≤ 700) := Lib.hid (by rw [← r0.l, numB_len]; omega)
  have Rz := Lib.hid r0
  clear r0 g0
  replace Rq := Lib.hid (Rq.out.below bb)
  replace Rm := Lib.hid (Rm.out.below bb)
  replace Ro := Lib.hid (Ro.out.below bb)
  have KB5 : Hid (Below w1.heap.size w1 y5) := Lib.hid (KB4.out.trans (bb.mono KB4.out.size))
  have HS5 := Lib.hid (HS4.out.below bb HS4.out.lt)
  have s5 : (fun y => y.cell? ⟨B, 0, none⟩ = some (.string c.note)) y5 := HS5.out.cell 0
  clear bb
  dsimp only
  refine hK.out _ _ s5 (fun hHeld => ?_)
  clear hK K
  repeat (rw [putL]; simp only [List.set])
  refine wpAnyH_ready (rs := [11]) (by kernel_rfl) (by simp) ?_
  refine rdy rfl (fun K hK => ?_) (AllReadyH.nil)
  have CC : Calls Try.prog 36 #[.int .i64 1, .string c.note, .bool low] y5 (OwnG y5 y5.heap.size (optB low 1 16 c.note)) := roption_any (w := y5) low 1 16 c.note hnote rfl
  go_simp
  go_at_call 36
  with_reducible refine CC.mono ?_
  rintro e y6 ⟨v0, rfl, g0, bb⟩
  clear CC
  obtain ⟨At, Lt, ct, rfl, r0⟩ := res_of (N := w1.heap.size) g0 KB5.out.size
  have HLBt : Hid (Lt ≤ 700) := Lib.hid (by have h1 := r0.l; have := optB_len low 1 (16) c.note; have := hnote; omega)
  have Rt := Lib.hid r0
  clear r0 g0
  replace Rq := Lib.hid (Rq.out.below bb)
  replace Rm := Lib.hid (Rm.out.below bb)
  replace Ro := Lib.hid (Ro.out.below bb)
  replace Rz := Lib.hid (Rz.out.below bb)
  have KB6 : Hid (Below w1.heap.size w1 y6) := Lib.hid (KB5.out.trans (bb.mono KB5.out.size))
  have HS6 := Lib.hid (HS5.out.below bb HS5.out.lt)
  have s6 : (fun y => y.cell? ⟨B, 0, none⟩ = some (.string c.note)) y6 := HS6.out.cell 0
  clear bb
  dsimp only
  refine hK.out _ _ s6 (fun hHeld => ?_)
  clear hK K
  repeat (rw [putL]; simp only [List.set])
  rotate_left 1
  obtain ⟨y3, hcv, g1, hgr⟩ := mark_gro Rq.out.g
  go_simp
  try simp only [hcv, Result.andThen_ok]
  replace Rm := Lib.hid (Rm.out.kept hgr Dm.out)
  have bb : Below w1.heap.size y2 y3 := (Below.refl _ _).grown hgr KB2.out.size (fun q hq => by injection hq with hq; have := (Rq.out.g.lt m rfl).1; omega)
  replace Rq : Hid (Res y3 w1.heap.size (some ⟨m, 0, none⟩) 8 8 (List.replicate 8 255)) := Lib.hid ⟨g1, rfl⟩
  clear g1 hgr hcv
  have KB3 : Hid (Below w1.heap.size w1 y3) := Lib.hid (KB2.out.trans bb)
  have HS3 := Lib.hid (HS2.out.below bb HS0.out.lt)
  have s3 : (fun y => y.cell? ⟨B, 0, none⟩ = some (.string c.note)) y3 := HS3.out.cell 0
  clear bb
  refine hK.out _ _ s3 (fun hHeld => ?_)
  clear hK K
  repeat (rw [putL]; simp only [List.set])
  refine wpAnyH_ready (rs := [3]) (by kernel_rfl) (by simp) ?_
  refine rdy rfl (fun K hK => ?_) (AllReadyH.nil)
  have CC : Calls Try.prog 35 #[.int .i64 1, .bool low] y3 (OwnG y3 y3.heap.size (numB low 2 1)) := rtwoG y3 low 1
  go_simp
  go_at_call 35
  with_reducible refine CC.mono ?_
  rintro e y4 ⟨v0, rfl, g0, bb⟩
  clear CC
  obtain ⟨Ao, Lo, co, rfl, r0⟩ := res_of (N := w1.heap.size) g0 KB3.out.size
  have HLBo : Hid (Lo ≤ 700) := Lib.hid (by rw [← r0.l, numB_len]; omega)
  have Ro := Lib.hid r0
  clear r0 g0
  replace Rq := Lib.hid (Rq.out.below bb)
  replace Rm := Lib.hid (Rm.out.below bb)
  have KB4 : Hid (Below w1.heap.size w1 y4) := Lib.hid (KB3.out.trans (bb.mono KB3.out.size))
  have HS4 := Lib.hid (HS3.out.below bb HS3.out.lt)
  have s4 : (fun y => y.cell? ⟨B, 0, none⟩ = some (.string c.note)) y4 := HS4.out.cell 0
  clear bb
  dsimp only
  refine hK.out _ _ s4 (fun hHeld => ?_)
  clear hK K
  repeat (rw [putL]; simp only [List.set])
  refine wpAnyH_ready (rs := [5]) (by kernel_rfl) (by simp) ?_
  refine rdy rfl (fun K hK => ?_) (AllReadyH.nil)
  have CC : Calls Try.prog 35 #[.int .i64 0, .bool low] y4 (OwnG y4 y4.heap.size (numB low 2 0)) := rtwoG y4 low 0
  go_simp
  go_at_call 35
  with_reducible refine CC.mono ?_
  rintro e y5 ⟨v0, rfl, g0, bb⟩
  clear CC
  obtain ⟨Az, Lz, cz, rfl, r0⟩ := res_of (N := w1.heap.size) g0 KB4.out.size
  have HLBz : Hid (Lz ≤ 700) := Lib.hid (by rw [← r0.l, numB_len]; omega)
  have Rz := Lib.hid r0
  clear r0 g0
  replace Rq := Lib.hid (Rq.out.below bb)
  replace Rm := Lib.hid (Rm.out.below bb)
  replace Ro := Lib.hid (Ro.out.below bb)
  have KB5 : Hid (Below w1.heap.size w1 y5) := Lib.hid (KB4.out.trans (bb.mono KB4.out.size))
  have HS5 := Lib.hid (HS4.out.below bb HS4.out.lt)
  have s5 : (fun y => y.cell? ⟨B, 0, none⟩ = some (.string c.note)) y5 := HS5.out.cell 0
  clear bb
  dsimp only
  refine hK.out _ _ s5 (fun hHeld => ?_)
  clear hK K
  repeat (rw [putL]; simp only [List.set])
  refine wpAnyH_ready (rs := [11]) (by kernel_rfl) (by simp) ?_
  refine rdy rfl (fun K hK => ?_) (AllReadyH.nil)
  have CC : Calls Try.prog 36 #[.int .i64 1, .string c.note, .bool low] y5 (OwnG y5 y5.heap.size (optB low 1 16 c.note)) := roption_any (w := y5) low 1 16 c.note hnote rfl
  go_simp
  go_at_call 36
  with_reducible refine CC.mono ?_
  rintro e y6 ⟨v0, rfl, g0, bb⟩
  clear CC
  obtain ⟨At, Lt, ct, rfl, r0⟩ := res_of (N := w1.heap.size) g0 KB5.out.size
  have HLBt : Hid (Lt ≤ 700) := Lib.hid (by have h1 := r0.l; have := optB_len low 1 (16) c.note; have := hnote; omega)
  have Rt := Lib.hid r0
  clear r0 g0
  replace Rq := Lib.hid (Rq.out.below bb)
  replace Rm := Lib.hid (Rm.out.below bb)
  replace Ro := Lib.hid (Ro.out.below bb)
  replace Rz := Lib.hid (Rz.out.below bb)
  have KB6 : Hid (Below w1.heap.size w1 y6) := Lib.hid (KB5.out.trans (bb.mono KB5.out.size))
  have HS6 := Lib.hid (HS5.out.below bb HS5.out.lt)
  have s6 : (fun y => y.cell? ⟨B, 0, none⟩ = some (.string c.note)) y6 := HS6.out.cell 0
  clear bb
  dsimp only
  refine hK.out _ _ s6 (fun hHeld => ?_)
  clear hK K
  repeat (rw [putL]; simp only [List.set])
  rotate_left 1
  obtain ⟨y2, hcv, g1, hgr⟩ := mark_gro Rq.out.g
  go_simp
  try simp only [hcv, Result.andThen_ok]
  have bb : Below w1.heap.size y1 y2 := (Below.refl _ _).grown hgr KB1.out.size (fun q hq => by injection hq with hq; have := (Rq.out.g.lt m rfl).1; omega)
  replace Rq : Hid (Res y2 w1.heap.size (some ⟨m, 0, none⟩) 8 8 (List.replicate 8 255)) := Lib.hid ⟨g1, rfl⟩
  clear g1 hgr hcv
  have KB2 : Hid (Below w1.heap.size w1 y2) := Lib.hid (KB1.out.trans bb)
  have HS2 := Lib.hid (HS1.out.below bb HS0.out.lt)
  have s2 : (fun y => y.cell? ⟨B, 0, none⟩ = some (.string c.note)) y2 := HS2.out.cell 0
  clear bb
  refine hK.out _ _ s2 (fun hHeld => ?_)
  clear hK K
  repeat (rw [putL]; simp only [List.set])
  refine wpAnyH_ready (rs := [1]) (by kernel_rfl) (by simp) ?_
  refine rdy rfl (fun K hK => ?_) (AllReadyH.nil)
  have CC : Calls Try.prog 34 #[.int .i64 439041101, .bool low] y2 (OwnG y2 y2.heap.size (numB low 4 439041101)) := rfourG y2 low 439041101
  go_simp
  go_at_call 34
  with_reducible refine CC.mono ?_
  rintro e y3 ⟨v0, rfl, g0, bb⟩
  clear CC
  obtain ⟨Am, Lm, cm, rfl, r0⟩ := res_of (N := w1.heap.size) g0 KB2.out.size
  have HLBm : Hid (Lm ≤ 700) := Lib.hid (by rw [← r0.l, numB_len]; omega)
  have Rm := Lib.hid r0
  clear r0 g0
  replace Rq := Lib.hid (Rq.out.below bb)
  have KB3 : Hid (Below w1.heap.size w1 y3) := Lib.hid (KB2.out.trans (bb.mono KB2.out.size))
  have HS3 := Lib.hid (HS2.out.below bb HS2.out.lt)
  have s3 : (fun y => y.cell? ⟨B, 0, none⟩ = some (.string c.note)) y3 := HS3.out.cell 0
  clear bb
  dsimp only
  refine hK.out _ _ s3 (fun hHeld => ?_)
  clear hK K
  repeat (rw [putL]; simp only [List.set])
  refine wpAnyH_ready (rs := [3]) (by kernel_rfl) (by simp) ?_
  refine rdy rfl (fun K hK => ?_) (AllReadyH.nil)
  have CC : Calls Try.prog 35 #[.int .i64 1, .bool low] y3 (OwnG y3 y3.heap.size (numB low 2 1)) := rtwoG y3 low 1
  go_simp
  go_at_call 35
  with_reducible refine CC.mono ?_
  rintro e y4 ⟨v0, rfl, g0, bb⟩
  clear CC
  obtain ⟨Ao, Lo, co, rfl, r0⟩ := res_of (N := w1.heap.size) g0 KB3.out.size
  have HLBo : Hid (Lo ≤ 700) := Lib.hid (by rw [← r0.l, numB_len]; omega)
  have Ro := Lib.hid r0
  clear r0 g0
  replace Rq := Lib.hid (Rq.out.below bb)
  replace Rm := Lib.hid (Rm.out.below bb)
  have KB4 : Hid (Below w1.heap.size w1 y4) := Lib.hid (KB3.out.trans (bb.mono KB3.out.size))
  have HS4 := Lib.hid (HS3.out.below bb HS3.out.lt)
  have s4 : (fun y => y.cell? ⟨B, 0, none⟩ = some (.string c.note)) y4 := HS4.out.cell 0
  clear bb
  dsimp only
  refine hK.out _ _ s4 (fun hHeld => ?_)
  clear hK K
  repeat (rw [putL]; simp only [List.set])
  refine wpAnyH_ready (rs := [5]) (by kernel_rfl) (by simp) ?_
  refine rdy rfl (fun K hK => ?_) (AllReadyH.nil)
  have CC : Calls Try.prog 35 #[.int .i64 0, .bool low] y4 (OwnG y4 y4.heap.size (numB low 2 0)) := rtwoG y4 low 0
  go_simp
  go_at_call 35
  with_reducible refine CC.mono ?_
  rintro e y5 ⟨v0, rfl, g0, bb⟩
  clear CC
  obtain ⟨Az, Lz, cz, rfl, r0⟩ := res_of (N := w1.heap.size) g0 KB4.out.size
  have HLBz : Hid (Lz ≤ 700) := Lib.hid (by rw [← r0.l, numB_len]; omega)
  have Rz := Lib.hid r0
  clear r0 g0
  replace Rq := Lib.hid (Rq.out.below bb)
  replace Rm := Lib.hid (Rm.out.below bb)
  replace Ro := Lib.hid (Ro.out.below bb)
  have KB5 : Hid (Below w1.heap.size w1 y5) := Lib.hid (KB4.out.trans (bb.mono KB4.out.size))
  have HS5 := Lib.hid (HS4.out.below bb HS4.out.lt)
  have s5 : (fun y => y.cell? ⟨B, 0, none⟩ = some (.string c.note)) y5 := HS5.out.cell 0
  clear bb
  dsimp only
  refine hK.out _ _ s5 (fun hHeld => ?_)
  clear hK K
  repeat (rw [putL]; simp only [List.set])
  refine wpAnyH_ready (rs := [11]) (by kernel_rfl) (by simp) ?_
  refine rdy rfl (fun K hK => ?_) (AllReadyH.nil)
  have CC : Calls Try.prog 36 #[.int .i64 1, .string c.note, .bool low] y5 (OwnG y5 y5.heap.size (optB low 1 16 c.note)) := roption_any (w := y5) low 1 16 c.note hnote rfl
  go_simp
  go_at_call 36
  with_reducible refine CC.mono ?_
  rintro e y6 ⟨v0, rfl, g0, bb⟩
  clear CC
  obtain ⟨At, Lt, ct, rfl, r0⟩ := res_of (N := w1.heap.size) g0 KB5.out.size
  have HLBt : Hid (Lt ≤ 700) := Lib.hid (by have h1 := r0.l; have := optB_len low 1 (16) c.note; have := hnote; omega)
  have Rt := Lib.hid r0
  clear r0 g0
  replace Rq := Lib.hid (Rq.out.below bb)
  replace Rm := Lib.hid (Rm.out.below bb)
  replace Ro := Lib.hid (Ro.out.below bb)
  replace Rz := Lib.hid (Rz.out.below bb)
  have KB6 : Hid (Below w1.heap.size w1 y6) := Lib.hid (KB5.out.trans (bb.mono KB5.out.size))
  have HS6 := Lib.hid (HS5.out.below bb HS5.out.lt)
  have s6 : (fun y => y.cell? ⟨B, 0, none⟩ = some (.string c.note)) y6 := HS6.out.cell 0
  clear bb
  dsimp only
  refine hK.out _ _ s6 (fun hHeld => ?_)
  clear hK K
  repeat (rw [putL]; simp only [List.set])
  all_goals (
   refine wpAnyH_ready (rs := [12]) (by kernel_rfl) (by simp) ?_
   refine rdy rfl (fun K hK => ?_) (AllReadyH.nil)
   have JJ := rjoinM (X := y6) [(Am, Lm, cm, numB low 4 439041101), (Ao, Lo, co, numB low 2 1), (Az, Lz, cz, numB low 2 0), (some ⟨m, 0, none⟩, 8, 8, List.replicate 8 255), (At, Lt, ct, optB low 1 16 c.note)] (List.forall_mem_cons.2 ⟨⟨Rm.out.byt, Rm.out.l, (by show Lm ≤ 1000; have h2 := HLBm.out; omega)⟩, List.forall_mem_cons.2 ⟨⟨Ro.out.byt, Ro.out.l, (by show Lo ≤ 1000; have h2 := HLBo.out; omega)⟩, List.forall_mem_cons.2 ⟨⟨Rz.out.byt, Rz.out.l, (by show Lz ≤ 1000; have h2 := HLBz.out; omega)⟩, List.forall_mem_cons.2 ⟨⟨Rq.out.byt, Rq.out.l, (by show 8 ≤ 1000; omega)⟩, List.forall_mem_cons.2 ⟨⟨Rt.out.byt, Rt.out.l, (by show Lt ≤ 1000; have h2 := HLBt.out; omega)⟩, List.forall_mem_nil _⟩⟩⟩⟩⟩) (by simp)
   simp only [List.map_cons, List.map_nil, List.length_cons, List.length_nil, Nat.zero_add, Nat.reduceAdd, List.flatten_cons, List.flatten_nil, List.append_nil] at JJ
   have bb : Below y6.heap.size y6 (y6.alloc (.cells #[.slice Am Lm cm, .slice Ao Lo co, .slice Az Lz cz, .slice (some ⟨m, 0, none⟩) 8 8, .slice At Lt ct] 30)) := (Below.refl _ y6).alloc (Nat.le_refl _) _
   go_simp
   generalize y6.alloc (.cells #[.slice Am Lm cm, .slice Ao Lo co, .slice Az Lz cz, .slice (some ⟨m, 0, none⟩) 8 8, .slice At Lt ct] 30) = y7 at JJ bb ⊢
   have KB7 : Hid (Below w1.heap.size w1 y7) := Lib.hid (KB6.out.trans (bb.mono KB6.out.size))
   have HS7 := Lib.hid (HS6.out.below bb HS6.out.lt)
   have s7 : (fun y => y.cell? ⟨B, 0, none⟩ = some (.string c.note)) y7 := HS7.out.cell 0
   clear bb
   clear Rm Ro Rz Rq Rt
   refine hK.out _ _ s7 (fun hHeld => ?_)
   clear hK K
   repeat (rw [putL]; simp only [List.set])
   refine wpAnyH_ready (rs := [13]) (by kernel_rfl) (by simp) ?_
   refine rdy rfl (fun K hK => ?_) (AllReadyH.nil)
   go_simp
   go_at_call 33
   with_reducible refine JJ.mono ?_
   rintro e y8 ⟨v0, rfl, g0, bb⟩
   clear JJ
   rw [sec_ref] at g0
   obtain ⟨Aj, Lj, cj, rfl, r0⟩ := res_of (N := w1.heap.size) g0 KB7.out.size
   have HLBj : Hid (Lj ≤ 700) := Lib.hid (by have h1 := r0.l; have h2 := optB_len low 1 16 c.note; rw [List.length_append, secH_len] at h1; omega)
   have Rj := Lib.hid r0
   clear r0 g0
   have KB8 : Hid (Below w1.heap.size w1 y8) := Lib.hid (KB7.out.trans (bb.mono KB7.out.size))
   have HS8 := Lib.hid (HS7.out.below bb HS7.out.lt)
   have s8 : (fun y => y.cell? ⟨B, 0, none⟩ = some (.string c.note)) y8 := HS8.out.cell 0
   clear bb
   dsimp only
   refine hK.out _ _ s8 (fun hHeld => ?_)
   clear hK K
   repeat (rw [putL]; simp only [List.set])
   refine wpAnyH_ready (rs := [15]) (by kernel_rfl) (by simp) ?_
   refine rdy rfl (fun K hK => ?_) (AllReadyH.nil)
   have CC : Calls Try.prog 32 #[.int .i64 168627466, .slice Aj Lj cj, .bool low] y8 (fun e w' => ∃ v', e = .returned v' ∧ Gro w' y8.heap.size v' (blkB low 168627466 (secH low ++ optB low 1 16 c.note)) ∧ Below w1.heap.size y8 w') := rblock_any low 168627466 Rj.out.g KB8.out.size (by have h1 := Rj.out.l; have h2 := HLBj.out; omega)
   go_simp
   go_at_call 32
   with_reducible refine CC.mono ?_
   rintro e y9 ⟨v0, rfl, g0, bb⟩
   clear CC
   obtain ⟨Ab, Lb, cb, rfl, r0⟩ := res_of (N := w1.heap.size) g0 KB8.out.size
   have HLBb : Hid (Lb ≤ 700) := Lib.hid (by have h1 := r0.l; have h2 := optB_len low 1 16 c.note; have h3 := blkB_len low 168627466 (secH low ++ optB low 1 16 c.note); rw [List.length_append, secH_len] at h3; omega)
   have Rb := Lib.hid r0
   clear r0 g0 Rj
   have KB9 : Hid (Below w1.heap.size w1 y9) := Lib.hid (KB8.out.trans bb)
   have HS9 := Lib.hid (HS8.out.below bb HS0.out.lt)
   have s9 : (fun y => y.cell? ⟨B, 0, none⟩ = some (.string c.note)) y9 := HS9.out.cell 0
   clear bb
   dsimp only
   refine hK.out _ _ s9 (fun hHeld => ?_)
   clear hK K
   repeat (rw [putL]; simp only [List.set])
   refine tky 16 ?_
   repeat (rw [putL]; simp only [List.set])
   refine wpAnyH_done (by kernel_rfl) ?_ _)
  all_goals (
   refine hT _ _ _ _ _ _ _ _ _ _ _ ?_ ?_
   ·exact Lib.hid (Rb.out.g.mono (Nat.succ_le_of_lt HK1.out.1.lt))
   ·exact Lib.hid ⟨HK1.out.1.below KB9.out HK1.out.1.lt, HK1.out.2.trans (KB9.out.mono (Nat.le_of_lt HK1.out.1.lt))⟩)

set_option maxRecDepth 100000 in
set_option maxHeartbeats 16000000 in
theorem rwblocks_any {w : World} {p : Pl} {c : Cap} (low : Bool) (hm : CapM w w.heap.size p c) (he : errV c = 0) :
  Calls Try.prog 11 #[capV p c, .bool false, .bool low] w fun e w' => ∃ v, e = .returned (.tuple #[v, .int .i64 0]) ∧ Gro w' w.heap.size v (blocksB low c) ∧ Below w.heap.size w w' := by
 obtain ⟨pf, cf, pn, cn, ps, cs, pp, cp⟩ := p
 obtain ⟨B, hB⟩ : ∃ B, w.heap.size = B := ⟨_, rfl⟩
 obtain ⟨W0, hW0⟩ : ∃ W0, w.alloc (.cells #[.string c.note, .slice pf c.faces.length cf, .slice pn c.names.length cn, .slice ps c.secs.length cs, .slice pp c.pkts.length cp] 27) = W0 := ⟨_, rfl⟩
 have HM0 : Hid (CapM W0 W0.heap.size ⟨pf, cf, pn, cn, ps, cs, pp, cp⟩ c) := Lib.hid (by rw [← hW0]; exact boxed hm _)
 have HK0 : Hid (Blk W0 B 27 #[.string c.note, .slice pf c.faces.length cf, .slice pn c.names.length cn, .slice ps c.secs.length cs, .slice pp c.pkts.length cp] ∧ Below B w W0) := Lib.hid (by rw [← hW0, ← hB]; exact ⟨Blk.new _ _ _, (Below.refl _ w).alloc (Nat.le_refl _) _⟩)
 have HM := Lib.hid (show CapM w B ⟨pf, cf, pn, cn, ps, cs, pp, cp⟩ c by rw [← hB]; exact hm)
 have HOK := Lib.hid (okay_of' he)
 have HR := Lib.hid (rvald_any HM0.out)
 have HBE := Lib.hid hB
 have lf : c.faces.length ≤ 4 := HOK.out.nf.2
 have ln : c.names.length ≤ 60 := HOK.out.nn
 have ls : c.secs.length ≤ 60 := HOK.out.ns
 have lp : c.pkts.length ≤ 100 := HOK.out.np
 rw [he] at HR
 rw [hB]
 have q0 : W0.cell? ⟨B, 0, none⟩ = some (.string c.note) := HK0.out.1.cell 0
 have q1 : W0.cell? ⟨B, 1, none⟩ = some (.slice pf c.faces.length cf) := HK0.out.1.cell 1
 have q2 : W0.cell? ⟨B, 2, none⟩ = some (.slice pn c.names.length cn) := HK0.out.1.cell 2
 have q3 : W0.cell? ⟨B, 3, none⟩ = some (.slice ps c.secs.length cs) := HK0.out.1.cell 3
 have q4 : W0.cell? ⟨B, 4, none⟩ = some (.slice pp c.pkts.length cp) := HK0.out.1.cell 4
 clear hm he
 go_enter Try.func11, Try.ntmps11
 go_wp2_with fail
 clear hW0 hB
 refine HR.out.mono ?_
 rintro e w1 ⟨rfl, hb1⟩
 have HK1 : Hid (Blk w1 B 27 #[.string c.note, .slice pf c.faces.length cf, .slice pn c.names.length cn, .slice ps c.secs.length cs, .slice pp c.pkts.length cp] ∧ Below B w w1) := Lib.hid ⟨HK0.out.1.below hb1 HK0.out.1.lt, HK0.out.2.trans (hb1.mono (Nat.le_of_lt HK0.out.1.lt))⟩
 clear hb1 HM0 HK0 HR q0 q1 q2 q3 q4
 go_upto_region 8 with fail
 go_cut [9] (fun v wx => Hid (Gro wx (B + 1) v (sectB low c.note)) ∧ Hid (Blk wx B 27 (capV ⟨pf, cf, pn, cn, ps, cs, pp, cp⟩ c).cells ∧ Below B w wx))
 case first =>
  refine rwfirst HOK HK1 (fun _ _ _ _ _ _ _ _ _ _ _ h1 h2 => ?_)
  go_wp2_with fail
  go_meet
  exact ⟨h1, h2⟩
 case rest =>
  obtain ⟨HR0, HW0⟩ := hcut
  have HL0 : Hid ((sectB low c.note).length ≤ 10000) := Lib.hid (by have h2 := optB_len low 1 16 c.note; have h3 := blkB_len low 168627466 (secH low ++ optB low 1 16 c.note); have h4 := HOK.out.note; rw [List.length_append, secH_len] at h3; unfold sectB; omega)
  clear HK1
  have q1 : wc.cell? ⟨B, 1, none⟩ = some (.slice pf c.faces.length cf) := HW0.out.1.cell 1
  go_wp2
  clear q1
  go_loopw [9, 10] (fun v i wr => ∃ k : Nat, i = .int .i64 k ∧ k ≤ c.faces.length ∧ Hid (Gro wr (B + 1) v (sectB low c.note ++ (c.faces.take k).flatMap (faceBl low))) ∧ Hid ((sectB low c.note ++ (c.faces.take k).flatMap (faceBl low)).length ≤ 10000 + 700 * k) ∧ Hid (Blk wr B 27 (capV ⟨pf, cf, pn, cn, ps, cs, pp, cp⟩ c).cells ∧ Below B w wr)) (fun _ i _ => c.faces.length - (intOf i).toNat)
  case atStart => exact ⟨0, rfl, Nat.zero_le _, by simpa using HR0, by simpa using HL0, HW0⟩
  case round =>
   obtain ⟨k, rfl, hk, HR, HLN, HW⟩ := hrel
   have q1 : wr.cell? ⟨B, 1, none⟩ = some (.slice pf c.faces.length cf) := HW.out.1.cell 1
   by_cases hlt : k < c.faces.length
   ·obtain ⟨b, o, hA, hb, vs, hl, ⟨rfl, hbig, hlk0, hsn0⟩, hcell⟩ := (HM.out.faces.keep facK HW.out.2 (Nat.le_refl _)).row k hlt
    change pf = _ at hA
    rw [hA] at q1
    clear hA
    have c0 : wr.cell? ⟨b, o + k * 3, none⟩ = _ := hcell 0 _ rfl
    have c1 := hcell 1 _ rfl
    have c2 := hcell 2 _ rfl
    clear hcell hl hbig
    have HSN := Lib.hid (flat_snoc (faceBl low) c.faces k hlt)
    obtain ⟨hv1, hv2, hv3, hv4, hv5⟩ := HOK.out.faces _ (List.getElem_mem hlt)
    obtain ⟨lk, hlk⟩ : ∃ lk : Nat, c.faces[k].link = lk := ⟨c.faces[k].link.toNat, by omega⟩
    obtain ⟨sn, hsn⟩ : ∃ sn : Nat, c.faces[k].snap = sn := ⟨c.faces[k].snap.toNat, by omega⟩
    obtain ⟨nm, hnm⟩ : ∃ nm, c.faces[k].name = nm := ⟨_, rfl⟩
    rw [hnm] at hv1 c0
    rw [hlk] at c1
    rw [hsn] at c2
    have HBL : Hid (faceBl low c.faces[k] = blkB low 1 (facBy low lk sn nm)) := Lib.hid (by unfold faceBl; rw [hlk, hsn, hnm]; rfl)
    clear hv2 hv3 hv4 hv5 hlk hsn hlk0 hsn0 hnm
    obtain ⟨W1, hW1⟩ : ∃ W1, wr.alloc (.cells #[.string nm, .int .i64 (lk : Nat), .int .i64 (sn : Nat)] 54) = W1 := ⟨_, rfl⟩
    obtain ⟨H, hH⟩ : ∃ H, wr.heap.size = H := ⟨_, rfl⟩
    have HS0 : Hid (Blk W1 H 54 #[.string nm, .int .i64 (lk : Nat), .int .i64 (sn : Nat)]) := Lib.hid (by rw [← hW1, ← hH]; exact Blk.new _ _ _)
    have HB1 : Hid (Below wr.heap.size wr W1) := Lib.hid (by rw [← hW1]; exact (Below.refl _ wr).alloc (Nat.le_refl _) _)
    have KO : Hid (Gro W1 (B + 1) u9 (sectB low c.note ++ (c.faces.take k).flatMap (faceBl low))) := Lib.hid (HR.out.below HB1.out)
    have KL : Hid ((sectB low c.note ++ (c.faces.take k).flatMap (faceBl low)).length ≤ 300000) := Lib.hid (by have := HLN.out; have := HOK.out.nf.2; omega)
    have KN : Hid (B + 1 ≤ W1.heap.size) := Lib.hid (Nat.le_trans HW.out.1.lt HB1.out.size)
    have KH : Hid (∀ q, u9.ownBlock = some q → q < H) := Lib.hid (fun q hq => by rw [← hH]; exact (HR.out.lt q hq).2)
    go_wp2_with fail
    clear hW1
    have HSd : Hid (Blk W1.drew H 54 #[.string nm, .int .i64 (lk : Nat), .int .i64 (sn : Nat)]) := HS0
    have KB00 : Hid (Below W1.heap.size W1 W1.drew) := Lib.hid (Below.refl _ _).drew
    have s0d : (fun y => y.cell? ⟨H, 0, none⟩ = some (.string nm) ∧ y.cell? ⟨H, 1, none⟩ = some (.int .i64 (lk : Nat)) ∧ y.cell? ⟨H, 2, none⟩ = some (.int .i64 (sn : Nat))) W1.drew := ⟨HS0.out.cell 0, HS0.out.cell 1, HS0.out.cell 2⟩
    refine wp_region_held_drew (S := fun y => y.cell? ⟨H, 0, none⟩ = some (.string nm) ∧ y.cell? ⟨H, 1, none⟩ = some (.int .i64 (lk : Nat)) ∧ y.cell? ⟨H, 2, none⟩ = some (.int .i64 (sn : Nat))) (by kernel_rfl) s0d (fun hHeld => ?_)
    generalize W1.drew = y0 at s0d HSd KB00 hHeld ⊢
    have s0 := s0d
    have KBd := KB00
    clear s0d KB00
    refine tky 0 ?_
    repeat (rw [putL]; simp only [List.set])
    refine tky 1 ?_
    repeat (rw [putL]; simp only [List.set])
    refine tky 2 ?_
    repeat (rw [putL]; simp only [List.set])
    refine tky 3 ?_
    repeat (rw [putL]; simp only [List.set])
    refine tky 5 ?_
    repeat (rw [putL]; simp only [List.set])
    refine tky 7 ?_
    repeat (rw [putL]; simp only [List.set])
    refine tky 8 ?_
    repeat (rw [putL]; simp only [List.set])
    refine tky 9 ?_
    repeat (rw [putL]; simp only [List.set])
    refine tky 11 ?_
    repeat (rw [putL]; simp only [List.set])
    refine tky 12 ?_
    repeat (rw [putL]; simp only [List.set])
    refine tky 13 ?_
    repeat (rw [putL]; simp only [List.set])
    refine tky 17 ?_
    repeat (rw [putL]; simp only [List.set])
    refine wpAnyH_ready (rs := [4]) (by kernel_rfl) (by simp) ?_
    refine rdy rfl (fun K hK => ?_) (AllReadyH.nil)
    have CC : Calls Try.prog 35 #[.int .i64 lk, .bool low] y0 (OwnG y0 y0.heap.size (numB low 2 lk)) := rtwoG y0 low lk
    go_simp
    go_at_call 35
    with_reducible refine CC.mono ?_
    rintro e y1 ⟨v0, rfl, g0, bb⟩
    clear CC
    obtain ⟨Aa, La, ca, rfl, r0⟩ := res_of (N := W1.heap.size) g0 KBd.out.size
    have HLBa : Hid (La ≤ 700) := Lib.hid (by rw [← r0.l, numB_len]; omega)
    have Ra := Lib.hid r0
    clear r0 g0
    have KB1 : Hid (Below W1.heap.size W1 y1) := Lib.hid (KBd.out.trans (bb.mono KBd.out.size))
    have HS1 := Lib.hid (HSd.out.below bb HSd.out.lt)
    have s1 : (fun y => y.cell? ⟨H, 0, none⟩ = some (.string nm) ∧ y.cell? ⟨H, 1, none⟩ = some (.int .i64 (lk : Nat)) ∧ y.cell? ⟨H, 2, none⟩ = some (.int .i64 (sn : Nat))) y1 := ⟨HS1.out.cell 0, HS1.out.cell 1, HS1.out.cell 2⟩
    clear bb
    dsimp only
    refine hK.out _ _ s1 (fun hHeld => ?_)
    clear hK K
    repeat (rw [putL]; simp only [List.set])
    refine wpAnyH_ready (rs := [6]) (by kernel_rfl) (by simp) ?_
    refine rdy rfl (fun K hK => ?_) (AllReadyH.nil)
    have CC : Calls Try.prog 35 #[.int .i64 0, .bool low] y1 (OwnG y1 y1.heap.size (numB low 2 0)) := rtwoG y1 low 0
    go_simp
    go_at_call 35
    with_reducible refine CC.mono ?_
    rintro e y2 ⟨v0, rfl, g0, bb⟩
    clear CC
    obtain ⟨Ae, Le, ce, rfl, r0⟩ := res_of (N := W1.heap.size) g0 KB1.out.size
    have HLBe : Hid (Le ≤ 700) := Lib.hid (by rw [← r0.l, numB_len]; omega)
    have Re := Lib.hid r0
    clear r0 g0
    replace Ra := Lib.hid (Ra.out.below bb)
    have KB2 : Hid (Below W1.heap.size W1 y2) := Lib.hid (KB1.out.trans (bb.mono KB1.out.size))
    have HS2 := Lib.hid (HS1.out.below bb HS1.out.lt)
    have s2 : (fun y => y.cell? ⟨H, 0, none⟩ = some (.string nm) ∧ y.cell? ⟨H, 1, none⟩ = some (.int .i64 (lk : Nat)) ∧ y.cell? ⟨H, 2, none⟩ = some (.int .i64 (sn : Nat))) y2 := ⟨HS2.out.cell 0, HS2.out.cell 1, HS2.out.cell 2⟩
    clear bb
    dsimp only
    refine hK.out _ _ s2 (fun hHeld => ?_)
    clear hK K
    repeat (rw [putL]; simp only [List.set])
    refine wpAnyH_ready (rs := [10]) (by kernel_rfl) (by simp) ?_
    refine rdy rfl (fun K hK => ?_) (AllReadyH.nil)
    have CC : Calls Try.prog 34 #[.int .i64 sn, .bool low] y2 (OwnG y2 y2.heap.size (numB low 4 sn)) := rfourG y2 low sn
    go_simp
    go_at_call 34
    with_reducible refine CC.mono ?_
    rintro e y3 ⟨v0, rfl, g0, bb⟩
    clear CC
    obtain ⟨Ai, Li, ci, rfl, r0⟩ := res_of (N := W1.heap.size) g0 KB2.out.size
    have HLBi : Hid (Li ≤ 700) := Lib.hid (by rw [← r0.l, numB_len]; omega)
    have Ri := Lib.hid r0
    clear r0 g0
    replace Ra := Lib.hid (Ra.out.below bb)
    replace Re := Lib.hid (Re.out.below bb)
    have KB3 : Hid (Below W1.heap.size W1 y3) := Lib.hid (KB2.out.trans (bb.mono KB2.out.size))
    have HS3 := Lib.hid (HS2.out.below bb HS2.out.lt)
    have s3 : (fun y => y.cell? ⟨H, 0, none⟩ = some (.string nm) ∧ y.cell? ⟨H, 1, none⟩ = some (.int .i64 (lk : Nat)) ∧ y.cell? ⟨H, 2, none⟩ = some (.int .i64 (sn : Nat))) y3 := ⟨HS3.out.cell 0, HS3.out.cell 1, HS3.out.cell 2⟩
    clear bb
    dsimp only
    refine hK.out _ _ s3 (fun hHeld => ?_)
    clear hK K
    repeat (rw [putL]; simp only [List.set])
    refine wpAnyH_ready (rs := [14]) (by kernel_rfl) (by simp) ?_
    refine rdy rfl (fun K hK => ?_) (AllReadyH.nil)
    have CC : Calls Try.prog 36 #[.int .i64 2, .string nm, .bool low] y3 (OwnG y3 y3.heap.size (optB low 2 8 nm)) := roption_any (w := y3) low 2 8 nm hv1 rfl
    go_simp
    go_at_call 36
    with_reducible refine CC.mono ?_
    rintro e y4 ⟨v0, rfl, g0, bb⟩
    clear CC
    obtain ⟨At, Lt, ct, rfl, r0⟩ := res_of (N := W1.heap.size) g0 KB3.out.size
    have HLBt : Hid (Lt ≤ 700) := Lib.hid (by have h1 := r0.l; have := optB_len low 2 (8) nm; have := hv1; omega)
    have Rt := Lib.hid r0
    clear r0 g0
    replace Ra := Lib.hid (Ra.out.below bb)
    replace Re := Lib.hid (Re.out.below bb)
    replace Ri := Lib.hid (Ri.out.below bb)
    have KB4 : Hid (Below W1.heap.size W1 y4) := Lib.hid (KB3.out.trans (bb.mono KB3.out.size))
    have HS4 := Lib.hid (HS3.out.below bb HS3.out.lt)
    have s4 : (fun y => y.cell? ⟨H, 0, none⟩ = some (.string nm) ∧ y.cell? ⟨H, 1, none⟩ = some (.int .i64 (lk : Nat)) ∧ y.cell? ⟨H, 2, none⟩ = some (.int .i64 (sn : Nat))) y4 := ⟨HS4.out.cell 0, HS4.out.cell 1, HS4.out.cell 2⟩
    clear bb
    dsimp only
    refine hK.out _ _ s4 (fun hHeld => ?_)
    clear hK K
    repeat (rw [putL]; simp only [List.set])
    refine wpAnyH_ready (rs := [15]) (by kernel_rfl) (by simp) ?_
    refine rdy rfl (fun K hK => ?_) (AllReadyH.nil)
    have JJ := rjoinM (X := y4) [(Aa, La, ca, numB low 2 lk), (Ae, Le, ce, numB low 2 0), (Ai, Li, ci, numB low 4 sn), (At, Lt, ct, optB low 2 8 nm)] (List.forall_mem_cons.2 ⟨⟨Ra.out.byt, Ra.out.l, (by show La ≤ 1000; have h2 := HLBa.out; omega)⟩, List.forall_mem_cons.2 ⟨⟨Re.out.byt, Re.out.l, (by show Le ≤ 1000; have h2 := HLBe.out; omega)⟩, List.forall_mem_cons.2 ⟨⟨Ri.out.byt, Ri.out.l, (by show Li ≤ 1000; have h2 := HLBi.out; omega)⟩, List.forall_mem_cons.2 ⟨⟨Rt.out.byt, Rt.out.l, (by show Lt ≤ 1000; have h2 := HLBt.out; omega)⟩, List.forall_mem_nil _⟩⟩⟩⟩) (by simp)
    simp only [List.map_cons, List.map_nil, List.length_cons, List.length_nil, Nat.zero_add, Nat.reduceAdd, List.flatten_cons, List.flatten_nil, List.append_nil] at JJ
    have bb : Below y4.heap.size y4 (y4.alloc (.cells #[.slice Aa La ca, .slice Ae Le ce, .slice Ai Li ci, .slice At Lt ct] 30)) := (Below.refl _ y4).alloc (Nat.le_refl _) _
    go_simp
    generalize y4.alloc (.cells #[.slice Aa La ca, .slice Ae Le ce, .slice Ai Li ci, .slice At Lt ct] 30) = y5 at JJ bb ⊢
    have KB5 : Hid (Below W1.heap.size W1 y5) := Lib.hid (KB4.out.trans (bb.mono KB4.out.size))
    have HS5 := Lib.hid (HS4.out.below bb HS4.out.lt)
    have s5 : (fun y => y.cell? ⟨H, 0, none⟩ = some (.string nm) ∧ y.cell? ⟨H, 1, none⟩ = some (.int .i64 (lk : Nat)) ∧ y.cell? ⟨H, 2, none⟩ = some (.int .i64 (sn : Nat))) y5 := ⟨HS5.out.cell 0, HS5.out.cell 1, HS5.out.cell 2⟩
    clear bb
    clear Ra Re Ri Rt
    refine hK.out _ _ s5 (fun hHeld => ?_)
    clear hK K
    repeat (rw [putL]; simp only [List.set])
    refine wpAnyH_ready (rs := [16]) (by kernel_rfl) (by simp) ?_
    refine rdy rfl (fun K hK => ?_) (AllReadyH.nil)
    go_simp
    go_at_call 33
    with_reducible refine JJ.mono ?_
    rintro e y6 ⟨v0, rfl, g0, bb⟩
    clear JJ
    rw [fac_ref] at g0
    obtain ⟨Aj, Lj, cj, rfl, r0⟩ := res_of (N := W1.heap.size) g0 KB5.out.size
    have HLBj : Hid (Lj ≤ 700) := Lib.hid (by have h1 := r0.l; have h2 := facBy_len low lk sn nm; omega)
    have Rj := Lib.hid r0
    clear r0 g0
    have KB6 : Hid (Below W1.heap.size W1 y6) := Lib.hid (KB5.out.trans (bb.mono KB5.out.size))
    have HS6 := Lib.hid (HS5.out.below bb HS5.out.lt)
    have s6 : (fun y => y.cell? ⟨H, 0, none⟩ = some (.string nm) ∧ y.cell? ⟨H, 1, none⟩ = some (.int .i64 (lk : Nat)) ∧ y.cell? ⟨H, 2, none⟩ = some (.int .i64 (sn : Nat))) y6 := ⟨HS6.out.cell 0, HS6.out.cell 1, HS6.out.cell 2⟩
    clear bb
    dsimp only
    refine hK.out _ _ s6 (fun hHeld => ?_)
    clear hK K
    repeat (rw [putL]; simp only [List.set])
    refine wpAnyH_ready (rs := [18]) (by kernel_rfl) (by simp) ?_
    refine rdy rfl (fun K hK => ?_) (AllReadyH.nil)
    have CC : Calls Try.prog 32 #[.int .i64 1, .slice Aj Lj cj, .bool low] y6 (fun e w' => ∃ v', e = .returned v' ∧ Gro w' y6.heap.size v' (blkB low 1 (facBy low lk sn nm)) ∧ Below W1.heap.size y6 w') := rblock_any low 1 Rj.out.g KB6.out.size (by have h1 := Rj.out.l; have h2 := HLBj.out; omega)
    go_simp
    go_at_call 32
    with_reducible refine CC.mono ?_
    rintro e y7 ⟨v0, rfl, g0, bb⟩
    clear CC
    obtain ⟨Ad, Ld, cd, rfl, r0⟩ := res_of (N := W1.heap.size) g0 KB6.out.size
    have HLBd : Hid (Ld ≤ 700) := Lib.hid (by have h1 := r0.l; have h2 := facBy_len low lk sn nm; have h3 := blkB_len low 1 (facBy low lk sn nm); omega)
    have Rd := Lib.hid r0
    clear r0 g0 Rj
    have KB7 : Hid (Below W1.heap.size W1 y7) := Lib.hid (KB6.out.trans bb)
    have HS7 := Lib.hid (HS6.out.below bb HS0.out.lt)
    have s7 : (fun y => y.cell? ⟨H, 0, none⟩ = some (.string nm) ∧ y.cell? ⟨H, 1, none⟩ = some (.int .i64 (lk : Nat)) ∧ y.cell? ⟨H, 2, none⟩ = some (.int .i64 (sn : Nat))) y7 := ⟨HS7.out.cell 0, HS7.out.cell 1, HS7.out.cell 2⟩
    clear bb
    dsimp only
    refine hK.out _ _ s7 (fun hHeld => ?_)
    clear hK K
    repeat (rw [putL]; simp only [List.set])
    refine wpAnyH_ready (rs := [19]) (by kernel_rfl) (by simp) ?_
    refine rdy rfl (fun K hK => ?_) (AllReadyH.nil)
    obtain ⟨v9, y8, hrun, ha⟩ := Gro.app (KO.out.at_ KB7.out (fun q hq => (KO.out.lt q hq).2)) cd Rd.out.byt (by have h1 := Rd.out.l; have h2 := HLBd.out; omega) (by have h2 := KL.out; omega) (by have := KB7.out.size; have := KN.out; omega)
    rw [Rd.out.l] at hrun
    have HS8 := Lib.hid (HS7.out.grown ha.grown (fun e => by have := KH.out _ e.symm; omega))
    have s8 : (fun y => y.cell? ⟨H, 0, none⟩ = some (.string nm) ∧ y.cell? ⟨H, 1, none⟩ = some (.int .i64 (lk : Nat)) ∧ y.cell? ⟨H, 2, none⟩ = some (.int .i64 (sn : Nat))) y8 := ⟨HS8.out.cell 0, HS8.out.cell 1, HS8.out.cell 2⟩
    have KA := Lib.hid ha
    have KX : Hid (Below (B + 1) W1 y8) := Lib.hid (ha.below (KB7.out.mono KN.out) (by have := KB7.out.size; have := KN.out; omega) (fun q hq => (KO.out.lt q hq).1))
    refine step_append_run _ rfl _ _ _ _ rfl _ _ (by rfl) (by rfl) _ y8 hrun ?_
    clear ha hrun
    refine hK.out _ _ s8 (fun hHeld => ?_)
    clear hK K
    repeat (rw [putL]; simp only [List.set])
    refine tky 20 ?_
    repeat (rw [putL]; simp only [List.set])
    refine wpAnyH_done (by kernel_rfl) ?_ _
    have HR4 : Hid (Gro y8 (B + 1) v9 (sectB low c.note ++ (c.faces.take (k + 1)).flatMap (faceBl low))) := Lib.hid (by rw [HSN.out, HBL.out, ← List.append_assoc]; exact KA.out.own)
    have HL4 : Hid ((sectB low c.note ++ (c.faces.take (k + 1)).flatMap (faceBl low)).length ≤ 10000 + 700 * (k + 1)) := Lib.hid (by have h := HLN.out; have h2 := facBy_len low lk sn nm; have h3 := blkB_len low 1 (facBy low lk sn nm); rw [HSN.out, HBL.out, ← List.append_assoc, List.length_append]; omega)
    have HK4 : Hid (Blk y8 B 27 (capV ⟨pf, cf, pn, cn, ps, cs, pp, cp⟩ c).cells ∧ Below B w y8) := Lib.hid (by have hb : Below (B + 1) wr y8 := (HB1.out.mono HW.out.1.lt).trans KX.out; exact ⟨HW.out.1.below hb (Nat.lt_succ_self B), HW.out.2.trans (hb.mono (Nat.le_succ B))⟩)
    go_wp2
    go_roundw
    case rel => exact ⟨k + 1, by go_num, by omega, HR4, HL4, HK4⟩
    case measure => simp [intOf]; omega
   ·have hkn : k = c.faces.length := by omega
    subst hkn
    have HR1 : Hid (Gro wr (B + 1) u9 (sectB low c.note ++ c.faces.flatMap (faceBl low))) := Lib.hid (by have h := HR.out; rw [List.take_length] at h; exact h)
    have HL1 : Hid ((sectB low c.note ++ c.faces.flatMap (faceBl low)).length ≤ 13000) := Lib.hid (by have h := HLN.out; rw [List.take_length] at h; have := HOK.out.nf.2; omega)
    have HW1 := HW
    go_wp2
    have q2 : wr.cell? ⟨B, 2, none⟩ = some (.slice pn c.names.length cn) := HW1.out.1.cell 2
    go_wp2
    clear q2
    go_loopw [9, 12] (fun v i wr => ∃ k : Nat, i = .int .i64 k ∧ k ≤ c.names.length ∧ Hid (Gro wr (B + 1) v (sectB low c.note ++ c.faces.flatMap (faceBl low) ++ (c.names.take k).flatMap (nameBl low))) ∧ Hid ((sectB low c.note ++ c.faces.flatMap (faceBl low) ++ (c.names.take k).flatMap (nameBl low)).length ≤ 13000 + 700 * k) ∧ Hid (Blk wr B 27 (capV ⟨pf, cf, pn, cn, ps, cs, pp, cp⟩ c).cells ∧ Below B w wr)) (fun _ i _ => c.names.length - (intOf i).toNat)
    case atStart => exact ⟨0, rfl, Nat.zero_le _, by simpa using HR1, by simpa using HL1, HW1⟩
    case round =>
     obtain ⟨k, rfl, hk, HR, HLN, HW⟩ := hrel
     have q2 : wr.cell? ⟨B, 2, none⟩ = some (.slice pn c.names.length cn) := HW.out.1.cell 2
     by_cases hlt : k < c.names.length
     ·obtain ⟨b, o, hA, hb, vs, hl, ⟨A2, cp2, rfl, hbyc, hbig⟩, hcell⟩ := (HM.out.names.keep namK HW.out.2 (Nat.le_refl _)).row k hlt
      change pn = _ at hA
      rw [hA] at q2
      clear hA
      have c0 : wr.cell? ⟨b, o + k * 2, none⟩ = _ := hcell 0 _ rfl
      have c1 := hcell 1 _ rfl
      clear hcell hl hbig
      have HSN := Lib.hid (flat_snoc (nameBl low) c.names k hlt)
      obtain ⟨hv1, hv2⟩ := HOK.out.names _ (List.getElem_mem hlt)
      obtain ⟨nm, hnm⟩ : ∃ nm, c.names[k].text = nm := ⟨_, rfl⟩
      obtain ⟨D, hD⟩ : ∃ D, c.names[k].addr = D := ⟨_, rfl⟩
      rw [hnm] at hv1 c1
      rw [hD] at hv2 hbyc c0
      obtain ⟨DL, hDL⟩ : ∃ DL, D.length = DL := ⟨_, rfl⟩
      have HDL := Lib.hid hDL
      have HPR : Hid (numB low 2 DL ++ (numB low 2 nm.size ++ (D ++ strL nm)) = pairB low D (strL nm)) := Lib.hid (by rw [← hDL, ← strL_len nm]; exact pair_ref low D (strL nm))
      have HBL : Hid (nameBl low c.names[k] = blkB low 4 (pairB low D (strL nm))) := Lib.hid (by unfold nameBl; rw [hD, hnm])
      rw [hDL] at hv2 c0
      clear hDL hD hnm
      obtain ⟨W1, hW1⟩ : ∃ W1, wr.alloc (.cells #[.slice A2 DL cp2, .string nm] 49) = W1 := ⟨_, rfl⟩
      obtain ⟨H, hH⟩ : ∃ H, wr.heap.size = H := ⟨_, rfl⟩
      have HS0 : Hid (Blk W1 H 49 #[.slice A2 DL cp2, .string nm]) := Lib.hid (by rw [← hW1, ← hH]; exact Blk.new _ _ _)
      have HB1 : Hid (Below wr.heap.size wr W1) := Lib.hid (by rw [← hW1]; exact (Below.refl _ wr).alloc (Nat.le_refl _) _)
      have KO : Hid (Gro W1 (B + 1) u9 (sectB low c.note ++ c.faces.flatMap (faceBl low) ++ (c.names.take k).flatMap (nameBl low))) := Lib.hid (HR.out.below HB1.out)
      have KL : Hid ((sectB low c.note ++ c.faces.flatMap (faceBl low) ++ (c.names.take k).flatMap (nameBl low)).length ≤ 300000) := Lib.hid (by have := HLN.out; have := HOK.out.nn; omega)
      have KN : Hid (B + 1 ≤ W1.heap.size) := Lib.hid (Nat.le_trans HW.out.1.lt HB1.out.size)
      have KH : Hid (∀ q, u9.ownBlock = some q → q < H) := Lib.hid (fun q hq => by rw [← hH]; exact (HR.out.lt q hq).2)
      have XD : Hid (Byt W1 W1.heap.size A2 D) := Lib.hid ((hbyc.byt.below (HB1.out.mono (Nat.le_of_lt HW.out.1.lt))).more (by have := KN.out; omega))
      go_wp2_with fail
      clear hW1
      have HSd : Hid (Blk W1.drew H 49 #[.slice A2 DL cp2, .string nm]) := HS0
      have KB00 : Hid (Below W1.heap.size W1 W1.drew) := Lib.hid (Below.refl _ _).drew
      have s0d : (fun y => y.cell? ⟨H, 0, none⟩ = some (.slice A2 DL cp2) ∧ y.cell? ⟨H, 1, none⟩ = some (.string nm)) W1.drew := ⟨HS0.out.cell 0, HS0.out.cell 1⟩
      refine wp_region_held_drew (S := fun y => y.cell? ⟨H, 0, none⟩ = some (.slice A2 DL cp2) ∧ y.cell? ⟨H, 1, none⟩ = some (.string nm)) (by kernel_rfl) s0d (fun hHeld => ?_)
      generalize W1.drew = y0 at s0d HSd KB00 hHeld ⊢
      have s0 := s0d
      have KBd := KB00
      clear s0d KB00
      refine tky 0 ?_
      repeat (rw [putL]; simp only [List.set])
      refine tky 1 ?_
      repeat (rw [putL]; simp only [List.set])
      refine tky 2 ?_
      repeat (rw [putL]; simp only [List.set])
      refine tky 3 ?_
      repeat (rw [putL]; simp only [List.set])
      refine tky 4 ?_
      repeat (rw [putL]; simp only [List.set])
      refine tky 6 ?_
      repeat (rw [putL]; simp only [List.set])
      refine tky 7 ?_
      repeat (rw [putL]; simp only [List.set])
      refine tky 8 ?_
      repeat (rw [putL]; simp only [List.set])
      refine tky 9 ?_
      repeat (rw [putL]; simp only [List.set])
      refine tky 11 ?_
      repeat (rw [putL]; simp only [List.set])
      refine tky 12 ?_
      repeat (rw [putL]; simp only [List.set])
      refine tky 13 ?_
      repeat (rw [putL]; simp only [List.set])
      refine tky 14 ?_
      repeat (rw [putL]; simp only [List.set])
      refine tky 18 ?_
      repeat (rw [putL]; simp only [List.set])
      refine wpAnyH_ready (rs := [5, 15]) (by kernel_rfl) (by simp) ?_
      refine rdy rfl (fun K hK => ?_) (rdy rfl (fun K hK => ?_) (AllReadyH.nil))
      have CC : Calls Try.prog 35 #[.int .i64 DL, .bool low] y0 (OwnG y0 y0.heap.size (numB low 2 DL)) := rtwoG y0 low DL
      go_simp
      go_at_call 35
      with_reducible refine CC.mono ?_
      rintro e y1 ⟨v0, rfl, g0, bb⟩
      clear CC
      obtain ⟨Aa, La, ca, rfl, r0⟩ := res_of (N := W1.heap.size) g0 KBd.out.size
      have HLBa : Hid (La ≤ 700) := Lib.hid (by rw [← r0.l, numB_len]; omega)
      have Ra := Lib.hid r0
      clear r0 g0
      have KB1 : Hid (Below W1.heap.size W1 y1) := Lib.hid (KBd.out.trans (bb.mono KBd.out.size))
      have HS1 := Lib.hid (HSd.out.below bb HSd.out.lt)
      have s1 : (fun y => y.cell? ⟨H, 0, none⟩ = some (.slice A2 DL cp2) ∧ y.cell? ⟨H, 1, none⟩ = some (.string nm)) y1 := ⟨HS1.out.cell 0, HS1.out.cell 1⟩
      clear bb
      dsimp only
      refine hK.out _ _ s1 (fun hHeld => ?_)
      clear hK K
      repeat (rw [putL]; simp only [List.set])
      refine wpAnyH_ready (rs := [10, 15]) (by kernel_rfl) (by simp) ?_
      refine rdy rfl (fun K hK => ?_) (rdy rfl (fun K hK => ?_) (AllReadyH.nil))
      have CC : Calls Try.prog 35 #[.int .i64 nm.size, .bool low] y1 (OwnG y1 y1.heap.size (numB low 2 nm.size)) := rtwoG y1 low nm.size
      go_simp
      go_at_call 35
      with_reducible refine CC.mono ?_
      rintro e y2 ⟨v0, rfl, g0, bb⟩
      clear CC
      obtain ⟨Ai, Li, ci, rfl, r0⟩ := res_of (N := W1.heap.size) g0 KB1.out.size
      have HLBi : Hid (Li ≤ 700) := Lib.hid (by rw [← r0.l, numB_len]; omega)
      have Ri := Lib.hid r0
      clear r0 g0
      replace Ra := Lib.hid (Ra.out.below bb)
      have KB2 : Hid (Below W1.heap.size W1 y2) := Lib.hid (KB1.out.trans (bb.mono KB1.out.size))
      have HS2 := Lib.hid (HS1.out.below bb HS1.out.lt)
      have s2 : (fun y => y.cell? ⟨H, 0, none⟩ = some (.slice A2 DL cp2) ∧ y.cell? ⟨H, 1, none⟩ = some (.string nm)) y2 := ⟨HS2.out.cell 0, HS2.out.cell 1⟩
      clear bb
      dsimp only
      refine hK.out _ _ s2 (fun hHeld => ?_)
      clear hK K
      repeat (rw [putL]; simp only [List.set])
      refine wpAnyH_ready (rs := [15]) (by kernel_rfl) (by simp) ?_
      refine rdy rfl (fun K hK => ?_) (AllReadyH.nil)
      obtain ⟨ce, y3, hcv, bb, g1⟩ := gro_str y2 nm (by omega)
      go_simp
      try simp only [hcv, Result.andThen_ok]
      obtain ⟨Ae, hA⟩ : ∃ A, some (⟨y2.heap.size, 0, none⟩ : Addr) = A := ⟨_, rfl⟩
      rw [hA] at g1 ⊢
      have Re : Hid (Res y3 W1.heap.size Ae nm.size ce (strL nm)) := Lib.hid ⟨g1.mono KB2.out.size, strL_len _⟩
      clear g1 hA hcv
      replace Ra := Lib.hid (Ra.out.below bb)
      replace Ri := Lib.hid (Ri.out.below bb)
      have KB3 : Hid (Below W1.heap.size W1 y3) := Lib.hid (KB2.out.trans (bb.mono KB2.out.size))
      have HS3 := Lib.hid (HS2.out.below bb HS2.out.lt)
      have s3 : (fun y => y.cell? ⟨H, 0, none⟩ = some (.slice A2 DL cp2) ∧ y.cell? ⟨H, 1, none⟩ = some (.string nm)) y3 := ⟨HS3.out.cell 0, HS3.out.cell 1⟩
      clear bb
      refine hK.out _ _ s3 (fun hHeld => ?_)
      clear hK K
      repeat (rw [putL]; simp only [List.set])
      rotate_left 1
      obtain ⟨ce, y2, hcv, bb, g1⟩ := gro_str y1 nm (by omega)
      go_simp
      try simp only [hcv, Result.andThen_ok]
      obtain ⟨Ae, hA⟩ : ∃ A, some (⟨y1.heap.size, 0, none⟩ : Addr) = A := ⟨_, rfl⟩
      rw [hA] at g1 ⊢
      have Re : Hid (Res y2 W1.heap.size Ae nm.size ce (strL nm)) := Lib.hid ⟨g1.mono KB1.out.size, strL_len _⟩
      clear g1 hA hcv
      replace Ra := Lib.hid (Ra.out.below bb)
      have KB2 : Hid (Below W1.heap.size W1 y2) := Lib.hid (KB1.out.trans (bb.mono KB1.out.size))
      have HS2 := Lib.hid (HS1.out.below bb HS1.out.lt)
      have s2 : (fun y => y.cell? ⟨H, 0, none⟩ = some (.slice A2 DL cp2) ∧ y.cell? ⟨H, 1, none⟩ = some (.string nm)) y2 := ⟨HS2.out.cell 0, HS2.out.cell 1⟩
      clear bb
      refine hK.out _ _ s2 (fun hHeld => ?_)
      clear hK K
      repeat (rw [putL]; simp only [List.set])
      refine wpAnyH_ready (rs := [10]) (by kernel_rfl) (by simp) ?_
      refine rdy rfl (fun K hK => ?_) (AllReadyH.nil)
      have CC : Calls Try.prog 35 #[.int .i64 nm.size, .bool low] y2 (OwnG y2 y2.heap.size (numB low 2 nm.size)) := rtwoG y2 low nm.size
      go_simp
      go_at_call 35
      with_reducible refine CC.mono ?_
      rintro e y3 ⟨v0, rfl, g0, bb⟩
      clear CC
      obtain ⟨Ai, Li, ci, rfl, r0⟩ := res_of (N := W1.heap.size) g0 KB2.out.size
      have HLBi : Hid (Li ≤ 700) := Lib.hid (by rw [← r0.l, numB_len]; omega)
      have Ri := Lib.hid r0
      clear r0 g0
      replace Ra := Lib.hid (Ra.out.below bb)
      replace Re := Lib.hid (Re.out.below bb)
      have KB3 : Hid (Below W1.heap.size W1 y3) := Lib.hid (KB2.out.trans (bb.mono KB2.out.size))
      have HS3 := Lib.hid (HS2.out.below bb HS2.out.lt)
      have s3 : (fun y => y.cell? ⟨H, 0, none⟩ = some (.slice A2 DL cp2) ∧ y.cell? ⟨H, 1, none⟩ = some (.string nm)) y3 := ⟨HS3.out.cell 0, HS3.out.cell 1⟩
      clear bb
      dsimp only
      refine hK.out _ _ s3 (fun hHeld => ?_)
      clear hK K
      repeat (rw [putL]; simp only [List.set])
      rotate_left 1
      obtain ⟨ce, y1, hcv, bb, g1⟩ := gro_str y0 nm (by omega)
      go_simp
      try simp only [hcv, Result.andThen_ok]
      obtain ⟨Ae, hA⟩ : ∃ A, some (⟨y0.heap.size, 0, none⟩ : Addr) = A := ⟨_, rfl⟩
      rw [hA] at g1 ⊢
      have Re : Hid (Res y1 W1.heap.size Ae nm.size ce (strL nm)) := Lib.hid ⟨g1.mono KBd.out.size, strL_len _⟩
      clear g1 hA hcv
      have KB1 : Hid (Below W1.heap.size W1 y1) := Lib.hid (KBd.out.trans (bb.mono KBd.out.size))
      have HS1 := Lib.hid (HSd.out.below bb HSd.out.lt)
      have s1 : (fun y => y.cell? ⟨H, 0, none⟩ = some (.slice A2 DL cp2) ∧ y.cell? ⟨H, 1, none⟩ = some (.string nm)) y1 := ⟨HS1.out.cell 0, HS1.out.cell 1⟩
      clear bb
      refine hK.out _ _ s1 (fun hHeld => ?_)
      clear hK K
      repeat (rw [putL]; simp only [List.set])
      refine wpAnyH_ready (rs := [5]) (by kernel_rfl) (by simp) ?_
      refine rdy rfl (fun K hK => ?_) (AllReadyH.nil)
      have CC : Calls Try.prog 35 #[.int .i64 DL, .bool low] y1 (OwnG y1 y1.heap.size (numB low 2 DL)) := rtwoG y1 low DL
      go_simp
      go_at_call 35
      with_reducible refine CC.mono ?_
      rintro e y2 ⟨v0, rfl, g0, bb⟩
      clear CC
      obtain ⟨Aa, La, ca, rfl, r0⟩ := res_of (N := W1.heap.size) g0 KB1.out.size
      have HLBa : Hid (La ≤ 700) := Lib.hid (by rw [← r0.l, numB_len]; omega)
      have Ra := Lib.hid r0
      clear r0 g0
      replace Re := Lib.hid (Re.out.below bb)
      have KB2 : Hid (Below W1.heap.size W1 y2) := Lib.hid (KB1.out.trans (bb.mono KB1.out.size))
      have HS2 := Lib.hid (HS1.out.below bb HS1.out.lt)
      have s2 : (fun y => y.cell? ⟨H, 0, none⟩ = some (.slice A2 DL cp2) ∧ y.cell? ⟨H, 1, none⟩ = some (.string nm)) y2 := ⟨HS2.out.cell 0, HS2.out.cell 1⟩
      clear bb
      dsimp only
      refine hK.out _ _ s2 (fun hHeld => ?_)
      clear hK K
      repeat (rw [putL]; simp only [List.set])
      refine wpAnyH_ready (rs := [10]) (by kernel_rfl) (by simp) ?_
      refine rdy rfl (fun K hK => ?_) (AllReadyH.nil)
      have CC : Calls Try.prog 35 #[.int .i64 nm.size, .bool low] y2 (OwnG y2 y2.heap.size (numB low 2 nm.size)) := rtwoG y2 low nm.size
      go_simp
      go_at_call 35
      with_reducible refine CC.mono ?_
      rintro e y3 ⟨v0, rfl, g0, bb⟩
      clear CC
      obtain ⟨Ai, Li, ci, rfl, r0⟩ := res_of (N := W1.heap.size) g0 KB2.out.size
      have HLBi : Hid (Li ≤ 700) := Lib.hid (by rw [← r0.l, numB_len]; omega)
      have Ri := Lib.hid r0
      clear r0 g0
      replace Re := Lib.hid (Re.out.below bb)
      replace Ra := Lib.hid (Ra.out.below bb)
      have KB3 : Hid (Below W1.heap.size W1 y3) := Lib.hid (KB2.out.trans (bb.mono KB2.out.size))
      have HS3 := Lib.hid (HS2.out.below bb HS2.out.lt)
      have s3 : (fun y => y.cell? ⟨H, 0, none⟩ = some (.slice A2 DL cp2) ∧ y.cell? ⟨H, 1, none⟩ = some (.string nm)) y3 := ⟨HS3.out.cell 0, HS3.out.cell 1⟩
      clear bb
      dsimp only
      refine hK.out _ _ s3 (fun hHeld => ?_)
      clear hK K
      repeat (rw [putL]; simp only [List.set])
      all_goals (
       refine wpAnyH_ready (rs := [16]) (by kernel_rfl) (by simp) ?_
       refine rdy rfl (fun K hK => ?_) (AllReadyH.nil)
       have JJ := rjoinM (X := y3) [(Aa, La, ca, numB low 2 DL), (Ai, Li, ci, numB low 2 nm.size), (A2, DL, cp2, D), (Ae, nm.size, ce, strL nm)] (List.forall_mem_cons.2 ⟨⟨Ra.out.byt, Ra.out.l, (by show La ≤ 1000; have h2 := HLBa.out; omega)⟩, List.forall_mem_cons.2 ⟨⟨Ri.out.byt, Ri.out.l, (by show Li ≤ 1000; have h2 := HLBi.out; omega)⟩, List.forall_mem_cons.2 ⟨⟨((XD.out.below KB3.out).more KB3.out.size), HDL.out, (by show DL ≤ 1000; omega)⟩, List.forall_mem_cons.2 ⟨⟨Re.out.byt, Re.out.l, (by show nm.size ≤ 1000; have h2 := hv1; omega)⟩, List.forall_mem_nil _⟩⟩⟩⟩) (by simp)
       simp only [List.map_cons, List.map_nil, List.length_cons, List.length_nil, Nat.zero_add, Nat.reduceAdd, List.flatten_cons, List.flatten_nil, List.append_nil] at JJ
       have bb : Below y3.heap.size y3 (y3.alloc (.cells #[.slice Aa La ca, .slice Ai Li ci, .slice A2 DL cp2, .slice Ae nm.size ce] 30)) := (Below.refl _ y3).alloc (Nat.le_refl _) _
       go_simp
       generalize y3.alloc (.cells #[.slice Aa La ca, .slice Ai Li ci, .slice A2 DL cp2, .slice Ae nm.size ce] 30) = y4 at JJ bb ⊢
       have KB4 : Hid (Below W1.heap.size W1 y4) := Lib.hid (KB3.out.trans (bb.mono KB3.out.size))
       have HS4 := Lib.hid (HS3.out.below bb HS3.out.lt)
       have s4 : (fun y => y.cell? ⟨H, 0, none⟩ = some (.slice A2 DL cp2) ∧ y.cell? ⟨H, 1, none⟩ = some (.string nm)) y4 := ⟨HS4.out.cell 0, HS4.out.cell 1⟩
       clear bb
       clear Ra Ri Re
       refine hK.out _ _ s4 (fun hHeld => ?_)
       clear hK K
       repeat (rw [putL]; simp only [List.set])
       refine wpAnyH_ready (rs := [17]) (by kernel_rfl) (by simp) ?_
       refine rdy rfl (fun K hK => ?_) (AllReadyH.nil)
       go_simp
       go_at_call 33
       with_reducible refine JJ.mono ?_
       rintro e y5 ⟨v0, rfl, g0, bb⟩
       clear JJ
       rw [HPR.out] at g0
       obtain ⟨Aj, Lj, cj, rfl, r0⟩ := res_of (N := W1.heap.size) g0 KB4.out.size
       have HLBj : Hid (Lj ≤ 700) := Lib.hid (by have h1 := r0.l; have h2 := pairB_len low D (strL nm); have h4 := strL_len nm; have h5 := HDL.out; omega)
       have Rj := Lib.hid r0
       clear r0 g0
       have KB5 : Hid (Below W1.heap.size W1 y5) := Lib.hid (KB4.out.trans (bb.mono KB4.out.size))
       have HS5 := Lib.hid (HS4.out.below bb HS4.out.lt)
       have s5 : (fun y => y.cell? ⟨H, 0, none⟩ = some (.slice A2 DL cp2) ∧ y.cell? ⟨H, 1, none⟩ = some (.string nm)) y5 := ⟨HS5.out.cell 0, HS5.out.cell 1⟩
       clear bb
       dsimp only
       refine hK.out _ _ s5 (fun hHeld => ?_)
       clear hK K
       repeat (rw [putL]; simp only [List.set])
       refine wpAnyH_ready (rs := [19]) (by kernel_rfl) (by simp) ?_
       refine rdy rfl (fun K hK => ?_) (AllReadyH.nil)
       have CC : Calls Try.prog 32 #[.int .i64 4, .slice Aj Lj cj, .bool low] y5 (fun e w' => ∃ v', e = .returned v' ∧ Gro w' y5.heap.size v' (blkB low 4 (pairB low D (strL nm))) ∧ Below W1.heap.size y5 w') := rblock_any low 4 Rj.out.g KB5.out.size (by have h1 := Rj.out.l; have h2 := HLBj.out; omega)
       go_simp
       go_at_call 32
       with_reducible refine CC.mono ?_
       rintro e y6 ⟨v0, rfl, g0, bb⟩
       clear CC
       obtain ⟨Ad, Ld, cd, rfl, r0⟩ := res_of (N := W1.heap.size) g0 KB5.out.size
       have HLBd : Hid (Ld ≤ 700) := Lib.hid (by have h1 := r0.l; have h2 := pairB_len low D (strL nm); have h4 := strL_len nm; have h5 := HDL.out; have h3 := blkB_len low 4 (pairB low D (strL nm)); omega)
       have Rd := Lib.hid r0
       clear r0 g0 Rj
       have KB6 : Hid (Below W1.heap.size W1 y6) := Lib.hid (KB5.out.trans bb)
       have HS6 := Lib.hid (HS5.out.below bb HS0.out.lt)
       have s6 : (fun y => y.cell? ⟨H, 0, none⟩ = some (.slice A2 DL cp2) ∧ y.cell? ⟨H, 1, none⟩ = some (.string nm)) y6 := ⟨HS6.out.cell 0, HS6.out.cell 1⟩
       clear bb
       dsimp only
       refine hK.out _ _ s6 (fun hHeld => ?_)
       clear hK K
       repeat (rw [putL]; simp only [List.set])
       refine wpAnyH_ready (rs := [20]) (by kernel_rfl) (by simp) ?_
       refine rdy rfl (fun K hK => ?_) (AllReadyH.nil)
       obtain ⟨v9, y7, hrun, ha⟩ := Gro.app (KO.out.at_ KB6.out (fun q hq => (KO.out.lt q hq).2)) cd Rd.out.byt (by have h1 := Rd.out.l; have h2 := HLBd.out; omega) (by have h2 := KL.out; omega) (by have := KB6.out.size; have := KN.out; omega)
       rw [Rd.out.l] at hrun
       have HS7 := Lib.hid (HS6.out.grown ha.grown (fun e => by have := KH.out _ e.symm; omega))
       have s7 : (fun y => y.cell? ⟨H, 0, none⟩ = some (.slice A2 DL cp2) ∧ y.cell? ⟨H, 1, none⟩ = some (.string nm)) y7 := ⟨HS7.out.cell 0, HS7.out.cell 1⟩
       have KA := Lib.hid ha
       have KX : Hid (Below (B + 1) W1 y7) := Lib.hid (ha.below (KB6.out.mono KN.out) (by have := KB6.out.size; have := KN.out; omega) (fun q hq => (KO.out.lt q hq).1))
       refine step_append_run _ rfl _ _ _ _ rfl _ _ (by rfl) (by rfl) _ y7 hrun ?_
       clear ha hrun
       refine hK.out _ _ s7 (fun hHeld => ?_)
       clear hK K
       repeat (rw [putL]; simp only [List.set])
       refine tky 21 ?_
       repeat (rw [putL]; simp only [List.set])
       refine wpAnyH_done (by kernel_rfl) ?_ _)
      all_goals (
       have HR4 : Hid (Gro y7 (B + 1) v9 (sectB low c.note ++ c.faces.flatMap (faceBl low) ++ (c.names.take (k + 1)).flatMap (nameBl low))) := Lib.hid (by rw [HSN.out, HBL.out, ← List.append_assoc]; exact KA.out.own)
       have HL4 : Hid ((sectB low c.note ++ c.faces.flatMap (faceBl low) ++ (c.names.take (k + 1)).flatMap (nameBl low)).length ≤ 13000 + 700 * (k + 1)) := Lib.hid (by have h := HLN.out; have h2 := pairB_len low D (strL nm); have h4 := strL_len nm; have h5 := HDL.out; have h3 := blkB_len low 4 (pairB low D (strL nm)); rw [HSN.out, HBL.out, ← List.append_assoc, List.length_append]; omega)
       have HK4 : Hid (Blk y7 B 27 (capV ⟨pf, cf, pn, cn, ps, cs, pp, cp⟩ c).cells ∧ Below B w y7) := Lib.hid (by have hb : Below (B + 1) wr y7 := (HB1.out.mono HW.out.1.lt).trans KX.out; exact ⟨HW.out.1.below hb (Nat.lt_succ_self B), HW.out.2.trans (hb.mono (Nat.le_succ B))⟩)
       go_wp2
       go_roundw
       case rel => exact ⟨k + 1, by go_num, by omega, HR4, HL4, HK4⟩
       case measure => simp [intOf]; omega)
     ·have hkn : k = c.names.length := by omega
      subst hkn
      have HR2 : Hid (Gro wr (B + 1) u9 (sectB low c.note ++ c.faces.flatMap (faceBl low) ++ c.names.flatMap (nameBl low))) := Lib.hid (by have h := HR.out; rw [List.take_length] at h; exact h)
      have HL2 : Hid ((sectB low c.note ++ c.faces.flatMap (faceBl low) ++ c.names.flatMap (nameBl low)).length ≤ 55000) := Lib.hid (by have h := HLN.out; rw [List.take_length] at h; have := HOK.out.nn; omega)
      have HW2 := HW
      go_wp2
      have q3 : wr.cell? ⟨B, 3, none⟩ = some (.slice ps c.secs.length cs) := HW2.out.1.cell 3
      go_wp2
      clear q3
      go_loopw [9, 14] (fun v i wr => ∃ k : Nat, i = .int .i64 k ∧ k ≤ c.secs.length ∧ Hid (Gro wr (B + 1) v (sectB low c.note ++ c.faces.flatMap (faceBl low) ++ c.names.flatMap (nameBl low) ++ (c.secs.take k).flatMap (secBl low))) ∧ Hid ((sectB low c.note ++ c.faces.flatMap (faceBl low) ++ c.names.flatMap (nameBl low) ++ (c.secs.take k).flatMap (secBl low)).length ≤ 55000 + 700 * k) ∧ Hid (Blk wr B 27 (capV ⟨pf, cf, pn, cn, ps, cs, pp, cp⟩ c).cells ∧ Below B w wr)) (fun _ i _ => c.secs.length - (intOf i).toNat)
      case atStart => exact ⟨0, rfl, Nat.zero_le _, by simpa using HR2, by simpa using HL2, HW2⟩
      case round =>
       obtain ⟨k, rfl, hk, HR, HLN, HW⟩ := hrel
       have q3 : wr.cell? ⟨B, 3, none⟩ = some (.slice ps c.secs.length cs) := HW.out.1.cell 3
       by_cases hlt : k < c.secs.length
       ·obtain ⟨b, o, hA, hb, vs, hl, ⟨A2, cp2, rfl, hbyc, hbig⟩, hcell⟩ := (HM.out.secs.keep secK HW.out.2 (Nat.le_refl _)).row k hlt
        change ps = _ at hA
        rw [hA] at q3
        clear hA
        have c0 : wr.cell? ⟨b, o + k * 2, none⟩ = _ := hcell 0 _ rfl
        have c1 := hcell 1 _ rfl
        clear hcell hl hbig
        have HSN := Lib.hid (flat_snoc (secBl low) c.secs k hlt)
        obtain ⟨hv1, hv2⟩ := HOK.out.secs _ (List.getElem_mem hlt)
        obtain ⟨nm, hnm⟩ : ∃ nm, c.secs[k].label = nm := ⟨_, rfl⟩
        obtain ⟨D, hD⟩ : ∃ D, c.secs[k].key = D := ⟨_, rfl⟩
        rw [hnm] at hv1 c0
        rw [hD] at hv2 hbyc c1
        obtain ⟨DL, hDL⟩ : ∃ DL, D.length = DL := ⟨_, rfl⟩
        have HDL := Lib.hid hDL
        have HPR : Hid (numB low 2 nm.size ++ (numB low 2 DL ++ (strL nm ++ D)) = pairB low (strL nm) D) := Lib.hid (by rw [← hDL, ← strL_len nm]; exact pair_ref low (strL nm) D)
        have HBL : Hid (secBl low c.secs[k] = blkB low 10 (pairB low (strL nm) D)) := Lib.hid (by unfold secBl; rw [hD, hnm])
        rw [hDL] at hv2 c1
        clear hDL hD hnm
        obtain ⟨W1, hW1⟩ : ∃ W1, wr.alloc (.cells #[.string nm, .slice A2 DL cp2] 65) = W1 := ⟨_, rfl⟩
        obtain ⟨H, hH⟩ : ∃ H, wr.heap.size = H := ⟨_, rfl⟩
        have HS0 : Hid (Blk W1 H 65 #[.string nm, .slice A2 DL cp2]) := Lib.hid (by rw [← hW1, ← hH]; exact Blk.new _ _ _)
        have HB1 : Hid (Below wr.heap.size wr W1) := Lib.hid (by rw [← hW1]; exact (Below.refl _ wr).alloc (Nat.le_refl _) _)
        have KO : Hid (Gro W1 (B + 1) u9 (sectB low c.note ++ c.faces.flatMap (faceBl low) ++ c.names.flatMap (nameBl low) ++ (c.secs.take k).flatMap (secBl low))) := Lib.hid (HR.out.below HB1.out)
        have KL : Hid ((sectB low c.note ++ c.faces.flatMap (faceBl low) ++ c.names.flatMap (nameBl low) ++ (c.secs.take k).flatMap (secBl low)).length ≤ 300000) := Lib.hid (by have := HLN.out; have := HOK.out.ns; omega)
        have KN : Hid (B + 1 ≤ W1.heap.size) := Lib.hid (Nat.le_trans HW.out.1.lt HB1.out.size)
        have KH : Hid (∀ q, u9.ownBlock = some q → q < H) := Lib.hid (fun q hq => by rw [← hH]; exact (HR.out.lt q hq).2)
        have XD : Hid (Byt W1 W1.heap.size A2 D) := Lib.hid ((hbyc.byt.below (HB1.out.mono (Nat.le_of_lt HW.out.1.lt))).more (by have := KN.out; omega))
        go_wp2_with fail
        clear hW1
        have HSd : Hid (Blk W1.drew H 65 #[.string nm, .slice A2 DL cp2]) := HS0
        have KB00 : Hid (Below W1.heap.size W1 W1.drew) := Lib.hid (Below.refl _ _).drew
        have s0d : (fun y => y.cell? ⟨H, 0, none⟩ = some (.string nm) ∧ y.cell? ⟨H, 1, none⟩ = some (.slice A2 DL cp2)) W1.drew := ⟨HS0.out.cell 0, HS0.out.cell 1⟩
        refine wp_region_held_drew (S := fun y => y.cell? ⟨H, 0, none⟩ = some (.string nm) ∧ y.cell? ⟨H, 1, none⟩ = some (.slice A2 DL cp2)) (by kernel_rfl) s0d (fun hHeld => ?_)
        generalize W1.drew = y0 at s0d HSd KB00 hHeld ⊢
        have s0 := s0d
        have KBd := KB00
        clear s0d KB00
        refine tky 0 ?_
        repeat (rw [putL]; simp only [List.set])
        refine tky 1 ?_
        repeat (rw [putL]; simp only [List.set])
        refine tky 2 ?_
        repeat (rw [putL]; simp only [List.set])
        refine tky 3 ?_
        repeat (rw [putL]; simp only [List.set])
        refine tky 4 ?_
        repeat (rw [putL]; simp only [List.set])
        refine tky 6 ?_
        repeat (rw [putL]; simp only [List.set])
        refine tky 7 ?_
        repeat (rw [putL]; simp only [List.set])
        refine tky 8 ?_
        repeat (rw [putL]; simp only [List.set])
        refine tky 9 ?_
        repeat (rw [putL]; simp only [List.set])
        refine tky 11 ?_
        repeat (rw [putL]; simp only [List.set])
        refine tky 12 ?_
        repeat (rw [putL]; simp only [List.set])
        refine tky 14 ?_
        repeat (rw [putL]; simp only [List.set])
        refine tky 15 ?_
        repeat (rw [putL]; simp only [List.set])
        refine tky 18 ?_
        repeat (rw [putL]; simp only [List.set])
        refine wpAnyH_ready (rs := [5, 13]) (by kernel_rfl) (by simp) ?_
        refine rdy rfl (fun K hK => ?_) (rdy rfl (fun K hK => ?_) (AllReadyH.nil))
        have CC : Calls Try.prog 35 #[.int .i64 nm.size, .bool low] y0 (OwnG y0 y0.heap.size (numB low 2 nm.size)) := rtwoG y0 low nm.size
        go_simp
        go_at_call 35
        with_reducible refine CC.mono ?_
        rintro e y1 ⟨v0, rfl, g0, bb⟩
        clear CC
        obtain ⟨Aa, La, ca, rfl, r0⟩ := res_of (N := W1.heap.size) g0 KBd.out.size
        have HLBa : Hid (La ≤ 700) := Lib.hid (by rw [← r0.l, numB_len]; omega)
        have Ra := Lib.hid r0
        clear r0 g0
        have KB1 : Hid (Below W1.heap.size W1 y1) := Lib.hid (KBd.out.trans (bb.mono KBd.out.size))
        have HS1 := Lib.hid (HSd.out.below bb HSd.out.lt)
        have s1 : (fun y => y.cell? ⟨H, 0, none⟩ = some (.string nm) ∧ y.cell? ⟨H, 1, none⟩ = some (.slice A2 DL cp2)) y1 := ⟨HS1.out.cell 0, HS1.out.cell 1⟩
        clear bb
        dsimp only
        refine hK.out _ _ s1 (fun hHeld => ?_)
        clear hK K
        repeat (rw [putL]; simp only [List.set])
        refine wpAnyH_ready (rs := [10, 13]) (by kernel_rfl) (by simp) ?_
        refine rdy rfl (fun K hK => ?_) (rdy rfl (fun K hK => ?_) (AllReadyH.nil))
        have CC : Calls Try.prog 35 #[.int .i64 DL, .bool low] y1 (OwnG y1 y1.heap.size (numB low 2 DL)) := rtwoG y1 low DL
        go_simp
        go_at_call 35
        with_reducible refine CC.mono ?_
        rintro e y2 ⟨v0, rfl, g0, bb⟩
        clear CC
        obtain ⟨Ai, Li, ci, rfl, r0⟩ := res_of (N := W1.heap.size) g0 KB1.out.size
        have HLBi : Hid (Li ≤ 700) := Lib.hid (by rw [← r0.l, numB_len]; omega)
        have Ri := Lib.hid r0
        clear r0 g0
        replace Ra := Lib.hid (Ra.out.below bb)
        have KB2 : Hid (Below W1.heap.size W1 y2) := Lib.hid (KB1.out.trans (bb.mono KB1.out.size))
        have HS2 := Lib.hid (HS1.out.below bb HS1.out.lt)
        have s2 : (fun y => y.cell? ⟨H, 0, none⟩ = some (.string nm) ∧ y.cell? ⟨H, 1, none⟩ = some (.slice A2 DL cp2)) y2 := ⟨HS2.out.cell 0, HS2.out.cell 1⟩
        clear bb
        dsimp only
        refine hK.out _ _ s2 (fun hHeld => ?_)
        clear hK K
        repeat (rw [putL]; simp only [List.set])
        refine wpAnyH_ready (rs := [13]) (by kernel_rfl) (by simp) ?_
        refine rdy rfl (fun K hK => ?_) (AllReadyH.nil)
        obtain ⟨ce, y3, hcv, bb, g1⟩ := gro_str y2 nm (by omega)
        go_simp
        try simp only [hcv, Result.andThen_ok]
        obtain ⟨Ae, hA⟩ : ∃ A, some (⟨y2.heap.size, 0, none⟩ : Addr) = A := ⟨_, rfl⟩
        rw [hA] at g1 ⊢
        have Re : Hid (Res y3 W1.heap.size Ae nm.size ce (strL nm)) := Lib.hid ⟨g1.mono KB2.out.size, strL_len _⟩
        clear g1 hA hcv
        replace Ra := Lib.hid (Ra.out.below bb)
        replace Ri := Lib.hid (Ri.out.below bb)
        have KB3 : Hid (Below W1.heap.size W1 y3) := Lib.hid (KB2.out.trans (bb.mono KB2.out.size))
        have HS3 := Lib.hid (HS2.out.below bb HS2.out.lt)
        have s3 : (fun y => y.cell? ⟨H, 0, none⟩ = some (.string nm) ∧ y.cell? ⟨H, 1, none⟩ = some (.slice A2 DL cp2)) y3 := ⟨HS3.out.cell 0, HS3.out.cell 1⟩
        clear bb
        refine hK.out _ _ s3 (fun hHeld => ?_)
        clear hK K
        repeat (rw [putL]; simp only [List.set])
        rotate_left 1
        obtain ⟨ce, y2, hcv, bb, g1⟩ := gro_str y1 nm (by omega)
        go_simp
        try simp only [hcv, Result.andThen_ok]
        obtain ⟨Ae, hA⟩ : ∃ A, some (⟨y1.heap.size, 0, none⟩ : Addr) = A := ⟨_, rfl⟩
        rw [hA] at g1 ⊢
        have Re : Hid (Res y2 W1.heap.size Ae nm.size ce (strL nm)) := Lib.hid ⟨g1.mono KB1.out.size, strL_len _⟩
        clear g1 hA hcv
        replace Ra := Lib.hid (Ra.out.below bb)
        have KB2 : Hid (Below W1.heap.size W1 y2) := Lib.hid (KB1.out.trans (bb.mono KB1.out.size))
        have HS2 := Lib.hid (HS1.out.below bb HS1.out.lt)
        have s2 : (fun y => y.cell? ⟨H, 0, none⟩ = some (.string nm) ∧ y.cell? ⟨H, 1, none⟩ = some (.slice A2 DL cp2)) y2 := ⟨HS2.out.cell 0, HS2.out.cell 1⟩
        clear bb
        refine hK.out _ _ s2 (fun hHeld => ?_)
        clear hK K
        repeat (rw [putL]; simp only [List.set])
        refine wpAnyH_ready (rs := [10]) (by kernel_rfl) (by simp) ?_
        refine rdy rfl (fun K hK => ?_) (AllReadyH.nil)
        have CC : Calls Try.prog 35 #[.int .i64 DL, .bool low] y2 (OwnG y2 y2.heap.size (numB low 2 DL)) := rtwoG y2 low DL
        go_simp
        go_at_call 35
        with_reducible refine CC.mono ?_
        rintro e y3 ⟨v0, rfl, g0, bb⟩
        clear CC
        obtain ⟨Ai, Li, ci, rfl, r0⟩ := res_of (N := W1.heap.size) g0 KB2.out.size
        have HLBi : Hid (Li ≤ 700) := Lib.hid (by rw [← r0.l, numB_len]; omega)
        have Ri := Lib.hid r0
        clear r0 g0
        replace Ra := Lib.hid (Ra.out.below bb)
        replace Re := Lib.hid (Re.out.below bb)
        have KB3 : Hid (Below W1.heap.size W1 y3) := Lib.hid (KB2.out.trans (bb.mono KB2.out.size))
        have HS3 := Lib.hid (HS2.out.below bb HS2.out.lt)
        have s3 : (fun y => y.cell? ⟨H, 0, none⟩ = some (.string nm) ∧ y.cell? ⟨H, 1, none⟩ = some (.slice A2 DL cp2)) y3 := ⟨HS3.out.cell 0, HS3.out.cell 1⟩
        clear bb
        dsimp only
        refine hK.out _ _ s3 (fun hHeld => ?_)
        clear hK K
        repeat (rw [putL]; simp only [List.set])
        rotate_left 1
        obtain ⟨ce, y1, hcv, bb, g1⟩ := gro_str y0 nm (by omega)
        go_simp
        try simp only [hcv, Result.andThen_ok]
        obtain ⟨Ae, hA⟩ : ∃ A, some (⟨y0.heap.size, 0, none⟩ : Addr) = A := ⟨_, rfl⟩
        rw [hA] at g1 ⊢
        have Re : Hid (Res y1 W1.heap.size Ae nm.size ce (strL nm)) := Lib.hid ⟨g1.mono KBd.out.size, strL_len _⟩
        clear g1 hA hcv
        have KB1 : Hid (Below W1.heap.size W1 y1) := Lib.hid (KBd.out.trans (bb.mono KBd.out.size))
        have HS1 := Lib.hid (HSd.out.below bb HSd.out.lt)
        have s1 : (fun y => y.cell? ⟨H, 0, none⟩ = some (.string nm) ∧ y.cell? ⟨H, 1, none⟩ = some (.slice A2 DL cp2)) y1 := ⟨HS1.out.cell 0, HS1.out.cell 1⟩
        clear bb
        refine hK.out _ _ s1 (fun hHeld => ?_)
        clear hK K
        repeat (rw [putL]; simp only [List.set])
        refine wpAnyH_ready (rs := [5]) (by kernel_rfl) (by simp) ?_
        refine rdy rfl (fun K hK => ?_) (AllReadyH.nil)
        have CC : Calls Try.prog 35 #[.int .i64 nm.size, .bool low] y1 (OwnG y1 y1.heap.size (numB low 2 nm.size)) := rtwoG y1 low nm.size
        go_simp
        go_at_call 35
        with_reducible refine CC.mono ?_
        rintro e y2 ⟨v0, rfl, g0, bb⟩
        clear CC
        obtain ⟨Aa, La, ca, rfl, r0⟩ := res_of (N := W1.heap.size) g0 KB1.out.size
        have HLBa : Hid (La ≤ 700) := Lib.hid (by rw [← r0.l, numB_len]; omega)
        have Ra := Lib.hid r0
        clear r0 g0
        replace Re := Lib.hid (Re.out.below bb)
        have KB2 : Hid (Below W1.heap.size W1 y2) := Lib.hid (KB1.out.trans (bb.mono KB1.out.size))
        have HS2 := Lib.hid (HS1.out.below bb HS1.out.lt)
        have s2 : (fun y => y.cell? ⟨H, 0, none⟩ = some (.string nm) ∧ y.cell? ⟨H, 1, none⟩ = some (.slice A2 DL cp2)) y2 := ⟨HS2.out.cell 0, HS2.out.cell 1⟩
        clear bb
        dsimp only
        refine hK.out _ _ s2 (fun hHeld => ?_)
        clear hK K
        repeat (rw [putL]; simp only [List.set])
        refine wpAnyH_ready (rs := [10]) (by kernel_rfl) (by simp) ?_
        refine rdy rfl (fun K hK => ?_) (AllReadyH.nil)
        have CC : Calls Try.prog 35 #[.int .i64 DL, .bool low] y2 (OwnG y2 y2.heap.size (numB low 2 DL)) := rtwoG y2 low DL
        go_simp
        go_at_call 35
        with_reducible refine CC.mono ?_
        rintro e y3 ⟨v0, rfl, g0, bb⟩
        clear CC
        obtain ⟨Ai, Li, ci, rfl, r0⟩ := res_of (N := W1.heap.size) g0 KB2.out.size
        have HLBi : Hid (Li ≤ 700) := Lib.hid (by rw [← r0.l, numB_len]; omega)
        have Ri := Lib.hid r0
        clear r0 g0
        replace Re := Lib.hid (Re.out.below bb)
        replace Ra := Lib.hid (Ra.out.below bb)
        have KB3 : Hid (Below W1.heap.size W1 y3) := Lib.hid (KB2.out.trans (bb.mono KB2.out.size))
        have HS3 := Lib.hid (HS2.out.below bb HS2.out.lt)
        have s3 : (fun y => y.cell? ⟨H, 0, none⟩ = some (.string nm) ∧ y.cell? ⟨H, 1, none⟩ = some (.slice A2 DL cp2)) y3 := ⟨HS3.out.cell 0, HS3.out.cell 1⟩
        clear bb
        dsimp only
        refine hK.out _ _ s3 (fun hHeld => ?_)
        clear hK K
        repeat (rw [putL]; simp only [List.set])
        all_goals (
         refine wpAnyH_ready (rs := [16]) (by kernel_rfl) (by simp) ?_
         refine rdy rfl (fun K hK => ?_) (AllReadyH.nil)
         have JJ := rjoinM (X := y3) [(Aa, La, ca, numB low 2 nm.size), (Ai, Li, ci, numB low 2 DL), (Ae, nm.size, ce, strL nm), (A2, DL, cp2, D)] (List.forall_mem_cons.2 ⟨⟨Ra.out.byt, Ra.out.l, (by show La ≤ 1000; have h2 := HLBa.out; omega)⟩, List.forall_mem_cons.2 ⟨⟨Ri.out.byt, Ri.out.l, (by show Li ≤ 1000; have h2 := HLBi.out; omega)⟩, List.forall_mem_cons.2 ⟨⟨Re.out.byt, Re.out.l, (by show nm.size ≤ 1000; have h2 := hv1; omega)⟩, List.forall_mem_cons.2 ⟨⟨((XD.out.below KB3.out).more KB3.out.size), HDL.out, (by show DL ≤ 1000; omega)⟩, List.forall_mem_nil _⟩⟩⟩⟩) (by simp)
         simp only [List.map_cons, List.map_nil, List.length_cons, List.length_nil, Nat.zero_add, Nat.reduceAdd, List.flatten_cons, List.flatten_nil, List.append_nil] at JJ
         have bb : Below y3.heap.size y3 (y3.alloc (.cells #[.slice Aa La ca, .slice Ai Li ci, .slice Ae nm.size ce, .slice A2 DL cp2] 30)) := (Below.refl _ y3).alloc (Nat.le_refl _) _
         go_simp
         generalize y3.alloc (.cells #[.slice Aa La ca, .slice Ai Li ci, .slice Ae nm.size ce, .slice A2 DL cp2] 30) = y4 at JJ bb ⊢
         have KB4 : Hid (Below W1.heap.size W1 y4) := Lib.hid (KB3.out.trans (bb.mono KB3.out.size))
         have HS4 := Lib.hid (HS3.out.below bb HS3.out.lt)
         have s4 : (fun y => y.cell? ⟨H, 0, none⟩ = some (.string nm) ∧ y.cell? ⟨H, 1, none⟩ = some (.slice A2 DL cp2)) y4 := ⟨HS4.out.cell 0, HS4.out.cell 1⟩
         clear bb
         clear Ra Ri Re
         refine hK.out _ _ s4 (fun hHeld => ?_)
         clear hK K
         repeat (rw [putL]; simp only [List.set])
         refine wpAnyH_ready (rs := [17]) (by kernel_rfl) (by simp) ?_
         refine rdy rfl (fun K hK => ?_) (AllReadyH.nil)
         go_simp
         go_at_call 33
         with_reducible refine JJ.mono ?_
         rintro e y5 ⟨v0, rfl, g0, bb⟩
         clear JJ
         rw [HPR.out] at g0
         obtain ⟨Aj, Lj, cj, rfl, r0⟩ := res_of (N := W1.heap.size) g0 KB4.out.size
         have HLBj : Hid (Lj ≤ 700) := Lib.hid (by have h1 := r0.l; have h2 := pairB_len low (strL nm) D; have h4 := strL_len nm; have h5 := HDL.out; omega)
         have Rj := Lib.hid r0
         clear r0 g0
         have KB5 : Hid (Below W1.heap.size W1 y5) := Lib.hid (KB4.out.trans (bb.mono KB4.out.size))
         have HS5 := Lib.hid (HS4.out.below bb HS4.out.lt)
         have s5 : (fun y => y.cell? ⟨H, 0, none⟩ = some (.string nm) ∧ y.cell? ⟨H, 1, none⟩ = some (.slice A2 DL cp2)) y5 := ⟨HS5.out.cell 0, HS5.out.cell 1⟩
         clear bb
         dsimp only
         refine hK.out _ _ s5 (fun hHeld => ?_)
         clear hK K
         repeat (rw [putL]; simp only [List.set])
         refine wpAnyH_ready (rs := [19]) (by kernel_rfl) (by simp) ?_
         refine rdy rfl (fun K hK => ?_) (AllReadyH.nil)
         have CC : Calls Try.prog 32 #[.int .i64 10, .slice Aj Lj cj, .bool low] y5 (fun e w' => ∃ v', e = .returned v' ∧ Gro w' y5.heap.size v' (blkB low 10 (pairB low (strL nm) D)) ∧ Below W1.heap.size y5 w') := rblock_any low 10 Rj.out.g KB5.out.size (by have h1 := Rj.out.l; have h2 := HLBj.out; omega)
         go_simp
         go_at_call 32
         with_reducible refine CC.mono ?_
         rintro e y6 ⟨v0, rfl, g0, bb⟩
         clear CC
         obtain ⟨Ad, Ld, cd, rfl, r0⟩ := res_of (N := W1.heap.size) g0 KB5.out.size
         have HLBd : Hid (Ld ≤ 700) := Lib.hid (by have h1 := r0.l; have h2 := pairB_len low (strL nm) D; have h4 := strL_len nm; have h5 := HDL.out; have h3 := blkB_len low 10 (pairB low (strL nm) D); omega)
         have Rd := Lib.hid r0
         clear r0 g0 Rj
         have KB6 : Hid (Below W1.heap.size W1 y6) := Lib.hid (KB5.out.trans bb)
         have HS6 := Lib.hid (HS5.out.below bb HS0.out.lt)
         have s6 : (fun y => y.cell? ⟨H, 0, none⟩ = some (.string nm) ∧ y.cell? ⟨H, 1, none⟩ = some (.slice A2 DL cp2)) y6 := ⟨HS6.out.cell 0, HS6.out.cell 1⟩
         clear bb
         dsimp only
         refine hK.out _ _ s6 (fun hHeld => ?_)
         clear hK K
         repeat (rw [putL]; simp only [List.set])
         refine wpAnyH_ready (rs := [20]) (by kernel_rfl) (by simp) ?_
         refine rdy rfl (fun K hK => ?_) (AllReadyH.nil)
         obtain ⟨v9, y7, hrun, ha⟩ := Gro.app (KO.out.at_ KB6.out (fun q hq => (KO.out.lt q hq).2)) cd Rd.out.byt (by have h1 := Rd.out.l; have h2 := HLBd.out; omega) (by have h2 := KL.out; omega) (by have := KB6.out.size; have := KN.out; omega)
         rw [Rd.out.l] at hrun
         have HS7 := Lib.hid (HS6.out.grown ha.grown (fun e => by have := KH.out _ e.symm; omega))
         have s7 : (fun y => y.cell? ⟨H, 0, none⟩ = some (.string nm) ∧ y.cell? ⟨H, 1, none⟩ = some (.slice A2 DL cp2)) y7 := ⟨HS7.out.cell 0, HS7.out.cell 1⟩
         have KA := Lib.hid ha
         have KX : Hid (Below (B + 1) W1 y7) := Lib.hid (ha.below (KB6.out.mono KN.out) (by have := KB6.out.size; have := KN.out; omega) (fun q hq => (KO.out.lt q hq).1))
         refine step_append_run _ rfl _ _ _ _ rfl _ _ (by rfl) (by rfl) _ y7 hrun ?_
         clear ha hrun
         refine hK.out _ _ s7 (fun hHeld => ?_)
         clear hK K
         repeat (rw [putL]; simp only [List.set])
         refine tky 21 ?_
         repeat (rw [putL]; simp only [List.set])
         refine wpAnyH_done (by kernel_rfl) ?_ _)
        all_goals (
         have HR4 : Hid (Gro y7 (B + 1) v9 (sectB low c.note ++ c.faces.flatMap (faceBl low) ++ c.names.flatMap (nameBl low) ++ (c.secs.take (k + 1)).flatMap (secBl low))) := Lib.hid (by rw [HSN.out, HBL.out, ← List.append_assoc]; exact KA.out.own)
         have HL4 : Hid ((sectB low c.note ++ c.faces.flatMap (faceBl low) ++ c.names.flatMap (nameBl low) ++ (c.secs.take (k + 1)).flatMap (secBl low)).length ≤ 55000 + 700 * (k + 1)) := Lib.hid (by have h := HLN.out; have h2 := pairB_len low (strL nm) D; have h4 := strL_len nm; have h5 := HDL.out; have h3 := blkB_len low 10 (pairB low (strL nm) D); rw [HSN.out, HBL.out, ← List.append_assoc, List.length_append]; omega)
         have HK4 : Hid (Blk y7 B 27 (capV ⟨pf, cf, pn, cn, ps, cs, pp, cp⟩ c).cells ∧ Below B w y7) := Lib.hid (by have hb : Below (B + 1) wr y7 := (HB1.out.mono HW.out.1.lt).trans KX.out; exact ⟨HW.out.1.below hb (Nat.lt_succ_self B), HW.out.2.trans (hb.mono (Nat.le_succ B))⟩)
         go_wp2
         go_roundw
         case rel => exact ⟨k + 1, by go_num, by omega, HR4, HL4, HK4⟩
         case measure => simp [intOf]; omega)
       ·have hkn : k = c.secs.length := by omega
        subst hkn
        have HR3 : Hid (Gro wr (B + 1) u9 (sectB low c.note ++ c.faces.flatMap (faceBl low) ++ c.names.flatMap (nameBl low) ++ c.secs.flatMap (secBl low))) := Lib.hid (by have h := HR.out; rw [List.take_length] at h; exact h)
        have HL3 : Hid ((sectB low c.note ++ c.faces.flatMap (faceBl low) ++ c.names.flatMap (nameBl low) ++ c.secs.flatMap (secBl low)).length ≤ 97000) := Lib.hid (by have h := HLN.out; rw [List.take_length] at h; have := HOK.out.ns; omega)
        have HW3 := HW
        go_wp2
        have q4 : wr.cell? ⟨B, 4, none⟩ = some (.slice pp c.pkts.length cp) := HW3.out.1.cell 4
        go_wp2
        clear q4
        go_loopw [9, 16] (fun v i wr => ∃ k : Nat, i = .int .i64 k ∧ k ≤ c.pkts.length ∧ Hid (Gro wr (B + 1) v (sectB low c.note ++ c.faces.flatMap (faceBl low) ++ c.names.flatMap (nameBl low) ++ c.secs.flatMap (secBl low) ++ (c.pkts.take k).flatMap (pktBl low))) ∧ Hid ((sectB low c.note ++ c.faces.flatMap (faceBl low) ++ c.names.flatMap (nameBl low) ++ c.secs.flatMap (secBl low) ++ (c.pkts.take k).flatMap (pktBl low)).length ≤ 97000 + 700 * k) ∧ Hid (Blk wr B 27 (capV ⟨pf, cf, pn, cn, ps, cs, pp, cp⟩ c).cells ∧ Below B w wr)) (fun _ i _ => c.pkts.length - (intOf i).toNat)
        case atStart => exact ⟨0, rfl, Nat.zero_le _, by simpa using HR3, by simpa using HL3, HW3⟩
        case round =>
         obtain ⟨k, rfl, hk, HR, HLN, HW⟩ := hrel
         have q4 : wr.cell? ⟨B, 4, none⟩ = some (.slice pp c.pkts.length cp) := HW.out.1.cell 4
         by_cases hlt : k < c.pkts.length
         ·obtain ⟨b, o, hA, hb, vs, hl, ⟨A2, cp2, rfl, hbyc, hbig, htm0, hfc0, hrl0⟩, hcell⟩ := (HM.out.pkts.keep pktK HW.out.2 (Nat.le_refl _)).row k hlt
          change pp = _ at hA
          rw [hA] at q4
          clear hA
          have c0 : wr.cell? ⟨b, o + k * 5, none⟩ = _ := hcell 0 _ rfl
          have c1 := hcell 1 _ rfl
          have c2 := hcell 2 _ rfl
          have c3 := hcell 3 _ rfl
          have c4 := hcell 4 _ rfl
          clear hcell hl hbig
          have HSN := Lib.hid (flat_snoc (pktBl low) c.pkts k hlt)
          obtain ⟨hv1, hv2, hv3, hv4, hv5, hv6, hv7, hv8⟩ := HOK.out.pkts _ (List.getElem_mem hlt)
          obtain ⟨tm, htm⟩ : ∃ q : Nat, c.pkts[k].time = q := ⟨c.pkts[k].time.toNat, by omega⟩
          obtain ⟨fc, hfc⟩ : ∃ q : Nat, c.pkts[k].face = q := ⟨c.pkts[k].face.toNat, by omega⟩
          obtain ⟨rl, hrl⟩ : ∃ q : Nat, c.pkts[k].real = q := ⟨c.pkts[k].real.toNat, by omega⟩
          obtain ⟨nm, hnm⟩ : ∃ nm, c.pkts[k].note = nm := ⟨_, rfl⟩
          obtain ⟨D, hD⟩ : ∃ D, c.pkts[k].data = D := ⟨_, rfl⟩
          rw [htm] at c0 hv6
          rw [hfc] at c1
          rw [hrl] at c2
          rw [hD] at hv2 hbyc c3
          rw [hnm] at hv1 c4
          obtain ⟨DL, hDL⟩ : ∃ DL, D.length = DL := ⟨_, rfl⟩
          have HDL := Lib.hid hDL
          obtain ⟨t32, ht32⟩ : ∃ q : Nat, tm / 4294967296 = q := ⟨_, rfl⟩
          obtain ⟨tl, htl⟩ : ∃ q : Nat, tm % 4294967296 = q := ⟨_, rfl⟩
          have HPR : Hid ((numB low 4 fc ++ (numB low 4 t32 ++ (numB low 4 tl ++ (numB low 4 DL ++ numB low 4 rl)))) ++ ((D ++ padB D.length) ++ optB low 1 (20 + D.length + padN (20 + D.length)) nm) = pktBy low fc tm rl D nm) := Lib.hid (by rw [← ht32, ← htl, ← hDL]; exact pkt_ref low fc tm rl D nm)
          have HBL : Hid (pktBl low c.pkts[k] = blkB low 6 (pktBy low fc tm rl D nm)) := Lib.hid (by unfold pktBl; rw [htm, hfc, hrl, hD, hnm]; rfl)
          have hti : (tm : Int) / 4294967296 = (t32 : Int) := by omega
          have htj : bits .and .i64 (tm : Int) 4294967295 = (tl : Int) := by rw [← htl]; exact and32 tm (by omega)
          have hol : (20 + D.length + padN (20 + D.length)) % 4 = 0 := by unfold padN; omega
          have HOL := Lib.hid hol
          rw [hDL] at hv2 c3
          clear hDL hD hnm hv3 hv4 hv5 hv6 hv7 hv8 htm hfc hrl ht32 htl hol htm0 hfc0 hrl0
          obtain ⟨W1, hW1⟩ : ∃ W1, wr.alloc (.cells #[.int .i64 (tm : Nat), .int .i64 (fc : Nat), .int .i64 (rl : Nat), .slice A2 DL cp2, .string nm] 47) = W1 := ⟨_, rfl⟩
          obtain ⟨H, hH⟩ : ∃ H, wr.heap.size = H := ⟨_, rfl⟩
          have HS0 : Hid (Blk W1 H 47 #[.int .i64 (tm : Nat), .int .i64 (fc : Nat), .int .i64 (rl : Nat), .slice A2 DL cp2, .string nm]) := Lib.hid (by rw [← hW1, ← hH]; exact Blk.new _ _ _)
          have HB1 : Hid (Below wr.heap.size wr W1) := Lib.hid (by rw [← hW1]; exact (Below.refl _ wr).alloc (Nat.le_refl _) _)
          have KO : Hid (Gro W1 (B + 1) u9 (sectB low c.note ++ c.faces.flatMap (faceBl low) ++ c.names.flatMap (nameBl low) ++ c.secs.flatMap (secBl low) ++ (c.pkts.take k).flatMap (pktBl low))) := Lib.hid (HR.out.below HB1.out)
          have KL : Hid ((sectB low c.note ++ c.faces.flatMap (faceBl low) ++ c.names.flatMap (nameBl low) ++ c.secs.flatMap (secBl low) ++ (c.pkts.take k).flatMap (pktBl low)).length ≤ 300000) := Lib.hid (by have := HLN.out; have := HOK.out.np; omega)
          have KN : Hid (B + 1 ≤ W1.heap.size) := Lib.hid (Nat.le_trans HW.out.1.lt HB1.out.size)
          have KH : Hid (∀ q, u9.ownBlock = some q → q < H) := Lib.hid (fun q hq => by rw [← hH]; exact (HR.out.lt q hq).2)
          have XD : Hid (Byt W1 W1.heap.size A2 D) := Lib.hid ((hbyc.byt.below (HB1.out.mono (Nat.le_of_lt HW.out.1.lt))).more (by have := KN.out; omega))
          go_wp2_with fail
          clear hW1
          have HSd : Hid (Blk W1.drew H 47 #[.int .i64 (tm : Nat), .int .i64 (fc : Nat), .int .i64 (rl : Nat), .slice A2 DL cp2, .string nm]) := HS0
          have KB00 : Hid (Below W1.heap.size W1 W1.drew) := Lib.hid (Below.refl _ _).drew
          have s0d : (fun y => y.cell? ⟨H, 0, none⟩ = some (.int .i64 (tm : Nat)) ∧ y.cell? ⟨H, 1, none⟩ = some (.int .i64 (fc : Nat)) ∧ y.cell? ⟨H, 2, none⟩ = some (.int .i64 (rl : Nat)) ∧ y.cell? ⟨H, 3, none⟩ = some (.slice A2 DL cp2)) W1.drew := ⟨HS0.out.cell 0, HS0.out.cell 1, HS0.out.cell 2, HS0.out.cell 3⟩
          refine wp_region_held_drew (S := fun y => y.cell? ⟨H, 0, none⟩ = some (.int .i64 (tm : Nat)) ∧ y.cell? ⟨H, 1, none⟩ = some (.int .i64 (fc : Nat)) ∧ y.cell? ⟨H, 2, none⟩ = some (.int .i64 (rl : Nat)) ∧ y.cell? ⟨H, 3, none⟩ = some (.slice A2 DL cp2)) (by kernel_rfl) s0d (fun hHeld => ?_)
          generalize W1.drew = y0 at s0d HSd KB00 hHeld ⊢
          have s0 := s0d
          have KBd := KB00
          clear s0d KB00
          refine tky 0 ?_
          repeat (rw [putL]; simp only [List.set])
          refine tky 1 ?_
          repeat (rw [putL]; simp only [List.set])
          refine tky 2 ?_
          repeat (rw [putL]; simp only [List.set])
          refine tky 4 ?_
          repeat (rw [putL]; simp only [List.set])
          refine tky 5 ?_
          repeat (rw [putL]; simp only [List.set])
          refine tky 6 ?_
          repeat (rw [putL]; simp only [List.set])
          refine tky 7 ?_
          repeat (rw [putL]; simp only [List.set])
          refine tky 9 ?_
          repeat (rw [putL]; simp only [List.set])
          refine tky 10 ?_
          repeat (rw [putL]; simp only [List.set])
          refine tky 11 ?_
          repeat (rw [putL]; simp only [List.set])
          refine tky 12 ?_
          repeat (rw [putL]; simp only [List.set])
          refine tky 14 ?_
          repeat (rw [putL]; simp only [List.set])
          refine tky 15 ?_
          repeat (rw [putL]; simp only [List.set])
          refine tky 16 ?_
          repeat (rw [putL]; simp only [List.set])
          refine tky 17 ?_
          repeat (rw [putL]; simp only [List.set])
          refine tky 19 ?_
          repeat (rw [putL]; simp only [List.set])
          refine tky 20 ?_
          repeat (rw [putL]; simp only [List.set])
          refine tky 21 ?_
          repeat (rw [putL]; simp only [List.set])
          refine wpAnyH_ready (rs := [3]) (by kernel_rfl) (by simp) ?_
          refine rdy rfl (fun K hK => ?_) (AllReadyH.nil)
          have CC : Calls Try.prog 34 #[.int .i64 fc, .bool low] y0 (OwnG y0 y0.heap.size (numB low 4 fc)) := rfourG y0 low fc
          go_simp
          go_at_call 34
          with_reducible refine CC.mono ?_
          rintro e y1 ⟨v0, rfl, g0, bb⟩
          clear CC
          obtain ⟨Aa, La, ca, rfl, r0⟩ := res_of (N := W1.heap.size) g0 KBd.out.size
          have HLBa : Hid (La ≤ 700) := Lib.hid (by rw [← r0.l, numB_len]; omega)
          have Ra := Lib.hid r0
          clear r0 g0
          have KB1 : Hid (Below W1.heap.size W1 y1) := Lib.hid (KBd.out.trans (bb.mono KBd.out.size))
          have HS1 := Lib.hid (HSd.out.below bb HSd.out.lt)
          have s1 : (fun y => y.cell? ⟨H, 0, none⟩ = some (.int .i64 (tm : Nat)) ∧ y.cell? ⟨H, 1, none⟩ = some (.int .i64 (fc : Nat)) ∧ y.cell? ⟨H, 2, none⟩ = some (.int .i64 (rl : Nat)) ∧ y.cell? ⟨H, 3, none⟩ = some (.slice A2 DL cp2)) y1 := ⟨HS1.out.cell 0, HS1.out.cell 1, HS1.out.cell 2, HS1.out.cell 3⟩
          clear bb
          dsimp only
          refine hK.out _ _ s1 (fun hHeld => ?_)
          clear hK K
          repeat (rw [putL]; simp only [List.set])
          refine wpAnyH_ready (rs := [8]) (by kernel_rfl) (by simp) ?_
          refine rdy rfl (fun K hK => ?_) (AllReadyH.nil)
          have CC : Calls Try.prog 34 #[.int .i64 t32, .bool low] y1 (OwnG y1 y1.heap.size (numB low 4 t32)) := rfourG y1 low t32
          go_simp
          go_at_call 34
          with_reducible refine CC.mono ?_
          rintro e y2 ⟨v0, rfl, g0, bb⟩
          clear CC
          obtain ⟨Ae, Le, ce, rfl, r0⟩ := res_of (N := W1.heap.size) g0 KB1.out.size
          have HLBe : Hid (Le ≤ 700) := Lib.hid (by rw [← r0.l, numB_len]; omega)
          have Re := Lib.hid r0
          clear r0 g0
          replace Ra := Lib.hid (Ra.out.below bb)
          have KB2 : Hid (Below W1.heap.size W1 y2) := Lib.hid (KB1.out.trans (bb.mono KB1.out.size))
          have HS2 := Lib.hid (HS1.out.below bb HS1.out.lt)
          have s2 : (fun y => y.cell? ⟨H, 0, none⟩ = some (.int .i64 (tm : Nat)) ∧ y.cell? ⟨H, 1, none⟩ = some (.int .i64 (fc : Nat)) ∧ y.cell? ⟨H, 2, none⟩ = some (.int .i64 (rl : Nat)) ∧ y.cell? ⟨H, 3, none⟩ = some (.slice A2 DL cp2)) y2 := ⟨HS2.out.cell 0, HS2.out.cell 1, HS2.out.cell 2, HS2.out.cell 3⟩
          clear bb
          dsimp only
          refine hK.out _ _ s2 (fun hHeld => ?_)
          clear hK K
          repeat (rw [putL]; simp only [List.set])
          refine wpAnyH_ready (rs := [13]) (by kernel_rfl) (by simp) ?_
          refine rdy rfl (fun K hK => ?_) (AllReadyH.nil)
          have CC : Calls Try.prog 34 #[.int .i64 tl, .bool low] y2 (OwnG y2 y2.heap.size (numB low 4 tl)) := rfourG y2 low tl
          go_simp
          go_at_call 34
          with_reducible refine CC.mono ?_
          rintro e y3 ⟨v0, rfl, g0, bb⟩
          clear CC
          obtain ⟨Ai, Li, ci, rfl, r0⟩ := res_of (N := W1.heap.size) g0 KB2.out.size
          have HLBi : Hid (Li ≤ 700) := Lib.hid (by rw [← r0.l, numB_len]; omega)
          have Ri := Lib.hid r0
          clear r0 g0
          replace Ra := Lib.hid (Ra.out.below bb)
          replace Re := Lib.hid (Re.out.below bb)
          have KB3 : Hid (Below W1.heap.size W1 y3) := Lib.hid (KB2.out.trans (bb.mono KB2.out.size))
          have HS3 := Lib.hid (HS2.out.below bb HS2.out.lt)
          have s3 : (fun y => y.cell? ⟨H, 0, none⟩ = some (.int .i64 (tm : Nat)) ∧ y.cell? ⟨H, 1, none⟩ = some (.int .i64 (fc : Nat)) ∧ y.cell? ⟨H, 2, none⟩ = some (.int .i64 (rl : Nat)) ∧ y.cell? ⟨H, 3, none⟩ = some (.slice A2 DL cp2)) y3 := ⟨HS3.out.cell 0, HS3.out.cell 1, HS3.out.cell 2, HS3.out.cell 3⟩
          clear bb
          dsimp only
          refine hK.out _ _ s3 (fun hHeld => ?_)
          clear hK K
          repeat (rw [putL]; simp only [List.set])
          refine wpAnyH_ready (rs := [18]) (by kernel_rfl) (by simp) ?_
          refine rdy rfl (fun K hK => ?_) (AllReadyH.nil)
          have CC : Calls Try.prog 34 #[.int .i64 DL, .bool low] y3 (OwnG y3 y3.heap.size (numB low 4 DL)) := rfourG y3 low DL
          go_simp
          go_at_call 34
          with_reducible refine CC.mono ?_
          rintro e y4 ⟨v0, rfl, g0, bb⟩
          clear CC
          obtain ⟨Ak, Lk, ck, rfl, r0⟩ := res_of (N := W1.heap.size) g0 KB3.out.size
          have HLBk : Hid (Lk ≤ 700) := Lib.hid (by rw [← r0.l, numB_len]; omega)
          have Rk := Lib.hid r0
          clear r0 g0
          replace Ra := Lib.hid (Ra.out.below bb)
          replace Re := Lib.hid (Re.out.below bb)
          replace Ri := Lib.hid (Ri.out.below bb)
          have KB4 : Hid (Below W1.heap.size W1 y4) := Lib.hid (KB3.out.trans (bb.mono KB3.out.size))
          have HS4 := Lib.hid (HS3.out.below bb HS3.out.lt)
          have s4 : (fun y => y.cell? ⟨H, 0, none⟩ = some (.int .i64 (tm : Nat)) ∧ y.cell? ⟨H, 1, none⟩ = some (.int .i64 (fc : Nat)) ∧ y.cell? ⟨H, 2, none⟩ = some (.int .i64 (rl : Nat)) ∧ y.cell? ⟨H, 3, none⟩ = some (.slice A2 DL cp2)) y4 := ⟨HS4.out.cell 0, HS4.out.cell 1, HS4.out.cell 2, HS4.out.cell 3⟩
          clear bb
          dsimp only
          refine hK.out _ _ s4 (fun hHeld => ?_)
          clear hK K
          repeat (rw [putL]; simp only [List.set])
          refine wpAnyH_ready (rs := [22]) (by kernel_rfl) (by simp) ?_
          refine rdy rfl (fun K hK => ?_) (AllReadyH.nil)
          have CC : Calls Try.prog 34 #[.int .i64 rl, .bool low] y4 (OwnG y4 y4.heap.size (numB low 4 rl)) := rfourG y4 low rl
          go_simp
          go_at_call 34
          with_reducible refine CC.mono ?_
          rintro e y5 ⟨v0, rfl, g0, bb⟩
          clear CC
          obtain ⟨Ar, Lr, cr, rfl, r0⟩ := res_of (N := W1.heap.size) g0 KB4.out.size
          have HLBr : Hid (Lr ≤ 700) := Lib.hid (by rw [← r0.l, numB_len]; omega)
          have Rr := Lib.hid r0
          clear r0 g0
          replace Ra := Lib.hid (Ra.out.below bb)
          replace Re := Lib.hid (Re.out.below bb)
          replace Ri := Lib.hid (Ri.out.below bb)
          replace Rk := Lib.hid (Rk.out.below bb)
          have KB5 : Hid (Below W1.heap.size W1 y5) := Lib.hid (KB4.out.trans (bb.mono KB4.out.size))
          have HS5 := Lib.hid (HS4.out.below bb HS4.out.lt)
          have s5 : (fun y => y.cell? ⟨H, 0, none⟩ = some (.int .i64 (tm : Nat)) ∧ y.cell? ⟨H, 1, none⟩ = some (.int .i64 (fc : Nat)) ∧ y.cell? ⟨H, 2, none⟩ = some (.int .i64 (rl : Nat)) ∧ y.cell? ⟨H, 3, none⟩ = some (.slice A2 DL cp2)) y5 := ⟨HS5.out.cell 0, HS5.out.cell 1, HS5.out.cell 2, HS5.out.cell 3⟩
          clear bb
          dsimp only
          refine hK.out _ _ s5 (fun hHeld => ?_)
          clear hK K
          repeat (rw [putL]; simp only [List.set])
          refine wpAnyH_ready (rs := [23]) (by kernel_rfl) (by simp) ?_
          refine rdy rfl (fun K hK => ?_) (AllReadyH.nil)
          have JJ := rjoinM (X := y5) [(Aa, La, ca, numB low 4 fc), (Ae, Le, ce, numB low 4 t32), (Ai, Li, ci, numB low 4 tl), (Ak, Lk, ck, numB low 4 DL), (Ar, Lr, cr, numB low 4 rl)] (List.forall_mem_cons.2 ⟨⟨Ra.out.byt, Ra.out.l, (by show La ≤ 1000; have h2 := HLBa.out; omega)⟩, List.forall_mem_cons.2 ⟨⟨Re.out.byt, Re.out.l, (by show Le ≤ 1000; have h2 := HLBe.out; omega)⟩, List.forall_mem_cons.2 ⟨⟨Ri.out.byt, Ri.out.l, (by show Li ≤ 1000; have h2 := HLBi.out; omega)⟩, List.forall_mem_cons.2 ⟨⟨Rk.out.byt, Rk.out.l, (by show Lk ≤ 1000; have h2 := HLBk.out; omega)⟩, List.forall_mem_cons.2 ⟨⟨Rr.out.byt, Rr.out.l, (by show Lr ≤ 1000; have h2 := HLBr.out; omega)⟩, List.forall_mem_nil _⟩⟩⟩⟩⟩) (by simp)
          simp only [List.map_cons, List.map_nil, List.length_cons, List.length_nil, Nat.zero_add, Nat.reduceAdd, List.flatten_cons, List.flatten_nil, List.append_nil] at JJ
          have bb : Below y5.heap.size y5 (y5.alloc (.cells #[.slice Aa La ca, .slice Ae Le ce, .slice Ai Li ci, .slice Ak Lk ck, .slice Ar Lr cr] 30)) := (Below.refl _ y5).alloc (Nat.le_refl _) _
          go_simp
          generalize y5.alloc (.cells #[.slice Aa La ca, .slice Ae Le ce, .slice Ai Li ci, .slice Ak Lk ck, .slice Ar Lr cr] 30) = y6 at JJ bb ⊢
          have KB6 : Hid (Below W1.heap.size W1 y6) := Lib.hid (KB5.out.trans (bb.mono KB5.out.size))
          have HS6 := Lib.hid (HS5.out.below bb HS5.out.lt)
          have s6 : (fun y => y.cell? ⟨H, 0, none⟩ = some (.int .i64 (tm : Nat)) ∧ y.cell? ⟨H, 1, none⟩ = some (.int .i64 (fc : Nat)) ∧ y.cell? ⟨H, 2, none⟩ = some (.int .i64 (rl : Nat)) ∧ y.cell? ⟨H, 3, none⟩ = some (.slice A2 DL cp2)) y6 := ⟨HS6.out.cell 0, HS6.out.cell 1, HS6.out.cell 2, HS6.out.cell 3⟩
          clear bb
          clear Ra Re Ri Rk Rr
          refine hK.out _ _ s6 (fun hHeld => ?_)
          clear hK K
          repeat (rw [putL]; simp only [List.set])
          refine wpAnyH_ready (rs := [24]) (by kernel_rfl) (by simp) ?_
          refine rdy rfl (fun K hK => ?_) (AllReadyH.nil)
          go_simp
          go_at_call 33
          with_reducible refine JJ.mono ?_
          rintro e y7 ⟨v0, rfl, g0, bb⟩
          clear JJ
          skip
          obtain ⟨Aj, Lj, cj, rfl, r0⟩ := res_of (N := W1.heap.size) g0 KB6.out.size
          have HLBj : Hid (Lj ≤ 700) := Lib.hid (by have h1 := r0.l; simp only [List.length_append, numB_len] at h1; omega)
          have Rj := Lib.hid r0
          clear r0 g0
          have KB7 : Hid (Below W1.heap.size W1 y7) := Lib.hid (KB6.out.trans (bb.mono KB6.out.size))
          have HS7 := Lib.hid (HS6.out.below bb HS6.out.lt)
          have s7 : (fun y => y.cell? ⟨H, 0, none⟩ = some (.int .i64 (tm : Nat)) ∧ y.cell? ⟨H, 1, none⟩ = some (.int .i64 (fc : Nat)) ∧ y.cell? ⟨H, 2, none⟩ = some (.int .i64 (rl : Nat)) ∧ y.cell? ⟨H, 3, none⟩ = some (.slice A2 DL cp2)) y7 := ⟨HS7.out.cell 0, HS7.out.cell 1, HS7.out.cell 2, HS7.out.cell 3⟩
          clear bb
          dsimp only
          refine hK.out _ _ s7 (fun hHeld => ?_)
          clear hK K
          repeat (rw [putL]; simp only [List.set])
          refine tky 25 ?_
          repeat (rw [putL]; simp only [List.set])
          refine wpAnyH_done (by kernel_rfl) ?_ _
          clear HSd KBd HS1 HS2 HS3 HS4 HS5 HS6 KB1 KB2 KB3 KB4 KB5 KB6 s0 s1 s2 s3 s4 s5 s6 s7
          have HJ := Rj
          have HT7 : Hid (Blk y7 H 47 #[.int .i64 (tm : Nat), .int .i64 (fc : Nat), .int .i64 (rl : Nat), .slice A2 DL cp2, .string nm]) := HS7
          clear HS0 HS7
          have HS0 := HT7
          have hB7 := KB7.out
          have XB : Hid (Below wr.heap.size wr y7) := Lib.hid (HB1.out.trans (hB7.mono HB1.out.size))
          replace KO : Hid (Gro y7 (B + 1) u9 (sectB low c.note ++ c.faces.flatMap (faceBl low) ++ c.names.flatMap (nameBl low) ++ c.secs.flatMap (secBl low) ++ (c.pkts.take k).flatMap (pktBl low))) := Lib.hid (KO.out.at_ hB7 (fun q hq => (KO.out.lt q hq).2))
          replace KN : Hid (B + 1 ≤ y7.heap.size) := Lib.hid (Nat.le_trans KN.out hB7.size)
          replace XD : Hid (Byt y7 y7.heap.size A2 D) := Lib.hid ((XD.out.below hB7).more hB7.size)
          have XJ : Hid (Byt y7 y7.heap.size Aj (numB low 4 fc ++ (numB low 4 t32 ++ (numB low 4 tl ++ (numB low 4 DL ++ numB low 4 rl))))) := Lib.hid Rj.out.byt
          have HLJ := Lib.hid Rj.out.l
          clear hB7 KB7
          go_wp2_with fail
          have HSd : Hid (Blk y7.drew H 47 #[.int .i64 (tm : Nat), .int .i64 (fc : Nat), .int .i64 (rl : Nat), .slice A2 DL cp2, .string nm]) := HS0
          have KB00 : Hid (Below y7.heap.size y7 y7.drew) := Lib.hid (Below.refl _ _).drew
          have s0d : (fun y => y.cell? ⟨H, 3, none⟩ = some (.slice A2 DL cp2) ∧ y.cell? ⟨H, 4, none⟩ = some (.string nm)) y7.drew := ⟨HS0.out.cell 3, HS0.out.cell 4⟩
          refine wp_region_held_drew (S := fun y => y.cell? ⟨H, 3, none⟩ = some (.slice A2 DL cp2) ∧ y.cell? ⟨H, 4, none⟩ = some (.string nm)) (by kernel_rfl) s0d (fun hHeld => ?_)
          generalize y7.drew = z0 at s0d HSd KB00 hHeld ⊢
          have s0 := s0d
          have KBd := KB00
          clear s0d KB00
          refine tky 0 ?_
          repeat (rw [putL]; simp only [List.set])
          refine tky 1 ?_
          repeat (rw [putL]; simp only [List.set])
          refine tky 2 ?_
          repeat (rw [putL]; simp only [List.set])
          refine tky 3 ?_
          repeat (rw [putL]; simp only [List.set])
          refine tky 6 ?_
          repeat (rw [putL]; simp only [List.set])
          refine tky 7 ?_
          repeat (rw [putL]; simp only [List.set])
          refine tky 8 ?_
          repeat (rw [putL]; simp only [List.set])
          refine tky 12 ?_
          repeat (rw [putL]; simp only [List.set])
          refine wpAnyH_ready (rs := [4]) (by kernel_rfl) (by simp) ?_
          refine rdy rfl (fun K hK => ?_) (AllReadyH.nil)
          obtain ⟨v0, z1, hrun, ha⟩ := Gro.app (nil_gro z0 y7.heap.size) cp2 ((XD.out.below KBd.out).more KBd.out.size) (by have h2 := HDL.out; omega) (by simp) KBd.out.size
          have g0 := ha.own
          rw [List.nil_append] at g0
          rw [HDL.out] at hrun
          have bb : Below y7.heap.size z0 z1 := ha.below (Below.refl _ _) KBd.out.size (fun g hg => by simp [Value.ownBlock] at hg)
          obtain ⟨Aa, La, ca, rfl, r0⟩ := res_of (N := y7.heap.size) g0 (Nat.le_refl _)
          have HLBa : Hid (La ≤ 700) := Lib.hid (by have h1 := r0.l; have h5 := HDL.out; omega)
          have Ra := Lib.hid r0
          refine step_append_run _ rfl _ _ _ _ rfl _ _ (by rfl) (by rfl) _ z1 hrun ?_
          clear r0 g0 ha hrun
          have KB1 : Hid (Below y7.heap.size y7 z1) := Lib.hid (KBd.out.trans bb)
          have HS1 := Lib.hid (HSd.out.below bb HS0.out.lt)
          have s1 : (fun y => y.cell? ⟨H, 3, none⟩ = some (.slice A2 DL cp2) ∧ y.cell? ⟨H, 4, none⟩ = some (.string nm)) z1 := ⟨HS1.out.cell 3, HS1.out.cell 4⟩
          clear bb
          refine hK.out _ _ s1 (fun hHeld => ?_)
          clear hK K
          repeat (rw [putL]; simp only [List.set])
          refine wpAnyH_ready (rs := [5]) (by kernel_rfl) (by simp) ?_
          refine rdy rfl (fun K hK => ?_) (AllReadyH.nil)
          have CC := rfilled_any Ra.out.g KB1.out.size (by have h1 := Ra.out.l; have h2 := HLBa.out; omega)
          go_simp
          go_at_call 37
          with_reducible refine CC.mono ?_
          rintro e z2 ⟨v0, rfl, ha⟩
          clear CC
          have bb : Below y7.heap.size z1 z2 := ha.below (Below.refl _ _) KB1.out.size (fun g hg => (Ra.out.g.lt g hg).1)
          have g0 := ha.own
          obtain ⟨Ae, Le, ce, rfl, r0⟩ := res_of (N := y7.heap.size) g0 (Nat.le_refl _)
          have HLBe : Hid (Le ≤ 700) := Lib.hid (by have h1 := r0.l; have h5 := HDL.out; have h6 := padN_le D.length; rw [List.length_append, padB_len] at h1; omega)
          have Re := Lib.hid r0
          clear r0 g0 ha Ra
          have KB2 : Hid (Below y7.heap.size y7 z2) := Lib.hid (KB1.out.trans bb)
          have HS2 := Lib.hid (HS1.out.below bb HS0.out.lt)
          have s2 : (fun y => y.cell? ⟨H, 3, none⟩ = some (.slice A2 DL cp2) ∧ y.cell? ⟨H, 4, none⟩ = some (.string nm)) z2 := ⟨HS2.out.cell 3, HS2.out.cell 4⟩
          clear bb
          dsimp only
          refine hK.out _ _ s2 (fun hHeld => ?_)
          clear hK K
          repeat (rw [putL]; simp only [List.set])
          refine wpAnyH_ready (rs := [9]) (by kernel_rfl) (by simp) ?_
          refine rdy rfl (fun K hK => ?_) (AllReadyH.nil)
          have CC : Calls Try.prog 36 #[.int .i64 1, .string nm, .bool low] z2 (OwnG z2 z2.heap.size (optB low 1 (20 + D.length + padN (20 + D.length)) nm)) := roption_any (w := z2) low 1 (20 + D.length + padN (20 + D.length)) nm hv1 HOL.out
          go_simp
          go_at_call 36
          with_reducible refine CC.mono ?_
          rintro e z3 ⟨v0, rfl, g0, bb⟩
          clear CC
          obtain ⟨At, Lt, ct, rfl, r0⟩ := res_of (N := y7.heap.size) g0 KB2.out.size
          have HLBt : Hid (Lt ≤ 700) := Lib.hid (by have h1 := r0.l; have := optB_len low 1 ((20 + D.length + padN (20 + D.length))) nm; have := hv1; omega)
          have Rt := Lib.hid r0
          clear r0 g0
          replace Re := Lib.hid (Re.out.below bb)
          have KB3 : Hid (Below y7.heap.size y7 z3) := Lib.hid (KB2.out.trans (bb.mono KB2.out.size))
          have HS3 := Lib.hid (HS2.out.below bb HS2.out.lt)
          have s3 : (fun y => y.cell? ⟨H, 3, none⟩ = some (.slice A2 DL cp2) ∧ y.cell? ⟨H, 4, none⟩ = some (.string nm)) z3 := ⟨HS3.out.cell 3, HS3.out.cell 4⟩
          clear bb
          dsimp only
          refine hK.out _ _ s3 (fun hHeld => ?_)
          clear hK K
          repeat (rw [putL]; simp only [List.set])
          refine wpAnyH_ready (rs := [10]) (by kernel_rfl) (by simp) ?_
          refine rdy rfl (fun K hK => ?_) (AllReadyH.nil)
          have JJ := rjoinM (X := z3) [(Aj, Lj, cj, numB low 4 fc ++ (numB low 4 t32 ++ (numB low 4 tl ++ (numB low 4 DL ++ numB low 4 rl)))), (Ae, Le, ce, D ++ padB D.length), (At, Lt, ct, optB low 1 (20 + D.length + padN (20 + D.length)) nm)] (List.forall_mem_cons.2 ⟨⟨((XJ.out.below KB3.out).more KB3.out.size), HLJ.out, (by show Lj ≤ 1000; have h2 := HLBj.out; omega)⟩, List.forall_mem_cons.2 ⟨⟨Re.out.byt, Re.out.l, (by show Le ≤ 1000; have h2 := HLBe.out; omega)⟩, List.forall_mem_cons.2 ⟨⟨Rt.out.byt, Rt.out.l, (by show Lt ≤ 1000; have h2 := HLBt.out; omega)⟩, List.forall_mem_nil _⟩⟩⟩) (by simp)
          simp only [List.map_cons, List.map_nil, List.length_cons, List.length_nil, Nat.zero_add, Nat.reduceAdd, List.flatten_cons, List.flatten_nil, List.append_nil] at JJ
          have bb : Below z3.heap.size z3 (z3.alloc (.cells #[.slice Aj Lj cj, .slice Ae Le ce, .slice At Lt ct] 30)) := (Below.refl _ z3).alloc (Nat.le_refl _) _
          go_simp
          generalize z3.alloc (.cells #[.slice Aj Lj cj, .slice Ae Le ce, .slice At Lt ct] 30) = z4 at JJ bb ⊢
          have KB4 : Hid (Below y7.heap.size y7 z4) := Lib.hid (KB3.out.trans (bb.mono KB3.out.size))
          have HS4 := Lib.hid (HS3.out.below bb HS3.out.lt)
          have s4 : (fun y => y.cell? ⟨H, 3, none⟩ = some (.slice A2 DL cp2) ∧ y.cell? ⟨H, 4, none⟩ = some (.string nm)) z4 := ⟨HS4.out.cell 3, HS4.out.cell 4⟩
          clear bb
          clear Re Rt
          refine hK.out _ _ s4 (fun hHeld => ?_)
          clear hK K
          repeat (rw [putL]; simp only [List.set])
          refine wpAnyH_ready (rs := [11]) (by kernel_rfl) (by simp) ?_
          refine rdy rfl (fun K hK => ?_) (AllReadyH.nil)
          go_simp
          go_at_call 33
          with_reducible refine JJ.mono ?_
          rintro e z5 ⟨v0, rfl, g0, bb⟩
          clear JJ
          rw [HPR.out] at g0
          obtain ⟨Ax, Lx, cx, rfl, r0⟩ := res_of (N := y7.heap.size) g0 KB4.out.size
          have HLBx : Hid (Lx ≤ 700) := Lib.hid (by have h1 := r0.l; have h2 := pktBy_len low fc tm rl D nm; have h5 := HDL.out; omega)
          have Rx := Lib.hid r0
          clear r0 g0
          have KB5 : Hid (Below y7.heap.size y7 z5) := Lib.hid (KB4.out.trans (bb.mono KB4.out.size))
          have HS5 := Lib.hid (HS4.out.below bb HS4.out.lt)
          have s5 : (fun y => y.cell? ⟨H, 3, none⟩ = some (.slice A2 DL cp2) ∧ y.cell? ⟨H, 4, none⟩ = some (.string nm)) z5 := ⟨HS5.out.cell 3, HS5.out.cell 4⟩
          clear bb
          dsimp only
          refine hK.out _ _ s5 (fun hHeld => ?_)
          clear hK K
          repeat (rw [putL]; simp only [List.set])
          refine wpAnyH_ready (rs := [13]) (by kernel_rfl) (by simp) ?_
          refine rdy rfl (fun K hK => ?_) (AllReadyH.nil)
          have CC : Calls Try.prog 32 #[.int .i64 6, .slice Ax Lx cx, .bool low] z5 (fun e w' => ∃ v', e = .returned v' ∧ Gro w' z5.heap.size v' (blkB low 6 (pktBy low fc tm rl D nm)) ∧ Below y7.heap.size z5 w') := rblock_any low 6 Rx.out.g KB5.out.size (by have h1 := Rx.out.l; have h2 := HLBx.out; omega)
          go_simp
          go_at_call 32
          with_reducible refine CC.mono ?_
          rintro e z6 ⟨v0, rfl, g0, bb⟩
          clear CC
          obtain ⟨Ad, Ld, cd, rfl, r0⟩ := res_of (N := y7.heap.size) g0 KB5.out.size
          have HLBd : Hid (Ld ≤ 700) := Lib.hid (by have h1 := r0.l; have h2 := pktBy_len low fc tm rl D nm; have h5 := HDL.out; have h3 := blkB_len low 6 (pktBy low fc tm rl D nm); omega)
          have Rd := Lib.hid r0
          clear r0 g0 Rx
          have KB6 : Hid (Below y7.heap.size y7 z6) := Lib.hid (KB5.out.trans bb)
          have HS6 := Lib.hid (HS5.out.below bb HS0.out.lt)
          have s6 : (fun y => y.cell? ⟨H, 3, none⟩ = some (.slice A2 DL cp2) ∧ y.cell? ⟨H, 4, none⟩ = some (.string nm)) z6 := ⟨HS6.out.cell 3, HS6.out.cell 4⟩
          clear bb
          dsimp only
          refine hK.out _ _ s6 (fun hHeld => ?_)
          clear hK K
          repeat (rw [putL]; simp only [List.set])
          refine wpAnyH_ready (rs := [14]) (by kernel_rfl) (by simp) ?_
          refine rdy rfl (fun K hK => ?_) (AllReadyH.nil)
          obtain ⟨v9, z7, hrun, ha⟩ := Gro.app (KO.out.at_ KB6.out (fun q hq => (KO.out.lt q hq).2)) cd Rd.out.byt (by have h1 := Rd.out.l; have h2 := HLBd.out; omega) (by have h2 := KL.out; omega) (by have := KB6.out.size; have := KN.out; omega)
          rw [Rd.out.l] at hrun
          have HS7 := Lib.hid (HS6.out.grown ha.grown (fun e => by have := KH.out _ e.symm; omega))
          have s7 : (fun y => y.cell? ⟨H, 3, none⟩ = some (.slice A2 DL cp2) ∧ y.cell? ⟨H, 4, none⟩ = some (.string nm)) z7 := ⟨HS7.out.cell 3, HS7.out.cell 4⟩
          have KA := Lib.hid ha
          have KX : Hid (Below (B + 1) y7 z7) := Lib.hid (ha.below (KB6.out.mono KN.out) (by have := KB6.out.size; have := KN.out; omega) (fun q hq => (KO.out.lt q hq).1))
          refine step_append_run _ rfl _ _ _ _ rfl _ _ (by rfl) (by rfl) _ z7 hrun ?_
          clear ha hrun
          refine hK.out _ _ s7 (fun hHeld => ?_)
          clear hK K
          repeat (rw [putL]; simp only [List.set])
          refine tky 15 ?_
          repeat (rw [putL]; simp only [List.set])
          refine wpAnyH_done (by kernel_rfl) ?_ _
          have HR4 : Hid (Gro z7 (B + 1) v9 (sectB low c.note ++ c.faces.flatMap (faceBl low) ++ c.names.flatMap (nameBl low) ++ c.secs.flatMap (secBl low) ++ (c.pkts.take (k + 1)).flatMap (pktBl low))) := Lib.hid (by rw [HSN.out, HBL.out, ← List.append_assoc]; exact KA.out.own)
          have HL4 : Hid ((sectB low c.note ++ c.faces.flatMap (faceBl low) ++ c.names.flatMap (nameBl low) ++ c.secs.flatMap (secBl low) ++ (c.pkts.take (k + 1)).flatMap (pktBl low)).length ≤ 97000 + 700 * (k + 1)) := Lib.hid (by have h := HLN.out; have h2 := pktBy_len low fc tm rl D nm; have h5 := HDL.out; have h3 := blkB_len low 6 (pktBy low fc tm rl D nm); rw [HSN.out, HBL.out, ← List.append_assoc, List.length_append]; omega)
          have HK4 : Hid (Blk z7 B 27 (capV ⟨pf, cf, pn, cn, ps, cs, pp, cp⟩ c).cells ∧ Below B w z7) := Lib.hid (by have hb : Below (B + 1) wr z7 := (XB.out.mono HW.out.1.lt).trans KX.out; exact ⟨HW.out.1.below hb (Nat.lt_succ_self B), HW.out.2.trans (hb.mono (Nat.le_succ B))⟩)
          clear hti htj
          go_wp2
          go_roundw
          case rel => exact ⟨k + 1, by go_num, by omega, HR4, HL4, HK4⟩
          case measure => simp [intOf]; omega
         ·have hkn : k = c.pkts.length := by omega
          subst hkn
          have HR4 : Hid (Gro wr (B + 1) u9 (sectB low c.note ++ c.faces.flatMap (faceBl low) ++ c.names.flatMap (nameBl low) ++ c.secs.flatMap (secBl low) ++ c.pkts.flatMap (pktBl low))) := Lib.hid (by have h := HR.out; rw [List.take_length] at h; exact h)
          have HL4 : Hid ((sectB low c.note ++ c.faces.flatMap (faceBl low) ++ c.names.flatMap (nameBl low) ++ c.secs.flatMap (secBl low) ++ c.pkts.flatMap (pktBl low)).length ≤ 200000) := Lib.hid (by have h := HLN.out; rw [List.take_length] at h; have := HOK.out.np; omega)
          have HW4 := HW
          go_wp2
          go_ret2
          refine ⟨u9, rfl, ?_, HW.out.2⟩
          have h := HR4.out
          unfold blocksB
          simpa only [List.append_assoc] using h.mono (Nat.le_succ B)
end Go.Proofs.Ytlimkckomdipkaa
