/- Read. -/
import Derived.Test.YtlimkckomdipkaaParse
import Derived.Test.YtlimkckomdipkaaVald
import Derived.Deep.RegionHeld3
import Derived.Test.YtlimkckomdipkaaMem
namespace Go.Proofs.Ytlimkckomdipkaa
open Go.RowKit

/-- What Read leaves. -/
def ReadPost (w : World) (ok : Bool) (c : Cap) (T : Nat) (e : Ending) (w' : World) : Prop :=
  Below w.heap.size w w' ∧ (((ok = true ∧ errV c = 0) ∧ ∃ q, e = .returned (.tuple #[capV q c, .int .i64 (T : Nat), .int .i64 0]) ∧ CapO w' w.heap.size q c) ∨
    (¬ (ok = true ∧ errV c = 0) ∧ e = .returned (.tuple #[.agg zeroB, .int .i64 0, .int .i64 11])))

set_option maxRecDepth 100000 in
set_option maxHeartbeats 4000000 in
theorem read_any {w : World} {b0 o N C n T : Nat} {low ok : Bool} {c : Cap}
    (hp : ∀ w', Below w.heap.size w w' → Calls Try.prog 40 #[.slice (some ⟨b0, o, none⟩) N C] w' (ParsePost w' low ok c n T)) :
    Calls Try.prog 14 #[.slice (some ⟨b0, o, none⟩) N C] w (ReadPost w ok c T) := by
  obtain ⟨B, hB⟩ : ∃ B, w.heap.size = B := ⟨_, rfl⟩
  obtain ⟨W0, hW0⟩ : ∃ W0, w.alloc (.cells #[.string ⟨#[]⟩, .slice none 0 0, .slice none 0 0, .slice none 0 0, .slice none 0 0] 27) = W0 := ⟨_, rfl⟩
  have HK0 : Hid (Blk W0 B 27 #[.string ⟨#[]⟩, .slice none 0 0, .slice none 0 0, .slice none 0 0, .slice none 0 0] ∧ Below B w W0) := Lib.hid (by rw [← hW0, ← hB]; exact ⟨Blk.new _ _ _, (Below.refl _ w).alloc (Nat.le_refl _) _⟩)
  have HP := Lib.hid hp
  have HBB := Lib.hid hB
  clear hp
  go_enter Try.func14, Try.ntmps14
  go_wp2_with fail
  refine (HP.out W0 (by rw [HBB.out]; exact HK0.out.2)).mono ?_
  intro e w1 hpost
  unfold ParsePost at hpost
  obtain ⟨hb1, ⟨hok, q, A, cp, rfl, hcap⟩ | ⟨hok, rfl⟩⟩ := hpost
  · obtain ⟨T', hO⟩ : ∃ T' : Nat, ordV low = .iface T' (.agg #[]) := by cases low <;> exact ⟨_, rfl⟩
    rw [hO]
    unfold rdV
    have HK1 : Hid (Blk w1 B 27 zeroB ∧ Below B w w1) := Lib.hid ⟨HK0.out.1.below hb1 HK0.out.1.lt, HK0.out.2.trans (hb1.mono (Nat.le_of_lt HK0.out.1.lt))⟩
    have HC1 := Lib.hid (hcap.mono (Nat.le_of_lt HK0.out.1.lt))
    have hB1 : B < w1.heap.size := HK1.out.1.lt
    clear hb1 hW0 hO hcap hB HP
    have HW2 : Hid (∀ R, w1.heap.size = R → ∀ W2, w1.alloc (.cells #[.iface T' (.agg #[]), .string c.note, .slice q.pf c.faces.length q.cf, .slice q.pn c.names.length q.cn, .slice q.ps c.secs.length q.cs, .slice q.pp c.pkts.length q.cp, .slice A n cp, .int .i64 (T : Int)] 70) = W2 → B < R ∧ (Blk W2 B 27 zeroB ∧ Below B w W2) ∧ CapO W2 B q c ∧ Blk W2 R 70 #[.iface T' (.agg #[]), .string c.note, .slice q.pf c.faces.length q.cf, .slice q.pn c.names.length q.cn, .slice q.ps c.secs.length q.cs, .slice q.pp c.pkts.length q.cp, .slice A n cp, .int .i64 (T : Int)]) := Lib.hid (by
      rintro R hR W2 hW2
      rw [← hW2, ← hR]
      exact ⟨hB1, ⟨HK1.out.1.alloc _, HK1.out.2.alloc (by omega) _⟩, HC1.out.below ((Below.refl _ w1).alloc (Nat.le_refl _) _), Blk.new _ _ _⟩)
    go_wp2_with fail
    generalize hW2 : w1.alloc (.cells #[.iface T' (.agg #[]), .string c.note, .slice q.pf c.faces.length q.cf, .slice q.pn c.names.length q.cn, .slice q.ps c.secs.length q.cs, .slice q.pp c.pkts.length q.cp, .slice A n cp, .int .i64 (T : Int)] 70) = W2
    generalize hR : w1.heap.size = R
    obtain ⟨hBR, hK2, hC2, hR2⟩ := HW2.out R hR W2 hW2
    have HK2 := Lib.hid hK2
    have HC2 := Lib.hid hC2
    have HR2 := Lib.hid hR2
    clear HW2 hW2 hR hK2 hC2 hR2
    have HV := Lib.hid (vald_any HC2.out.capM)
    have r0 : W2.cell? ⟨R, 0, none⟩ = some (.iface T' (.agg #[])) := HR2.out.cell 0
    have r1 : W2.cell? ⟨R, 1, none⟩ = some (.string c.note) := HR2.out.cell 1
    have r2 : W2.cell? ⟨R, 2, none⟩ = some (.slice q.pf c.faces.length q.cf) := HR2.out.cell 2
    have r3 : W2.cell? ⟨R, 3, none⟩ = some (.slice q.pn c.names.length q.cn) := HR2.out.cell 3
    have r4 : W2.cell? ⟨R, 4, none⟩ = some (.slice q.ps c.secs.length q.cs) := HR2.out.cell 4
    have r5 : W2.cell? ⟨R, 5, none⟩ = some (.slice q.pp c.pkts.length q.cp) := HR2.out.cell 5
    have r6 : W2.cell? ⟨R, 6, none⟩ = some (.slice A n cp) := HR2.out.cell 6
    have r7 : W2.cell? ⟨R, 7, none⟩ = some (.int .i64 (T : Int)) := HR2.out.cell 7
    try unfold capV at HV
    go_wp2_with fail
    refine HV.out.mono ?_
    rintro e w3 ⟨rfl, hb3⟩
    have HK3 : Hid (Blk w3 B 27 zeroB ∧ Below B w w3) := Lib.hid ⟨HK2.out.1.below hb3 HK2.out.1.lt, HK2.out.2.trans (hb3.mono (Nat.le_of_lt HK2.out.1.lt))⟩
    have HC3 := Lib.hid (HC2.out.below hb3)
    have HR3 := Lib.hid (HR2.out.below hb3 HR2.out.lt)
    clear r0 r1 r2 r3 r4 r5 r6 r7 hb3 HV
    have r0 : w3.cell? ⟨R, 0, none⟩ = some (.iface T' (.agg #[])) := HR3.out.cell 0
    have r1 : w3.cell? ⟨R, 1, none⟩ = some (.string c.note) := HR3.out.cell 1
    have r2 : w3.cell? ⟨R, 2, none⟩ = some (.slice q.pf c.faces.length q.cf) := HR3.out.cell 2
    have r3 : w3.cell? ⟨R, 3, none⟩ = some (.slice q.pn c.names.length q.cn) := HR3.out.cell 3
    have r4 : w3.cell? ⟨R, 4, none⟩ = some (.slice q.ps c.secs.length q.cs) := HR3.out.cell 4
    have r5 : w3.cell? ⟨R, 5, none⟩ = some (.slice q.pp c.pkts.length q.cp) := HR3.out.cell 5
    have r6 : w3.cell? ⟨R, 6, none⟩ = some (.slice A n cp) := HR3.out.cell 6
    have r7 : w3.cell? ⟨R, 7, none⟩ = some (.int .i64 (T : Int)) := HR3.out.cell 7
    have z0 : w3.cell? ⟨B, 0, none⟩ = some (.string ⟨#[]⟩) := HK3.out.1.cell 0
    have zf0 : w3.frozen? ⟨B, 0, none⟩ = false := HK3.out.1.frozen 0
    have z1 : w3.cell? ⟨B, 1, none⟩ = some (.slice none 0 0) := HK3.out.1.cell 1
    have zf1 : w3.frozen? ⟨B, 1, none⟩ = false := HK3.out.1.frozen 1
    have z2 : w3.cell? ⟨B, 2, none⟩ = some (.slice none 0 0) := HK3.out.1.cell 2
    have zf2 : w3.frozen? ⟨B, 2, none⟩ = false := HK3.out.1.frozen 2
    have z3 : w3.cell? ⟨B, 3, none⟩ = some (.slice none 0 0) := HK3.out.1.cell 3
    have zf3 : w3.frozen? ⟨B, 3, none⟩ = false := HK3.out.1.frozen 3
    have z4 : w3.cell? ⟨B, 4, none⟩ = some (.slice none 0 0) := HK3.out.1.cell 4
    have zf4 : w3.frozen? ⟨B, 4, none⟩ = false := HK3.out.1.frozen 4
    by_cases he : errV c = 0
    · have HE := Lib.hid he
      rw [he]
      clear he
      obtain ⟨W4, hW4⟩ : ∃ W4, w3.drew = W4 := ⟨_, rfl⟩
      have HKD : Hid (Blk W4 B 27 zeroB ∧ Below B w W4) := Lib.hid (by rw [← hW4]; exact ⟨HK3.out.1, HK3.out.2.drew⟩)
      have HCD : Hid (CapO W4 B q c) := Lib.hid (by rw [← hW4]; exact HC3.out.below (Below.refl _ w3).drew)
      have HR4 : Hid (Blk W4 R 70 #[.iface T' (.agg #[]), .string c.note, .slice q.pf c.faces.length q.cf, .slice q.pn c.names.length q.cn, .slice q.ps c.secs.length q.cs, .slice q.pp c.pkts.length q.cp, .slice A n cp, .int .i64 (T : Int)]) := Lib.hid (by rw [← hW4]; exact HR3.out)
      have HEND := Lib.hid (set5 HKD.out.1 (.string c.note) (.slice q.pf c.faces.length q.cf) (.slice q.pn c.names.length q.cn) (.slice q.ps c.secs.length q.cs) (.slice q.pp c.pkts.length q.cp))
      have HRE : Hid (Blk (((((W4.setCell ⟨B, 0, none⟩ (.string c.note)).setCell ⟨B, 1, none⟩ (.slice q.pf c.faces.length q.cf)).setCell ⟨B, 2, none⟩ (.slice q.pn c.names.length q.cn)).setCell ⟨B, 3, none⟩ (.slice q.ps c.secs.length q.cs)).setCell ⟨B, 4, none⟩ (.slice q.pp c.pkts.length q.cp)) R 70 #[.iface T' (.agg #[]), .string c.note, .slice q.pf c.faces.length q.cf, .slice q.pn c.names.length q.cn, .slice q.ps c.secs.length q.cs, .slice q.pp c.pkts.length q.cp, .slice A n cp, .int .i64 (T : Int)]) := Lib.hid (HEND.out.2.1.2 R 70 _ (by decide) HR4.out)
      have d1 : W4.cell? ⟨R, 1, none⟩ = some (.string c.note) := HR4.out.cell 1
      have g1 : (((((W4.setCell ⟨B, 0, none⟩ (.string c.note)).setCell ⟨B, 1, none⟩ (.slice q.pf c.faces.length q.cf)).setCell ⟨B, 2, none⟩ (.slice q.pn c.names.length q.cn)).setCell ⟨B, 3, none⟩ (.slice q.ps c.secs.length q.cs)).setCell ⟨B, 4, none⟩ (.slice q.pp c.pkts.length q.cp)).cell? ⟨R, 1, none⟩ = some (.string c.note) := HRE.out.cell 1
      have d2 : W4.cell? ⟨R, 2, none⟩ = some (.slice q.pf c.faces.length q.cf) := HR4.out.cell 2
      have g2 : (((((W4.setCell ⟨B, 0, none⟩ (.string c.note)).setCell ⟨B, 1, none⟩ (.slice q.pf c.faces.length q.cf)).setCell ⟨B, 2, none⟩ (.slice q.pn c.names.length q.cn)).setCell ⟨B, 3, none⟩ (.slice q.ps c.secs.length q.cs)).setCell ⟨B, 4, none⟩ (.slice q.pp c.pkts.length q.cp)).cell? ⟨R, 2, none⟩ = some (.slice q.pf c.faces.length q.cf) := HRE.out.cell 2
      have d3 : W4.cell? ⟨R, 3, none⟩ = some (.slice q.pn c.names.length q.cn) := HR4.out.cell 3
      have g3 : (((((W4.setCell ⟨B, 0, none⟩ (.string c.note)).setCell ⟨B, 1, none⟩ (.slice q.pf c.faces.length q.cf)).setCell ⟨B, 2, none⟩ (.slice q.pn c.names.length q.cn)).setCell ⟨B, 3, none⟩ (.slice q.ps c.secs.length q.cs)).setCell ⟨B, 4, none⟩ (.slice q.pp c.pkts.length q.cp)).cell? ⟨R, 3, none⟩ = some (.slice q.pn c.names.length q.cn) := HRE.out.cell 3
      have d4 : W4.cell? ⟨R, 4, none⟩ = some (.slice q.ps c.secs.length q.cs) := HR4.out.cell 4
      have g4 : (((((W4.setCell ⟨B, 0, none⟩ (.string c.note)).setCell ⟨B, 1, none⟩ (.slice q.pf c.faces.length q.cf)).setCell ⟨B, 2, none⟩ (.slice q.pn c.names.length q.cn)).setCell ⟨B, 3, none⟩ (.slice q.ps c.secs.length q.cs)).setCell ⟨B, 4, none⟩ (.slice q.pp c.pkts.length q.cp)).cell? ⟨R, 4, none⟩ = some (.slice q.ps c.secs.length q.cs) := HRE.out.cell 4
      have d5 : W4.cell? ⟨R, 5, none⟩ = some (.slice q.pp c.pkts.length q.cp) := HR4.out.cell 5
      have g5 : (((((W4.setCell ⟨B, 0, none⟩ (.string c.note)).setCell ⟨B, 1, none⟩ (.slice q.pf c.faces.length q.cf)).setCell ⟨B, 2, none⟩ (.slice q.pn c.names.length q.cn)).setCell ⟨B, 3, none⟩ (.slice q.ps c.secs.length q.cs)).setCell ⟨B, 4, none⟩ (.slice q.pp c.pkts.length q.cp)).cell? ⟨R, 5, none⟩ = some (.slice q.pp c.pkts.length q.cp) := HRE.out.cell 5
      have d7 : W4.cell? ⟨R, 7, none⟩ = some (.int .i64 (T : Int)) := HR4.out.cell 7
      have g7 : (((((W4.setCell ⟨B, 0, none⟩ (.string c.note)).setCell ⟨B, 1, none⟩ (.slice q.pf c.faces.length q.cf)).setCell ⟨B, 2, none⟩ (.slice q.pn c.names.length q.cn)).setCell ⟨B, 3, none⟩ (.slice q.ps c.secs.length q.cs)).setCell ⟨B, 4, none⟩ (.slice q.pp c.pkts.length q.cp)).cell? ⟨R, 7, none⟩ = some (.int .i64 (T : Int)) := HRE.out.cell 7
      have x0 : W4.cell? ⟨B, 0, none⟩ = some (.string ⟨#[]⟩) := HKD.out.1.cell 0
      have xf0 : W4.frozen? ⟨B, 0, none⟩ = false := HKD.out.1.frozen 0
      have x1 : W4.cell? ⟨B, 1, none⟩ = some (.slice none 0 0) := HKD.out.1.cell 1
      have xf1 : W4.frozen? ⟨B, 1, none⟩ = false := HKD.out.1.frozen 1
      have x2 : W4.cell? ⟨B, 2, none⟩ = some (.slice none 0 0) := HKD.out.1.cell 2
      have xf2 : W4.frozen? ⟨B, 2, none⟩ = false := HKD.out.1.frozen 2
      have x3 : W4.cell? ⟨B, 3, none⟩ = some (.slice none 0 0) := HKD.out.1.cell 3
      have xf3 : W4.frozen? ⟨B, 3, none⟩ = false := HKD.out.1.frozen 3
      have x4 : W4.cell? ⟨B, 4, none⟩ = some (.slice none 0 0) := HKD.out.1.cell 4
      have xf4 : W4.frozen? ⟨B, 4, none⟩ = false := HKD.out.1.frozen 4
      go_wp2_with fail
      refine wp_region_held_drew (S := fun w' => w'.cell? ⟨R, 1, none⟩ = some (.string c.note) ∧ w'.cell? ⟨R, 2, none⟩ = some (.slice q.pf c.faces.length q.cf) ∧ w'.cell? ⟨R, 3, none⟩ = some (.slice q.pn c.names.length q.cn) ∧ w'.cell? ⟨R, 4, none⟩ = some (.slice q.ps c.secs.length q.cs) ∧ w'.cell? ⟨R, 5, none⟩ = some (.slice q.pp c.pkts.length q.cp) ∧ w'.cell? ⟨R, 7, none⟩ = some (.int .i64 (T : Int))) (by kernel_rfl) (by rw [hW4]; exact ⟨d1, d2, d3, d4, d5, d7⟩) (fun hHeld => ?_)
      rw [hW4] at hHeld ⊢
      clear hW4
      refine tk 0 ?_
      repeat (rw [putL]; simp only [List.set])
      refine tk 1 ?_
      repeat (rw [putL]; simp only [List.set])
      refine tk 2 ?_
      repeat (rw [putL]; simp only [List.set])
      refine tk 3 ?_
      repeat (rw [putL]; simp only [List.set])
      refine wpAnyH_ready (rs := [4]) (by kernel_rfl) (by simp) ?_
      refine AllReadyH.cons rfl (fun K hK => ?_) (AllReadyH.nil)
      go_simp
      refine hK.out _ _ ⟨g1, g2, g3, g4, g5, g7⟩ (fun hHeld => ?_)
      clear hK K
      repeat (rw [putL]; simp only [List.set])
      refine tk 5 ?_
      repeat (rw [putL]; simp only [List.set])
      refine tk 6 ?_
      repeat (rw [putL]; simp only [List.set])
      refine wpAnyH_done (by kernel_rfl) ?_ _
      clear g1 g2 g3 g4 g5 g7 HRE
      generalize hW9 : (((((W4.setCell ⟨B, 0, none⟩ (.string c.note)).setCell ⟨B, 1, none⟩ (.slice q.pf c.faces.length q.cf)).setCell ⟨B, 2, none⟩ (.slice q.pn c.names.length q.cn)).setCell ⟨B, 3, none⟩ (.slice q.ps c.secs.length q.cs)).setCell ⟨B, 4, none⟩ (.slice q.pp c.pkts.length q.cp)) = W9 at HEND ⊢
      obtain ⟨hb9, ha9, hw9⟩ := HEND.out
      have y0 : W9.cell? ⟨B, 0, none⟩ = some (.string c.note) := hb9.cell 0
      have y1 : W9.cell? ⟨B, 1, none⟩ = some (.slice q.pf c.faces.length q.cf) := hb9.cell 1
      have y2 : W9.cell? ⟨B, 2, none⟩ = some (.slice q.pn c.names.length q.cn) := hb9.cell 2
      have y3 : W9.cell? ⟨B, 3, none⟩ = some (.slice q.ps c.secs.length q.cs) := hb9.cell 3
      have y4 : W9.cell? ⟨B, 4, none⟩ = some (.slice q.pp c.pkts.length q.cp) := hb9.cell 4
      go_wp2_with fail
      exact bodyPost_ret (v := .tuple #[capV q c, .int .i64 (T : Nat), .int .i64 0]) (by simp [results, Try.results14, go_sem, y0, y1, y2, y3, y4, capV]) rfl (by unfold ReadPost; rw [HBB.out]; exact ⟨hw9 B w HKD.out.2 (Nat.le_refl _), Or.inl ⟨⟨hok, HE.out⟩, q, rfl, HCD.out.alike ha9 (by decide)⟩⟩)
    · have HE := Lib.hid he
      have he2 : (errV c != 0) = true := by simp [he]
      clear he
      have HEND := Lib.hid (set5 HK3.out.1 (.string ⟨#[]⟩) (.slice none 0 0) (.slice none 0 0) (.slice none 0 0) (.slice none 0 0))
      go_wp2_with fail
      generalize hW9 : (((((w3.setCell ⟨B, 0, none⟩ (.string ⟨#[]⟩)).setCell ⟨B, 1, none⟩ (.slice none 0 0)).setCell ⟨B, 2, none⟩ (.slice none 0 0)).setCell ⟨B, 3, none⟩ (.slice none 0 0)).setCell ⟨B, 4, none⟩ (.slice none 0 0)) = W9 at HEND ⊢
      obtain ⟨hb9, ha9, hw9⟩ := HEND.out
      have y0 : W9.cell? ⟨B, 0, none⟩ = some (.string ⟨#[]⟩) := hb9.cell 0
      have y1 : W9.cell? ⟨B, 1, none⟩ = some (.slice none 0 0) := hb9.cell 1
      have y2 : W9.cell? ⟨B, 2, none⟩ = some (.slice none 0 0) := hb9.cell 2
      have y3 : W9.cell? ⟨B, 3, none⟩ = some (.slice none 0 0) := hb9.cell 3
      have y4 : W9.cell? ⟨B, 4, none⟩ = some (.slice none 0 0) := hb9.cell 4
      exact bodyPost_ret (v := .tuple #[.agg zeroB, .int .i64 0, .int .i64 11]) (by simp [results, Try.results14, go_sem, y0, y1, y2, y3, y4, zeroB]) rfl (by unfold ReadPost; rw [HBB.out]; exact ⟨hw9 B w HK3.out.2 (Nat.le_refl _), Or.inr ⟨fun h => HE.out h.2, rfl⟩⟩)
  · have HK1 : Hid (Blk w1 B 27 zeroB ∧ Below B w w1) := Lib.hid ⟨HK0.out.1.below hb1 HK0.out.1.lt, HK0.out.2.trans (hb1.mono (Nat.le_of_lt HK0.out.1.lt))⟩
    have hB1 : B < w1.heap.size := HK1.out.1.lt
    clear hb1 hW0 hB HP
    unfold zero8
    have HK2 : Hid (∀ o, Blk (w1.alloc o) B 27 zeroB ∧ Below B w (w1.alloc o)) := Lib.hid fun o => ⟨HK1.out.1.alloc _, HK1.out.2.alloc (by omega) _⟩
    have z0 : w1.cell? ⟨B, 0, none⟩ = some (.string ⟨#[]⟩) := HK1.out.1.cell 0
    have zf0 : w1.frozen? ⟨B, 0, none⟩ = false := HK1.out.1.frozen 0
    have z1 : w1.cell? ⟨B, 1, none⟩ = some (.slice none 0 0) := HK1.out.1.cell 1
    have zf1 : w1.frozen? ⟨B, 1, none⟩ = false := HK1.out.1.frozen 1
    have z2 : w1.cell? ⟨B, 2, none⟩ = some (.slice none 0 0) := HK1.out.1.cell 2
    have zf2 : w1.frozen? ⟨B, 2, none⟩ = false := HK1.out.1.frozen 2
    have z3 : w1.cell? ⟨B, 3, none⟩ = some (.slice none 0 0) := HK1.out.1.cell 3
    have zf3 : w1.frozen? ⟨B, 3, none⟩ = false := HK1.out.1.frozen 3
    have z4 : w1.cell? ⟨B, 4, none⟩ = some (.slice none 0 0) := HK1.out.1.cell 4
    have zf4 : w1.frozen? ⟨B, 4, none⟩ = false := HK1.out.1.frozen 4
    have HEND := Lib.hid (set5 HK1.out.1 (.string ⟨#[]⟩) (.slice none 0 0) (.slice none 0 0) (.slice none 0 0) (.slice none 0 0))
    go_wp2_with fail
    generalize hW9 : (((((w1.setCell ⟨B, 0, none⟩ (.string ⟨#[]⟩)).setCell ⟨B, 1, none⟩ (.slice none 0 0)).setCell ⟨B, 2, none⟩ (.slice none 0 0)).setCell ⟨B, 3, none⟩ (.slice none 0 0)).setCell ⟨B, 4, none⟩ (.slice none 0 0)) = W9 at HEND ⊢
    obtain ⟨hb9, ha9, hw9⟩ := HEND.out
    have y0 : (W9.alloc (.cells #[.nilIface, .string ⟨#[]⟩, .slice none 0 0, .slice none 0 0, .slice none 0 0, .slice none 0 0, .slice none 0 0, .int .i64 0] 70)).cell? ⟨B, 0, none⟩ = some (.string ⟨#[]⟩) := (hb9.alloc _).cell 0
    have y1 : (W9.alloc (.cells #[.nilIface, .string ⟨#[]⟩, .slice none 0 0, .slice none 0 0, .slice none 0 0, .slice none 0 0, .slice none 0 0, .int .i64 0] 70)).cell? ⟨B, 1, none⟩ = some (.slice none 0 0) := (hb9.alloc _).cell 1
    have y2 : (W9.alloc (.cells #[.nilIface, .string ⟨#[]⟩, .slice none 0 0, .slice none 0 0, .slice none 0 0, .slice none 0 0, .slice none 0 0, .int .i64 0] 70)).cell? ⟨B, 2, none⟩ = some (.slice none 0 0) := (hb9.alloc _).cell 2
    have y3 : (W9.alloc (.cells #[.nilIface, .string ⟨#[]⟩, .slice none 0 0, .slice none 0 0, .slice none 0 0, .slice none 0 0, .slice none 0 0, .int .i64 0] 70)).cell? ⟨B, 3, none⟩ = some (.slice none 0 0) := (hb9.alloc _).cell 3
    have y4 : (W9.alloc (.cells #[.nilIface, .string ⟨#[]⟩, .slice none 0 0, .slice none 0 0, .slice none 0 0, .slice none 0 0, .slice none 0 0, .int .i64 0] 70)).cell? ⟨B, 4, none⟩ = some (.slice none 0 0) := (hb9.alloc _).cell 4
    exact bodyPost_ret (v := .tuple #[.agg zeroB, .int .i64 0, .int .i64 11]) (by simp [results, Try.results14, go_sem, y0, y1, y2, y3, y4, zeroB]) rfl (by unfold ReadPost; rw [HBB.out]; exact ⟨(hw9 B w HK1.out.2 (Nat.le_refl _)).alloc (Nat.le_of_lt hb9.lt) _, Or.inr ⟨fun h => by rw [hok] at h; exact absurd h.1 (by decide), rfl⟩⟩)
end Go.Proofs.Ytlimkckomdipkaa
