/- The bytes with which files begin; the bodies of blocks. -/
import Derived.Test.YtlimkckomdipkaaBlk
import Derived.Test.YtlimkckomdipkaaRep
namespace Go.Proofs.Ytlimkckomdipkaa
open Go.RowKit

theorem own_mono {w : World} {base base' n : Nat} {v : Value} {xs : List Value} (h : w.ownsRow base 5 1 v n xs) (hb : base' ≤ base) : w.ownsRow base' 5 1 v n xs := by
  refine ⟨h.1, ?_⟩
  rcases h.2 with h | ⟨g, cap, cur, e1, e2, e3⟩
  · exact .inl h
  · exact .inr ⟨g, cap, cur, e1, by omega, e3⟩
theorem app_below {w w' : World} {base : Nat} {v' : Value} {bs new : List Nat} (h : App w base (.slice none 0 0) bs new v' w') : Below w.heap.size w w' :=
  (Below.refl _ _).grown h.grown (Nat.le_refl _) (by simp [Value.ownBlock])
theorem nil_own (w : World) (base : Nat) : w.ownsRow base 5 1 (.slice none 0 0) ([] : List Nat).length (([] : List Nat).map u8) := World.ownsRow_nil w base 5 1
theorem len2 (low : Bool) (a b : Nat) : (numsB low 2 [a, b]).length = 4 := by rw [numsB_len]; rfl
theorem len4 (low : Bool) (a : Nat) : (numsB low 4 [a]).length = 4 := by rw [numsB_len]; rfl
theorem len42 (low : Bool) (a b : Nat) : (numsB low 4 [a, b]).length = 8 := by rw [numsB_len]; rfl
theorem len44 (low : Bool) (a b c d : Nat) : (numsB low 4 [a, b, c, d]).length = 16 := by rw [numsB_len]; rfl
theorem len45 (low : Bool) (a b c d e : Nat) : (numsB low 4 [a, b, c, d, e]).length = 20 := by rw [numsB_len]; rfl

def oldB (low : Bool) : List Nat := numsB low 4 [2712847316] ++ (numsB low 2 [2, 4] ++ numsB low 4 [0, 0])
def secH (low : Bool) : List Nat := numsB low 4 [439041101] ++ (numsB low 2 [1, 0] ++ List.replicate 8 255)
/-- The body of an interface. -/
def facBy (low : Bool) (lk sn : Nat) (name : ByteArray) : List Nat := numsB low 2 [lk, 0] ++ (numsB low 4 [sn] ++ optB low 2 8 name)
/-- The body of a name or a secret. -/
def pairB (low : Bool) (a b : List Nat) : List Nat := numsB low 2 [a.length, b.length] ++ (a ++ b)
/-- The body of a packet. -/
def pktBy (low : Bool) (fc t rl : Nat) (data : List Nat) (note : ByteArray) : List Nat :=
  numsB low 4 [fc, t / 4294967296, t, data.length, rl] ++ (data ++ (padB (20 + data.length) ++ optB low 1 (20 + data.length + padN (20 + data.length)) note))

set_option maxRecDepth 100000 in
set_option maxHeartbeats 2000000 in
theorem oldbegin_any {w : World} (low : Bool) : Calls Try.prog 64 #[ordV low] w (OwnPost w w.heap.size (oldB low)) := by
  obtain ⟨O, hO⟩ : ∃ O, ordV low = O := ⟨_, rfl⟩
  have HADD := Lib.hid (fun (base : Nat) (w0 : World) (v0 : Value) (b0 : List Nat) (n : Nat) (vs : List Nat) (cs : Array Value) hn hcs hown0 hb0 hl0 hm0 => add_new (w := w0) (base := base) (v := v0) (bs := b0) low n vs hn hown0 hb0 hl0 hm0 cs hcs)
  have HOPT := Lib.hid (fun (base : Nat) (w0 : World) (v0 : Value) (b0 : List Nat) (code : Nat) (s : ByteArray) hown0 hb0 hl0 hs0 => option_any (w := w0) (base := base) (v := v0) (bs := b0) low code s hown0 hb0 hl0 hs0)
  rw [hO] at HADD HOPT ⊢
  clear hO
  obtain ⟨B, hB⟩ : ∃ B, w.heap.size = B := ⟨_, rfl⟩
  have HB := Lib.hid hB
  have hBw : B ≤ w.heap.size := by omega
  rw [hB]
  clear hB
  go_enter Try.func64, Try.ntmps64
  go_wp2_with fail
  refine (HADD.out B w (.slice none 0 0) [] 4 [2712847316] _ (.inr rfl) rfl (nil_own _ _) (by omega) (by simp) (by simp)).mono ?_
  rintro e w1 ⟨v1, rfl, hA1⟩
  have HA1 := Lib.hid (hA1)
  clear hA1

  go_wp2_with fail
  refine (HADD.out B w1 v1 _ 2 [2, 4] _ (.inl rfl) rfl HA1.out.own (by have := HA1.out.grown.size; omega) (by simp [len4]) (by simp)).mono ?_
  rintro e w2 ⟨v2, rfl, hA2⟩
  have HA2 := Lib.hid (HA1.out.trans hA2)
  clear hA2

  go_wp2_with fail
  refine (HADD.out B w2 v2 _ 4 [0, 0] _ (.inr rfl) rfl HA2.out.own (by have := HA2.out.grown.size; omega) (by simp [len4, len2]) (by simp)).mono ?_
  rintro e w3 ⟨v3, rfl, hA3⟩
  have HA3 := Lib.hid (HA2.out.trans hA3)
  clear hA3

  go_wp2
  go_ret
  refine ⟨v3, rfl, ?_, HA3.out.below (Below.refl _ _) hBw (by simp [Value.ownBlock])⟩
  have h := HA3.out.own
  simpa only [List.nil_append, List.append_assoc, oldB] using h

set_option maxRecDepth 100000 in
set_option maxHeartbeats 2000000 in
theorem secbegin_any {w : World} (low : Bool) : Calls Try.prog 59 #[ordV low] w (OwnPost w w.heap.size (secH low)) := by
  obtain ⟨O, hO⟩ : ∃ O, ordV low = O := ⟨_, rfl⟩
  have HADD := Lib.hid (fun (base : Nat) (w0 : World) (v0 : Value) (b0 : List Nat) (n : Nat) (vs : List Nat) (cs : Array Value) hn hcs hown0 hb0 hl0 hm0 => add_new (w := w0) (base := base) (v := v0) (bs := b0) low n vs hn hown0 hb0 hl0 hm0 cs hcs)
  have HOPT := Lib.hid (fun (base : Nat) (w0 : World) (v0 : Value) (b0 : List Nat) (code : Nat) (s : ByteArray) hown0 hb0 hl0 hs0 => option_any (w := w0) (base := base) (v := v0) (bs := b0) low code s hown0 hb0 hl0 hs0)
  rw [hO] at HADD HOPT ⊢
  clear hO
  obtain ⟨B, hB⟩ : ∃ B, w.heap.size = B := ⟨_, rfl⟩
  have HB := Lib.hid hB
  have hBw : B ≤ w.heap.size := by omega
  rw [hB]
  clear hB
  go_enter Try.func59, Try.ntmps59
  go_wp2_with fail
  refine (HADD.out B w (.slice none 0 0) [] 4 [439041101] _ (.inr rfl) rfl (nil_own _ _) (by omega) (by simp) (by simp)).mono ?_
  rintro e w1 ⟨v1, rfl, hA1⟩
  have HA1 := Lib.hid (hA1)
  clear hA1

  go_wp2_with fail
  refine (HADD.out B w1 v1 _ 2 [1, 0] _ (.inl rfl) rfl HA1.out.own (by have := HA1.out.grown.size; omega) (by simp [len4]) (by simp)).mono ?_
  rintro e w2 ⟨v2, rfl, hA2⟩
  have HA2 := Lib.hid (HA1.out.trans hA2)
  clear hA2

  go_wp2_with fail
  have hw2 : B ≤ w2.heap.size := by have := HA2.out.grown.size; omega
  refine (repeat_any (Blk.new w2 5 #[.int .u8 255])).mono ?_
  rintro e w3 ⟨rfl, hbk, hB3⟩
  rw [alloc_size] at hbk hB3
  have hb23 : Below w2.heap.size w2 w3 := ((Below.refl _ w2).alloc (Nat.le_refl _) _).trans (hB3.mono (by omega))
  have hown3 := HA2.out.own.kept (grown_of_below hb23) (by
    cases hb : v2.ownBlock with
    | none => exact .inl rfl
    | some g => exact .inr (by simp))
  have hbyt : Byt w3 w3.heap.size (some ⟨w2.heap.size + 1, 0, none⟩) (List.replicate 8 255) := byt_own (base := 0) (c := 8) (by intro x hx; rw [List.eq_of_mem_replicate hx]; decide) (blk_own (post := []) (by omega) (by simp) (by rw [List.append_nil]; exact hbk) (by simp) (by unfold maxLen; omega) (by simp))
  obtain ⟨v4, w4, hrun, hA4⟩ := run_own_byt w3 B v2 _ hown3 8 hbyt (by simp) (by simp [len4, len2]) (by have := hb23.size; omega)
  have hlen8 : (List.replicate 8 255).length = 8 := by simp
  rw [hlen8] at hrun
  rw [alloc_size]
  have HA4 := Lib.hid (HA2.out.trans (App.pre (grown_of_below hb23) hA4))
  clear hA4 hbyt hown3 hbk hB3 hb23
  go_wp2_with (at_builtin; refine Lib.wpList_append_run _ rfl _ _ _ _ rfl _ _ rfl rfl _ _ hrun ?_)
  go_ret
  refine ⟨v4, rfl, ?_, HA4.out.below (Below.refl _ _) hBw (by simp [Value.ownBlock])⟩
  have h := HA4.out.own
  simpa only [List.nil_append, List.append_assoc, secH] using h

set_option maxRecDepth 100000 in
set_option maxHeartbeats 2000000 in
theorem facebody_any {w : World} (low : Bool) (lk sn : Nat) (name : ByteArray) (hn : name.size ≤ 1000) : Calls Try.prog 60 #[.agg #[.string name, .int .i64 lk, .int .i64 sn], ordV low] w (OwnPost w w.heap.size (facBy low lk sn name)) := by
  obtain ⟨O, hO⟩ : ∃ O, ordV low = O := ⟨_, rfl⟩
  have HADD := Lib.hid (fun (base : Nat) (w0 : World) (v0 : Value) (b0 : List Nat) (n : Nat) (vs : List Nat) (cs : Array Value) hn hcs hown0 hb0 hl0 hm0 => add_new (w := w0) (base := base) (v := v0) (bs := b0) low n vs hn hown0 hb0 hl0 hm0 cs hcs)
  have HOPT := Lib.hid (fun (base : Nat) (w0 : World) (v0 : Value) (b0 : List Nat) (code : Nat) (s : ByteArray) hown0 hb0 hl0 hs0 => option_any (w := w0) (base := base) (v := v0) (bs := b0) low code s hown0 hb0 hl0 hs0)
  rw [hO] at HADD HOPT ⊢
  clear hO

  obtain ⟨W0, hW0⟩ : ∃ W0, w.alloc (.cells #[.string name, .int .i64 lk, .int .i64 sn] 54) = W0 := ⟨_, rfl⟩
  have HB0 : Hid (Below w.heap.size w W0) := Lib.hid (by rw [← hW0]; exact (Below.refl _ w).alloc (Nat.le_refl _) _)
  have k0 : Blk W0 w.heap.size 54 #[.string name, .int .i64 lk, .int .i64 sn] := by rw [← hW0]; exact Blk.new _ _ _
  have hlt0 : w.heap.size < W0.heap.size := k0.lt
  have d0 := k0.cell 0
  have d1 := k0.cell 1
  have d2 := k0.cell 2
  clear k0
  go_enter Try.func60, Try.ntmps60
  go_wp2_with fail
  refine (HADD.out W0.heap.size W0 (.slice none 0 0) [] 2 [lk, 0] _ (.inl rfl) rfl (nil_own _ _) (Nat.le_refl _) (by simp) (by simp)).mono ?_
  rintro e w1 ⟨v1, rfl, hA1⟩
  have HA1 := Lib.hid (hA1)
  obtain ⟨hc1, hf1⟩ := bcell (app_below HA1.out)
  have hz1 : W0.heap.size ≤ w1.heap.size := HA1.out.grown.size
  clear hA1

  go_wp2_with fail
  refine (HADD.out W0.heap.size w1 v1 _ 4 [sn] _ (.inr rfl) rfl HA1.out.own hz1 (by simp [len2]) (by simp)).mono ?_
  rintro e w2 ⟨v2, rfl, hA2⟩
  have HA2 := Lib.hid (HA1.out.trans hA2)
  clear hc1 hf1
  obtain ⟨hc2, hf2⟩ := bcell (app_below HA2.out)
  have hz2 : W0.heap.size ≤ w2.heap.size := HA2.out.grown.size
  clear hA2

  go_wp2_with fail
  refine (HOPT.out W0.heap.size w2 v2 _ 2 name HA2.out.own hz2 (by simp [len2, len4]) hn).mono ?_
  rintro e w3 ⟨v3, rfl, hA3⟩
  have HA3 := Lib.hid (HA2.out.trans hA3)
  clear hc2 hf2
  obtain ⟨hc3, hf3⟩ := bcell (app_below HA3.out)
  have hz3 : W0.heap.size ≤ w3.heap.size := HA3.out.grown.size
  clear hA3

  have hl8 : ([] ++ (numsB low 2 [lk, 0] ++ numsB low 4 [sn])).length = 8 := by simp [len2, len4]
  rw [hl8] at HA3
  go_wp2
  go_ret
  refine ⟨v3, rfl, ?_, HB0.out.trans ((app_below HA3.out).mono HB0.out.size)⟩
  have h := own_mono HA3.out.own HB0.out.size
  simpa only [List.nil_append, List.append_assoc, facBy] using h


set_option maxRecDepth 100000 in
set_option maxHeartbeats 2000000 in
theorem pktbody_any {w : World} {A : Option Addr} {c : Nat} (low : Bool) (t fc rl : Nat) (data : List Nat) (note : ByteArray) (hd : Byt w w.heap.size A data) (hdl : data.length ≤ 1000) (hn : note.size ≤ 1000) :
    Calls Try.prog 62 #[.agg #[.int .i64 t, .int .i64 fc, .int .i64 rl, .slice A data.length c, .string note], ordV low] w (OwnPost w w.heap.size (pktBy low fc t rl data note)) := by
  obtain ⟨O, hO⟩ : ∃ O, ordV low = O := ⟨_, rfl⟩
  have HADD := Lib.hid (fun (base : Nat) (w0 : World) (v0 : Value) (b0 : List Nat) (n : Nat) (vs : List Nat) (cs : Array Value) hn hcs hown0 hb0 hl0 hm0 => add_new (w := w0) (base := base) (v := v0) (bs := b0) low n vs hn hown0 hb0 hl0 hm0 cs hcs)
  have HOPT := Lib.hid (fun (base : Nat) (w0 : World) (v0 : Value) (b0 : List Nat) (code : Nat) (s : ByteArray) hown0 hb0 hl0 hs0 => option_any (w := w0) (base := base) (v := v0) (bs := b0) low code s hown0 hb0 hl0 hs0)
  rw [hO] at HADD HOPT ⊢
  clear hO

  obtain ⟨t32, ht32⟩ : ∃ q : Nat, t / 4294967296 = q := ⟨_, rfl⟩
  have hti : (t : Int) / 4294967296 = (t32 : Int) := by omega
  have HT := Lib.hid ht32
  have HD := Lib.hid hd
  obtain ⟨L, hL⟩ : ∃ L, data.length = L := ⟨_, rfl⟩
  have HL := Lib.hid hL
  rw [hL] at hdl ⊢
  clear ht32 hd hL
  obtain ⟨W0, hW0⟩ : ∃ W0, w.alloc (.cells #[.int .i64 t, .int .i64 fc, .int .i64 rl, .slice A L c, .string note] 47) = W0 := ⟨_, rfl⟩
  have HB0 : Hid (Below w.heap.size w W0) := Lib.hid (by rw [← hW0]; exact (Below.refl _ w).alloc (Nat.le_refl _) _)
  have k0 : Blk W0 w.heap.size 47 #[.int .i64 t, .int .i64 fc, .int .i64 rl, .slice A L c, .string note] := by rw [← hW0]; exact Blk.new _ _ _
  have hlt0 : w.heap.size < W0.heap.size := k0.lt
  have d0 := k0.cell 0
  have d1 := k0.cell 1
  have d2 := k0.cell 2
  have d3 := k0.cell 3
  have d4 := k0.cell 4
  clear k0
  go_enter Try.func62, Try.ntmps62
  go_wp2_with fail
  refine (HADD.out W0.heap.size W0 (.slice none 0 0) [] 4 [fc, t32, t, L, rl] _ (.inr rfl) rfl (nil_own _ _) (Nat.le_refl _) (by simp) (by simp)).mono ?_
  rintro e w1 ⟨v1, rfl, hA1⟩
  have HA1 := Lib.hid (hA1)
  obtain ⟨hc1, hf1⟩ := bcell (app_below HA1.out)
  have hz1 : W0.heap.size ≤ w1.heap.size := HA1.out.grown.size
  clear hA1

  have hbyt : Byt w1 w.heap.size A data := (HD.out.below HB0.out).below ((app_below HA1.out).mono HB0.out.size)
  obtain ⟨v2, w2, hrun, hA2⟩ := run_own_byt w1 W0.heap.size v1 _ HA1.out.own c hbyt (by rw [HL.out]; omega) (by simp [len45]) hz1
  rw [HL.out] at hrun
  have HA2 := Lib.hid (HA1.out.trans hA2)
  obtain ⟨hc2, hf2⟩ := bcell (app_below HA2.out)
  have hz2 : W0.heap.size ≤ w2.heap.size := HA2.out.grown.size
  have hl20 : ([] ++ (numsB low 4 [fc, t32, t, L, rl] ++ data)).length = 20 + L := by simp [len45, HL.out]
  have HF := Lib.hid (fill_any HA2.out.own hz2 (by rw [hl20]; omega))
  rw [hl20] at HF
  clear hA2 hbyt
  go_wp2_with (at_builtin; refine Lib.wpList_append_run _ rfl _ _ _ _ rfl _ _ rfl rfl _ _ hrun ?_)
  clear hc1 hf1 hc2 hf2
  refine HF.out.mono ?_
  rintro e w3 ⟨v3, rfl, hA3⟩
  have HA3 := Lib.hid (HA2.out.trans hA3)
  obtain ⟨hc3, hf3⟩ := bcell (app_below HA3.out)
  have hz3 : W0.heap.size ≤ w3.heap.size := HA3.out.grown.size
  have hl3 : ([] ++ (numsB low 4 [fc, t32, t, L, rl] ++ data ++ padB (20 + L))).length = 20 + L + padN (20 + L) := by simp only [List.nil_append, List.length_append, len45, padB_len, HL.out]
  have hpp := padN_le (20 + L)
  clear hA3 HF
  go_wp2_with fail
  refine (HOPT.out W0.heap.size w3 v3 _ 1 note HA3.out.own hz3 (by rw [hl3]; omega) hn).mono ?_
  rintro e w4 ⟨v4, rfl, hA4⟩
  have HA4 := Lib.hid (HA3.out.trans hA4)
  clear hc3 hf3
  obtain ⟨hc4, hf4⟩ := bcell (app_below HA4.out)
  have hz4 : W0.heap.size ≤ w4.heap.size := HA4.out.grown.size
  clear hA4

  rw [hl3] at HA4
  go_wp2
  go_ret
  refine ⟨v4, rfl, ?_, HB0.out.trans ((app_below HA4.out).mono HB0.out.size)⟩
  have h := own_mono HA4.out.own HB0.out.size
  simpa only [List.nil_append, List.append_assoc, pktBy, HT.out, HL.out] using h


set_option maxRecDepth 100000 in
set_option maxHeartbeats 2000000 in
theorem pairbody_any {w : World} {B1 B2 c1 c2 : Nat} {A1 A2 : Option Addr} {l1 l2 : List Nat} (low : Bool) (h1 : Byt w B1 A1 l1) (h2 : Byt w B2 A2 l2) (hb1 : B1 ≤ w.heap.size) (hb2 : B2 ≤ w.heap.size) (hl1 : l1.length ≤ 1000) (hl2 : l2.length ≤ 1000) :
    Calls Try.prog 61 #[.slice A1 l1.length c1, .slice A2 l2.length c2, ordV low] w (OwnPost w w.heap.size (pairB low l1 l2)) := by
  obtain ⟨O, hO⟩ : ∃ O, ordV low = O := ⟨_, rfl⟩
  have HADD := Lib.hid (fun (base : Nat) (w0 : World) (v0 : Value) (b0 : List Nat) (n : Nat) (vs : List Nat) (cs : Array Value) hn hcs hown0 hb0 hl0 hm0 => add_new (w := w0) (base := base) (v := v0) (bs := b0) low n vs hn hown0 hb0 hl0 hm0 cs hcs)
  have HOPT := Lib.hid (fun (base : Nat) (w0 : World) (v0 : Value) (b0 : List Nat) (code : Nat) (s : ByteArray) hown0 hb0 hl0 hs0 => option_any (w := w0) (base := base) (v := v0) (bs := b0) low code s hown0 hb0 hl0 hs0)
  rw [hO] at HADD HOPT ⊢
  clear hO

  clear HOPT
  have HD1 := Lib.hid h1
  have HD2 := Lib.hid h2
  obtain ⟨L1, hL1⟩ : ∃ L, l1.length = L := ⟨_, rfl⟩
  have HL1 := Lib.hid hL1
  obtain ⟨L2, hL2⟩ : ∃ L, l2.length = L := ⟨_, rfl⟩
  have HL2 := Lib.hid hL2
  rw [hL1] at hl1 ⊢
  rw [hL2] at hl2 ⊢
  clear hL1 hL2 h1 h2
  go_enter Try.func61, Try.ntmps61
  go_wp2_with fail
  refine (HADD.out w.heap.size w (.slice none 0 0) [] 2 [L1, L2] _ (.inl rfl) rfl (nil_own _ _) (Nat.le_refl _) (by simp) (by simp)).mono ?_
  rintro e w1 ⟨v1, rfl, hA1⟩
  have hz1 := hA1.grown.size
  obtain ⟨v2, w2, hrun, hA2⟩ := run_own_byt w1 w.heap.size v1 _ hA1.own c1 (HD1.out.below ((app_below hA1).mono hb1)) (by rw [HL1.out]; omega) (by simp [len2]) hz1
  rw [HL1.out] at hrun
  have hA2' := hA1.trans hA2
  have hz2 := hA2'.grown.size
  obtain ⟨v3, w3, hrun3, hA3⟩ := run_own_byt w2 w.heap.size v2 _ hA2'.own c2 (HD2.out.below ((app_below hA2').mono hb2)) (by rw [HL2.out]; omega) (by simp [len2, HL1.out]; omega) hz2
  rw [HL2.out] at hrun3
  have HA3 := Lib.hid (hA2'.trans hA3)
  clear hA1 hA2 hA2' hA3 hz1 hz2
  go_wp2_with (first | (at_builtin; refine Lib.wpList_append_run _ rfl _ _ _ _ rfl _ _ rfl rfl _ _ hrun ?_) | (at_builtin; refine Lib.wpList_append_run _ rfl _ _ _ _ rfl _ _ rfl rfl _ _ hrun3 ?_))
  go_ret
  refine ⟨v3, rfl, ?_, app_below HA3.out⟩
  have h := HA3.out.own
  simpa only [List.nil_append, List.append_assoc, pairB, HL1.out, HL2.out] using h
end Go.Proofs.Ytlimkckomdipkaa
