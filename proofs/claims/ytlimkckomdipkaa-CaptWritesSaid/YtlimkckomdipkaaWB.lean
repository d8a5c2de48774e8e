/- writeBlocks. -/
import Derived.Test.YtlimkckomdipkaaBody
import Derived.Test.YtlimkckomdipkaaVald
import Derived.Deep.RegionHeld3
namespace Go.Proofs.Ytlimkckomdipkaa
open Go.RowKit

def faceBl (low : Bool) (f : Fac) : List Nat := blkB low 1 (facBy low f.link.toNat f.snap.toNat f.name)
def nameBl (low : Bool) (x : Nam) : List Nat := blkB low 4 (pairB low x.addr (strL x.text))
def secBl (low : Bool) (x : Sec) : List Nat := blkB low 10 (pairB low (strL x.label) x.key)
def pktBl (low : Bool) (p : Pkt) : List Nat := blkB low 6 (pktBy low p.face.toNat p.time.toNat p.real.toNat p.data p.note)
def sectB (low : Bool) (s : ByteArray) : List Nat := blkB low 168627466 (secH low ++ optB low 1 16 s)
/-- The file of blocks. -/
def blocksB (low : Bool) (c : Cap) : List Nat :=
  sectB low c.note ++ (c.faces.flatMap (faceBl low) ++ (c.names.flatMap (nameBl low) ++ (c.secs.flatMap (secBl low) ++ c.pkts.flatMap (pktBl low))))

theorem blkB_len (low : Bool) (k : Nat) (body : List Nat) : (blkB low k body).length ≤ body.length + 15 := by
  have := padN_le body.length
  unfold blkB
  simp only [List.length_append, numsB_len, padB_len, List.length_cons, List.length_nil]
  omega
theorem optB_len (low : Bool) (code L : Nat) (s : ByteArray) : (optB low code L s).length ≤ s.size + 11 := by
  have := padN_le (L + 4 + s.size)
  unfold optB
  split
  · simp
  · rw [List.length_append, List.length_append, List.length_append, numsB_len, numsB_len, padB_len, strL_len]
    simp only [List.length_cons, List.length_nil]
    omega
theorem optB_lt (low : Bool) (code L : Nat) (s : ByteArray) : ∀ x ∈ optB low code L s, x < 256 := by
  intro x hx
  unfold optB at hx
  split at hx
  · cases hx
  · rcases List.mem_append.1 hx with h | h
    · obtain ⟨v, _, h⟩ := List.mem_flatMap.1 h; exact numB_lt _ _ _ x h
    · rcases List.mem_append.1 h with h | h
      · exact strL_lt s x h
      · rcases List.mem_append.1 h with h | h
        · unfold padB at h; rw [List.eq_of_mem_replicate h]; decide
        · obtain ⟨v, _, h⟩ := List.mem_flatMap.1 h; exact numB_lt _ _ _ x h
theorem numsB_lt (low : Bool) (n : Nat) (vs : List Nat) : ∀ x ∈ numsB low n vs, x < 256 := by
  intro x hx; obtain ⟨v, _, h⟩ := List.mem_flatMap.1 hx; exact numB_lt _ _ _ x h
theorem app_lt {a b : List Nat} (ha : ∀ x ∈ a, x < 256) (hb : ∀ x ∈ b, x < 256) : ∀ x ∈ a ++ b, x < 256 := by
  intro x hx
  rcases List.mem_append.1 hx with h | h
  · exact ha x h
  · exact hb x h
theorem rep_lt (n y : Nat) (hy : y < 256) : ∀ x ∈ List.replicate n y, x < 256 := by intro x hx; rw [List.eq_of_mem_replicate hx]; exact hy
theorem secH_len (low : Bool) : (secH low).length = 16 := by
  unfold secH; rw [List.length_append, List.length_append, len4, len2]; simp
theorem secH_lt (low : Bool) : ∀ x ∈ secH low, x < 256 := app_lt (numsB_lt _ _ _) (app_lt (numsB_lt _ _ _) (rep_lt _ _ (by decide)))
theorem facBy_lt (low : Bool) (lk sn : Nat) (s : ByteArray) : ∀ x ∈ facBy low lk sn s, x < 256 := app_lt (numsB_lt _ _ _) (app_lt (numsB_lt _ _ _) (optB_lt _ _ _ _))
theorem facBy_len (low : Bool) (lk sn : Nat) (s : ByteArray) : (facBy low lk sn s).length ≤ s.size + 19 := by
  have := optB_len low 2 8 s
  unfold facBy; rw [List.length_append, List.length_append, len4, len2]; omega
theorem pairB_lt (low : Bool) {a b : List Nat} (ha : ∀ x ∈ a, x < 256) (hb : ∀ x ∈ b, x < 256) : ∀ x ∈ pairB low a b, x < 256 := app_lt (numsB_lt _ _ _) (app_lt ha hb)
theorem pairB_len (low : Bool) (a b : List Nat) : (pairB low a b).length = 4 + a.length + b.length := by
  unfold pairB; rw [List.length_append, List.length_append, len2]; omega
theorem pktBy_lt (low : Bool) (fc t rl : Nat) {data : List Nat} (note : ByteArray) (hd : ∀ x ∈ data, x < 256) : ∀ x ∈ pktBy low fc t rl data note, x < 256 :=
  app_lt (numsB_lt _ _ _) (app_lt hd (app_lt (rep_lt _ _ (by decide)) (optB_lt _ _ _ _)))
theorem pktBy_len (low : Bool) (fc t rl : Nat) (data : List Nat) (note : ByteArray) : (pktBy low fc t rl data note).length ≤ data.length + note.size + 34 := by
  have h1 := optB_len low 1 (20 + data.length + padN (20 + data.length)) note
  have h2 := padN_le (20 + data.length)
  unfold pktBy; rw [List.length_append, List.length_append, List.length_append, len45, padB_len]; omega
theorem flat_snoc {α : Type} (f : α → List Nat) (xs : List α) (k : Nat) (h : k < xs.length) : (xs.take (k + 1)).flatMap f = (xs.take k).flatMap f ++ f xs[k] := by
  rw [List.take_succ_eq_append_getElem h, List.flatMap_append, List.flatMap_cons, List.flatMap_nil, List.append_nil]

def OwnB (base : Nat) (bs : List Nat) (X : World) (e : Ending) (w' : World) : Prop := ∃ v', e = .returned v' ∧ w'.ownsRow base 5 1 v' bs.length (bs.map u8) ∧ Below base X w' ∧ base ≤ w'.heap.size
theorem sec_at (low : Bool) (X : World) (n : Nat) (h : X.heap.size = n) : Calls Try.prog 59 #[ordV low] X (OwnB n (secH low) X) := by
  subst h
  exact (secbegin_any low).mono fun e w' ⟨v', e1, h1, h2⟩ => ⟨v', e1, h1, h2, h2.size⟩
theorem opt_at (low : Bool) (X : World) (base code : Nat) (v : Value) (bs : List Nat) (s : ByteArray) (ho : X.ownsRow base 5 1 v bs.length (bs.map u8)) (hb : base ≤ X.heap.size) (hl : bs.length ≤ 900000000) (hs : s.size ≤ 1000) :
    Calls Try.prog 58 #[v, ordV low, .int .i64 code, .string s] X (OwnB base (bs ++ optB low code bs.length s) X) :=
  (option_any low code s ho hb hl hs).mono fun _ _ ⟨v', e1, h⟩ => ⟨v', e1, h.own, h.below (Below.refl _ _) hb (fun g hg => (ho.lt g hg).1), Nat.le_trans hb h.grown.size⟩
theorem first_at (low : Bool) (X : World) (base kind : Nat) (v : Value) (bs : List Nat) (ho : X.ownsRow base 5 1 v bs.length (bs.map u8)) (hlt : ∀ x ∈ bs, x < 256) (hb : base ≤ X.heap.size) (hl : bs.length ≤ 100000) :
    Calls Try.prog 57 #[.slice none 0 0, ordV low, .int .i64 kind, v] X (OwnB base (blkB low kind bs) X) :=
  (block_any (bs := []) low kind (nil_own _ _) ho hlt (by simp [Value.ownBlock]) hb (by simp) (by omega)).mono fun e w' ⟨v', e1, h1, h2⟩ => ⟨v', e1, by simpa only [List.nil_append] using h1, h2, Nat.le_trans hb h2.size⟩

/-- One more block: the body has been made in new memory, the block is appended to what the call owns. -/
theorem more_any {w wr W1 w2 : World} {B B1 : Nat} {v vb : Value} {bs bb : List Nat} (low : Bool) (kind : Nat) {cells : Array Value} (hBB : B1 = B + 1)
    (hblk : Blk wr B 27 cells ∧ Below B w wr) (hown : wr.ownsRow B1 5 1 v bs.length (bs.map u8)) (hW1 : Below wr.heap.size wr W1) (hbb : w2.ownsRow W1.heap.size 5 1 vb bb.length (bb.map u8)) (hB2 : Below W1.heap.size W1 w2)
    (hlt : ∀ x ∈ bb, x < 256) (hl : bs.length ≤ 900000) (hbl : bb.length ≤ 100000) :
    Calls Try.prog 57 #[v, ordV low, .int .i64 kind, vb] w2 fun e w' => ∃ v', e = .returned v' ∧ w'.ownsRow B1 5 1 v' (bs ++ blkB low kind bb).length ((bs ++ blkB low kind bb).map u8) ∧ (Blk w' B 27 cells ∧ Below B w w') := by
  have hBl := hblk.1.lt
  have hs1 := hW1.size
  have hs2 := hB2.size
  have hbr2 : Below wr.heap.size wr w2 := hW1.trans (hB2.mono hs1)
  have hown2 : w2.ownsRow B1 5 1 v bs.length (bs.map u8) := hown.kept (grown_of_below hbr2) (by
    cases hb : v.ownBlock with
    | none => exact .inl rfl
    | some g => exact .inr (by simp))
  refine (block_any low kind hown2 (own_mono hbb (by omega)) hlt (fun g hg => ?_) (by omega) (by omega) (by omega)).mono ?_
  · have h1 := (hown.lt g hg).2
    intro h
    have h2 := (hbb.lt g h).1
    omega
  · rintro e w' ⟨v', rfl, h1, h2⟩
    have hB' : Below B wr w' := (hbr2.mono (by omega)).trans (h2.mono (by omega))
    exact ⟨v', rfl, h1, ((hblk.1.below hbr2 hBl).below h2 (by omega)), hblk.2.trans hB'⟩

set_option maxRecDepth 100000 in
set_option maxHeartbeats 16000000 in
theorem wblocks_any {w : World} {p : Pl} {c : Cap} (low : Bool) (hm : CapM w w.heap.size p c) (hv : capB c = true) (hh : hugeB c = false) :
    Calls Try.prog 26 #[capV p c, ordV low] w (OwnPost w w.heap.size (blocksB low c)) := by
  obtain ⟨pf, cf, pn, cn, ps, cs, pp, cp⟩ := p
  have hh' : c.faces.length ≤ 4 ∧ c.names.length ≤ 60 ∧ c.secs.length ≤ 60 ∧ c.pkts.length ≤ 100 := by
    have := of_decide_eq_false hh; omega
  simp only [capB, partsB, Bool.and_eq_true, decide_eq_true_eq] at hv
  obtain ⟨⟨hf0, htx⟩, hvf, hvn, hvs, hvp⟩ := hv
  have hnote := textB_size htx
  have HVF := Lib.hid hvf
  have HVN := Lib.hid hvn
  have HVS := Lib.hid hvs
  have HVP := Lib.hid hvp
  have HM := Lib.hid hm
  obtain ⟨O, hO⟩ : ∃ O, ordV low = O := ⟨_, rfl⟩
  have HSEC := Lib.hid (fun (X : World) (n : Nat) h => sec_at low X n h)
  have HOPT := Lib.hid (fun (X : World) (base code : Nat) (v : Value) (bs : List Nat) (s : ByteArray) h1 h2 h3 h4 => opt_at low X base code v bs s h1 h2 h3 h4)
  have HFST := Lib.hid (fun (X : World) (base kind : Nat) (v : Value) (bs : List Nat) h1 h2 h3 h4 => first_at low X base kind v bs h1 h2 h3 h4)
  have HFAC := Lib.hid (fun (w0 : World) (lk sn : Nat) (s : ByteArray) hs => facebody_any (w := w0) low lk sn s hs)
  have HPAIR := Lib.hid (fun (w0 : World) (B1 B2 c1 c2 : Nat) (A1 A2 : Option Addr) (l1 l2 : List Nat) h1 h2 hb1 hb2 hl1 hl2 => pairbody_any (w := w0) (B1 := B1) (B2 := B2) (c1 := c1) (c2 := c2) (A1 := A1) (A2 := A2) (l1 := l1) (l2 := l2) low h1 h2 hb1 hb2 hl1 hl2)
  have HPKT := Lib.hid (fun (w0 : World) (A : Option Addr) (cc t fc rl : Nat) (data : List Nat) (s : ByteArray) h1 h2 h3 => pktbody_any (w := w0) (A := A) (c := cc) low t fc rl data s h1 h2 h3)
  have HMORE := Lib.hid (fun (w wr W1 w2 : World) (B B1 : Nat) (v vb : Value) (bs bb : List Nat) (kind : Nat) (cells : Array Value) h1 h2 h3 h4 h5 h6 h7 h8 h9 => more_any (w := w) (wr := wr) (W1 := W1) (w2 := w2) (B := B) (B1 := B1) (v := v) (vb := vb) (bs := bs) (bb := bb) low kind (cells := cells) h1 h2 h3 h4 h5 h6 h7 h8 h9)
  rw [hO] at HSEC HOPT HFST HFAC HPAIR HPKT HMORE ⊢
  clear hO hm hvf hvn hvs hvp hh htx
  obtain ⟨B, hB⟩ : ∃ B, w.heap.size = B := ⟨_, rfl⟩
  have HB := Lib.hid hB
  obtain ⟨W0, hW0⟩ : ∃ W0, w.alloc (.cells #[.string c.note, .slice pf c.faces.length cf, .slice pn c.names.length cn, .slice ps c.secs.length cs, .slice pp c.pkts.length cp] 27) = W0 := ⟨_, rfl⟩
  have HK0 : Hid (Blk W0 B 27 (capV ⟨pf, cf, pn, cn, ps, cs, pp, cp⟩ c).cells ∧ Below B w W0) := Lib.hid (by rw [← hW0, ← hB]; exact ⟨Blk.new _ _ _, (Below.refl _ w).alloc (Nat.le_refl _) _⟩)
  have HS0 : Hid (W0.heap.size = B + 1) := Lib.hid (by rw [← hW0, alloc_size, hB])
  rw [hB] at HM ⊢
  have s0 := HK0.out.1.cell 0
  have hl16 : (secH low ++ optB low 1 16 c.note).length ≤ 300 := by
    have h1 := optB_len low 1 16 c.note
    rw [List.length_append, secH_len]; omega
  have HLT := Lib.hid (app_lt (secH_lt low) (optB_lt low 1 16 c.note))
  have HL16 := Lib.hid hl16
  have h16 := secH_len low
  have H16 := Lib.hid h16
  clear hl16 h16
  go_enter Try.func26, Try.ntmps26
  go_wp2_with fail
  clear hW0
  go_region_held3 (fun w' => w'.cell? ⟨B, 0, none⟩ = some (.string c.note)) (first | exact s0 | exact s1 | exact s2 | exact s3) ((first
    | (go_at_call 59; refine (HSEC.out W0.drew (B + 1) HS0.out).mono ?_; rintro e w1 ⟨v1, rfl, ho1, hb1, hz1⟩; have s1 : w1.cell? ⟨B, 0, none⟩ = some (.string c.note) := (hb1.cell (p := ⟨B, 0, none⟩) (Nat.lt_succ_self B)).trans s0)
    | (go_at_call 58; refine (HOPT.out w1 (B + 1) 1 v1 _ c.note ho1 hz1 (by rw [H16.out]; omega) (by omega)).mono ?_; rintro e w2 ⟨v2, rfl, ho2, hb2, hz2⟩; rw [H16.out] at ho2; have s2 : w2.cell? ⟨B, 0, none⟩ = some (.string c.note) := (hb2.cell (p := ⟨B, 0, none⟩) (Nat.lt_succ_self B)).trans s1)
    | (go_at_call 57; refine (HFST.out w2 (B + 1) 168627466 v2 _ ho2 HLT.out hz2 (Nat.le_trans HL16.out (by decide))).mono ?_; rintro e w3 ⟨v3, rfl, ho3, hb3, hz3⟩; have s3 : w3.cell? ⟨B, 0, none⟩ = some (.string c.note) := (hb3.cell (p := ⟨B, 0, none⟩) (Nat.lt_succ_self B)).trans s2)))
  have HK3 : Hid (Blk w3 B 27 (capV ⟨pf, cf, pn, cn, ps, cs, pp, cp⟩ c).cells ∧ Below B w w3) := Lib.hid (by
    have hb : Below (B + 1) W0 w3 := ((Below.refl _ W0).drew.trans hb1).trans (hb2.trans hb3)
    exact ⟨HK0.out.1.below hb (Nat.lt_succ_self B), HK0.out.2.trans (hb.mono (Nat.le_succ B))⟩)
  have HO3 : Hid (w3.ownsRow (B + 1) 5 1 v3 (sectB low c.note).length ((sectB low c.note).map u8)) := Lib.hid ho3
  have HL3 : Hid ((sectB low c.note).length ≤ 2000) := Lib.hid (by
    have h := blkB_len low 168627466 (secH low ++ optB low 1 16 c.note)
    have := HL16.out
    unfold sectB; omega)
  have q1 := HK3.out.1.cell 1
  clear ho1 ho2 ho3 hb1 hb2 hb3 hz1 hz2 hz3 s0 s1 s2 s3
  go_wp2
  clear q1
  go_loopw [5, 25] (fun v i wr => ∃ k : Nat, i = .int .i64 k ∧ k ≤ c.faces.length ∧ Hid (wr.ownsRow (B + 1) 5 1 v (sectB low c.note ++ (c.faces.take k).flatMap (faceBl low)).length ((sectB low c.note ++ (c.faces.take k).flatMap (faceBl low)).map u8)) ∧ Hid ((sectB low c.note ++ (c.faces.take k).flatMap (faceBl low)).length ≤ 2000 + 2000 * k) ∧ Hid (Blk wr B 27 (capV ⟨pf, cf, pn, cn, ps, cs, pp, cp⟩ c).cells ∧ Below B w wr)) (fun _ i _ => c.faces.length - (intOf i).toNat)
  case atStart => exact ⟨0, rfl, Nat.zero_le _, by simpa using HO3, by simpa using HL3, HK3⟩
  case round =>
    obtain ⟨k, rfl, hk, HR, HLN, HW⟩ := hrel
    have hbc1 := HW.out.1.cell 1
    have hbc2 := HW.out.1.cell 2
    have hbc3 := HW.out.1.cell 3
    have hbc4 := HW.out.1.cell 4
    have hBl := HW.out.1.lt
    by_cases hlt : k < c.faces.length
    · obtain ⟨b, o, hA, hb, vs, hl, ⟨rfl, hbig, hlk0, hsn0⟩, hcell⟩ := (HM.out.faces.keep facK HW.out.2 (Nat.le_refl _)).row k hlt
      change pf = _ at hA
      subst hA
      have c0 : wr.cell? ⟨b, o + k * 3, none⟩ = _ := hcell 0 _ rfl
      have c1 := hcell 1 _ rfl
      have c2 := hcell 2 _ rfl
      clear hcell
      have HSN := Lib.hid (flat_snoc (faceBl low) c.faces k hlt)
      have hvk := List.all_eq_true.1 HVF.out _ (List.getElem_mem hlt)
      simp only [facB, Bool.and_eq_true, within_iff] at hvk
      obtain ⟨hv1, hv2, hv3⟩ := hvk
      have hns := textB_size hv1
      obtain ⟨lk, hlk⟩ : ∃ lk : Nat, c.faces[k].link = lk := ⟨c.faces[k].link.toNat, by omega⟩
      obtain ⟨sn, hsn⟩ : ∃ sn : Nat, c.faces[k].snap = sn := ⟨c.faces[k].snap.toNat, by omega⟩
      have HBL : Hid (faceBl low c.faces[k] = blkB low 1 (facBy low lk sn c.faces[k].name)) := Lib.hid (by unfold faceBl; rw [hlk, hsn]; rfl)
      rw [hlk] at c1
      rw [hsn] at c2
      clear hv1 hv2 hv3 hlk hsn hlk0 hsn0
      obtain ⟨W1, hW1⟩ : ∃ W1, wr.alloc (.cells #[.string c.faces[k].name, .int .i64 (lk : Nat), .int .i64 (sn : Nat)] 54) = W1 := ⟨_, rfl⟩
      have k1 : Blk W1 wr.heap.size 54 #[.string c.faces[k].name, .int .i64 (lk : Nat), .int .i64 (sn : Nat)] := by rw [← hW1]; exact Blk.new _ _ _
      have HB1 : Hid (Below wr.heap.size wr W1) := Lib.hid (by rw [← hW1]; exact (Below.refl _ wr).alloc (Nat.le_refl _) _)
      have e0 := k1.cell 0
      have e1 := k1.cell 1
      have e2 := k1.cell 2
      clear k1
      have hbody := facBy_len low lk sn c.faces[k].name
      have HBD := Lib.hid hbody
      clear hbody
      go_wp2_with fail
      clear hW1
      refine (HFAC.out W1 lk sn c.faces[k].name (by omega)).mono ?_
      rintro e w2 ⟨vb, rfl, hob, hbb⟩
      have HOB := Lib.hid hob
      have HBB := Lib.hid hbb
      clear hob hbb e0 e1 e2
      go_wp2_with fail
      refine (HMORE.out w wr W1 w2 B (B + 1) u5 vb _ _ 1 _ rfl HW.out HR.out HB1.out HOB.out HBB.out (facBy_lt _ _ _ _) (by have := HLN.out; omega) (by have := HBD.out; omega)).mono ?_
      rintro e w4 ⟨v4, rfl, ho4, hk4⟩
      have hlb := blkB_len low 1 (facBy low lk sn c.faces[k].name)
      have hbd := HBD.out
      have HR4 : Hid (w4.ownsRow (B + 1) 5 1 v4 (sectB low c.note ++ (c.faces.take (k + 1)).flatMap (faceBl low)).length ((sectB low c.note ++ (c.faces.take (k + 1)).flatMap (faceBl low)).map u8)) := Lib.hid (by
        rw [HSN.out, HBL.out, ← List.append_assoc]; exact ho4)
      have HL4 : Hid ((sectB low c.note ++ (c.faces.take (k + 1)).flatMap (faceBl low)).length ≤ 2000 + 2000 * (k + 1)) := Lib.hid (by
        have h := HLN.out
        rw [HSN.out, HBL.out, ← List.append_assoc, List.length_append]; omega)
      have HK4 := Lib.hid hk4
      clear ho4 hk4 hlb hbd
      go_wp2
      go_roundw
      case rel => exact ⟨k + 1, by go_num, by omega, HR4, HL4, HK4⟩
      case measure => simp [intOf]; omega
    · have hkn : k = c.faces.length := by omega
      subst hkn
      have HR5 : Hid (wr.ownsRow (B + 1) 5 1 u5 (sectB low c.note ++ c.faces.flatMap (faceBl low)).length ((sectB low c.note ++ c.faces.flatMap (faceBl low)).map u8)) := Lib.hid (by
        have h := HR.out
        rw [List.take_length] at h
        exact h)
      have HL5 : Hid ((sectB low c.note ++ c.faces.flatMap (faceBl low)).length ≤ 10000) := Lib.hid (by
        have h := HLN.out
        rw [List.take_length] at h
        omega)
      go_wp2
      clear hbc1 hbc2 hbc3 hbc4 hBl
      go_loopw [5, 39] (fun v i wr => ∃ k : Nat, i = .int .i64 k ∧ k ≤ c.names.length ∧ Hid (wr.ownsRow (B + 1) 5 1 v (sectB low c.note ++ c.faces.flatMap (faceBl low) ++ (c.names.take k).flatMap (nameBl low)).length ((sectB low c.note ++ c.faces.flatMap (faceBl low) ++ (c.names.take k).flatMap (nameBl low)).map u8)) ∧ Hid ((sectB low c.note ++ c.faces.flatMap (faceBl low) ++ (c.names.take k).flatMap (nameBl low)).length ≤ 10000 + 2000 * k) ∧ Hid (Blk wr B 27 (capV ⟨pf, cf, pn, cn, ps, cs, pp, cp⟩ c).cells ∧ Below B w wr)) (fun _ i _ => c.names.length - (intOf i).toNat)
      case atStart => exact ⟨0, rfl, Nat.zero_le _, by simpa using HR5, by simpa using HL5, HW⟩
      case round =>
        obtain ⟨k, rfl, hk, HR, HLN, HW⟩ := hrel
        have hbc1 := HW.out.1.cell 1
        have hbc2 := HW.out.1.cell 2
        have hbc3 := HW.out.1.cell 3
        have hbc4 := HW.out.1.cell 4
        have hBl := HW.out.1.lt
        by_cases hlt : k < c.names.length
        · obtain ⟨b, o, hA, hb, vs, hl, ⟨A2, cp2, rfl, hbyc, hbig⟩, hcell⟩ := (HM.out.names.keep namK HW.out.2 (Nat.le_refl _)).row k hlt
          change pn = _ at hA
          subst hA
          have c0 : wr.cell? ⟨b, o + k * 2, none⟩ = _ := hcell 0 _ rfl
          have c1 := hcell 1 _ rfl
          clear hcell
          have HSN := Lib.hid (flat_snoc (nameBl low) c.names k hlt)
          have hvk := List.all_eq_true.1 HVN.out _ (List.getElem_mem hlt)
          simp only [namB, Bool.and_eq_true, within_iff] at hvk
          obtain ⟨hv1, hv2⟩ := hvk
          have hns := textB_size hv1
          have hal : c.names[k].addr.length ≤ 16 := by omega
          clear hv1 hv2
          obtain ⟨W1, hW1⟩ : ∃ W1, wr.alloc (.cells #[.slice A2 c.names[k].addr.length cp2, .string c.names[k].text] 49) = W1 := ⟨_, rfl⟩
          have k1 : Blk W1 wr.heap.size 49 #[.slice A2 c.names[k].addr.length cp2, .string c.names[k].text] := by rw [← hW1]; exact Blk.new _ _ _
          have hb1 : Below wr.heap.size wr W1 := by rw [← hW1]; exact (Below.refl _ wr).alloc (Nat.le_refl _) _
          obtain ⟨bx, cx, W2, hbx, hrun, hb2, hz2, hbyt⟩ := run_str_bytes W1 c.names[k].text
          have hb3 : Below wr.heap.size wr W2 := hb1.trans (hb2.mono hb1.size)
          have hpr := HPAIR.out W2 W2.heap.size W2.heap.size cp2 cx A2 (some ⟨bx, 0, none⟩) c.names[k].addr (strL c.names[k].text) ((hbyc.byt.below (hb3.mono (Nat.le_of_lt hBl))).more (Nat.le_trans (Nat.le_of_lt hBl) hb3.size)) hbyt (Nat.le_refl _) (Nat.le_refl _) (by omega) (by rw [strL_len]; omega)
          rw [strL_len] at hpr
          have HPR := Lib.hid hpr
          have HB3 := Lib.hid hb3
          have HLT2 := Lib.hid (pairB_lt low hbyc.byt.lt (strL_lt c.names[k].text))
          have hbody := pairB_len low c.names[k].addr (strL c.names[k].text)
          rw [strL_len] at hbody
          have HBD := Lib.hid hbody
          have e0 := k1.cell 0
          have e1 := k1.cell 1
          clear k1 hb1 hb2 hb3 hbyt hpr hbody hbyc hbx hz2
          go_wp2_with fail
          refine HPR.out.mono ?_
          rintro e w2 ⟨vb, rfl, hob, hbb⟩
          have HOB := Lib.hid hob
          have HBB := Lib.hid hbb
          clear hob hbb e0 e1 hrun hW1
          go_wp2_with fail
          refine (HMORE.out w wr W2 w2 B (B + 1) u5 vb _ _ 4 _ rfl HW.out HR.out HB3.out HOB.out HBB.out HLT2.out (by have := HLN.out; omega) (by have := HBD.out; omega)).mono ?_
          rintro e w4 ⟨v4, rfl, ho4, hk4⟩
          have HBL : Hid (nameBl low c.names[k] = blkB low 4 (pairB low c.names[k].addr (strL c.names[k].text))) := Lib.hid rfl
          have hlb := blkB_len low 4 (pairB low c.names[k].addr (strL c.names[k].text))
          have hbd := HBD.out
          have HR4 : Hid (w4.ownsRow (B + 1) 5 1 v4 (sectB low c.note ++ c.faces.flatMap (faceBl low) ++ (c.names.take (k + 1)).flatMap (nameBl low)).length ((sectB low c.note ++ c.faces.flatMap (faceBl low) ++ (c.names.take (k + 1)).flatMap (nameBl low)).map u8)) := Lib.hid (by
            rw [HSN.out, HBL.out, ← List.append_assoc]; exact ho4)
          have HL4 : Hid ((sectB low c.note ++ c.faces.flatMap (faceBl low) ++ (c.names.take (k + 1)).flatMap (nameBl low)).length ≤ 10000 + 2000 * (k + 1)) := Lib.hid (by
            have h := HLN.out
            rw [HSN.out, HBL.out, ← List.append_assoc, List.length_append]; omega)
          have HK4 := Lib.hid hk4
          clear ho4 hk4 hlb hbd
          go_wp2
          go_roundw
          case rel => exact ⟨k + 1, by go_num, by omega, HR4, HL4, HK4⟩
          case measure => simp [intOf]; omega
        · have hkn : k = c.names.length := by omega
          subst hkn
          have HR5 : Hid (wr.ownsRow (B + 1) 5 1 u5 (sectB low c.note ++ c.faces.flatMap (faceBl low) ++ c.names.flatMap (nameBl low)).length ((sectB low c.note ++ c.faces.flatMap (faceBl low) ++ c.names.flatMap (nameBl low)).map u8)) := Lib.hid (by
            have h := HR.out
            rw [List.take_length] at h
            exact h)
          have HL5 : Hid ((sectB low c.note ++ c.faces.flatMap (faceBl low) ++ c.names.flatMap (nameBl low)).length ≤ 130000) := Lib.hid (by
            have h := HLN.out
            rw [List.take_length] at h
            omega)
          go_wp2
          clear hbc1 hbc2 hbc3 hbc4 hBl
          go_loopw [5, 57] (fun v i wr => ∃ k : Nat, i = .int .i64 k ∧ k ≤ c.secs.length ∧ Hid (wr.ownsRow (B + 1) 5 1 v (sectB low c.note ++ c.faces.flatMap (faceBl low) ++ c.names.flatMap (nameBl low) ++ (c.secs.take k).flatMap (secBl low)).length ((sectB low c.note ++ c.faces.flatMap (faceBl low) ++ c.names.flatMap (nameBl low) ++ (c.secs.take k).flatMap (secBl low)).map u8)) ∧ Hid ((sectB low c.note ++ c.faces.flatMap (faceBl low) ++ c.names.flatMap (nameBl low) ++ (c.secs.take k).flatMap (secBl low)).length ≤ 130000 + 2000 * k) ∧ Hid (Blk wr B 27 (capV ⟨pf, cf, pn, cn, ps, cs, pp, cp⟩ c).cells ∧ Below B w wr)) (fun _ i _ => c.secs.length - (intOf i).toNat)
          case atStart => exact ⟨0, rfl, Nat.zero_le _, by simpa using HR5, by simpa using HL5, HW⟩
          case round =>
            obtain ⟨k, rfl, hk, HR, HLN, HW⟩ := hrel
            have hbc1 := HW.out.1.cell 1
            have hbc2 := HW.out.1.cell 2
            have hbc3 := HW.out.1.cell 3
            have hbc4 := HW.out.1.cell 4
            have hBl := HW.out.1.lt
            by_cases hlt : k < c.secs.length
            · obtain ⟨b, o, hA, hb, vs, hl, ⟨A2, cp2, rfl, hbyc, hbig⟩, hcell⟩ := (HM.out.secs.keep secK HW.out.2 (Nat.le_refl _)).row k hlt
              change ps = _ at hA
              subst hA
              have c0 : wr.cell? ⟨b, o + k * 2, none⟩ = _ := hcell 0 _ rfl
              have c1 := hcell 1 _ rfl
              clear hcell
              have HSN := Lib.hid (flat_snoc (secBl low) c.secs k hlt)
              have hvk := List.all_eq_true.1 HVS.out _ (List.getElem_mem hlt)
              simp only [secB, Bool.and_eq_true, within_iff] at hvk
              obtain ⟨hv1, _, hv2⟩ := hvk
              have hns := textB_size hv1
              have hal : c.secs[k].key.length ≤ 200 := by omega
              clear hv1 hv2
              obtain ⟨W1, hW1⟩ : ∃ W1, wr.alloc (.cells #[.string c.secs[k].label, .slice A2 c.secs[k].key.length cp2] 65) = W1 := ⟨_, rfl⟩
              have k1 : Blk W1 wr.heap.size 65 #[.string c.secs[k].label, .slice A2 c.secs[k].key.length cp2] := by rw [← hW1]; exact Blk.new _ _ _
              have hb1 : Below wr.heap.size wr W1 := by rw [← hW1]; exact (Below.refl _ wr).alloc (Nat.le_refl _) _
              obtain ⟨bx, cx, W2, hbx, hrun, hb2, hz2, hbyt⟩ := run_str_bytes W1 c.secs[k].label
              have hb3 : Below wr.heap.size wr W2 := hb1.trans (hb2.mono hb1.size)
              have hpr := HPAIR.out W2 W2.heap.size W2.heap.size cx cp2 (some ⟨bx, 0, none⟩) A2 (strL c.secs[k].label) c.secs[k].key hbyt ((hbyc.byt.below (hb3.mono (Nat.le_of_lt hBl))).more (Nat.le_trans (Nat.le_of_lt hBl) hb3.size)) (Nat.le_refl _) (Nat.le_refl _) (by rw [strL_len]; omega) (by omega)
              rw [strL_len] at hpr
              have HPR := Lib.hid hpr
              have HB3 := Lib.hid hb3
              have HLT2 := Lib.hid (pairB_lt low (strL_lt c.secs[k].label) hbyc.byt.lt)
              have hbody := pairB_len low (strL c.secs[k].label) c.secs[k].key
              rw [strL_len] at hbody
              have HBD := Lib.hid hbody
              have e0 := k1.cell 0
              have e1 := k1.cell 1
              have f1 := (k1.below hb2 k1.lt).cell 1
              clear k1 hb1 hb2 hb3 hbyt hpr hbody hbyc hbx hz2
              go_wp2_with fail
              refine HPR.out.mono ?_
              rintro e w2 ⟨vb, rfl, hob, hbb⟩
              have HOB := Lib.hid hob
              have HBB := Lib.hid hbb
              clear hob hbb e0 e1 f1 hrun hW1
              go_wp2_with fail
              refine (HMORE.out w wr W2 w2 B (B + 1) u5 vb _ _ 10 _ rfl HW.out HR.out HB3.out HOB.out HBB.out HLT2.out (by have := HLN.out; omega) (by have := HBD.out; omega)).mono ?_
              rintro e w4 ⟨v4, rfl, ho4, hk4⟩
              have HBL : Hid (secBl low c.secs[k] = blkB low 10 (pairB low (strL c.secs[k].label) c.secs[k].key)) := Lib.hid rfl
              have hlb := blkB_len low 10 (pairB low (strL c.secs[k].label) c.secs[k].key)
              have hbd := HBD.out
              have HR4 : Hid (w4.ownsRow (B + 1) 5 1 v4 (sectB low c.note ++ c.faces.flatMap (faceBl low) ++ c.names.flatMap (nameBl low) ++ (c.secs.take (k + 1)).flatMap (secBl low)).length ((sectB low c.note ++ c.faces.flatMap (faceBl low) ++ c.names.flatMap (nameBl low) ++ (c.secs.take (k + 1)).flatMap (secBl low)).map u8)) := Lib.hid (by
                rw [HSN.out, HBL.out, ← List.append_assoc]; exact ho4)
              have HL4 : Hid ((sectB low c.note ++ c.faces.flatMap (faceBl low) ++ c.names.flatMap (nameBl low) ++ (c.secs.take (k + 1)).flatMap (secBl low)).length ≤ 130000 + 2000 * (k + 1)) := Lib.hid (by
                have h := HLN.out
                rw [HSN.out, HBL.out, ← List.append_assoc, List.length_append]; omega)
              have HK4 := Lib.hid hk4
              clear ho4 hk4 hlb hbd
              go_wp2
              go_roundw
              case rel => exact ⟨k + 1, by go_num, by omega, HR4, HL4, HK4⟩
              case measure => simp [intOf]; omega
            · have hkn : k = c.secs.length := by omega
              subst hkn
              have HR5 : Hid (wr.ownsRow (B + 1) 5 1 u5 (sectB low c.note ++ c.faces.flatMap (faceBl low) ++ c.names.flatMap (nameBl low) ++ c.secs.flatMap (secBl low)).length ((sectB low c.note ++ c.faces.flatMap (faceBl low) ++ c.names.flatMap (nameBl low) ++ c.secs.flatMap (secBl low)).map u8)) := Lib.hid (by
                have h := HR.out
                rw [List.take_length] at h
                exact h)
              have HL5 : Hid ((sectB low c.note ++ c.faces.flatMap (faceBl low) ++ c.names.flatMap (nameBl low) ++ c.secs.flatMap (secBl low)).length ≤ 250000) := Lib.hid (by
                have h := HLN.out
                rw [List.take_length] at h
                omega)
              go_wp2
              clear hbc1 hbc2 hbc3 hbc4 hBl
              go_loopw [5, 75] (fun v i wr => ∃ k : Nat, i = .int .i64 k ∧ k ≤ c.pkts.length ∧ Hid (wr.ownsRow (B + 1) 5 1 v (sectB low c.note ++ c.faces.flatMap (faceBl low) ++ c.names.flatMap (nameBl low) ++ c.secs.flatMap (secBl low) ++ (c.pkts.take k).flatMap (pktBl low)).length ((sectB low c.note ++ c.faces.flatMap (faceBl low) ++ c.names.flatMap (nameBl low) ++ c.secs.flatMap (secBl low) ++ (c.pkts.take k).flatMap (pktBl low)).map u8)) ∧ Hid ((sectB low c.note ++ c.faces.flatMap (faceBl low) ++ c.names.flatMap (nameBl low) ++ c.secs.flatMap (secBl low) ++ (c.pkts.take k).flatMap (pktBl low)).length ≤ 250000 + 2000 * k) ∧ Hid (Blk wr B 27 (capV ⟨pf, cf, pn, cn, ps, cs, pp, cp⟩ c).cells ∧ Below B w wr)) (fun _ i _ => c.pkts.length - (intOf i).toNat)
              case atStart => exact ⟨0, rfl, Nat.zero_le _, by simpa using HR5, by simpa using HL5, HW⟩
              case round =>
                obtain ⟨k, rfl, hk, HR, HLN, HW⟩ := hrel
                have hbc1 := HW.out.1.cell 1
                have hbc2 := HW.out.1.cell 2
                have hbc3 := HW.out.1.cell 3
                have hbc4 := HW.out.1.cell 4
                have hBl := HW.out.1.lt
                by_cases hlt : k < c.pkts.length
                · obtain ⟨b, o, hA, hb, vs, hl, ⟨A2, cp2, rfl, hbyc, hbig, htm0, hfc0, hrl0⟩, hcell⟩ := (HM.out.pkts.keep pktK HW.out.2 (Nat.le_refl _)).row k hlt
                  change pp = _ at hA
                  subst hA
                  have c0 : wr.cell? ⟨b, o + k * 5, none⟩ = _ := hcell 0 _ rfl
                  have c1 := hcell 1 _ rfl
                  have c2 := hcell 2 _ rfl
                  have c3 := hcell 3 _ rfl
                  have c4 := hcell 4 _ rfl
                  clear hcell
                  have HSN := Lib.hid (flat_snoc (pktBl low) c.pkts k hlt)
                  have hvk := List.all_eq_true.1 HVP.out _ (List.getElem_mem hlt)
                  simp only [pktB, pktS, Bool.and_eq_true, within_iff, decide_eq_true_eq] at hvk
                  obtain ⟨hv1, hv2, hv3, hv4, hv5⟩ := hvk
                  have hns := textB_size hv2
                  have hal : c.pkts[k].data.length ≤ 400 := by omega
                  obtain ⟨tm, htm⟩ : ∃ q : Nat, c.pkts[k].time = q := ⟨c.pkts[k].time.toNat, by omega⟩
                  obtain ⟨fc, hfc⟩ : ∃ q : Nat, c.pkts[k].face = q := ⟨c.pkts[k].face.toNat, by omega⟩
                  obtain ⟨rl, hrl⟩ : ∃ q : Nat, c.pkts[k].real = q := ⟨c.pkts[k].real.toNat, by omega⟩
                  have HBL : Hid (pktBl low c.pkts[k] = blkB low 6 (pktBy low fc tm rl c.pkts[k].data c.pkts[k].note)) := Lib.hid (by unfold pktBl; rw [htm, hfc, hrl]; rfl)
                  rw [htm] at c0
                  rw [hfc] at c1
                  rw [hrl] at c2
                  clear hv1 hv2 hv3 hv4 hv5 htm hfc hrl htm0 hfc0 hrl0
                  obtain ⟨W1, hW1⟩ : ∃ W1, wr.alloc (.cells #[.int .i64 (tm : Nat), .int .i64 (fc : Nat), .int .i64 (rl : Nat), .slice A2 c.pkts[k].data.length cp2, .string c.pkts[k].note] 47) = W1 := ⟨_, rfl⟩
                  have k1 : Blk W1 wr.heap.size 47 #[.int .i64 (tm : Nat), .int .i64 (fc : Nat), .int .i64 (rl : Nat), .slice A2 c.pkts[k].data.length cp2, .string c.pkts[k].note] := by rw [← hW1]; exact Blk.new _ _ _
                  have hb1 : Below wr.heap.size wr W1 := by rw [← hW1]; exact (Below.refl _ wr).alloc (Nat.le_refl _) _
                  have HPR := Lib.hid (HPKT.out W1 A2 cp2 tm fc rl c.pkts[k].data c.pkts[k].note ((hbyc.byt.below (hb1.mono (Nat.le_of_lt hBl))).more (Nat.le_trans (Nat.le_of_lt hBl) hb1.size)) (by omega) (by omega))
                  have HB1 := Lib.hid hb1
                  have HLT2 := Lib.hid (pktBy_lt low fc tm rl c.pkts[k].note hbyc.byt.lt)
                  have hbody := pktBy_len low fc tm rl c.pkts[k].data c.pkts[k].note
                  have HBD := Lib.hid hbody
                  have e0 := k1.cell 0
                  have e1 := k1.cell 1
                  have e2 := k1.cell 2
                  have e3 := k1.cell 3
                  have e4 := k1.cell 4
                  clear k1 hb1 hbody hbyc
                  go_wp2_with fail
                  clear hW1
                  refine HPR.out.mono ?_
                  rintro e w2 ⟨vb, rfl, hob, hbb⟩
                  have HOB := Lib.hid hob
                  have HBB := Lib.hid hbb
                  clear hob hbb e0 e1 e2 e3 e4
                  go_wp2_with fail
                  refine (HMORE.out w wr W1 w2 B (B + 1) u5 vb _ _ 6 _ rfl HW.out HR.out HB1.out HOB.out HBB.out HLT2.out (by have := HLN.out; omega) (by have := HBD.out; omega)).mono ?_
                  rintro e w4 ⟨v4, rfl, ho4, hk4⟩
                  have hlb := blkB_len low 6 (pktBy low fc tm rl c.pkts[k].data c.pkts[k].note)
                  have hbd := HBD.out
                  have HR4 : Hid (w4.ownsRow (B + 1) 5 1 v4 (sectB low c.note ++ c.faces.flatMap (faceBl low) ++ c.names.flatMap (nameBl low) ++ c.secs.flatMap (secBl low) ++ (c.pkts.take (k + 1)).flatMap (pktBl low)).length ((sectB low c.note ++ c.faces.flatMap (faceBl low) ++ c.names.flatMap (nameBl low) ++ c.secs.flatMap (secBl low) ++ (c.pkts.take (k + 1)).flatMap (pktBl low)).map u8)) := Lib.hid (by
                    rw [HSN.out, HBL.out, ← List.append_assoc]; exact ho4)
                  have HL4 : Hid ((sectB low c.note ++ c.faces.flatMap (faceBl low) ++ c.names.flatMap (nameBl low) ++ c.secs.flatMap (secBl low) ++ (c.pkts.take (k + 1)).flatMap (pktBl low)).length ≤ 250000 + 2000 * (k + 1)) := Lib.hid (by
                    have h := HLN.out
                    rw [HSN.out, HBL.out, ← List.append_assoc, List.length_append]; omega)
                  have HK4 := Lib.hid hk4
                  clear ho4 hk4 hlb hbd
                  go_wp2
                  go_roundw
                  case rel => exact ⟨k + 1, by go_num, by omega, HR4, HL4, HK4⟩
                  case measure => simp [intOf]; omega
                · have hkn : k = c.pkts.length := by omega
                  subst hkn
                  have HR5 : Hid (wr.ownsRow (B + 1) 5 1 u5 (sectB low c.note ++ c.faces.flatMap (faceBl low) ++ c.names.flatMap (nameBl low) ++ c.secs.flatMap (secBl low) ++ c.pkts.flatMap (pktBl low)).length ((sectB low c.note ++ c.faces.flatMap (faceBl low) ++ c.names.flatMap (nameBl low) ++ c.secs.flatMap (secBl low) ++ c.pkts.flatMap (pktBl low)).map u8)) := Lib.hid (by
                    have h := HR.out
                    rw [List.take_length] at h
                    exact h)
                  have HL5 : Hid ((sectB low c.note ++ c.faces.flatMap (faceBl low) ++ c.names.flatMap (nameBl low) ++ c.secs.flatMap (secBl low) ++ c.pkts.flatMap (pktBl low)).length ≤ 500000) := Lib.hid (by
                    have h := HLN.out
                    rw [List.take_length] at h
                    omega)
                  go_wp2
                  clear hbc1 hbc2 hbc3 hbc4 hBl
                  go_ret
                  refine ⟨u5, rfl, own_mono (base := B + 1) ?_ (Nat.le_succ B), HW.out.2⟩
                  have h := HR5.out
                  unfold blocksB
                  simpa only [List.append_assoc] using h
end Go.Proofs.Ytlimkckomdipkaa
