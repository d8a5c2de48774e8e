/- HasPrefix, where the prefix stands. -/
import Derived.Test.YtlimkckomdipkaaLastO
import Derived.Test.YtlimkckomdipkaaCopyR
import Derived.Test.YtlimkckomdipkaaWB
namespace Go.Proofs.Ytlimkckomdipkaa
open Go.RowKit

set_option maxHeartbeats 1000000 in
theorem hasprefix_any {w : World} {b o L c c2 B2 : Nat} {A2 : Option Addr} {l : List Nat} (h1 : Pc w b o l) (hL : l.length ≤ L) (hc : L < c) (hb : b < w.heap.size) (h2 : Byt w B2 A2 l) :
    Calls Try.prog 75 #[.slice (some ⟨b, o, none⟩) L c, .slice A2 l.length c2] w fun e w' => e = .returned (.bool true) ∧ w = w' := by
  have HE := Lib.hid (beq_any (c1 := c) (c2 := c2) (h1.byt hb) h2)
  rw [eqB_true rfl] at HE
  obtain ⟨n, hn⟩ : ∃ n, l.length = n := ⟨_, rfl⟩
  rw [hn] at HE hL ⊢
  have hk : (n : Int) ≤ (c : Int) := by omega
  have hk2 : decide ((n : Int) ≤ (L : Int)) = true := by simp; omega
  clear hn h1 h2
  go_enter Try.func75, Try.ntmps75
  go_wp2_with fail
  refine HE.out.mono ?_
  rintro e w1 ⟨rfl, rfl⟩
  go_wp2_with fail
  go_ret
  exact ⟨rfl, rfl⟩
end Go.Proofs.Ytlimkckomdipkaa
/- What is read of a file so far, in memory; a row with one struct more. -/
namespace Go.Proofs.Ytlimkckomdipkaa
open Go.RowKit

/-- One struct more at the end of a row of the call's own: what the append leaves. -/
theorem row_more {e k bytes T n b : Nat} {z v : Value} {w : World} {xs cs : List Value} (ht : Try.prog.underlying T = some (.slice e)) (hinf : (Try.prog.info? e).map (fun i => (i.zero, i.size, i.bytes)) = some (some z, k, bytes)) (hzs : z.cells.size = k) (hk : 0 < k) (hy : 0 < bytes)
    (hown : w.ownsRow b e k v n xs) (hcl : cs.length = k) (h1 : ∀ u ∈ cs, u.oneCell' = true) (hb : (n + 1) * bytes ≤ 140737488355328) (hbase : b ≤ w.heap.size) :
    ∃ A7 c7 w7, (Builtin.append_ #[T, T] T #[v, .slice (some ⟨w.heap.size, 0, none⟩) 1 1]).run Try.prog (w.alloc (.cells cs.toArray e)) = .ok (.slice A7 (n + 1) c7) w7 ∧ w7.ownsRow b e k (.slice A7 (n + 1) c7) (n + 1) (xs ++ cs) ∧
      (w.alloc (.cells cs.toArray e)).grownBy w7 v.ownBlock ∧ AlikeT e w w7 ∧ Below b w w7 := by
  have h63 : n + 1 ≤ maxLen := by
    have : (n + 1) * 1 ≤ (n + 1) * bytes := Nat.mul_le_mul_left _ hy
    unfold maxLen; omega
  obtain ⟨v7, w7, hrun, ho7, hg7, _⟩ := run_own_struct w b e k bytes T z ht hinf hzs hk v n xs hown cs hcl h1 h63 hb hbase
  obtain ⟨A7, c7, rfl, _⟩ := own_form2 ho7
  refine ⟨A7, c7, w7, hrun, ho7, hg7, ⟨?_, fun g s ds hs hb => ?_⟩, ?_⟩
  · have := hg7.size; rw [alloc_size] at this; omega
  · exact (hb.alloc _).grown hg7 (fun e' => own_blk_ne hown hb (fun e => hs e.symm) e'.symm)
  · exact ((Below.refl b w).alloc hbase _).grown hg7 (by rw [alloc_size]; omega) (fun k hk => by have := (hown.lt _ hk).1; omega)

/-- What is read of a file so far. -/
def rdV (O : Value) (q : Pl) (c : Cap) (A : Option Addr) (np cp : Nat) (torn : Nat) : Array Value :=
  #[O, .string c.note, .slice q.pf c.faces.length q.cf, .slice q.pn c.names.length q.cn, .slice q.ps c.secs.length q.cs, .slice q.pp c.pkts.length q.cp, .slice A np cp, .int .i64 (torn : Int)]
structure Rd (w : World) (R b : Nat) (O : Value) (q : Pl) (A : Option Addr) (cp : Nat) (xs : List Value) (c : Cap) (np torn : Nat) : Prop where
  blk : Blk w R 70 (rdV O q c A np cp torn)
  cap : CapO w b q c
  parts : w.ownsRow b 109 3 (.slice A np cp) np xs
  le : b ≤ R
section
variable {w w' : World} {R b np torn cp : Nat} {O : Value} {q : Pl} {c : Cap} {A : Option Addr} {xs : List Value}
theorem Rd.below (h : Rd w R b O q A cp xs c np torn) (hb : Below w.heap.size w w') : Rd w' R b O q A cp xs c np torn :=
  ⟨h.blk.below hb h.blk.lt, h.cap.below hb, own_alikeT (t := 70) h.parts (AlikeT.below hb) (by decide), h.le⟩
theorem Rd.drew (h : Rd w R b O q A cp xs c np torn) : Rd w.drew R b O q A cp xs c np torn := h.below (Below.refl _ w).drew
theorem Rd.cell0 (h : Rd w R b O q A cp xs c np torn) : w.cell? ⟨R, 0, none⟩ = some O := by rw [h.blk.cell]; rfl
theorem Rd.lt (h : Rd w R b O q A cp xs c np torn) : b < w.heap.size := Nat.lt_of_le_of_lt h.le h.blk.lt
/-- Another note. -/
theorem Rd.note (h : Rd w R b O q A cp xs c np torn) (s : ByteArray) (hs : s.size ≤ 140737488355328) : Rd (w.setCell ⟨R, 1, none⟩ (.string s)) R b O q A cp xs ⟨s, c.faces, c.names, c.secs, c.pkts⟩ np torn := by
  have ha : AlikeT 70 w (w.setCell ⟨R, 1, none⟩ (.string s)) := AlikeT.set h.blk _
  have hc := h.cap.alike ha (by decide)
  exact ⟨by simpa [rdV] using h.blk.set_ 1 (.string s), ⟨hs, hc.faces, hc.names, hc.secs, hc.pkts, hc.lf, hc.ln, hc.ls, hc.lp⟩, own_alikeT h.parts ha (by decide), h.le⟩
/-- One interface more. -/
theorem Rd.face {A7 : Option Addr} {c7 : Nat} {w5 w7 : World} {v : Value} {f : Fac} {rows : List (List Value)} (h : Rd w5 R b O q A cp xs c np torn) (hr : OwnL w5 b 54 3 FacE v c.faces rows)
    (ho : w7.ownsRow b 54 3 (.slice A7 (c.faces.length + 1) c7) (c.faces.length + 1) (rows.flatten ++ [.string f.name, .int .i64 f.link, .int .i64 f.snap])) (ha : AlikeT 54 w5 w7)
    (hn : c.faces.length < 1000) (hf : FacE f w5 w5.heap.size [.string f.name, .int .i64 f.link, .int .i64 f.snap]) :
    Rd (w7.setCell ⟨R, 2, none⟩ (.slice A7 (c.faces.length + 1) c7)) R b O ⟨A7, c7, q.pn, q.cn, q.ps, q.cs, q.pp, q.cp⟩ A cp xs ⟨c.note, c.faces ++ [f], c.names, c.secs, c.pkts⟩ np torn := by
  have hB7 : Blk w7 R 70 (rdV O q c A np cp torn) := ha.2 R 70 _ (by decide) h.blk
  have ha7 : AlikeT 70 w7 (w7.setCell ⟨R, 2, none⟩ (.slice A7 (c.faces.length + 1) c7)) := AlikeT.set hB7 _
  obtain ⟨hn1, _, ⟨w1, rn, hn1'⟩, ⟨w2, rs, hs1⟩, ⟨w3, rp, hp1⟩, a1, a2, a3, a4⟩ := h.cap
  have hl1 : (c.faces ++ [f]).length = c.faces.length + 1 := by simp
  refine ⟨by simpa [rdV, hl1] using hB7.set_ 2 (.slice A7 (c.faces.length + 1) c7), ⟨hn1, ⟨rows ++ [[.string f.name, .int .i64 f.link, .int .i64 f.snap]], ?_⟩, ⟨w1, rn, (hn1'.alike ha (by decide) (by decide)).alike ha7 (by decide) (by decide)⟩, ⟨w2, rs, (hs1.alike ha (by decide) (by decide)).alike ha7 (by decide) (by decide)⟩, ⟨w3, rp, (hp1.alike ha (by decide) (by decide)).alike ha7 (by decide) (by decide)⟩, by rw [hl1]; omega, a2, a3, a4⟩, own_alikeT (own_alikeT h.parts ha (by decide)) ha7 (by decide), h.le⟩
  have ho7 := own_alikeT ho ha7 (by decide)
  refine ⟨by rw [hl1]; simpa using ho7, by simp [hr.len], fun i h1 h2 => ?_, fun r hr' u hu => ?_⟩
  · by_cases hi : i < c.faces.length
    · have hir : i < rows.length := by rw [hr.len]; exact hi
      rw [List.getElem_append_left hi, List.getElem_append_left hir]
      exact hr.each i hi hir
    · have hie : i = c.faces.length := by rw [hl1] at h1; omega
      subst hie
      rw [List.getElem_append_right (Nat.le_refl _), List.getElem_append_right (by rw [hr.len]; exact Nat.le_refl _)]
      simp only [hr.len, Nat.sub_self, List.getElem_cons_zero]
      exact ⟨rfl, hf⟩
  · rcases List.mem_append.1 hr' with hr' | hr'
    · exact hr.one r hr' u hu
    · have : r = [.string f.name, .int .i64 f.link, .int .i64 f.snap] := by simpa using hr'
      subst this
      simp only [List.mem_cons, List.not_mem_nil, or_false] at hu
      rcases hu with rfl | rfl | rfl <;> rfl
/-- One struct with bytes more, for what is kept of the capture. -/
theorem OwnM.more {α : Type} {κ : Kind α} (hκ : κ.Right) {w0 w5 w7 : World} {v : Value} {ys : List α} {x : α} {rows : List (List Value)} {L c5 A7 n7 c7 f t} {A5 : Option Addr} {RC : Array Value} (hr : OwnM κ w0 w5 b v ys rows ys.length) (hB : Blk w5 R 70 RC) (hn7 : n7 = ys.length + 1)
    (ho : w7.ownsRow b κ.T κ.K (.slice A7 n7 c7) n7 (rows.flatten ++ κ.row x (.slice A5 L c5))) (hg : (w5.alloc (.cells (κ.row x (.slice A5 L c5)).toArray t)).grownBy w7 v.ownBlock) (ha : AlikeT κ.T w5 w7)
    (hL : (κ.dat x).length = L) (ho5 : w5.ownsRow b 5 1 (.slice A5 L c5) L ((κ.dat x).map u8)) (hlt : ∀ y ∈ κ.dat x, y < 256) (hcap : L ≤ 140737488355328) (hok : κ.ok x) (h70 : κ.T ≠ 70) :
    ∃ rows', OwnM κ w0 (w7.setCell ⟨R, f, none⟩ (.slice A7 n7 c7)) b (.slice A7 n7 c7) (ys ++ [x]) rows' (ys ++ [x]).length ∧ AlikeT 70 w7 (w7.setCell ⟨R, f, none⟩ (.slice A7 n7 c7)) ∧ Blk (w7.setCell ⟨R, f, none⟩ (.slice A7 n7 c7)) R 70 (RC.setIfInBounds f (.slice A7 n7 c7)) := by
  subst hL
  subst hn7
  have hB7 : Blk w7 R 70 RC := ha.2 R 70 _ (fun e => h70 e.symm) hB
  have ha7 : AlikeT 70 w7 (w7.setCell ⟨R, f, none⟩ (.slice A7 (ys.length + 1) c7)) := AlikeT.set hB7 _
  refine ⟨_, (OwnM.snoc hκ (hr.below ((Below.refl _ w5).alloc (Nat.le_refl _) _)) ho hg ⟨A5, c5, rfl, ho5.alloc _, hlt, hcap, hok⟩).alike ha7 (by decide) (fun e => h70 e.symm), ha7, hB7.set_ f _⟩
end
end Go.Proofs.Ytlimkckomdipkaa
/- The first block's body, read. -/
namespace Go.Proofs.Ytlimkckomdipkaa
open Go.RowKit

set_option maxRecDepth 100000 in
set_option maxHeartbeats 4000000 in
theorem lastopt_none {w : World} {R b o c code : Nat} :
    Calls Try.prog 86 #[.pointer (some ⟨R, 0, none⟩), .slice (some ⟨b, o, none⟩) 0 c, .int .i64 code] w fun e w' => e = .returned (.tuple #[.string ⟨#[]⟩, .bool true]) ∧ Below w.heap.size w w' := by
  go_enter Try.func86, Try.ntmps86
  go_wp2_with fail
  go_ret2
  exact ⟨rfl, Below.refl _ _⟩

/-- The last option, or none. -/
theorem lastopt_any (low : Bool) {w : World} {R b o c code P n : Nat} {s : ByteArray} {RC : Array Value} (hR : Blk w R 70 RC) (h0 : RC[0]? = some (ordV low))
    (hp : Pc w b o (optB low code P s)) (hP : P % 4 = 0) (hb : b < w.heap.size) (hn : (optB low code P s).length = n) (hc : n < c) (hs : s.size ≤ 200) (hcode : 0 < code ∧ code < 256) :
    Calls Try.prog 86 #[.pointer (some ⟨R, 0, none⟩), .slice (some ⟨b, o, none⟩) n c, .int .i64 code] w fun e w' => e = .returned (.tuple #[.string s, .bool true]) ∧ Below w.heap.size w w' := by
  by_cases h : s.size = 0
  · have hs0 : s = ⟨#[]⟩ := by
      obtain ⟨⟨l⟩⟩ := s
      have : l = [] := List.eq_nil_of_length_eq_zero h
      rw [this]
    subst hs0
    have : n = 0 := by rw [← hn]; rfl
    subst this
    exact lastopt_none
  · have hpad : padN (P + 4 + s.size) = padN s.size := by unfold padN; omega
    have he : optB low code P s = numB low 2 code ++ (numB low 2 s.size ++ (strL s ++ (List.replicate (padN s.size) 0 ++ (numB low 2 0 ++ numB low 2 0)))) := by
      unfold optB padB
      rw [if_neg h, hpad]
      simp [numsB, List.append_assoc]
    have hl : n = 8 + s.size + padN s.size := by
      rw [← hn, he]
      simp only [List.length_append, numB_len2, strL_len, List.length_replicate]
      omega
    subst hl
    rw [he] at hp
    cases low with
    | true => exact lastopt_true hR h0 hp hb hc ⟨by omega, hs⟩ hcode
    | false => exact lastopt_false hR h0 hp hb hc ⟨by omega, hs⟩ hcode

theorem own_any {w : World} {base : Nat} {v : Value} {bs : List Nat} (h : w.ownsRow base 5 1 v bs.length (bs.map u8)) (hb : ∀ x ∈ bs, x < 256) : ∃ A c, v = .slice A bs.length c ∧ Byt w w.heap.size A bs := by
  obtain ⟨A, c, rfl⟩ := own_form h
  exact ⟨A, c, rfl, byt_own hb h⟩
set_option maxRecDepth 100000 in
set_option maxHeartbeats 4000000 in
theorem section_any (low : Bool) {w : World} {R b np torn cp b0 o L cc : Nat} {q : Pl} {c : Cap} {A : Option Addr} {xs : List Value} {s : ByteArray} (h : Rd w R b (ordV low) q A cp xs c np torn)
    (hp : Pc w b0 o (secH low ++ optB low 1 16 s)) (hL : (secH low ++ optB low 1 16 s).length = L) (hc : L < cc) (hb : b0 < b) (hs : s.size ≤ 200) :
    Calls Try.prog 80 #[.pointer (some ⟨R, 0, none⟩), .slice (some ⟨b0, o, none⟩) L cc] w fun e w' => e = .returned (.bool true) ∧ Rd w' R b (ordV low) q A cp xs ⟨s, c.faces, c.names, c.secs, c.pkts⟩ np torn ∧ Below b w w' := by
  have hlo : L = 16 + (optB low 1 16 s).length := by rw [← hL, List.length_append, secH_len]
  have hbw : b0 < w.heap.size := by have := h.lt; omega
  have HSB := Lib.hid (fun w : World => secbegin_any (w := w) low)
  have HHP := Lib.hid (fun (w' : World) (A2 : Option Addr) (B2 c2 : Nat) (hw : Below w.heap.size w w') h2 => hasprefix_any (w := w') (c2 := c2) (B2 := B2) (A2 := A2) (L := L) (c := cc) (hp.left.below hw hbw) (by rw [secH_len]; omega) (by omega) (Nat.lt_of_lt_of_le hbw hw.size) h2)
  rw [secH_len] at HHP
  have HLO := Lib.hid (fun (w' : World) (hw : Below w.heap.size w w') (k : Rd w' R b (ordV low) q A cp xs c np torn) => lastopt_any low (w := w') (c := cc - 16) (code := 1) (P := 16) (s := s) k.blk rfl ((hp.right.at_ (by rw [secH_len])).below hw hbw) (by decide) (Nat.lt_of_lt_of_le hbw hw.size) (n := L - 16) (by omega) (by omega) hs (by decide))
  have H := Lib.hid h
  have HLT := Lib.hid hp.left.lt
  have q0 := h.cell0
  have hk1 : (16 : Int) ≤ (L : Int) := by omega
  have hk2 : (16 : Int) ≤ (cc : Int) := by omega
  have hk3 : ¬ cc = 16 := by omega
  obtain ⟨O, hO⟩ : ∃ O, ordV low = O := ⟨_, rfl⟩
  rw [hO] at HSB q0 H HLO ⊢
  clear h hp hL hlo hO
  go_enter Try.func80, Try.ntmps80
  go_wp2_with fail
  refine (HSB.out _).mono ?_
  rintro e w1 ⟨v1, rfl, ho1, hb1⟩
  obtain ⟨A1, c1, rfl, hB1⟩ := own_any ho1 HLT.out
  rw [secH_len]
  have X := HHP.out w1 A1 _ c1 (by exact hb1) hB1
  go_wp2_with fail
  refine X.mono ?_
  rintro e w2 ⟨rfl, rfl⟩
  have H1 := Lib.hid (H.out.below hb1)
  have Y := Lib.hid (HLO.out w1 hb1 H1.out)
  have HB1 := Lib.hid hb1
  clear X HSB HHP HLO ho1 hB1 hb1
  go_wp2_with fail
  refine Y.out.mono ?_
  rintro e w3 ⟨rfl, hb3⟩
  have H3 := Lib.hid (H1.out.below hb3)
  have HB3 := Lib.hid ((HB1.out.mono (Nat.le_of_lt H.out.lt)).trans (hb3.mono (Nat.le_of_lt H1.out.lt)))
  have f1 : w3.frozen? ⟨R, 1, none⟩ = false := H3.out.blk.frozen 1
  have e1 : w3.cell? ⟨R, 1, none⟩ = some (.string c.note) := by rw [H3.out.blk.cell]; rfl
  clear Y hb3
  go_wp2_with fail
  go_ret
  exact ⟨rfl, H3.out.note s (by omega), HB3.out.setCell (p := ⟨R, 1, none⟩) H3.out.le _⟩
end Go.Proofs.Ytlimkckomdipkaa
