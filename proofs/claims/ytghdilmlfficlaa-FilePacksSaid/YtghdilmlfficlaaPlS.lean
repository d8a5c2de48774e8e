/- A round of plain: one packet more. -/
import Derived.Test.YtghdilmlfficlaaSet
import Derived.Test.YtghdilmlfficlaaBody
namespace Go.Proofs.Ytghdilmlfficlaa
open Go.RowKit

theorem plain_step {w W4 w5 : World} {B N g f L c5 : Nat} {v x0 x1 x2 x3 : Value} {xs : List Pkt} {rows : List (List Value)} {p : Pkt} {A5 : Option Addr} {KC FC ZC CC : Array Value}
    (hL : p.data.length = L) (HL4 : OwnP W4 (B + 2) v xs rows) (HO4 : Blk W4 g 31 #[x0, x1, x2, x3, v]) (HF4 : Blk W4 f 79 FC) (HZ4 : Blk W4 (B + 1) 31 ZC) (HW4 : Blk W4 B 31 CC ∧ Below B w W4)
    (hg2 : B + 2 ≤ g) (HVN : v.ownBlock ≠ some N) (HK1 : Blk W4 N 50 KC)
    (ho5 : w5.ownsRow W4.heap.size 5 1 (.slice A5 L c5) L (p.data.map u8)) (hb5 : Below W4.heap.size W4.drew w5) (hbyt : ∀ x ∈ p.data, x < 256) (hd : L ≤ 400) (hx : xs.length ≤ 100)
    (ht : -9223372036854775808 ≤ p.time ∧ p.time ≤ 9223372036854775807) (hr : -9223372036854775808 ≤ p.real ∧ p.real ≤ 9223372036854775807) :
    ∃ A7 n7 c7 w7, (Builtin.append_ #[29, 29] 29 #[v, .slice (some ⟨w5.heap.size, 0, none⟩) 1 1]).run Try.prog (w5.alloc (.cells #[.int .i64 p.time, .int .i64 0, .int .i64 p.real, .slice A5 L c5, .string ⟨#[]⟩] 50)) = .ok (.slice A7 n7 c7) w7 ∧
      Blk w7 g 31 #[x0, x1, x2, x3, v] ∧ Blk w7 N 50 KC ∧
      ∃ r, OwnP (w7.setCell ⟨g, 4, none⟩ (.slice A7 n7 c7)) (B + 2) (.slice A7 n7 c7) (xs ++ [⟨p.time, 0, p.real, p.data, ⟨#[]⟩⟩]) (rows ++ [r]) ∧ Blk (w7.setCell ⟨g, 4, none⟩ (.slice A7 n7 c7)) g 31 #[x0, x1, x2, x3, (.slice A7 n7 c7)] ∧ Blk (w7.setCell ⟨g, 4, none⟩ (.slice A7 n7 c7)) f 79 FC ∧ Blk (w7.setCell ⟨g, 4, none⟩ (.slice A7 n7 c7)) (B + 1) 31 ZC ∧ Blk (w7.setCell ⟨g, 4, none⟩ (.slice A7 n7 c7)) B 31 CC ∧ Below B w (w7.setCell ⟨g, 4, none⟩ (.slice A7 n7 c7)) := by
  subst hL
  have hb : Below W4.heap.size W4 w5 := ⟨hb5.os, hb5.tape, hb5.output, hb5.size, hb5.block⟩
  have hsz : W4.heap.size ≤ w5.heap.size := hb.size
  have hl0 := HW4.1.lt
  have hl1 := HZ4.lt
  have HL5 := OwnP.below HL4 hb
  obtain ⟨v7, w7, hrun, ho7, hg7, _⟩ := run_own_struct w5 (B + 2) 50 5 64 29 _ Try.underlying29 info47 (by rfl) (by decide) v _ _ HL5.own [.int .i64 p.time, .int .i64 0, .int .i64 p.real, .slice A5 p.data.length c5, .string ⟨#[]⟩] rfl (by
    intro u hu; simp only [List.mem_cons, List.not_mem_nil, or_false] at hu; rcases hu with rfl | rfl | rfl | rfl | rfl <;> rfl) (by unfold maxLen; omega) (by omega) (by omega)
  obtain ⟨A7, n7, c7, rfl⟩ : ∃ A n c, v7 = .slice A n c := by
    rcases ho7.2 with ⟨e, _⟩ | ⟨g, cap, _, e, _⟩
    · exact ⟨_, _, _, e⟩
    · exact ⟨_, _, _, e⟩
  refine ⟨A7, n7, c7, w7, hrun, ?_⟩
  have hb6 := hb.alloc hsz (.cells #[.int .i64 p.time, .int .i64 0, .int .i64 p.real, .slice A5 p.data.length c5, .string ⟨#[]⟩] 50)
  have hne : ∀ (k t : Nat) (cs : Array Value), Blk W4 k t cs → 50 ≠ t → Blk w7 k t cs := fun k t cs h hk =>
    (h.below hb6 h.lt).grown hg7 (fun e => own_blk_ne HL4.own h hk e.symm)
  have hO7 := hne g 31 _ HO4 (by decide)
  have hK7 : Blk w7 N 50 KC := (HK1.below hb6 HK1.lt).grown hg7 (fun e => HVN e.symm)
  have HL7 : OwnP w7 (B + 2) (.slice A7 n7 c7) (xs ++ [⟨p.time, 0, p.real, p.data, ⟨#[]⟩⟩]) (rows ++ [[.int .i64 p.time, .int .i64 0, .int .i64 p.real, .slice A5 p.data.length c5, .string ⟨#[]⟩]]) := by
    have HL6 : OwnP (w5.alloc (.cells #[.int .i64 p.time, .int .i64 0, .int .i64 p.real, .slice A5 p.data.length c5, .string ⟨#[]⟩] 50)) (B + 2) v xs rows := OwnP.below HL5 ((Below.refl _ w5).alloc (Nat.le_refl _) _)
    exact OwnP.snoc HL6 ho7 hg7 rfl ⟨A5, c5, rfl, own_mono (ho5.alloc _) (Nat.zero_le _), hbyt, Nat.le_trans hd (by decide), by show ByteArray.size ⟨#[]⟩ ≤ _; simp [ByteArray.size], ht, ⟨(by decide : (-9223372036854775808 : Int) ≤ 0), (by decide : (0 : Int) ≤ 9223372036854775807)⟩, hr⟩ (by
      intro u hu; simp only [List.mem_cons, List.not_mem_nil, or_false] at hu; rcases hu with rfl | rfl | rfl | rfl | rfl <;> rfl)
  refine ⟨hO7, hK7, _, OwnP.set HL7 hO7, by simpa using hO7.set_ 4 (.slice A7 n7 c7), (hne f 79 _ HF4 (by decide)).far (p := ⟨g, 4, none⟩) (fun e => ?_) _, (hne (B + 1) 31 _ HZ4 (by decide)).far (p := ⟨g, 4, none⟩) (by show B + 1 ≠ g; omega) _, (hne B 31 _ HW4.1 (by decide)).far (p := ⟨g, 4, none⟩) (by show B ≠ g; omega) _, ?_⟩
  · have h1 := hne f 79 _ HF4 (by decide)
    have e' : f = g := e
    subst e'
    unfold Blk at h1 hO7
    rw [h1] at hO7
    injection hO7 with h; injection h with _ h; cases h
  · have h7 : Below B w w7 := (HW4.2.trans (hb6.mono (by omega))).grown hg7 (by rw [alloc_size]; omega) (fun k hk => by have := (HL4.own.lt _ hk).1; omega)
    exact h7.setCell (p := ⟨g, 4, none⟩) (by show B ≤ g; omega) _

theorem own_form2 {w : World} {base e size n : Nat} {v : Value} {xs : List Value} (h : w.ownsRow base e size v n xs) : ∃ A c, v = .slice A n c ∧ n ≤ c ∧ (A = none → c = 0) := by
  rcases h.2 with ⟨e, h0⟩ | ⟨g, cap, cur, e, _, _, hn, _⟩
  · subst h0; exact ⟨none, 0, e, Nat.le_refl _, fun _ => rfl⟩
  · exact ⟨_, cap, e, hn, fun h => by cases h⟩

/-- w'' is w as far as blocks go that hold something else than captures. -/
def Alike (w w' : World) : Prop := w.heap.size ≤ w'.heap.size ∧ ∀ g t cs, t ≠ 31 → Blk w g t cs → Blk w' g t cs
theorem Alike.refl (w : World) : Alike w w := ⟨Nat.le_refl _, fun _ _ _ _ h => h⟩
theorem Alike.trans {a b c : World} (h : Alike a b) (k : Alike b c) : Alike a c := ⟨Nat.le_trans h.1 k.1, fun g t cs ht hb => k.2 g t cs ht (h.2 g t cs ht hb)⟩
theorem Alike.below {w w' : World} (h : Below w.heap.size w w') : Alike w w' := ⟨h.size, fun _ _ _ _ hb => hb.below h hb.lt⟩
theorem Alike.set {w : World} {g i : Nat} {cs : Array Value} (h : Blk w g 31 cs) (u : Value) : Alike w (w.setCell ⟨g, i, none⟩ u) :=
  ⟨by rw [size_set]; exact Nat.le_refl _, fun k t ds ht hb => hb.far (p := ⟨g, i, none⟩) (fun e => by
    have e' : k = g := e
    subst e'
    unfold Blk at h hb
    rw [h] at hb
    injection hb with hb; injection hb with _ hb; exact ht hb.symm) u⟩
theorem own_alike {w w' : World} {base e size n : Nat} {v : Value} {xs : List Value} (h : w.ownsRow base e size v n xs) (ha : Alike w w') (he : e ≠ 31) : w'.ownsRow base e size v n xs := by
  obtain ⟨h1, h | ⟨g, cap, cur, e1, e2, e3, e4⟩⟩ := h
  · exact ⟨h1, Or.inl h⟩
  · exact ⟨h1, Or.inr ⟨g, cap, cur, e1, e2, ha.2 g e cur he e3, e4⟩⟩
theorem OwnP.alike {w w' : World} {base : Nat} {v : Value} {xs : List Pkt} {rows : List (List Value)} (h : OwnP w base v xs rows) (ha : Alike w w') : OwnP w' base v xs rows :=
  ⟨own_alike h.own ha (by decide), h.len, fun i h1 h2 => ⟨(h.each i h1 h2).1, by
    obtain ⟨A, c, e, ho, r⟩ := (h.each i h1 h2).2
    exact ⟨A, c, e, own_alike ho ha (by decide), r⟩⟩, h.one⟩
/-- The capture c lies at the places p, and lies there still when blocks of captures have been written. -/
def CapT (w : World) (p : Pl) (c : Cap) : Prop := ∀ w', Alike w w' → CapM w' w'.heap.size p c
theorem CapT.capM {w : World} {p : Pl} {c : Cap} (h : CapT w p c) : CapM w w.heap.size p c := h w (Alike.refl w)
theorem CapT.keep {w w' : World} {p : Pl} {c : Cap} (h : CapT w p c) (ha : Alike w w') : CapT w' p c := fun w'' hb => h w'' (ha.trans hb)
theorem els_nil {α : Type} {k : Nat} {E : α → World → Nat → List Value → Prop} {w : World} {B : Nat} {A : Option Addr} : Els k E w B A ([] : List α) := fun h => absurd h (by simp)
theorem els_one_fac {w : World} {B g : Nat} {lk sn : Int} (h : Blk w g 79 #[.string ⟨#[]⟩, .int .i64 lk, .int .i64 sn]) (hB : g < B) (h1 : -9223372036854775808 ≤ lk ∧ lk ≤ 9223372036854775807) (h2 : -9223372036854775808 ≤ sn ∧ sn ≤ 9223372036854775807) : Els 3 FacE w B (some ⟨g, 0, none⟩) [⟨⟨#[]⟩, lk, sn⟩] := by
  intro _
  refine ⟨g, 0, rfl, hB, fun i hi => ?_⟩
  have hi0 : i = 0 := by simp at hi; omega
  subst hi0
  refine ⟨[.string ⟨#[]⟩, .int .i64 lk, .int .i64 sn], rfl, ⟨rfl, by show ByteArray.size ⟨#[]⟩ ≤ _; simp [ByteArray.size], h1, h2⟩, fun j v hj => ?_⟩
  rw [Nat.zero_mul, Nat.zero_add, Nat.zero_add, h.cell, List.getElem?_toArray]
  exact hj
theorem plain_end {w wr : World} {B gf n8 c8 : Nat} {A8 : Option Addr} {lk sn : Int} {L : List Pkt} {rows : List (List Value)} {z0 z1 z2 z3 z4 : Value}
    (hn : L.length = n8) (HL : OwnP wr (B + 2) (.slice A8 n8 c8) L rows) (HZ : Blk wr (B + 1) 31 #[z0, z1, z2, z3, z4]) (HF : Blk wr gf 79 #[.string ⟨#[]⟩, .int .i64 lk, .int .i64 sn]) (hgf : B + 2 ≤ gf) (HB : Below B w wr)
    (h1 : -9223372036854775808 ≤ lk ∧ lk ≤ 9223372036854775807) (h2 : -9223372036854775808 ≤ sn ∧ sn ≤ 9223372036854775807) (hle : n8 ≤ c8) (hnil : A8 = none → c8 = 0) (hx : L.length ≤ 100) :
    Blk (((((wr.setCell ⟨B + 1, 0, none⟩ (.string ⟨#[]⟩)).setCell ⟨B + 1, 1, none⟩ (.slice (some ⟨gf, 0, none⟩) 1 1)).setCell ⟨B + 1, 2, none⟩ (.slice none 0 0)).setCell ⟨B + 1, 3, none⟩ (.slice none 0 0)).setCell ⟨B + 1, 4, none⟩ (.slice A8 n8 c8)) (B + 1) 31 #[.string ⟨#[]⟩, .slice (some ⟨gf, 0, none⟩) 1 1, .slice none 0 0, .slice none 0 0, .slice A8 n8 c8] ∧
    CapT (((((wr.setCell ⟨B + 1, 0, none⟩ (.string ⟨#[]⟩)).setCell ⟨B + 1, 1, none⟩ (.slice (some ⟨gf, 0, none⟩) 1 1)).setCell ⟨B + 1, 2, none⟩ (.slice none 0 0)).setCell ⟨B + 1, 3, none⟩ (.slice none 0 0)).setCell ⟨B + 1, 4, none⟩ (.slice A8 n8 c8)) ⟨some ⟨gf, 0, none⟩, 1, none, 0, none, 0, A8, c8⟩ ⟨⟨#[]⟩, [⟨⟨#[]⟩, lk, sn⟩], [], [], L⟩ ∧ Below B w (((((wr.setCell ⟨B + 1, 0, none⟩ (.string ⟨#[]⟩)).setCell ⟨B + 1, 1, none⟩ (.slice (some ⟨gf, 0, none⟩) 1 1)).setCell ⟨B + 1, 2, none⟩ (.slice none 0 0)).setCell ⟨B + 1, 3, none⟩ (.slice none 0 0)).setCell ⟨B + 1, 4, none⟩ (.slice A8 n8 c8)) := by
  subst hn
  have b0 : Blk (wr.setCell ⟨B + 1, 0, none⟩ (.string ⟨#[]⟩)) (B + 1) 31 #[.string ⟨#[]⟩, z1, z2, z3, z4] := by simpa using HZ.set_ 0 (.string ⟨#[]⟩)
  have b1 := b0.set_ 1 (.slice (some ⟨gf, 0, none⟩) 1 1)
  have b2 := b1.set_ 2 (.slice none 0 0)
  have b3 := b2.set_ 3 (.slice none 0 0)
  have b4 := b3.set_ 4 (.slice A8 L.length c8)
  have hl := ((((HL.set (i := 0) (u := .string ⟨#[]⟩) HZ).set (i := 1) (u := .slice (some ⟨gf, 0, none⟩) 1 1) b0).set (i := 2) (u := .slice none 0 0) b1).set (i := 3) (u := .slice none 0 0) b2).set (i := 4) (u := .slice A8 L.length c8) b3
  have hne : ∀ i, gf ≠ (⟨B + 1, i, none⟩ : Addr).block := fun i => by show gf ≠ B + 1; omega
  have hf := ((((HF.far (hne 0) (.string ⟨#[]⟩)).far (hne 1) (.slice (some ⟨gf, 0, none⟩) 1 1)).far (hne 2) (.slice none 0 0)).far (hne 3) (.slice none 0 0)).far (hne 4) (.slice A8 L.length c8)
  have hge : ∀ i, B ≤ (⟨B + 1, i, none⟩ : Addr).block := fun i => Nat.le_succ B
  refine ⟨by simpa using b4, ?_, ((((HB.setCell (hge 0) _).setCell (hge 1) _).setCell (hge 2) _).setCell (hge 3) _).setCell (hge 4) _⟩
  intro w9 ha
  have hf9 := ha.2 gf 79 _ (by decide) hf
  refine ⟨by show ByteArray.size ⟨#[]⟩ ≤ _; simp [ByteArray.size], els_one_fac hf9 hf9.lt h1 h2, els_nil, els_nil, OwnP.els (hl.alike ha), ⟨Nat.le_refl _, (by decide : 1 * 32 ≤ 140737488355328), fun h => by cases h⟩, ⟨Nat.zero_le _, (by decide : 0 * 40 ≤ 140737488355328), fun _ => rfl⟩, ⟨Nat.zero_le _, (by decide : 0 * 40 ≤ 140737488355328), fun _ => rfl⟩, ⟨hle, by show L.length * 64 ≤ _; omega, hnil⟩⟩
end Go.Proofs.Ytghdilmlfficlaa
