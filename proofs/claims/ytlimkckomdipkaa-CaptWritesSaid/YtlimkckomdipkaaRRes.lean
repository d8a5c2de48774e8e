/- Results that a drawn region has made so far. -/
import Derived.Test.YtlimkckomdipkaaRFit
import Derived.Test.YtlimkckomdipkaaTky
namespace Go.Proofs.Ytlimkckomdipkaa
open Go.RowKit

/-- The slice of L bytes at A holds bs, in a row of the region's own. -/
structure Res (y : World) (N : Nat) (A : Option Addr) (L c : Nat) (bs : List Nat) : Prop where
  g : Gro y N (.slice A L c) bs
  l : bs.length = L
theorem Res.below {y y' : World} {N L c : Nat} {A : Option Addr} {bs : List Nat} (h : Res y N A L c bs) (hb : Below y.heap.size y y') : Res y' N A L c bs := ⟨h.g.below hb, h.l⟩
theorem Res.byt {y : World} {N L c : Nat} {A : Option Addr} {bs : List Nat} (h : Res y N A L c bs) : Byt y y.heap.size A bs := by
  have := h.g
  rw [← h.l] at this
  exact this.byt
theorem res_of {y : World} {N n : Nat} {v : Value} {bs : List Nat} (h : Gro y n v bs) (hn : N ≤ n) : ∃ A L c, v = .slice A L c ∧ Res y N A L c bs := by
  obtain ⟨A, c, e⟩ := h.form
  refine ⟨A, bs.length, c, e, ?_, rfl⟩
  rw [← e]
  exact h.mono hn
theorem Res.kept {y y' : World} {N L c m : Nat} {A : Option Addr} {bs : List Nat} (h : Res y N A L c bs) (hg : y.grownBy y' (some m)) (hd : ∀ g, (Value.slice A L c).ownBlock = some g → g ≠ m) : Res y' N A L c bs :=
  ⟨h.g.kept hg (by
    cases h1 : (Value.slice A L c).ownBlock with
    | none => exact .inl rfl
    | some g => exact .inr (fun e => hd g h1 (Option.some.inj e))), h.l⟩
/-- 'join', the lengths being named. -/
theorem rjoinM {X : World} (rows : List (Option Addr × Nat × Nat × List Nat)) (hr : ∀ r ∈ rows, Byt X X.heap.size r.1 r.2.2.2 ∧ r.2.2.2.length = r.2.1 ∧ r.2.1 ≤ 1000) (hn : rows.length ≤ 10) :
    Calls Try.prog 33 #[.slice (some ⟨X.heap.size, 0, none⟩) rows.length rows.length] (X.alloc (.cells (rows.map fun r => Value.slice r.1 r.2.1 r.2.2.1).toArray 30)) (OwnG (X.alloc (.cells (rows.map fun r => Value.slice r.1 r.2.1 r.2.2.1).toArray 30)) (X.alloc (.cells (rows.map fun r => Value.slice r.1 r.2.1 r.2.2.1).toArray 30)).heap.size (rows.map fun r => r.2.2.2).flatten) := by
  have h := rjoinL (X := X) (rows.map fun r => (r.1, r.2.2.1, r.2.2.2)) (fun r hx => by
    obtain ⟨q, h1, rfl⟩ := List.mem_map.1 hx
    obtain ⟨a1, a2, a3⟩ := hr q h1
    exact ⟨a1, by show q.2.2.2.length ≤ 1000; omega⟩) (by simpa using hn)
  rw [List.length_map, List.map_map, List.map_map] at h
  have e : rows.map ((fun r : Option Addr × Nat × List Nat => Value.slice r.1 r.2.2.length r.2.1) ∘ fun r : Option Addr × Nat × Nat × List Nat => (r.1, r.2.2.1, r.2.2.2)) = rows.map fun r => Value.slice r.1 r.2.1 r.2.2.1 := List.map_congr_left fun r hx => by
    show Value.slice r.1 r.2.2.2.length r.2.2.1 = _
    rw [(hr r hx).2.1]
  rw [e] at h
  exact h
theorem lit_gro (X : World) : Gro (X.alloc (.cells #[.int .u8 255, .int .u8 255, .int .u8 255, .int .u8 255, .int .u8 255, .int .u8 255, .int .u8 255, .int .u8 255] 5)) X.heap.size (.slice (some ⟨X.heap.size, 0, none⟩) 8 8) (List.replicate 8 255) :=
  ⟨rep_lt 8 255 (by decide), .inr ⟨X.heap.size, 8, _, (0, 0), rfl, Nat.le_refl _, heap_alloc_new X _, .inl rfl, Nat.le_refl _, by decide, rfl, rfl⟩⟩
theorem nil_gro (X : World) (N : Nat) : Gro X N (.slice none 0 0) [] := ⟨by simp, .inl ⟨rfl, rfl⟩⟩
theorem Gro.at_ {w w' : World} {base n : Nat} {v : Value} {bs : List Nat} (h : Gro w base v bs) (hb : Below n w w') (hn : ∀ k, v.ownBlock = some k → k < n) : Gro w' base v bs := by
  refine ⟨h.1, ?_⟩
  rcases h.2 with h0 | ⟨g, cap, cur, fz, rfl, e1, e2, rest⟩
  · exact .inl h0
  · exact .inr ⟨g, cap, cur, fz, rfl, e1, (hb.block g (hn g rfl)).trans e2, rest⟩
theorem freeze_at (X : World) (g k : Nat) (cur : Array Value) (e : TypeId) (fz : Nat × Nat) (h : X.heap[g]? = some (.cells cur e fz)) :
    (∃ fz', (X.freeze ⟨g, k, none⟩ 1).heap[g]? = some (.cells cur e fz') ∧ (fz' = (k, k + 1) ∨ (¬ fz.1 = fz.2 ∧ fz' = (min fz.1 k, max fz.2 (k + 1))))) ∧ X.grownBy (X.freeze ⟨g, k, none⟩ 1) (some g) := by
  unfold World.freeze
  rw [if_neg (by decide)]
  refine ⟨?_, ⟨rfl, rfl, rfl, by simp, fun q hq hne => ?_⟩⟩
  · obtain ⟨lo, hi⟩ := fz
    rw [Array.getElem?_modify, if_pos rfl, h]
    simp only [Option.map_some]
    by_cases hlh : (lo == hi) = true
    · exact ⟨(k, k + 1), by simp [hlh], .inl rfl⟩
    · exact ⟨_, by simp only [hlh]; rfl, .inr ⟨fun e => hlh (by simpa using e), rfl⟩⟩
  · rw [Array.getElem?_modify, if_neg (fun e => hne (congrArg some (Eq.symm e)))]
/-- A literal's bytes, marked. -/
theorem mark_gro {X : World} {N m : Nat} {bs : List Nat} (h : Gro X N (.slice (some ⟨m, 0, none⟩) 8 8) bs) :
    ∃ Y, Sem.run Try.prog (convert 30 30 (.slice (some ⟨m, 0, none⟩) 8 8)) X = .ok (.slice (some ⟨m, 0, none⟩) 8 8) Y ∧ Gro Y N (.slice (some ⟨m, 0, none⟩) 8 8) bs ∧ X.grownBy Y (some m) := by
  rcases h.2 with ⟨e, _⟩ | ⟨g, cap, cur, fz, e, hb, hg, hz, hnc, hcm, hcs, ht⟩
  · cases e
  · injection e with e1 e2 e3
    injection e1 with e1
    injection e1 with e1
    subst e1; subst e3
    obtain ⟨⟨fz', k1, k2⟩, k3⟩ := freeze_at X m cur.size cur 5 fz hg
    have hsh : X.shape? m = some (5, cur.size) := by unfold World.shape?; rw [hg]
    refine ⟨_, ?_, ⟨h.1, .inr ⟨m, 8, cur, fz', by rw [← e2], hb, k1, ?_, hnc, hcm, hcs, ht⟩⟩, k3⟩
    · have h30 := Try.underlying30
      have h5 := Try.underlying5
      simp [convert, run_underlying h30, run_underlying h5, markStringish, hsh]
    · right
      rcases k2 with rfl | ⟨k2, rfl⟩
      · exact Nat.le_refl _
      · rcases hz with rfl | hz
        · exact absurd rfl k2
        · show cur.size ≤ min fz.1 cur.size; omega
/-- What is valid of a capture, as the reference's writer asks it. -/
structure Okay2 (c : Cap) : Prop where
  note : c.note.size ≤ 200
  faces : ∀ f ∈ c.faces, f.name.size ≤ 200 ∧ 0 ≤ f.link ∧ f.link ≤ 65535 ∧ 0 ≤ f.snap ∧ f.snap ≤ 400
  names : ∀ x ∈ c.names, x.text.size ≤ 200 ∧ x.addr.length ≤ 16
  secs : ∀ x ∈ c.secs, x.label.size ≤ 200 ∧ x.key.length ≤ 200
  pkts : ∀ p ∈ c.pkts, p.note.size ≤ 200 ∧ p.data.length ≤ 400 ∧ 0 ≤ p.face ∧ p.face < 65536 ∧ 0 ≤ p.time ∧ p.time ≤ 1000000000000000 ∧ 0 ≤ p.real ∧ p.real ≤ 1000000
  nf : 1 ≤ c.faces.length ∧ c.faces.length ≤ 4
  nn : c.names.length ≤ 60
  ns : c.secs.length ≤ 60
  np : c.pkts.length ≤ 100
theorem okay_of' {c : Cap} (h : errV c = 0) : Okay2 c := by
  obtain ⟨hc, hh⟩ := errV_ok h
  have hh' := of_decide_eq_false hh
  simp only [capB, partsB, Bool.and_eq_true, decide_eq_true_eq, List.all_eq_true] at hc
  obtain ⟨⟨h0, ht⟩, hf, hn, hs, hp⟩ := hc
  refine ⟨textB_size ht, fun f hx => ?_, fun x hx => ?_, fun x hx => ?_, fun p hx => ?_, ⟨h0, by omega⟩, by omega, by omega, by omega⟩
  · have h := hf f hx
    simp only [facB, Bool.and_eq_true, within_iff] at h
    exact ⟨textB_size h.1, h.2.1.1, h.2.1.2, h.2.2.1, h.2.2.2⟩
  · have h := hn x hx
    simp only [namB, Bool.and_eq_true, within_iff] at h
    exact ⟨textB_size h.1, by omega⟩
  · have h := hs x hx
    simp only [secB, Bool.and_eq_true, within_iff, decide_eq_true_eq] at h
    exact ⟨textB_size h.1, by omega⟩
  · have h := hp p hx
    simp only [pktB, pktS, Bool.and_eq_true, within_iff, decide_eq_true_eq] at h
    obtain ⟨⟨a1, a2⟩, b1, ⟨b2, b3⟩, ⟨b4, _⟩, b5, b6⟩ := h
    exact ⟨textB_size b1, by omega, a1, by omega, b2, b3, by omega, b6⟩
end Go.Proofs.Ytlimkckomdipkaa
