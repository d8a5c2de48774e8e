/- Cutting the packets of a capture: plain data, and rows of the call's own that are written. -/
import Derived.Test.YtghdilmlfficlaaCopyR
namespace Go.Proofs.Ytghdilmlfficlaa
open Go.RowKit

/-- The first k elements turned by f. -/
def mapTo {α : Type} (f : α → α) (k : Nat) (xs : List α) : List α := (xs.take k).map f ++ xs.drop k
section
variable {α : Type} {f : α → α} {k : Nat} {xs : List α}
theorem mapTo_zero : mapTo f 0 xs = xs := by simp [mapTo]
theorem mapTo_all : mapTo f xs.length xs = xs.map f := by simp [mapTo]
theorem mapTo_len : (mapTo f k xs).length = xs.length := by simp [mapTo]; omega
theorem mapTo_at (h : k < xs.length) (h' : k < (mapTo f k xs).length) : (mapTo f k xs)[k] = xs[k] := by
  have e : (mapTo f k xs)[k]? = some xs[k] := by
    unfold mapTo
    rw [List.getElem?_append_right (by simp; omega)]
    simp [Nat.min_eq_left (Nat.le_of_lt h), h]
  rw [List.getElem?_eq_getElem h'] at e
  exact Option.some.inj e
theorem mapTo_set (h : k < xs.length) : (mapTo f k xs).set k (f xs[k]) = mapTo f (k + 1) xs := by
  unfold mapTo
  rw [List.set_append_right _ _ (by simp; omega), List.take_succ_eq_append_getElem h, List.map_append, List.append_assoc]
  simp only [List.length_map, List.length_take, Nat.min_eq_left (Nat.le_of_lt h), Nat.sub_self, List.map_cons, List.map_nil]
  congr 1
  rw [List.drop_eq_getElem_cons h]
  rfl
end

def cutF (n : Int) (f : Fac) : Fac := ⟨f.name, f.link, if f.snap = 0 ∨ n < f.snap then n else f.snap⟩
def cutP (n : Nat) (p : Pkt) : Pkt := ⟨p.time, p.face, p.real, p.data.take n, p.note⟩
def cutC (c : Cap) (n : Int) : Cap := ⟨c.note, c.faces.map (cutF n), c.names, c.secs, c.pkts.map (cutP n.toNat)⟩
def errCut (c : Cap) (n : Int) : Int := if errV c = 0 then (if within n 0 400 then 0 else 1) else errV c
/-- What Cut returns: nothing of a capture that is none. -/
def cutR (c : Cap) (n : Int) : Cap := if errCut c n = 0 then cutC c n else ⟨⟨#[]⟩, [], [], [], []⟩

/-- A face's snap is written. -/
theorem facL_set {w : World} {b g cap k : Nat} {xs : List Fac} {rows : List (List Value)} (h : OwnL w b 79 3 FacE (.slice (some ⟨g, 0, none⟩) xs.length cap) xs rows) (hk : k < xs.length) (s : Int) (hs : -9223372036854775808 ≤ s ∧ s ≤ 9223372036854775807) :
    ∃ rows', OwnL (w.setCell ⟨g, k * 3 + 2, none⟩ (.int .i64 s)) b 79 3 FacE (.slice (some ⟨g, 0, none⟩) xs.length cap) (xs.set k ⟨xs[k].name, xs[k].link, s⟩) rows' ∧ AlikeT 79 w (w.setCell ⟨g, k * 3 + 2, none⟩ (.int .i64 s)) := by
  have hkr : k < rows.length := by rw [h.len]; exact hk
  obtain ⟨hl, e0, hb1, hb2, hb3⟩ := h.each k hk hkr
  have hblk : ∃ cs, Blk w g 79 cs := by
    rcases h.own.2 with ⟨e, h0⟩ | ⟨g', cap', cur, hv, hbg, hg, _⟩
    · omega
    · injection hv with hv _ _; injection hv with hv; injection hv with hv _ _; subst hv; exact ⟨cur, hg⟩
  obtain ⟨cs, hcs⟩ := hblk
  refine ⟨rows.set k [.string xs[k].name, .int .i64 xs[k].link, .int .i64 s], ⟨?_, by rw [List.length_set, List.length_set]; exact h.len, fun i h1 h2 => ?_, fun r hr u hu => ?_⟩, AlikeT.set hcs _⟩
  · rw [List.length_set, flatten_set (K := 3) rows k 2 (.int .i64 s) _ hkr (fun q hq => (h.each q (by rw [← h.len]; exact hq) hq).1) (by decide) (by rw [e0]; rfl)]
    exact (h.own.stored (k * 3 + 2) (.int .i64 s)).1
  · rw [List.length_set] at h1 h2
    by_cases hik : i = k
    · subst hik
      simp only [List.getElem_set_self]
      exact ⟨rfl, rfl, hb1, hb2, hs⟩
    · simp only [List.getElem_set_ne (fun e => hik e.symm)]
      exact h.each i h1 h2
  · rcases List.mem_or_eq_of_mem_set hr with hr | hr
    · exact h.one r hr u hu
    · subst hr
      simp only [List.mem_cons, List.not_mem_nil, or_false] at hu
      rcases hu with rfl | rfl | rfl <;> rfl
theorem facL_read {w : World} {b k : Nat} {v : Value} {xs : List Fac} {rows : List (List Value)} (h : OwnL w b 79 3 FacE v xs rows) (hk : k < xs.length) :
    ∃ g cap cs, v = .slice (some ⟨g, 0, none⟩) xs.length cap ∧ b ≤ g ∧ Blk w g 79 cs ∧ (-9223372036854775808 ≤ xs[k].snap ∧ xs[k].snap ≤ 9223372036854775807) ∧
      w.cell? ⟨g, k * 3, none⟩ = some (.string xs[k].name) ∧ w.cell? ⟨g, k * 3 + 1, none⟩ = some (.int .i64 xs[k].link) ∧ w.cell? ⟨g, k * 3 + 2, none⟩ = some (.int .i64 xs[k].snap) := by
  have hkr : k < rows.length := by rw [h.len]; exact hk
  obtain ⟨hl, e0, hb1, hb2, hb3⟩ := h.each k hk hkr
  rcases h.own.2 with ⟨_, h0⟩ | ⟨g, cap, cur, hv, hbg, hg, _, _, _, ht⟩
  · omega
  · have hc : ∀ j u, ([.string xs[k].name, .int .i64 xs[k].link, .int .i64 xs[k].snap] : List Value)[j]? = some u → w.cell? ⟨g, k * 3 + j, none⟩ = some u := by
      intro j u hj
      have hj3 : j < 3 := by
        rcases Nat.lt_or_ge j 3 with h | h
        · exact h
        · rw [List.getElem?_eq_none h] at hj; cases hj
      rw [cell_of_row w g _ cur 79 (0, 0) hg, ← Array.getElem?_toList]
      have h1 := flatten_at rows k j hkr (fun q hq => (h.each q (by rw [← h.len]; exact hq) hq).1) hj3
      rw [← ht, List.getElem?_take, e0, hj] at h1
      split at h1
      · exact h1
      · cases h1
    exact ⟨g, cap, cur, hv, hbg, hg, hb3, hc 0 _ rfl, hc 1 _ rfl, hc 2 _ rfl⟩

section
variable {α : Type} {κ : Kind α} {w0 w w' : World} {base k : Nat} {v : Value} {xs : List α} {rows : List (List Value)}
/-- What is read of a row whose bytes are the call's own. -/
theorem OwnM.readO (h : OwnM κ w0 w base v xs rows xs.length) (hκ : κ.Right) (hk : k < xs.length) :
    ∃ g cap cs A c, v = .slice (some ⟨g, 0, none⟩) xs.length cap ∧ base ≤ g ∧ Blk w g κ.T cs ∧ w.ownsRow base 5 1 (.slice A (κ.dat xs[k]).length c) (κ.dat xs[k]).length ((κ.dat xs[k]).map u8) ∧ (∀ y ∈ κ.dat xs[k], y < 256) ∧ (κ.dat xs[k]).length ≤ 140737488355328 ∧ κ.ok xs[k] ∧
      ∀ j u, (κ.row xs[k] (.slice A (κ.dat xs[k]).length c))[j]? = some u → w.cell? ⟨g, k * κ.K + j, none⟩ = some u := by
  have hkr : k < rows.length := by rw [h.len]; exact hk
  obtain ⟨A, c, e, ho, hlt, hcap, hok⟩ := h.done k hk hkr hk
  rcases h.own.2 with ⟨_, h0⟩ | ⟨g, cap, cur, hv, hbg, hg, _, _, _, ht⟩
  · omega
  · refine ⟨g, cap, cur, A, c, hv, hbg, hg, ho, hlt, hcap, hok, fun j u hj => ?_⟩
    have hjk : j < κ.K := by
      rw [← hκ.len xs[k] (.slice A (κ.dat xs[k]).length c)]
      rcases Nat.lt_or_ge j (κ.row xs[k] (.slice A (κ.dat xs[k]).length c)).length with h | h
      · exact h
      · rw [List.getElem?_eq_none h] at hj; cases hj
    rw [cell_of_row w g _ cur κ.T (0, 0) hg, ← Array.getElem?_toList]
    have h1 := flatten_at rows k j hkr (fun q hq => h.rowLen hκ q hq) hjk
    rw [← ht, List.getElem?_take, e, hj] at h1
    split at h1
    · exact h1
    · cases h1
/-- A row's bytes are written anew. -/
theorem OwnM.put {g cap : Nat} {x' : α} {u : Value} (h : OwnM κ w0 w base (.slice (some ⟨g, 0, none⟩) xs.length cap) xs rows xs.length) (hκ : κ.Right) (hk : k < xs.length) (hrow : ∀ v, (κ.row xs[k] v).set κ.J u = κ.row x' u) (hE : KO κ base x' w (κ.row x' u)) :
    OwnM κ w0 (w.setCell ⟨g, k * κ.K + κ.J, none⟩ u) base (.slice (some ⟨g, 0, none⟩) xs.length cap) (xs.set k x') (rows.set k (κ.row x' u)) (xs.set k x').length ∧ AlikeT κ.T w (w.setCell ⟨g, k * κ.K + κ.J, none⟩ u) := by
  have hkr : k < rows.length := by rw [h.len]; exact hk
  obtain ⟨A0, c0, e0, _⟩ := h.done k hk hkr hk
  have hblk : ∃ cs, Blk w g κ.T cs := by
    rcases h.own.2 with ⟨e, h0⟩ | ⟨g', cap', cur, hv, hbg, hg, _⟩
    · omega
    · injection hv with hv _ _; injection hv with hv; injection hv with hv _ _; subst hv; exact ⟨cur, hg⟩
  obtain ⟨cs, hcs⟩ := hblk
  have ha : AlikeT κ.T w (w.setCell ⟨g, k * κ.K + κ.J, none⟩ u) := AlikeT.set hcs _
  refine ⟨⟨?_, by rw [List.length_set, List.length_set]; exact h.len, fun i h1 h2 hi => ?_, fun i h1 h2 hi => absurd h1 (by omega)⟩, ha⟩
  · have hs := h.own.stored (k * κ.K + κ.J) u
    rw [List.length_set, flatten_set (K := κ.K) rows k κ.J u _ hkr (fun q hq => h.rowLen hκ q hq) hκ.lt (by rw [e0, hrow])]
    exact hs.1
  · rw [List.length_set] at h1 h2
    by_cases hik : i = k
    · subst hik
      simp only [List.getElem_set_self]
      exact hE.alike ha hκ.t5
    · simp only [List.getElem_set_ne (fun e => hik e.symm)]
      exact (h.done i h1 h2 h1).alike ha hκ.t5
end
/-- The first m bytes of a row. -/
theorem own_take {w : World} {b n m c : Nat} {A : Option Addr} {xs : List Value} (h : w.ownsRow b 5 1 (.slice A n c) n xs) (hm : m ≤ n) : w.ownsRow b 5 1 (.slice A m c) m (xs.take m) := by
  refine ⟨by rw [List.length_take, h.1]; omega, ?_⟩
  rcases h.2 with ⟨e, h0⟩ | ⟨g, cap, cur, e, e1, e2, e3, e4, e5, e6⟩
  · injection e with q1 q2 q3
    subst q1; subst q3
    exact .inl ⟨by rw [show m = 0 by omega], by omega⟩
  · injection e with q1 q2 q3
    subst q1; subst q3
    refine .inr ⟨g, c, cur, rfl, e1, e2, by omega, e4, e5, ?_⟩
    rw [← e6, List.take_take]
    congr 1
    omega
theorem pkt_cut {w : World} {b n m c : Nat} {A : Option Addr} {p : Pkt} (h : w.ownsRow b 5 1 (.slice A p.data.length c) p.data.length (p.data.map u8)) (hlt : ∀ y ∈ p.data, y < 256) (hcap : p.data.length ≤ 140737488355328) (hok : pktKd.ok p) (hm : m = min p.data.length n) :
    KO pktKd b (cutP n p) w (pktKd.row (cutP n p) (.slice A m c)) := by
  have hl : (pktKd.dat (cutP n p)).length = m := by
    show (p.data.take n).length = m
    rw [List.length_take, hm, Nat.min_comm]
  refine ⟨A, c, by rw [hl], ?_, fun y hy => hlt y (List.mem_of_mem_take hy), by rw [hl]; omega, hok⟩
  rw [hl]
  have h2 := own_take h (m := m) (by omega)
  have e : (pktKd.dat (cutP n p)).map u8 = (p.data.map u8).take m := by
    show (p.data.take n).map u8 = _
    rw [List.map_take, hm]
    rcases Nat.le_total p.data.length n with h | h
    · rw [List.take_of_length_le (by simpa using h), List.take_of_length_le (by simp; omega)]
    · rw [Nat.min_eq_right h]
  rw [e]
  exact h2
theorem facL_below {w w' : World} {b : Nat} {v : Value} {xs : List Fac} {rows : List (List Value)} (h : OwnL w b 79 3 FacE v xs rows) (hb : Below w.heap.size w w') : OwnL w' b 79 3 FacE v xs rows :=
  facL_alike (t := 31) h (AlikeT.below hb) (by decide)
theorem list_set_same {α : Type} {xs : List α} {k : Nat} {x : α} (h : k < xs.length) (hx : xs[k] = x) : xs.set k x = xs := by
  subst hx
  exact List.set_getElem_self h
theorem capT_none (w : World) : CapT w ⟨none, 0, none, 0, none, 0, none, 0⟩ ⟨⟨#[]⟩, [], [], [], []⟩ := fun _ _ =>
  ⟨by show ByteArray.size ⟨#[]⟩ ≤ _; simp [ByteArray.size], els_nil, els_nil, els_nil, els_nil, ⟨Nat.le_refl _, (by decide : 0 * 32 ≤ 140737488355328), fun _ => rfl⟩, ⟨Nat.le_refl _, (by decide : 0 * 40 ≤ 140737488355328), fun _ => rfl⟩, ⟨Nat.le_refl _, (by decide : 0 * 40 ≤ 140737488355328), fun _ => rfl⟩, ⟨Nat.le_refl _, (by decide : 0 * 64 ≤ 140737488355328), fun _ => rfl⟩⟩
end Go.Proofs.Ytghdilmlfficlaa
