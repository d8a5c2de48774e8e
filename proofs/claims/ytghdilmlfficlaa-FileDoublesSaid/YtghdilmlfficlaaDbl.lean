/- Doubles: what a double is; the search among the packets before. -/
import Derived.Test.YtghdilmlfficlaaFaceN
import Derived.Test.YtghdilmlfficlaaShift2
namespace Go.Proofs.Ytghdilmlfficlaa
open Go.RowKit

def isT (t : Int) : Bool := decide (0 ≤ t) && decide (t ≤ 1000000000000000)
theorem isT_any (t : Int) (w : World) : Calls Try.prog 66 #[.int .i64 t] w fun e w' => e = .returned (.bool (isT t)) ∧ Below w.heap.size w w' := by
  have HB : Hid (Below w.heap.size w w) := Lib.hid (Below.refl _ _)
  by_cases h1 : 0 ≤ t
  · by_cases h2 : t ≤ 1000000000000000
    · have d1 : decide (0 ≤ t) = true := decide_eq_true h1
      have d2 : decide (t ≤ 1000000000000000) = true := decide_eq_true h2
      have HR : Hid (isT t = true) := Lib.hid (by unfold isT; rw [d1, d2]; rfl)
      go_enter Try.func66, Try.ntmps66
      go_wp2
      go_ret
      exact ⟨ret_bool HR.out.symm, HB.out⟩
    · have d1 : decide (0 ≤ t) = true := decide_eq_true h1
      have d2 : decide (t ≤ 1000000000000000) = false := decide_eq_false h2
      have HR : Hid (isT t = false) := Lib.hid (by unfold isT; rw [d1, d2]; rfl)
      go_enter Try.func66, Try.ntmps66
      go_wp2
      go_ret
      exact ⟨ret_bool HR.out.symm, HB.out⟩
  · have d1 : decide (0 ≤ t) = false := decide_eq_false h1
    have HR : Hid (isT t = false) := Lib.hid (by unfold isT; rw [d1]; rfl)
    go_enter Try.func66, Try.ntmps66
    go_wp2
    go_ret
    exact ⟨ret_bool HR.out.symm, HB.out⟩
theorem risT_any (t : Int) (w : World) : Calls Try.prog 69 #[.int .i64 t] w fun e w' => e = .returned (.bool (isT t)) ∧ Below w.heap.size w w' := by
  have HB : Hid (Below w.heap.size w w) := Lib.hid (Below.refl _ _)
  by_cases h1 : 0 ≤ t
  · by_cases h2 : t ≤ 1000000000000000
    · have d1 : decide (0 ≤ t) = true := decide_eq_true h1
      have d2 : decide (t ≤ 1000000000000000) = true := decide_eq_true h2
      have HR : Hid (isT t = true) := Lib.hid (by unfold isT; rw [d1, d2]; rfl)
      go_enter Try.func69, Try.ntmps69
      go_wp2
      go_ret
      exact ⟨ret_bool HR.out.symm, HB.out⟩
    · have d1 : decide (0 ≤ t) = true := decide_eq_true h1
      have d2 : decide (t ≤ 1000000000000000) = false := decide_eq_false h2
      have HR : Hid (isT t = false) := Lib.hid (by unfold isT; rw [d1, d2]; rfl)
      go_enter Try.func69, Try.ntmps69
      go_wp2
      go_ret
      exact ⟨ret_bool HR.out.symm, HB.out⟩
  · have d1 : decide (0 ≤ t) = false := decide_eq_false h1
    have HR : Hid (isT t = false) := Lib.hid (by unfold isT; rw [d1]; rfl)
    go_enter Try.func69, Try.ntmps69
    go_wp2
    go_ret
    exact ⟨ret_bool HR.out.symm, HB.out⟩

abbrev pktW (p : Pkt) (A : Option Addr) (c : Nat) : Array Value := #[.int .i64 p.time, .int .i64 p.face, .int .i64 p.real, .slice A p.data.length c, .string p.note]
/-- p is there already as q. -/
noncomputable def dblB (n : Int) (p q : Pkt) : Bool := decide (-n ≤ p.time - q.time) && decide (p.time - q.time ≤ n) && (p.real == q.real) && eqB p.data q.data
def timeOk (p : Pkt) : Prop := 0 ≤ p.time ∧ p.time ≤ 1000000000000000

set_option maxRecDepth 100000 in
set_option maxHeartbeats 4000000 in
theorem isdbl_any {w : World} {Ap Aq : Option Addr} {cp cq : Nat} {n : Int} (p q : Pkt) (hp : Byt w w.heap.size Ap p.data) (hq : Byt w w.heap.size Aq q.data) (tp : timeOk p) (tq : timeOk q) (tn : 0 ≤ n ∧ n ≤ 1000000000000000) :
    Calls Try.prog 77 #[.agg (pktW p Ap cp), .agg (pktW q Aq cq), .int .i64 n] w fun e w' => e = .returned (.bool (dblB n p q)) ∧ Below w.heap.size w w' := by
  obtain ⟨B, hB⟩ : ∃ B, w.heap.size = B := ⟨_, rfl⟩
  have hb : Below B w ((w.alloc (.cells (pktW p Ap cp) 50)).alloc (.cells (pktW q Aq cq) 50)) := by
    rw [← hB]; exact ((Below.refl _ _).alloc (Nat.le_refl _) _).alloc (by rw [alloc_size]; omega) _
  have HB := Lib.hid hb
  have HE := Lib.hid (beq_any (c1 := cp) (c2 := cq) (hp.below (by rw [hB]; exact hb)) (hq.below (by rw [hB]; exact hb)))
  obtain ⟨t, ht⟩ : ∃ t, p.time = t := ⟨_, rfl⟩
  obtain ⟨s, hs⟩ : ∃ s, q.time = s := ⟨_, rfl⟩
  obtain ⟨x, hx⟩ : ∃ x, p.real = x := ⟨_, rfl⟩
  obtain ⟨y, hy⟩ : ∃ y, q.real = y := ⟨_, rfl⟩
  have HD : Hid (dblB n p q = (decide (-n ≤ t - s) && decide (t - s ≤ n) && (x == y) && eqB p.data q.data)) := Lib.hid (by unfold dblB; rw [ht, hs, hx, hy])
  unfold timeOk at tp tq
  rw [ht] at tp
  rw [hs] at tq
  obtain ⟨tp1, tp2⟩ := tp
  obtain ⟨tq1, tq2⟩ := tq
  obtain ⟨tn1, tn2⟩ := tn
  unfold pktW at HB HE ⊢
  rw [hB]
  rw [ht, hs, hx, hy] at HB HE ⊢
  clear hb hp hq ht hs hx hy hB
  by_cases h1 : -n ≤ t - s
  · have d1 : decide (-n ≤ t - s) = true := decide_eq_true h1
    by_cases h2 : t - s ≤ n
    · have d2 : decide (t - s ≤ n) = true := decide_eq_true h2
      cases h3 : (x == y) with
      | true =>
        have HR : Hid (dblB n p q = eqB p.data q.data) := Lib.hid (by rw [HD.out, d1, d2, h3]; rfl)
        clear h1 h2 HD
        go_enter Try.func77, Try.ntmps77
        go_wp2_with fail
        with_reducible refine HE.out.mono ?_
        rintro e w1 ⟨rfl, rfl⟩
        go_wp2
        go_ret
        exact ⟨ret_bool (by rw [HR.out]), HB.out⟩
      | false =>
        have HR : Hid (dblB n p q = false) := Lib.hid (by rw [HD.out, d1, d2, h3]; rfl)
        clear h1 h2 HD
        go_enter Try.func77, Try.ntmps77
        go_wp2
        go_ret
        exact ⟨ret_bool HR.out.symm, HB.out⟩
    · have d2 : decide (t - s ≤ n) = false := decide_eq_false h2
      have HR : Hid (dblB n p q = false) := Lib.hid (by rw [HD.out, d1, d2]; rfl)
      clear h1 h2 HD
      go_enter Try.func77, Try.ntmps77
      go_wp2
      go_ret
      exact ⟨ret_bool HR.out.symm, HB.out⟩
  · have d1 : decide (-n ≤ t - s) = false := decide_eq_false h1
    have HR : Hid (dblB n p q = false) := Lib.hid (by rw [HD.out, d1]; rfl)
    clear h1 HD
    go_enter Try.func77, Try.ntmps77
    go_wp2
    go_ret
    exact ⟨ret_bool HR.out.symm, HB.out⟩

set_option maxRecDepth 100000 in
set_option maxHeartbeats 4000000 in
theorem closd_any {w : World} {s x : Nat} {Ap Aq : Option Addr} {cp cq : Nat} {n : Int} (p q : Pkt) (hx : Blk w x 50 (pktW p Ap cp)) (hs : w.cell? ⟨s, 0, none⟩ = some (.int .i64 n)) (hp : Byt w w.heap.size Ap p.data) (hq : Byt w w.heap.size Aq q.data) (tp : timeOk p) (tq : timeOk q) (tn : 0 ≤ n ∧ n ≤ 1000000000000000) :
    Calls Try.prog 76 #[.agg (pktW q Aq cq), .pointer (some ⟨x, 0, none⟩), .pointer (some ⟨s, 0, none⟩)] w fun e w' => e = .returned (.bool (dblB n p q)) ∧ Below w.heap.size w w' := by
  obtain ⟨B, hB⟩ : ∃ B, w.heap.size = B := ⟨_, rfl⟩
  obtain ⟨W0, hW0⟩ : ∃ W0, w.alloc (.cells (pktW q Aq cq) 50) = W0 := ⟨_, rfl⟩
  have hsb : s < B := by rw [← hB]; exact cell_lt hs
  have hxb : x < B := by rw [← hB]; exact hx.lt
  have hb0 : Below B w W0 := by rw [← hW0, ← hB]; exact (Below.refl _ _).alloc (Nat.le_refl _) _
  have hk : Blk W0 B 50 (pktW q Aq cq) := by rw [← hW0, ← hB]; exact Blk.new _ _ _
  have hx0 : Blk W0 x 50 (pktW p Ap cp) := hx.below hb0 hxb
  have s0 : W0.cell? ⟨s, 0, none⟩ = some (.int .i64 n) := (hb0.cell (p := ⟨s, 0, none⟩) hsb).trans hs
  have hsz : B ≤ W0.heap.size := by have := hk.lt; omega
  have HC := Lib.hid (isdbl_any (cp := cp) (cq := cq) (w := W0) p q ((hp.below (by rw [hB]; exact hb0)).more (by rw [hB]; exact hsz)) ((hq.below (by rw [hB]; exact hb0)).more (by rw [hB]; exact hsz)) tp tq tn)
  have HB0 := Lib.hid hb0
  have HS := Lib.hid hk.lt
  have q0 := hk.cell 0
  have q1 := hk.cell 1
  have q2 := hk.cell 2
  have q3 := hk.cell 3
  have q4 := hk.cell 4
  have x0 := hx0.cell 0
  have x1 := hx0.cell 1
  have x2 := hx0.cell 2
  have x3 := hx0.cell 3
  have x4 := hx0.cell 4
  rw [hB]
  clear hs hx hsb hxb hb0 hk hx0 hp hq tp tq tn
  unfold pktW at *
  go_enter Try.func76, Try.ntmps76
  go_wp2_with fail
  clear hW0
  with_reducible refine HC.out.mono ?_
  rintro e w1 ⟨rfl, hb1⟩
  have HB1 := Lib.hid (HB0.out.trans (hb1.mono (by have := HS.out; omega)))
  clear hb1
  go_wp2
  go_ret
  exact ⟨rfl, HB1.out⟩
end Go.Proofs.Ytghdilmlfficlaa
