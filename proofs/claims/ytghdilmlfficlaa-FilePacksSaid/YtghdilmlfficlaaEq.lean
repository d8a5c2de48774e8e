/- Equal bytes, names, secrets, packets. -/
import Derived.Test.YtghdilmlfficlaaMem
import Derived.Laws.StructEq
namespace Go.Proofs.Ytghdilmlfficlaa
open Go.RowKit
open Classical in
/-- Whether two things are equal. -/
noncomputable def eqB {α : Type} (a b : α) : Bool := decide (a = b)
theorem eqB_true {α : Type} {a b : α} (h : a = b) : eqB a b = true := by unfold eqB; simp [h]
theorem eqB_false {α : Type} {a b : α} (h : ¬ a = b) : eqB a b = false := by unfold eqB; simp [h]
theorem eqB_iff {α : Type} {a b : α} : eqB a b = true ↔ a = b := by unfold eqB; simp

/-- Bytes as a string. -/
def strB (bs : List Nat) : ByteArray := strOfNums (bs.map Int.ofNat)
theorem conv_any {w : World} {B : Nat} {A : Option Addr} {bs : List Nat} (hm : Byt w B A bs) (c : Nat) :
    (convert 48 9 (.slice A bs.length c)).run Try.prog w = .ok (.string (strB bs)) w := by
  by_cases h0 : 0 < bs.length
  · obtain ⟨b, o, rfl, _, hc⟩ := hm.cells h0
    exact run_convert_bytes_arg w 48 5 Try.underlying48 Try.underlying5 b o bs.length c (bs.map Int.ofNat) (by simp) (fun i hi => by
      rw [hc i hi, at8_eq bs i hi]; simp [hi]) 9 Try.underlying9
  · have : bs = [] := List.length_eq_zero_iff.1 (by omega)
    subst this
    have e := run_convert_bytes_string (P := Try.prog) w 48 9 5 A 0 c Try.underlying48 Try.underlying5 Try.underlying9
    show (convert 48 9 (.slice A 0 c)).run Try.prog w = _
    rw [e]
    cases A with
    | none => simp [Conv.bytesToString]; rfl
    | some a =>
      have h := run_bytesToString (P := Try.prog) w a 0 c [] (by
        have := run_loadCells_list (P := Try.prog) w a [] (fun j v hj => by simp at hj)
        simpa using this)
      rw [h]; rfl
theorem strB_inj {a b : List Nat} (ha : ∀ x ∈ a, x < 256) (hb : ∀ x ∈ b, x < 256) (h : strB a = strB b) : a = b := by
  have h1 : (strB a).data.toList = (strB b).data.toList := by rw [h]
  unfold strB at h1
  rw [strOfNums_data, strOfNums_data, List.map_map, List.map_map] at h1
  have key : ∀ l : List Nat, (∀ x ∈ l, x < 256) → (l.map ((fun n : Int => UInt8.ofNat n.toNat) ∘ Int.ofNat)).map UInt8.toNat = l := by
    intro l hl
    rw [List.map_map]
    conv => rhs; rw [← List.map_id l]
    apply List.map_congr_left
    intro x hx
    have := hl x hx
    simp [Nat.mod_eq_of_lt this]
  have h2 := congrArg (List.map UInt8.toNat) h1
  rw [key a ha, key b hb] at h2
  exact h2
theorem str_ne {a b : ByteArray} (h : ¬ a = b) : (a.toList == b.toList) = false := by
  rw [ByteArray.toList_eq, ByteArray.toList_eq]
  refine beq_eq_false_iff_ne.2 (fun e => h ?_)
  obtain ⟨⟨x⟩⟩ := a
  obtain ⟨⟨y⟩⟩ := b
  simp only at e
  rw [e]

set_option maxHeartbeats 1000000 in
theorem beq_any {w : World} {B1 B2 c1 c2 : Nat} {A1 A2 : Option Addr} {l1 l2 : List Nat} (h1 : Byt w B1 A1 l1) (h2 : Byt w B2 A2 l2) :
    Calls Try.prog 118 #[.slice A1 l1.length c1, .slice A2 l2.length c2] w fun e w' => e = .returned (.bool (eqB l1 l2)) ∧ w = w' := by
  have e1 := conv_any h1 c1
  have e2 := conv_any h2 c2
  by_cases h : l1 = l2
  · have HR := Lib.hid (eqB_true h)
    subst h
    obtain ⟨L, hL⟩ : ∃ L, l1.length = L := ⟨_, rfl⟩
    obtain ⟨S, hS⟩ : ∃ S, strB l1 = S := ⟨_, rfl⟩
    rw [hL, hS] at e1 e2
    rw [hL, HR.out]
    clear hL hS h1 h2
    go_enter Try.func118, Try.ntmps118
    go_wp2
    go_ret
    exact ⟨ret_bool (by simp), rfl⟩
  · have HR := Lib.hid (eqB_false h)
    have hne : ¬ strB l1 = strB l2 := fun e => h (strB_inj h1.lt h2.lt e)
    have hne2 := str_ne hne
    rw [HR.out]
    obtain ⟨S1, hS1⟩ : ∃ S, strB l1 = S := ⟨_, rfl⟩
    obtain ⟨S2, hS2⟩ : ∃ S, strB l2 = S := ⟨_, rfl⟩
    rw [hS1] at e1 hne2
    rw [hS2] at e2 hne2
    clear hS1 hS2 h1 h2 h hne
    go_enter Try.func118, Try.ntmps118
    go_wp2
    go_ret
    exact ⟨ret_bool (by simp), rfl⟩

set_option maxHeartbeats 1000000 in
theorem rbeq_any {w : World} {B1 B2 c1 c2 : Nat} {A1 A2 : Option Addr} {l1 l2 : List Nat} (h1 : Byt w B1 A1 l1) (h2 : Byt w B2 A2 l2) :
    Calls Try.prog 59 #[.slice A1 l1.length c1, .slice A2 l2.length c2] w fun e w' => e = .returned (.bool (eqB l1 l2)) ∧ w = w' := by
  have e1 := conv_any h1 c1
  have e2 := conv_any h2 c2
  by_cases h : l1 = l2
  · have HR := Lib.hid (eqB_true h)
    subst h
    obtain ⟨L, hL⟩ : ∃ L, l1.length = L := ⟨_, rfl⟩
    obtain ⟨S, hS⟩ : ∃ S, strB l1 = S := ⟨_, rfl⟩
    rw [hL, hS] at e1 e2
    rw [hL, HR.out]
    clear hL hS h1 h2
    go_enter Try.func59, Try.ntmps59
    go_wp2
    go_ret
    exact ⟨ret_bool (by simp), rfl⟩
  · have HR := Lib.hid (eqB_false h)
    have hne : ¬ strB l1 = strB l2 := fun e => h (strB_inj h1.lt h2.lt e)
    have hne2 := str_ne hne
    rw [HR.out]
    obtain ⟨S1, hS1⟩ : ∃ S, strB l1 = S := ⟨_, rfl⟩
    obtain ⟨S2, hS2⟩ : ∃ S, strB l2 = S := ⟨_, rfl⟩
    rw [hS1] at e1 hne2
    rw [hS2] at e2 hne2
    clear hS1 hS2 h1 h2 h hne
    go_enter Try.func59, Try.ntmps59
    go_wp2
    go_ret
    exact ⟨ret_bool (by simp), rfl⟩

set_option maxHeartbeats 2000000 in
theorem nameq_any {w : World} {A1 A2 : Option Addr} {c1 c2 : Nat} {x y : Nam} (h1 : Byt w w.heap.size A1 x.addr) (h2 : Byt w w.heap.size A2 y.addr) :
    Calls Try.prog 112 #[.agg #[.slice A1 x.addr.length c1, .string x.text], .agg #[.slice A2 y.addr.length c2, .string y.text]] w fun e w' => e = .returned (.bool (eqB x y)) ∧ Below w.heap.size w w' := by
  by_cases ht : x.text = y.text
  · cases hb : eqB x.addr y.addr with
    | false =>
      have HR : Hid (eqB x y = false) := Lib.hid (eqB_false (fun e => by rw [e, eqB_true rfl] at hb; cases hb))
      have HQ := Lib.hid hb
      clear hb
      rw [ht]
      clear ht
      go_enter Try.func112, Try.ntmps112
      go_wp2_with fail
      refine (beq_any (((h1.below ((Below.refl _ _).alloc (Nat.le_refl _) _))).below ((Below.refl _ _).alloc (by rw [alloc_size]; omega) _)) (((h2.below ((Below.refl _ _).alloc (Nat.le_refl _) _))).below ((Below.refl _ _).alloc (by rw [alloc_size]; omega) _))).mono ?_
      rintro e w' ⟨rfl, rfl⟩
      rw [HQ.out]
      go_wp2
      go_ret
      exact ⟨ret_bool HR.out.symm, ((Below.refl _ _).alloc (Nat.le_refl _) _).alloc (by rw [alloc_size]; omega) _⟩
    | true =>
      have HR : Hid (eqB x y = true) := Lib.hid (eqB_true (by cases x; cases y; simp only at ht; rw [eqB_iff] at hb; simp only at hb; rw [ht, hb]))
      have HQ := Lib.hid hb
      clear hb
      rw [ht]
      clear ht
      go_enter Try.func112, Try.ntmps112
      go_wp2_with fail
      refine (beq_any (((h1.below ((Below.refl _ _).alloc (Nat.le_refl _) _))).below ((Below.refl _ _).alloc (by rw [alloc_size]; omega) _)) (((h2.below ((Below.refl _ _).alloc (Nat.le_refl _) _))).below ((Below.refl _ _).alloc (by rw [alloc_size]; omega) _))).mono ?_
      rintro e w' ⟨rfl, rfl⟩
      rw [HQ.out]
      go_wp2
      go_ret
      exact ⟨ret_bool HR.out.symm, ((Below.refl _ _).alloc (Nat.le_refl _) _).alloc (by rw [alloc_size]; omega) _⟩
  · have HR : Hid (eqB x y = false) := Lib.hid (eqB_false (fun e => ht (by rw [e])))
    have hne := str_ne ht
    clear ht
    go_enter Try.func112, Try.ntmps112
    go_wp2
    go_ret
    exact ⟨ret_bool HR.out.symm, ((Below.refl _ _).alloc (Nat.le_refl _) _).alloc (by rw [alloc_size]; omega) _⟩

set_option maxHeartbeats 2000000 in
theorem seceq_any {w : World} {A1 A2 : Option Addr} {c1 c2 : Nat} {x y : Sec} (h1 : Byt w w.heap.size A1 x.key) (h2 : Byt w w.heap.size A2 y.key) :
    Calls Try.prog 114 #[.agg #[.string x.label, .slice A1 x.key.length c1], .agg #[.string y.label, .slice A2 y.key.length c2]] w fun e w' => e = .returned (.bool (eqB x y)) ∧ Below w.heap.size w w' := by
  by_cases ht : x.label = y.label
  · cases hb : eqB x.key y.key with
    | false =>
      have HR : Hid (eqB x y = false) := Lib.hid (eqB_false (fun e => by rw [e, eqB_true rfl] at hb; cases hb))
      have HQ := Lib.hid hb
      clear hb
      rw [ht]
      clear ht
      go_enter Try.func114, Try.ntmps114
      go_wp2_with fail
      refine (beq_any (((h1.below ((Below.refl _ _).alloc (Nat.le_refl _) _))).below ((Below.refl _ _).alloc (by rw [alloc_size]; omega) _)) (((h2.below ((Below.refl _ _).alloc (Nat.le_refl _) _))).below ((Below.refl _ _).alloc (by rw [alloc_size]; omega) _))).mono ?_
      rintro e w' ⟨rfl, rfl⟩
      rw [HQ.out]
      go_wp2
      go_ret
      exact ⟨ret_bool HR.out.symm, ((Below.refl _ _).alloc (Nat.le_refl _) _).alloc (by rw [alloc_size]; omega) _⟩
    | true =>
      have HR : Hid (eqB x y = true) := Lib.hid (eqB_true (by cases x; cases y; simp only at ht; rw [eqB_iff] at hb; simp only at hb; rw [ht, hb]))
      have HQ := Lib.hid hb
      clear hb
      rw [ht]
      clear ht
      go_enter Try.func114, Try.ntmps114
      go_wp2_with fail
      refine (beq_any (((h1.below ((Below.refl _ _).alloc (Nat.le_refl _) _))).below ((Below.refl _ _).alloc (by rw [alloc_size]; omega) _)) (((h2.below ((Below.refl _ _).alloc (Nat.le_refl _) _))).below ((Below.refl _ _).alloc (by rw [alloc_size]; omega) _))).mono ?_
      rintro e w' ⟨rfl, rfl⟩
      rw [HQ.out]
      go_wp2
      go_ret
      exact ⟨ret_bool HR.out.symm, ((Below.refl _ _).alloc (Nat.le_refl _) _).alloc (by rw [alloc_size]; omega) _⟩
  · have HR : Hid (eqB x y = false) := Lib.hid (eqB_false (fun e => ht (by rw [e])))
    have hne := str_ne ht
    clear ht
    go_enter Try.func114, Try.ntmps114
    go_wp2
    go_ret
    exact ⟨ret_bool HR.out.symm, ((Below.refl _ _).alloc (Nat.le_refl _) _).alloc (by rw [alloc_size]; omega) _⟩

set_option maxRecDepth 100000 in
set_option maxHeartbeats 4000000 in
theorem pkteq_any {w : World} {A1 A2 : Option Addr} {c1 c2 : Nat} {x y : Pkt} (h1 : Byt w w.heap.size A1 x.data) (h2 : Byt w w.heap.size A2 y.data) :
    Calls Try.prog 116 #[.agg #[.int .i64 x.time, .int .i64 x.face, .int .i64 x.real, .slice A1 x.data.length c1, .string x.note], .agg #[.int .i64 y.time, .int .i64 y.face, .int .i64 y.real, .slice A2 y.data.length c2, .string y.note]] w fun e w' => e = .returned (.bool (eqB x y)) ∧ Below w.heap.size w w' := by
  by_cases htime : x.time = y.time
  rotate_left
  · have HR : Hid (eqB x y = false) := Lib.hid (eqB_false (fun e => htime (by rw [e])))
    have hne : (x.time == y.time) = false := by simpa using htime
    clear htime
    go_enter Try.func116, Try.ntmps116
    go_wp2
    go_ret
    exact ⟨ret_bool HR.out.symm, ((Below.refl _ _).alloc (Nat.le_refl _) _).alloc (by rw [alloc_size]; omega) _⟩
  have Etime := Lib.hid htime
  rw [htime]
  clear htime
  by_cases hface : x.face = y.face
  rotate_left
  · have HR : Hid (eqB x y = false) := Lib.hid (eqB_false (fun e => hface (by rw [e])))
    have hne : (x.face == y.face) = false := by simpa using hface
    clear hface
    go_enter Try.func116, Try.ntmps116
    go_wp2
    go_ret
    exact ⟨ret_bool HR.out.symm, ((Below.refl _ _).alloc (Nat.le_refl _) _).alloc (by rw [alloc_size]; omega) _⟩
  have Eface := Lib.hid hface
  rw [hface]
  clear hface
  by_cases hreal : x.real = y.real
  rotate_left
  · have HR : Hid (eqB x y = false) := Lib.hid (eqB_false (fun e => hreal (by rw [e])))
    have hne : (x.real == y.real) = false := by simpa using hreal
    clear hreal
    go_enter Try.func116, Try.ntmps116
    go_wp2
    go_ret
    exact ⟨ret_bool HR.out.symm, ((Below.refl _ _).alloc (Nat.le_refl _) _).alloc (by rw [alloc_size]; omega) _⟩
  have Ereal := Lib.hid hreal
  rw [hreal]
  clear hreal
  by_cases hnote : x.note = y.note
  rotate_left
  · have HR : Hid (eqB x y = false) := Lib.hid (eqB_false (fun e => hnote (by rw [e])))
    have hne := str_ne hnote
    clear hnote
    go_enter Try.func116, Try.ntmps116
    go_wp2
    go_ret
    exact ⟨ret_bool HR.out.symm, ((Below.refl _ _).alloc (Nat.le_refl _) _).alloc (by rw [alloc_size]; omega) _⟩
  have Enote := Lib.hid hnote
  rw [hnote]
  clear hnote
  cases hb : eqB x.data y.data with
  | false =>
    have HR : Hid (eqB x y = false) := Lib.hid (eqB_false (fun e => by rw [e, eqB_true rfl] at hb; cases hb))
    have HQ := Lib.hid hb
    clear hb
    go_enter Try.func116, Try.ntmps116
    go_wp2_with fail
    refine (beq_any (((h1.below ((Below.refl _ _).alloc (Nat.le_refl _) _))).below ((Below.refl _ _).alloc (by rw [alloc_size]; omega) _)) (((h2.below ((Below.refl _ _).alloc (Nat.le_refl _) _))).below ((Below.refl _ _).alloc (by rw [alloc_size]; omega) _))).mono ?_
    rintro e w' ⟨rfl, rfl⟩
    rw [HQ.out]
    go_wp2
    go_ret
    exact ⟨ret_bool HR.out.symm, ((Below.refl _ _).alloc (Nat.le_refl _) _).alloc (by rw [alloc_size]; omega) _⟩
  | true =>
    have HR : Hid (eqB x y = true) := Lib.hid (eqB_true (by have a1 := Etime.out; have a2 := Eface.out; have a3 := Ereal.out; have a4 := Enote.out; cases x; cases y; simp only at a1 a2 a3 a4; rw [eqB_iff] at hb; simp only at hb; rw [a1, a2, a3, a4, hb]))
    have HQ := Lib.hid hb
    clear hb
    go_enter Try.func116, Try.ntmps116
    go_wp2_with fail
    refine (beq_any (((h1.below ((Below.refl _ _).alloc (Nat.le_refl _) _))).below ((Below.refl _ _).alloc (by rw [alloc_size]; omega) _)) (((h2.below ((Below.refl _ _).alloc (Nat.le_refl _) _))).below ((Below.refl _ _).alloc (by rw [alloc_size]; omega) _))).mono ?_
    rintro e w' ⟨rfl, rfl⟩
    rw [HQ.out]
    go_wp2
    go_ret
    exact ⟨ret_bool HR.out.symm, ((Below.refl _ _).alloc (Nat.le_refl _) _).alloc (by rw [alloc_size]; omega) _⟩

set_option maxRecDepth 100000 in
set_option maxHeartbeats 4000000 in
theorem rpkteq_any {w : World} {A1 A2 : Option Addr} {c1 c2 : Nat} {x y : Pkt} (h1 : Byt w w.heap.size A1 x.data) (h2 : Byt w w.heap.size A2 y.data) :
    Calls Try.prog 60 #[.agg #[.int .i64 x.time, .int .i64 x.face, .int .i64 x.real, .slice A1 x.data.length c1, .string x.note], .agg #[.int .i64 y.time, .int .i64 y.face, .int .i64 y.real, .slice A2 y.data.length c2, .string y.note]] w fun e w' => e = .returned (.bool (eqB x y)) ∧ Below w.heap.size w w' := by
  by_cases htime : x.time = y.time
  rotate_left
  · have HR : Hid (eqB x y = false) := Lib.hid (eqB_false (fun e => htime (by rw [e])))
    have hne : (x.time == y.time) = false := by simpa using htime
    clear htime
    go_enter Try.func60, Try.ntmps60
    go_wp2
    go_ret
    exact ⟨ret_bool HR.out.symm, ((Below.refl _ _).alloc (Nat.le_refl _) _).alloc (by rw [alloc_size]; omega) _⟩
  have Etime := Lib.hid htime
  rw [htime]
  clear htime
  by_cases hface : x.face = y.face
  rotate_left
  · have HR : Hid (eqB x y = false) := Lib.hid (eqB_false (fun e => hface (by rw [e])))
    have hne : (x.face == y.face) = false := by simpa using hface
    clear hface
    go_enter Try.func60, Try.ntmps60
    go_wp2
    go_ret
    exact ⟨ret_bool HR.out.symm, ((Below.refl _ _).alloc (Nat.le_refl _) _).alloc (by rw [alloc_size]; omega) _⟩
  have Eface := Lib.hid hface
  rw [hface]
  clear hface
  by_cases hreal : x.real = y.real
  rotate_left
  · have HR : Hid (eqB x y = false) := Lib.hid (eqB_false (fun e => hreal (by rw [e])))
    have hne : (x.real == y.real) = false := by simpa using hreal
    clear hreal
    go_enter Try.func60, Try.ntmps60
    go_wp2
    go_ret
    exact ⟨ret_bool HR.out.symm, ((Below.refl _ _).alloc (Nat.le_refl _) _).alloc (by rw [alloc_size]; omega) _⟩
  have Ereal := Lib.hid hreal
  rw [hreal]
  clear hreal
  by_cases hnote : x.note = y.note
  rotate_left
  · have HR : Hid (eqB x y = false) := Lib.hid (eqB_false (fun e => hnote (by rw [e])))
    have hne := str_ne hnote
    clear hnote
    go_enter Try.func60, Try.ntmps60
    go_wp2
    go_ret
    exact ⟨ret_bool HR.out.symm, ((Below.refl _ _).alloc (Nat.le_refl _) _).alloc (by rw [alloc_size]; omega) _⟩
  have Enote := Lib.hid hnote
  rw [hnote]
  clear hnote
  cases hb : eqB x.data y.data with
  | false =>
    have HR : Hid (eqB x y = false) := Lib.hid (eqB_false (fun e => by rw [e, eqB_true rfl] at hb; cases hb))
    have HQ := Lib.hid hb
    clear hb
    go_enter Try.func60, Try.ntmps60
    go_wp2_with fail
    refine (rbeq_any (((h1.below ((Below.refl _ _).alloc (Nat.le_refl _) _))).below ((Below.refl _ _).alloc (by rw [alloc_size]; omega) _)) (((h2.below ((Below.refl _ _).alloc (Nat.le_refl _) _))).below ((Below.refl _ _).alloc (by rw [alloc_size]; omega) _))).mono ?_
    rintro e w' ⟨rfl, rfl⟩
    rw [HQ.out]
    go_wp2
    go_ret
    exact ⟨ret_bool HR.out.symm, ((Below.refl _ _).alloc (Nat.le_refl _) _).alloc (by rw [alloc_size]; omega) _⟩
  | true =>
    have HR : Hid (eqB x y = true) := Lib.hid (eqB_true (by have a1 := Etime.out; have a2 := Eface.out; have a3 := Ereal.out; have a4 := Enote.out; cases x; cases y; simp only at a1 a2 a3 a4; rw [eqB_iff] at hb; simp only at hb; rw [a1, a2, a3, a4, hb]))
    have HQ := Lib.hid hb
    clear hb
    go_enter Try.func60, Try.ntmps60
    go_wp2_with fail
    refine (rbeq_any (((h1.below ((Below.refl _ _).alloc (Nat.le_refl _) _))).below ((Below.refl _ _).alloc (by rw [alloc_size]; omega) _)) (((h2.below ((Below.refl _ _).alloc (Nat.le_refl _) _))).below ((Below.refl _ _).alloc (by rw [alloc_size]; omega) _))).mono ?_
    rintro e w' ⟨rfl, rfl⟩
    rw [HQ.out]
    go_wp2
    go_ret
    exact ⟨ret_bool HR.out.symm, ((Below.refl _ _).alloc (Nat.le_refl _) _).alloc (by rw [alloc_size]; omega) _⟩
end Go.Proofs.Ytghdilmlfficlaa
