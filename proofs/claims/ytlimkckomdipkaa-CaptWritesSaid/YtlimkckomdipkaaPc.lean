/- The number that bytes are, in either order. Nothing of the program is named here. -/
import Derived.Laws.BitsAllLaws
import Derived.Laws.BitsLemmas
import Derived.Test.YtlimkckomdipkaaAdd
import Derived.Test.YtlimkckomdipkaaSet
import Derived.Shelf.Bytes.SlCountOne
import Derived.Laws.Externs
import Derived.Test.YtlimkckomdipkaaBody
import Derived.Test.YtlimkckomdipkaaCopyR
namespace Go.Proofs.Ytlimkckomdipkaa
open Go.RowKit

theorem ofInt64 (a : Nat) (ha : a < 9223372036854775808) : (BitVec.ofInt 64 (a : Int)).toNat = a := by
  rw [BitVec.ofInt_natCast, BitVec.toNat_ofNat]; exact Nat.mod_eq_of_lt (by omega)
theorem or64_nat (a b : Nat) (ha : a < 9223372036854775808) (hb : b < 9223372036854775808) : bits .or .i64 (a : Int) (b : Int) = ((a ||| b : Nat) : Int) := by
  have hx : a ||| b < 2 ^ 63 := Nat.or_lt_two_pow (by omega) (by omega)
  show IntKind.i64.wrap ((BitVec.ofInt 64 (a : Int) ||| BitVec.ofInt 64 (b : Int)).toNat : Int) = _
  rw [BitVec.toNat_or, ofInt64 a ha, ofInt64 b hb, IntKind.wrap_i64]
  omega
theorem nat_join (j a b : Nat) (ha : a % 2 ^ j = 0) (hb : b < 2 ^ j) : a ||| b = a + b := by
  obtain ⟨q, rfl⟩ : ∃ q, a = 2 ^ j * q := ⟨a / 2 ^ j, by have := Nat.div_add_mod a (2 ^ j); omega⟩
  rw [Nat.two_pow_add_eq_or_of_lt hb]
/-- Numbers that share no bit are added by 'or'. -/
theorem or64_join (x y : Int) (j : Nat) (h0 : 0 ≤ x) (hx : x % 2 ^ j = 0) (y0 : 0 ≤ y) (hy : y < 2 ^ j) (hs : x + y < 9223372036854775808) : bits .or .i64 x y = x + y := by
  have e : (2 : Int) ^ j = ((2 ^ j : Nat) : Int) := by simp
  rw [e] at hx hy
  obtain ⟨a, rfl⟩ := Int.eq_ofNat_of_zero_le h0
  obtain ⟨b, rfl⟩ := Int.eq_ofNat_of_zero_le y0
  rw [or64_nat a b (by omega) (by omega), nat_join j a b (by exact_mod_cast hx) (by exact_mod_cast hy)]
  simp
theorem or64_join' (x y : Int) (j : Nat) (h0 : 0 ≤ x) (hx : x < 2 ^ j) (y0 : 0 ≤ y) (hy : y % 2 ^ j = 0) (hs : x + y < 9223372036854775808) : bits .or .i64 x y = x + y := by
  have e : (2 : Int) ^ j = ((2 ^ j : Nat) : Int) := by simp
  rw [e] at hx hy
  obtain ⟨a, rfl⟩ := Int.eq_ofNat_of_zero_le h0
  obtain ⟨b, rfl⟩ := Int.eq_ofNat_of_zero_le y0
  rw [or64_nat a b (by omega) (by omega), Nat.or_comm, nat_join j b a (by exact_mod_cast hy) (by exact_mod_cast hx)]
  simp; omega

/-- The number of bytes, the high one first. -/
def beL (l : List Nat) : Nat := l.foldl (fun a x => a * 256 + x) 0
theorem beL_snoc (l : List Nat) (x : Nat) : beL (l ++ [x]) = beL l * 256 + x := by simp [beL]
/-- The number of bytes, the low one first. -/
def leL : List Nat → Nat
  | [] => 0
  | x :: l => x + 256 * leL l
theorem leL_snoc (x : Nat) : ∀ l : List Nat, leL (l ++ [x]) = leL l + 256 ^ l.length * x
  | [] => by simp [leL]
  | y :: l => by
    rw [List.cons_append, leL, leL, leL_snoc x l, List.length_cons, Nat.pow_succ, Nat.mul_add]
    rw [show 256 ^ l.length * 256 * x = 256 * (256 ^ l.length * x) by rw [Nat.mul_comm (256 ^ l.length) 256, Nat.mul_assoc]]
    omega
theorem leL_rev (l : List Nat) : leL l = beL l.reverse := by
  induction l with
  | nil => rfl
  | cons x l ih => rw [leL, List.reverse_cons, beL_snoc, ← ih]; omega
theorem beL_lt {l : List Nat} (h : ∀ x ∈ l, x < 256) : beL l < 256 ^ l.length := by
  have key : ∀ l : List Nat, (∀ x ∈ l, x < 256) → leL l < 256 ^ l.length := by
    intro l
    induction l with
    | nil => intro _; simp [leL]
    | cons x l ih =>
      intro h
      have h1 := ih (fun y hy => h y (by simp [hy]))
      have h2 := h x (by simp)
      rw [leL, List.length_cons, Nat.pow_succ]
      omega
  have h2 := key l.reverse (fun x hx => h x (by simpa using hx))
  rw [leL_rev, List.reverse_reverse, List.length_reverse] at h2
  exact h2
def numL (low : Bool) (l : List Nat) : Nat := if low then leL l else beL l
theorem numL_lt {low : Bool} {l : List Nat} (h : ∀ x ∈ l, x < 256) : numL low l < 256 ^ l.length := by
  cases low with
  | false => exact beL_lt h
  | true =>
    show leL l < _
    rw [leL_rev]
    have h2 := beL_lt (l := l.reverse) (fun x hx => h x (by simpa using hx))
    rwa [List.length_reverse] at h2
theorem leL_bytes (v : Nat) : ∀ n, leL ((List.range n).map (byN v)) = v % 256 ^ n
  | 0 => by simp [leL, Nat.mod_one]
  | n + 1 => by
    rw [List.range_succ, List.map_append, List.map_singleton, leL_snoc, leL_bytes v n, List.length_map, List.length_range]
    show v % 256 ^ n + 256 ^ n * (v / 256 ^ n % 256) = v % 256 ^ (n + 1)
    rw [Nat.pow_succ, Nat.mod_mul]
/-- What is read of what was written. -/
theorem numL_numB (low : Bool) (n v : Nat) : numL low (numB low n v) = v % 256 ^ n := by
  cases low with
  | true =>
    show leL ((List.range n).map (byN v)) = _
    exact leL_bytes v n
  | false =>
    show beL (((List.range n).map (byN v)).reverse) = _
    rw [← leL_rev]
    exact leL_bytes v n
end Go.Proofs.Ytlimkckomdipkaa
/- get, of either order. -/
namespace Go.Proofs.Ytlimkckomdipkaa
open Go.RowKit

theorem take_at8 (bs : List Nat) (k : Nat) (h : k < bs.length) : bs.take (k + 1) = bs.take k ++ [at8 bs k] := by
  rw [List.take_succ_eq_append_getElem h, at8_eq bs k h]

set_option maxHeartbeats 2000000 in
theorem gethigh_any {w : World} {A : Option Addr} {c : Nat} {bs : List Nat} (hm : Byt w w.heap.size A bs) (h4 : bs.length ≤ 4) :
    Calls Try.prog 116 #[.agg #[], .slice A bs.length c] w fun e w' => e = .returned (.int .i64 (numL false bs : Nat)) ∧ Below w.heap.size w w' := by
  obtain ⟨L, hL⟩ : ∃ L, bs.length = L := ⟨_, rfl⟩
  have HL := Lib.hid hL
  have hlt := Lib.hid hm.lt
  obtain ⟨W0, hW0⟩ : ∃ W0, w.alloc (.cells #[] 97) = W0 := ⟨_, rfl⟩
  have HB : Hid (Below w.heap.size w W0) := Lib.hid (by rw [← hW0]; exact (Below.refl _ _).alloc (Nat.le_refl _) _)
  have HM := Lib.hid (hm.below HB.out)
  rw [hL] at h4 ⊢
  clear hL hm
  go_enter Try.func116, Try.ntmps116
  go_wp2
  go_loop [5, 10] (fun v i => ∃ k V : Nat, k ≤ L ∧ i = .int .i64 k ∧ v = .int .i64 V ∧ V < 256 ^ k ∧ Hid (V = beL (bs.take k))) (fun _ i => L - (intOf i).toNat)
  case atStart => exact ⟨0, 0, Nat.zero_le _, rfl, rfl, by decide, Lib.hid rfl⟩
  case round =>
    obtain ⟨k, V, hk, rfl, rfl, hV, HV⟩ := hrel
    by_cases hlk : k < L
    · obtain ⟨b, o, rfl, hbb, hcc⟩ := HM.out.cells (by rw [HL.out]; omega)
      have hck := hcc k (by rw [HL.out]; exact hlk)
      have hx := at8_lt hlt.out k
      have HT := Lib.hid (take_at8 bs k (by rw [HL.out]; exact hlk))
      obtain ⟨x, hX⟩ : ∃ x, at8 bs k = x := ⟨_, rfl⟩
      rw [hX] at hck hx HT
      clear hX hcc
      have hp6 : 256 ^ k ≤ 256 ^ 3 := Nat.pow_le_pow_right (by decide) (by omega)
      have hV2 : V < 281474976710656 := Nat.lt_of_lt_of_le hV (Nat.le_trans hp6 (by decide))
      have HO3 : Hid (V * 256 + x < 256 ^ (k + 1)) := Lib.hid (by rw [Nat.pow_succ]; omega)
      clear hp6 hV
      have hj := or64_join ((V : Int) * 256) x 8 (by omega) (by omega) (by omega) (by omega) (by omega)
      go_wp2
      go_round
      case rel => exact ⟨k + 1, V * 256 + x, by omega, by go_num, by go_num, HO3.out, Lib.hid (by rw [HT.out, beL_snoc, ← HV.out])⟩
      case measure => simp [intOf]; omega
    · have HF : Hid (V = beL bs) := Lib.hid (by rw [HV.out, List.take_of_length_le (by rw [HL.out]; omega)])
      go_wp2
      go_ret
      exact ⟨ret_int (by rw [HF.out]; rfl), HB.out⟩

set_option maxHeartbeats 2000000 in
theorem getlow_any {w : World} {A : Option Addr} {c : Nat} {bs : List Nat} (hm : Byt w w.heap.size A bs) (h4 : bs.length ≤ 4) :
    Calls Try.prog 114 #[.agg #[], .slice A bs.length c] w fun e w' => e = .returned (.int .i64 (numL true bs : Nat)) ∧ Below w.heap.size w w' := by
  obtain ⟨L, hL⟩ : ∃ L, bs.length = L := ⟨_, rfl⟩
  have HL := Lib.hid hL
  have hlt := Lib.hid hm.lt
  obtain ⟨W0, hW0⟩ : ∃ W0, w.alloc (.cells #[] 96) = W0 := ⟨_, rfl⟩
  have HB : Hid (Below w.heap.size w W0) := Lib.hid (by rw [← hW0]; exact (Below.refl _ _).alloc (Nat.le_refl _) _)
  have HM := Lib.hid (hm.below HB.out)
  rw [hL] at h4 ⊢
  clear hL hm
  go_enter Try.func114, Try.ntmps114
  go_wp2
  go_loop [5, 10] (fun v i => ∃ k V : Nat, k ≤ L ∧ i = .int .i64 k ∧ v = .int .i64 V ∧ V < 256 ^ k ∧ Hid (V = leL (bs.take k))) (fun _ i => L - (intOf i).toNat)
  case atStart => exact ⟨0, 0, Nat.zero_le _, rfl, rfl, by decide, Lib.hid rfl⟩
  case round =>
    obtain ⟨k, V, hk, rfl, rfl, hV, HV⟩ := hrel
    by_cases hlk : k < L
    · obtain ⟨b, o, rfl, hbb, hcc⟩ := HM.out.cells (by rw [HL.out]; omega)
      have hck := hcc k (by rw [HL.out]; exact hlk)
      have hx := at8_lt hlt.out k
      have HT := Lib.hid (take_at8 bs k (by rw [HL.out]; exact hlk))
      have HTL : Hid ((bs.take k).length = k) := Lib.hid (by rw [List.length_take, HL.out]; omega)
      obtain ⟨x, hX⟩ : ∃ x, at8 bs k = x := ⟨_, rfl⟩
      rw [hX] at hck hx HT
      clear hX hcc
      have HS : Hid (leL (bs.take (k + 1)) = V + 256 ^ k * x) := Lib.hid (by rw [HT.out, leL_snoc, ← HV.out, HTL.out])
      have HO3 : Hid (V + 256 ^ k * x < 256 ^ (k + 1)) := Lib.hid (by
        rw [Nat.pow_succ]
        have : 256 ^ k * x ≤ 256 ^ k * 255 := Nat.mul_le_mul_left _ (by omega)
        omega)
      have hk4 : k = 0 ∨ k = 1 ∨ k = 2 ∨ k = 3 := by omega
      rcases hk4 with rfl | rfl | rfl | rfl
      · have hck0 : W0.cell? ⟨b, o, none⟩ = some (.int .u8 (x : Nat)) := hck
        have hj := or64_join' (V : Int) x 0 (by omega) (by have h : V < 1 := hV; omega) (by omega) (by omega) (by omega)
        clear hV
        go_wp2
        go_round
        case rel => exact ⟨1, V + 256 ^ 0 * x, by omega, by go_num, by simp, HO3.out, Lib.hid HS.out.symm⟩
        case measure => simp [intOf]; omega
      · have hj := or64_join' (V : Int) (x * 256) 8 (by omega) (by have h : V < 256 := hV; omega) (by omega) (by omega) (by omega)
        clear hV
        go_wp2
        go_round
        case rel => exact ⟨2, V + 256 ^ 1 * x, by omega, by go_num, by simp; omega, HO3.out, Lib.hid HS.out.symm⟩
        case measure => simp [intOf]; omega
      · have hj := or64_join' (V : Int) (x * 65536) 16 (by omega) (by have h : V < 65536 := hV; omega) (by omega) (by omega) (by omega)
        clear hV
        go_wp2
        go_round
        case rel => exact ⟨3, V + 256 ^ 2 * x, by omega, by go_num, by simp; omega, HO3.out, Lib.hid HS.out.symm⟩
        case measure => simp [intOf]; omega
      · have hj := or64_join' (V : Int) (x * 16777216) 24 (by omega) (by have h : V < 16777216 := hV; omega) (by omega) (by omega) (by omega)
        clear hV
        go_wp2
        go_round
        case rel => exact ⟨4, V + 256 ^ 3 * x, by omega, by go_num, by simp; omega, HO3.out, Lib.hid HS.out.symm⟩
        case measure => simp [intOf]; omega
    · have HF : Hid (V = leL bs) := Lib.hid (by rw [HV.out, List.take_of_length_le (by rw [HL.out]; omega)])
      go_wp2
      go_ret
      exact ⟨ret_int (by rw [HF.out]; rfl), HB.out⟩
end Go.Proofs.Ytlimkckomdipkaa
/- bytes.Count of zeros; bytes that are filled up. -/
namespace Go.Proofs.Ytlimkckomdipkaa
open Go.RowKit

theorem count_zeros (k : Nat) : Lib.countByte (Lib.bytesOf (List.replicate k (0 : Int))) ((0 : Int).toNat.toUInt8) = k := by
  have e : Lib.bytesOf (List.replicate k (0 : Int)) = List.replicate k (0 : UInt8) := by
    induction k with
    | zero => rfl
    | succ n ih => rw [List.replicate_succ, List.replicate_succ, ← ih]; rfl
  rw [e]
  unfold Lib.countByte
  exact List.count_replicate_self
set_option maxRecDepth 100000 in
set_option maxHeartbeats 2000000 in
theorem count_any {w : World} {a : Addr} {k c b2 o2 d : Nat} (hc : ∀ i, i < k → w.cell? (a.add i) = some (.int .u8 0)) (hc2 : w.cell? ⟨b2, o2, none⟩ = some (.int .u8 0)) :
    Calls Try.prog 88 #[.slice (some a) k c, .slice (some ⟨b2, o2, none⟩) 1 d] w fun e w' => e = .returned (.int .i64 (k : Nat)) ∧ w = w' := by
  have hrun : (callFunc 90 #[.slice (some a) k c, .int .u8 0]).run Try.prog w = .ok (.value (.int .i64 (k : Nat))) w := by
    rw [run_callFunc_extern Try.func90 (by kernel_rfl) (by kernel_rfl) (by kernel_rfl) (e := Extern.BytealgCount.count) (by kernel_rfl)]
    rw [Lib.run_countAt w a k c (List.replicate k 0) (by simp) (fun i hi => by rw [hc i hi]; simp [List.getD, hi]) 0, count_zeros]
    rfl
  go_enter Try.func88, Try.ntmps88
  go_wp2
  go_ret
  exact ⟨rfl, rfl⟩

set_option maxRecDepth 100000 in
set_option maxHeartbeats 2000000 in
theorem filled_any {w : World} {b o L c n : Nat} (hn : n + padN n ≤ L) (hL : L < c) (hL2 : L ≤ 200000) (hz : ∀ i, i < padN n → w.cell? ⟨b, o + n + i, none⟩ = some (.int .u8 0)) :
    Calls Try.prog 87 #[.slice (some ⟨b, o, none⟩) L c, .int .i64 n] w fun e w' => e = .returned (.tuple #[.slice (some ⟨b, o, none⟩) n c, .slice (some ⟨b, o + (n + padN n), none⟩) (L - (n + padN n)) (c - (n + padN n)), .bool true]) ∧ Below w.heap.size w w' := by
  obtain ⟨W0, hW0⟩ : ∃ W0, w.alloc (.cells #[.int .u8 0] 5) = W0 := ⟨_, rfl⟩
  have hB : Below w.heap.size w W0 := by rw [← hW0]; exact (Below.refl _ _).alloc (Nat.le_refl _) _
  have HB := Lib.hid hB
  have hk0 : Blk W0 w.heap.size 5 #[.int .u8 0] := by rw [← hW0]; exact Blk.new _ _ _
  have HC := Lib.hid (count_any (w := W0) (a := ⟨b, o + n, none⟩) (k := padN n) (c := c - n) (b2 := w.heap.size) (o2 := 0) (d := 1) (fun i hi => by
    rw [Go.WideShapes.add_plain, ← hW0]
    exact (World.cell?_alloc_lt _ _ _ (World.block_lt_of_cell? w _ (hz i hi))).trans (hz i hi)) (hk0.cell 0))
  have HP := Lib.hid (padding_any n w (by omega))
  obtain ⟨P, hP⟩ : ∃ P, padN n = P := ⟨_, rfl⟩
  rw [hP] at HC HP hn ⊢
  have e1 : n + P - n = P := by omega
  clear hB hk0 hz hP
  have h1 : (0 : Int) ≤ (n : Int) := by omega
  have h2 : (n : Int) ≤ (n : Int) + P := by omega
  have h3 : (n : Int) + P ≤ (L : Int) := by omega
  have h4 : (n : Int) + P ≤ (c : Int) := by omega
  go_enter Try.func87, Try.ntmps87
  go_wp2_with (first | (go_at_call 78; ((with_reducible refine HP.out.mono ?_); rintro e w' ⟨rfl, rfl⟩)))
  refine HC.out.mono ?_
  rintro e w1 ⟨rfl, rfl⟩
  clear hW0
  have e2 : (n : Int) + (P : Int) - (n : Int) = (P : Int) := by omega
  have e3 : ((P : Int) != (P : Int)) = false := by simp
  have e4 : decide ((L : Int) < (n : Int) + (P : Int)) = false := by simp; omega
  go_wp2_with fail
  go_quiet (fail)
  go_wp2
  go_ret3
  exact ⟨rfl, below_drewN HB.out _⟩
end Go.Proofs.Ytlimkckomdipkaa
/- Pieces of bytes in memory, and the numbers that are read of them. -/
namespace Go.Proofs.Ytlimkckomdipkaa
open Go.RowKit

/-- The bytes l lie at the place o of block b. -/
structure Pc (w : World) (b o : Nat) (l : List Nat) : Prop where
  lt : ∀ x ∈ l, x < 256
  cells : ∀ k, k < l.length → w.cell? ⟨b, o + k, none⟩ = some (.int .u8 (at8 l k : Nat))
section
variable {w w' : World} {b o : Nat} {l l1 l2 : List Nat}
theorem Pc.left (h : Pc w b o (l1 ++ l2)) : Pc w b o l1 :=
  ⟨fun x hx => h.lt x (List.mem_append_left _ hx), fun k hk => by
    have := h.cells k (by rw [List.length_append]; omega)
    rw [this]
    unfold at8
    rw [List.getElem?_append_left hk]⟩
theorem Pc.right (h : Pc w b o (l1 ++ l2)) : Pc w b (o + l1.length) l2 :=
  ⟨fun x hx => h.lt x (List.mem_append_right _ hx), fun k hk => by
    have := h.cells (l1.length + k) (by rw [List.length_append]; omega)
    rw [Nat.add_assoc, this]
    unfold at8
    rw [List.getElem?_append_right (by omega), Nat.add_sub_cancel_left]⟩
theorem Pc.below {B : Nat} (h : Pc w b o l) (hb : Below B w w') (hB : b < B) : Pc w' b o l := ⟨h.lt, fun k hk => (hb.cell (p := ⟨b, o + k, none⟩) hB).trans (h.cells k hk)⟩
theorem Pc.byt {B : Nat} (h : Pc w b o l) (hB : b < B) : Byt w B (some ⟨b, o, none⟩) l := ⟨h.lt, fun _ => ⟨b, o, rfl, hB, h.cells⟩⟩
theorem Pc.byc {B c : Nat} (h : Pc w b o l) (hB : b < B) (hc : l.length ≤ c) (hl : l.length ≤ 140737488355328) : Byc w B (some ⟨b, o, none⟩) l c := ⟨h.byt hB, hc, hl, fun e => by cases e⟩
theorem Pc.at_ {o' : Nat} (h : Pc w b o l) (e : o = o') : Pc w b o' l := by subst e; exact h
theorem Pc.of_eq {l' : List Nat} (h : Pc w b o l) (e : l = l') : Pc w b o l' := by subst e; exact h
end
theorem numB_len2 (low : Bool) (n v : Nat) : (numB low n v).length = n := by cases low <;> simp [numB]
abbrev getF (low : Bool) : Nat := if low then 114 else 116
/-- The number at a place. -/
theorem get_at (low : Bool) {w : World} {b o n v c : Nat} (h : Pc w b o (numB low n v)) (hn : n ≤ 4) (hb : b < w.heap.size) :
    Calls Try.prog (getF low) #[.agg #[], .slice (some ⟨b, o, none⟩) n c] w fun e w' => e = .returned (.int .i64 ((v % 256 ^ n : Nat) : Int)) ∧ Below w.heap.size w w' := by
  have hl := numB_len2 low n v
  cases low with
  | true =>
    have h2 := getlow_any (c := c) (h.byt (B := w.heap.size) hb) (by omega)
    rw [hl, numL_numB] at h2
    exact h2
  | false =>
    have h2 := gethigh_any (c := c) (h.byt (B := w.heap.size) hb) (by omega)
    rw [hl, numL_numB] at h2
    exact h2
/-- The number at a place that holds a small one. -/
theorem get_small (low : Bool) {w : World} {b o n v c : Nat} (h : Pc w b o (numB low n v)) (hn : n ≤ 4) (hb : b < w.heap.size) (hv : v < 256 ^ n) :
    Calls Try.prog (getF low) #[.agg #[], .slice (some ⟨b, o, none⟩) n c] w fun e w' => e = .returned (.int .i64 (v : Int)) ∧ Below w.heap.size w w' := by
  have h2 := get_at (c := c) low h hn hb
  rw [Nat.mod_eq_of_lt hv] at h2
  exact h2
theorem get_true {w : World} {b o n v c : Nat} (h : Pc w b o (numB true n v)) (hn : n ≤ 4) (hb : b < w.heap.size) (hv : v < 256 ^ n) :
    Calls Try.prog 114 #[.agg #[], .slice (some ⟨b, o, none⟩) n c] w fun e w' => e = .returned (.int .i64 (v : Int)) ∧ Below w.heap.size w w' := get_small true h hn hb hv
theorem get_false {w : World} {b o n v c : Nat} (h : Pc w b o (numB false n v)) (hn : n ≤ 4) (hb : b < w.heap.size) (hv : v < 256 ^ n) :
    Calls Try.prog 116 #[.agg #[], .slice (some ⟨b, o, none⟩) n c] w fun e w' => e = .returned (.int .i64 (v : Int)) ∧ Below w.heap.size w w' := get_small false h hn hb hv
theorem numsB_one (low : Bool) (n v : Nat) : numsB low n [v] = numB low n v := by simp [numsB]
theorem numsB_cons (low : Bool) (n v : Nat) (vs : List Nat) : numsB low n (v :: vs) = numB low n v ++ numsB low n vs := by simp [numsB]
end Go.Proofs.Ytlimkckomdipkaa
