/- padding, fill, addOption, addBlock. -/
import Derived.Test.YtlimkckomdipkaaAdd
import Derived.Test.YtlimkckomdipkaaEq
namespace Go.Proofs.Ytlimkckomdipkaa
open Go.RowKit

/-- How many bytes n ones lack of a multiple of 4. -/
def padN (n : Nat) : Nat := (4 - n % 4) % 4
theorem padN_le (n : Nat) : padN n ≤ 3 := by unfold padN; omega

set_option maxHeartbeats 400000 in
theorem padding_any (n : Nat) (w : World) (hn : n ≤ 2000000000) :
    Calls Try.prog 78 #[.int .i64 n] w fun e w' => e = .returned (.int .i64 (padN n : Nat)) ∧ w = w' := by
  have HP : Hid (((padN n : Nat) : Int) = (4 - (n : Int) % 4) % 4) := Lib.hid (by unfold padN; omega)
  go_enter Try.func78, Try.ntmps78
  go_wp2
  go_ret
  exact ⟨ret_int HP.out.symm, rfl⟩

def padB (n : Nat) : List Nat := List.replicate (padN n) 0
theorem padB_len (n : Nat) : (padB n).length = padN n := by simp [padB]

theorem own_form {w : World} {base : Nat} {v : Value} {bs : List Nat} (h : w.ownsRow base 5 1 v bs.length (bs.map u8)) : ∃ A c, v = .slice A bs.length c := by
  rcases h.2 with ⟨rfl, e⟩ | ⟨g, cap, _, rfl, _⟩
  · exact ⟨none, 0, by rw [e]⟩
  · exact ⟨_, _, rfl⟩

set_option maxHeartbeats 1000000 in
theorem fill_any {w : World} {base : Nat} {v : Value} {bs : List Nat} (hown : w.ownsRow base 5 1 v bs.length (bs.map u8)) (hbase : base ≤ w.heap.size) (hl : bs.length ≤ 1000000000) :
    Calls Try.prog 73 #[v] w (AppPost w base v bs (padB bs.length)) := by
  obtain ⟨A, c, hv⟩ := own_form hown
  have hp := padN_le bs.length
  obtain ⟨v2, w2, hrun, hA⟩ := run_own_zeros w base v bs hown (padN bs.length) (by omega) hl hbase
  have HA : Hid (App w base v bs (padB bs.length) v2 w2) := Lib.hid hA
  have HPD := Lib.hid (padding_any bs.length w (by omega))
  subst hv
  obtain ⟨L, hL⟩ : ∃ L, bs.length = L := ⟨_, rfl⟩
  rw [hL] at hrun HPD HA ⊢
  obtain ⟨q, hq⟩ : ∃ q, padN L = q := ⟨_, rfl⟩
  rw [hq] at hrun HPD
  clear hown hA hL hq hp
  go_enter Try.func73, Try.ntmps73
  go_wp2_with fail
  refine HPD.out.mono ?_
  rintro e w' ⟨rfl, rfl⟩
  go_wp2_with (at_builtin; refine Lib.wpList_append_run _ rfl _ _ _ _ rfl _ _ rfl rfl _ _ hrun ?_)
  go_ret
  exact ⟨_, rfl, HA.out⟩

/-- What addOption appends. -/
def optB (low : Bool) (code : Nat) (L : Nat) (s : ByteArray) : List Nat :=
  if s.size = 0 then [] else numsB low 2 [code, s.size] ++ (strL s ++ (padB (L + 4 + s.size) ++ numsB low 2 [0, 0]))

theorem empty_toList {s : ByteArray} (h : s.size = 0) : s.toList = [] := by
  rw [ByteArray.toList_eq]
  exact List.eq_nil_of_length_eq_zero (by rw [Array.length_toList]; exact h)

set_option maxRecDepth 100000 in
set_option maxHeartbeats 4000000 in
theorem option_any {w : World} {base : Nat} {v : Value} {bs : List Nat} (low : Bool) (code : Nat) (s : ByteArray) (hown : w.ownsRow base 5 1 v bs.length (bs.map u8)) (hbase : base ≤ w.heap.size) (hl : bs.length ≤ 900000000) (hs : s.size ≤ 1000) :
    Calls Try.prog 58 #[v, ordV low, .int .i64 code, .string s] w (AppPost w base v bs (optB low code bs.length s)) := by
  obtain ⟨O, hO⟩ : ∃ O, ordV low = O := ⟨_, rfl⟩
  by_cases h0 : s.size = 0
  · have HNEW : Hid (App w base v bs (optB low code bs.length s) v w) := Lib.hid (by
      unfold optB; rw [if_pos h0]
      exact ⟨by simpa using hown, ⟨rfl, rfl, rfl, Nat.le_refl _, fun _ _ _ => rfl⟩, .inl rfl⟩)
    have he := empty_toList h0
    rw [hO]
    clear hO h0
    go_enter Try.func58, Try.ntmps58
    go_wp2
    go_ret
    exact ⟨_, rfl, HNEW.out⟩
  · have hne : (s.toList == []) = false := by
      refine beq_eq_false_iff_ne.2 (fun e => h0 ?_)
      rw [ByteArray.toList_eq] at e
      have := congrArg List.length e
      rw [Array.length_toList] at this
      exact this
    have hne2 : s.toList.isEmpty = false := by
      cases hl : s.toList with
      | nil => rw [hl] at hne; cases hne
      | cons a l => rfl
    have HADD := Lib.hid (fun (w0 : World) (v0 : Value) (b0 : List Nat) (c1 c2 : Nat) (cs : Array Value) hcs hown0 hb0 hl0 => add_new (w := w0) (base := base) (v := v0) (bs := b0) low 2 [c1, c2] (.inl rfl) hown0 hb0 hl0 (by simp) cs hcs)
    rw [hO] at HADD ⊢
    have HOWN := Lib.hid hown
    have h0' := Lib.hid h0
    clear hO hown h0
    go_enter Try.func58, Try.ntmps58
    go_wp2_with fail
    refine (HADD.out w v bs code s.size _ rfl HOWN.out hbase (by simp; omega)).mono ?_
    rintro e w1 ⟨v1, rfl, hA1⟩
    have hz1 := hA1.grown.size
    obtain ⟨v2, w2, hrun, hA2⟩ := run_own_str w1 base v1 _ hA1.own s hs (by rw [List.length_append, numsB_len]; simp; omega) (by omega)
    have HA1 := Lib.hid hA1
    have HA2 := Lib.hid (hA1.trans hA2)
    have hz2 : w.heap.size ≤ w2.heap.size := HA2.out.grown.size
    clear hA1 hA2
    go_wp2_with (at_builtin; refine Lib.wpList_append_run _ rfl _ _ _ _ rfl _ _ rfl rfl _ _ hrun ?_)
    have l2 : (bs ++ (numsB low 2 [code, s.size] ++ strL s)).length = bs.length + 4 + s.size := by rw [List.length_append, List.length_append, numsB_len, strL_len]; simp; omega
    have HF := Lib.hid (fill_any HA2.out.own (Nat.le_trans hbase hz2) (by rw [l2]; omega))
    rw [l2] at HF
    clear l2 hz1 HA1
    refine HF.out.mono ?_
    rintro e w3 ⟨v3, rfl, hA3⟩
    have HA3 := Lib.hid (HA2.out.trans hA3)
    have hz3 : w.heap.size ≤ w3.heap.size := HA3.out.grown.size
    clear hA3 HF
    have hl3 : (bs ++ (numsB low 2 [code, s.size] ++ strL s ++ padB (bs.length + 4 + s.size))).length ≤ bs.length + 4 + s.size + 3 := by
      have := padN_le (bs.length + 4 + s.size)
      rw [List.length_append, List.length_append, List.length_append, numsB_len, strL_len, padB_len]; simp; omega
    go_wp2_with fail
    refine (HADD.out w3 v3 _ 0 0 _ rfl HA3.out.own (Nat.le_trans hbase hz3) (by simp only [List.length_cons, List.length_nil] at hl3 ⊢; omega)).mono ?_
    rintro e w4 ⟨v4, rfl, hA4⟩
    have HA4 := Lib.hid (HA3.out.trans hA4)
    clear hA4
    go_wp2
    go_ret
    refine ⟨v4, rfl, ?_⟩
    have := HA4.out
    unfold optB
    rw [if_neg h0'.out]
    simpa only [List.append_assoc] using this

/-- A block. -/
def blkB (low : Bool) (kind : Nat) (body : List Nat) : List Nat :=
  numsB low 4 [kind, 12 + (body ++ padB body.length).length] ++ ((body ++ padB body.length) ++ numsB low 4 [12 + (body ++ padB body.length).length])

/-- v' is a row of the call's own from base on; below base nothing has turned. -/
def OwnPost (w : World) (base : Nat) (bs : List Nat) (e : Ending) (w' : World) : Prop := ∃ v', e = .returned v' ∧ w'.ownsRow base 5 1 v' bs.length (bs.map u8) ∧ Below base w w'

theorem byt_own {w : World} {base : Nat} {A : Option Addr} {c : Nat} {bs : List Nat} (hb : ∀ x ∈ bs, x < 256) (h : w.ownsRow base 5 1 (.slice A bs.length c) bs.length (bs.map u8)) : Byt w w.heap.size A bs := by
  rcases h.2 with ⟨e, hn⟩ | ⟨g, cap, cur, e, _, hg, hcap, _, hsz, htake⟩
  · have : bs = [] := List.length_eq_zero_iff.1 hn
    subst this
    exact Byt.nil _ _ _
  · injection e with e1 e2 e3
    subst e1
    refine ⟨hb, fun hn => ⟨g, 0, rfl, (Array.getElem?_eq_some_iff.1 hg).1, fun k hk => ?_⟩⟩
    rw [Nat.zero_add, cell_of_row w g k cur 5 (0, 0) hg]
    have e : (cur.toList.take (bs.length * 1))[k]? = (bs.map u8)[k]? := by rw [htake]
    rw [List.getElem?_take_of_lt (by omega), List.getElem?_map, List.getElem?_eq_getElem hk] at e
    rw [at8_eq bs k hk, ← Array.getElem?_toList, e]
    rfl
theorem byt_keeps {w w' : World} {base : Nat} {v : Value} {A : Option Addr} {c : Nat} {bs : List Nat} (hb : ∀ x ∈ bs, x < 256) (h : w.ownsRow base 5 1 (.slice A bs.length c) bs.length (bs.map u8)) (hg : w.grownBy w' v.ownBlock) (hne : (Value.slice A bs.length c).ownBlock = none ∨ (Value.slice A bs.length c).ownBlock ≠ v.ownBlock) : Byt w' w'.heap.size A bs :=
  byt_own hb (h.kept hg hne)
end Go.Proofs.Ytlimkckomdipkaa
