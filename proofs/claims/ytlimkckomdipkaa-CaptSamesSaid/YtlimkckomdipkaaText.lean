/- within, isText, IsText. -/
import Derived.Test.YtlimkckomdipkaaMem
import Derived.Laws.IdiomStrings
namespace Go.Proofs.Ytlimkckomdipkaa
open Go.RowKit

theorem within_true {n a b : Int} (h : a ≤ n) (h2 : n ≤ b) : within n a b = true := by simp [within]; omega
theorem within_false {n a b : Int} (h : n < a ∨ b < n) : within n a b = false := by simp [within]; omega

set_option maxHeartbeats 400000 in
theorem within_any (n a b : Int) (w : World) :
    Calls Try.prog 44 #[.int .i64 n, .int .i64 a, .int .i64 b] w fun e w' => e = .returned (.bool (within n a b)) ∧ w = w' := by
  by_cases h : a ≤ n
  · go_enter Try.func44, Try.ntmps44
    go_wp2
    go_ret
    exact ⟨ret_bool (by simp [within]; omega), rfl⟩
  · go_enter Try.func44, Try.ntmps44
    go_wp2
    go_ret
    exact ⟨ret_bool (by simp [within]; omega), rfl⟩

theorem take_snoc (s : ByteArray) (k : Nat) (h : k < s.size) : s.data.toList.take (k + 1) = s.data.toList.take k ++ [s[k]] := by
  rw [List.take_succ_eq_append_getElem (by simpa using h)]; rfl
theorem chars_snoc (s : ByteArray) (k : Nat) (h : k < s.size) : (s.data.toList.take (k + 1)).all charB = ((s.data.toList.take k).all charB && charB s[k]) := by
  rw [take_snoc s k h, List.all_append]; simp
theorem chars_no (s : ByteArray) (k : Nat) (h : k < s.size) (hc : charB s[k] = false) : s.data.toList.all charB = false := by
  have h1 := chars_snoc s k h
  rw [hc, Bool.and_false] at h1
  rw [List.all_eq_false] at h1 ⊢
  obtain ⟨x, hx, hp⟩ := h1
  exact ⟨x, List.mem_of_mem_take hx, hp⟩

set_option maxHeartbeats 1000000 in
theorem rtext_any (s : ByteArray) (w : World) (hs : s.size ≤ 140737488355328) :
    Calls Try.prog 68 #[.string s] w fun e w' => e = .returned (.bool (textB s)) ∧ w = w' := by
  go_enter Try.func68, Try.ntmps68
  go_wp2
  go_loop [3] (fun i => ∃ k : Nat, k ≤ s.size ∧ i = .int .i64 k ∧ Hid ((s.data.toList.take k).all charB = true)) (fun i => s.size - (intOf i).toNat)
  case atStart => exact ⟨0, Nat.zero_le _, rfl, Lib.hid (by simp)⟩
  case round =>
    obtain ⟨k, hk, rfl, HC⟩ := hrel
    by_cases hlt : k < s.size
    · have HS := Lib.hid (chars_snoc s k hlt)
      have HN := Lib.hid (chars_no s k hlt)
      by_cases h1 : (s[k].toNat : Int) < 32
      · have HF : Hid (textB s = false) := Lib.hid (by unfold textB; rw [HN.out (by simp [charB]; omega), Bool.and_false])
        go_wp2
        go_ret
        exact ⟨ret_bool HF.out.symm, rfl⟩
      · by_cases h2 : (126 : Int) < (s[k].toNat : Int)
        · have HF : Hid (textB s = false) := Lib.hid (by unfold textB; rw [HN.out (by simp [charB]; omega), Bool.and_false])
          go_wp2
          go_ret
          exact ⟨ret_bool HF.out.symm, rfl⟩
        · have HG : Hid ((s.data.toList.take (k + 1)).all charB = true) := Lib.hid (by rw [HS.out, HC.out]; simp [charB]; omega)
          go_wp2
          go_round
          case rel => exact ⟨k + 1, by omega, by go_num, HG⟩
          case measure => simp [intOf]; omega
    · have hkn : k = s.size := by omega
      have HF : Hid (textB s = decide (s.size ≤ 200)) := Lib.hid (by
        have := HC.out
        rw [List.take_of_length_le (by simp; omega)] at this
        unfold textB; rw [this, Bool.and_true])
      go_wp2
      go_ret
      exact ⟨ret_bool (by rw [HF.out]; simp; omega), rfl⟩

/-- The bytes of a text, as numbers. -/
def strL (s : ByteArray) : List Nat := s.data.toList.map UInt8.toNat
theorem strL_len (s : ByteArray) : (strL s).length = s.size := by simp [strL]
theorem strL_lt (s : ByteArray) : ∀ x ∈ strL s, x < 256 := by
  intro x hx; obtain ⟨b, _, rfl⟩ := List.mem_map.1 hx; exact b.toNat_lt
theorem strL_at (s : ByteArray) (k : Nat) (h : k < s.size) : at8 (strL s) k = s[k].toNat := by
  rw [at8_eq _ _ (by rw [strL_len]; exact h)]; simp [strL]; rfl

theorem bytesRow_at (s : ByteArray) (cap k : Nat) (h : k < s.size) : (bytesRow s cap)[k]? = some (.int .u8 (s[k].toNat : Int)) := by
  have hk : k < s.data.size := h
  rw [bytesRow, Array.getElem?_append_left (by simpa using hk), Array.getElem?_map, Array.getElem?_eq_getElem hk]
  rfl

/-- '[]byte(s)': new bytes, in a block of their own. -/
theorem run_str_bytes (w : World) (s : ByteArray) :
    ∃ b c w1, b = w.heap.size ∧ Sem.run Try.prog (convert 9 30 (.string s)) w = .ok (.slice (some ⟨b, 0, none⟩) s.size c) w1 ∧ Below w.heap.size w w1 ∧ w1.heap.size = w.heap.size + 1 ∧ Byt w1 w1.heap.size (some ⟨b, 0, none⟩) (strL s) := by
  refine ⟨_, _, _, rfl, run_bytes_of_string w 9 30 5 s Try.underlying9 Try.underlying30 Try.underlying5, ?_, ?_, ?_⟩
  · exact ((Below.refl _ _).drew).alloc (Nat.le_refl _) _
  · show (w.heap.push _).size = _
    rw [Array.size_push]
  · refine ⟨strL_lt s, fun _ => ⟨_, 0, rfl, by show _ < (w.heap.push _).size; rw [Array.size_push]; omega, fun k hk => ?_⟩⟩
    rw [strL_len] at hk
    rw [strL_at s k hk, Nat.zero_add]
    have h := heap_alloc_new w.drew (.cells (bytesRow s (grownCap w s.size 0 5)) 5 ((bytesRow s (grownCap w s.size 0 5)).size, (bytesRow s (grownCap w s.size 0 5)).size + 1))
    show World.cell? _ ⟨w.drew.heap.size, k, none⟩ = _
    unfold World.cell?
    rw [h]
    exact bytesRow_at s _ k hk

set_option maxRecDepth 100000 in
set_option maxHeartbeats 1000000 in
theorem text_any (s : ByteArray) (w : World) :
    Calls Try.prog 66 #[.string s] w fun e w' => e = .returned (.bool (textB s)) ∧ Below w.heap.size w w' := by
  by_cases hb : s.size ≤ 200
  · obtain ⟨b, c, w1, hb0, hrun, hB, _, hm⟩ := run_str_bytes w s
    have HB := Lib.hid hB
    have HM := Lib.hid hm
    clear hb0 hB hm
    go_enter Try.func66, Try.ntmps66
    go_wp2
    go_loop [4, 11] (fun _ i => ∃ k : Nat, k ≤ s.size ∧ i = .int .i64 k ∧ Hid ((s.data.toList.take k).all charB = true)) (fun _ i => s.size - (intOf i).toNat)
    case atStart => exact ⟨0, Nat.zero_le _, rfl, Lib.hid (by simp)⟩
    case round =>
      obtain ⟨k, hk, rfl, HC⟩ := hrel
      by_cases hlt : k < s.size
      · have HS := Lib.hid (chars_snoc s k hlt)
        have HN := Lib.hid (chars_no s k hlt)
        obtain ⟨b', o', e', _, hc'⟩ := HM.out.cells (by rw [strL_len]; omega)
        injection e' with e'
        injection e' with e1 e2
        subst e1; subst e2
        have hck := hc' k (by rw [strL_len]; exact hlt)
        rw [strL_at s k hlt, Nat.zero_add] at hck
        clear hc'
        by_cases h1 : (s[k].toNat : Int) < 32
        · have HF : Hid (textB s = false) := Lib.hid (by unfold textB; rw [HN.out (by simp [charB]; omega), Bool.and_false])
          go_wp2
          go_ret
          exact ⟨ret_bool HF.out.symm, HB.out⟩
        · by_cases h2 : (126 : Int) < (s[k].toNat : Int)
          · have HF : Hid (textB s = false) := Lib.hid (by unfold textB; rw [HN.out (by simp [charB]; omega), Bool.and_false])
            go_wp2
            go_ret
            exact ⟨ret_bool HF.out.symm, HB.out⟩
          · have HG : Hid ((s.data.toList.take (k + 1)).all charB = true) := Lib.hid (by rw [HS.out, HC.out]; simp [charB]; omega)
            go_wp2
            go_round
            case rel => exact ⟨k + 1, by omega, by go_num, HG⟩
            case measure => simp [intOf]; omega
      · have hkn : k = s.size := by omega
        have HF : Hid (textB s = true) := Lib.hid (by
          have := HC.out
          rw [List.take_of_length_le (by simp; omega)] at this
          unfold textB; rw [this, Bool.and_true]; simpa using hb)
        go_wp2
        go_ret
        exact ⟨ret_bool HF.out.symm, HB.out⟩
  · have HF : Hid (textB s = false) := Lib.hid (by unfold textB; simp [hb])
    go_enter Try.func66, Try.ntmps66
    go_wp2
    go_ret
    exact ⟨ret_bool HF.out.symm, Below.refl _ _⟩
end Go.Proofs.Ytlimkckomdipkaa
