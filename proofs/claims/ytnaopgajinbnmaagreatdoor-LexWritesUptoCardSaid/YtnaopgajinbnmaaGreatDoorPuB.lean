/- ParseUint in the base 10, at 8 bits. -/
import Derived.Test.YtnaopgajinbnmaaGreatDoorPu
namespace Go.Proofs.YtnaopgajinbnmaaGreatDoor
open Go.RowKit

set_option maxHeartbeats 32000000 in
set_option maxRecDepth 100000 in
theorem pu_10_8 (t : ByteArray) (hne : t.size ≠ 0) (hmax : t.size ≤ 1048576) (w : World) :
    Calls Tryz.prog 68 #[.string t, .int .i64 10, .int .i64 8] w fun e w' => PuPost (parseR 10 256 0 (bl t)) e ∧ w' = Lib.bytesWorld w 5 t := by
  have hemp : t.toList.isEmpty = false := by
    rw [← decide_eq_emptyBytes]
    exact decide_eq_false (fun h => hne (by rw [h]; rfl))
  have hcv := Lib.run_convert_string_bytes (P := Tryz.prog) w 9 34 5 t (u := .string) Tryz.underlying9 Tryz.underlying34 Tryz.underlying5
  have hB : ∀ j, j < t.size → (Lib.bytesWorld w 5 t).cell? ⟨w.heap.size, j, none⟩ = some (.int .u8 (t.data.toList.getD j 0).toNat) := fun j hj => Lib.bytesWorld_cell w 5 t j hj
  obtain ⟨W1, hW1⟩ : ∃ W1, W1 = Lib.bytesWorld w 5 t := ⟨_, rfl⟩
  rw [← hW1] at hcv hB ⊢
  clear hW1
  unfold bl
  obtain ⟨bs, hL⟩ : ∃ bs, bs = t.data.toList := ⟨_, rfl⟩
  have hLn : bs.length = t.size := by rw [hL, Lib.size_eq]
  rw [← hL] at hB ⊢
  clear hL
  have hmv : IntKind.u64.wrap (IntKind.u64.wrap 256 - 1) = 255 := by
    rw [IntKind.wrap_u64, IntKind.wrap_u64]
    decide
  go_enter Tryz.func68, Tryz.ntmps68
  go_wp2
  go_loop [12, 13, 101] (fun vu vn vi => ∃ (k acc : Nat) (a : Int), vu = .bool false ∧ vn = .int .u64 a ∧ vi = .int .i64 k ∧ k ≤ t.size ∧ Hid (a = (acc : Int) ∧ acc < 256 ∧ parseR 10 256 0 bs = parseR 10 256 acc (bs.drop k)))
    (fun _ _ vi => t.size - (intOf vi).toNat)
  case atStart => exact ⟨0, 0, 0, rfl, rfl, rfl, by omega, rfl, by omega, rfl⟩
  case round =>
    obtain ⟨k, acc, a, rfl, rfl, rfl, hk, hh⟩ := hrel
    obtain ⟨ha, hacc, hdec⟩ := hh.out
    clear hh
    have a0 : 0 ≤ a := by omega
    have a1 : a ≤ 255 := by omega
    by_cases hkn : k < t.size
    · have hc := hB k hkn
      have hdrop : bs.drop k = bs[k]'(by omega) :: bs.drop (k + 1) := List.drop_eq_getElem_cons (by omega)
      have hget : bs.getD k 0 = bs[k]'(by omega) := by simp [List.getD, List.getElem?_eq_getElem (show k < bs.length by omega)]
      rw [hdrop] at hdec
      rw [hget] at hc
      generalize bs[k]'(by omega) = c at hc hdec
      have hc256 : c.toNat < 256 := c.toNat_lt
      clear hB hdrop hget
      cases hdig : digitB c with
      | true =>
        have hv : hexV c = c.toNat - 48 := (digit_ok c hdig).2.1
        have hd0 : 48 ≤ c.toNat := (digit_ok c hdig).2.2.1
        have hd1 : c.toNat ≤ 57 := (digit_ok c hdig).2.2.2
        have hok : okDig 10 c = true := by rw [okDig_ten, hdig]
        by_cases hov : 255 < acc * 10 + (c.toNat - 48)
        · have hF : parseR 10 256 acc (c :: bs.drop (k + 1)) = none := by rw [parseR, if_pos hok, if_neg (by rw [hv]; omega)]
          rw [hF] at hdec
          have iov : 255 < a * 10 + ((c.toNat : Int) - 48) := by omega
          have HD := Lib.hid hdec
          clear hacc hF hov ha hok hv hdig hdec
          go_wp2
          go_ret2
          exact ⟨pu_err 1 HD.out (.inl rfl), rfl⟩
        · have hF : parseR 10 256 acc (c :: bs.drop (k + 1)) = parseR 10 256 (acc * 10 + (c.toNat - 48)) (bs.drop (k + 1)) := by rw [parseR, if_pos hok, if_pos (by rw [hv]; omega), hv]
          have HN : Hid (a * 10 + ((c.toNat : Int) - 48) = ((acc * 10 + (c.toNat - 48) : Nat) : Int) ∧ acc * 10 + (c.toNat - 48) < 256 ∧ parseR 10 256 0 bs = parseR 10 256 (acc * 10 + (c.toNat - 48)) (bs.drop (k + 1))) := Lib.hid ⟨by omega, by omega, hdec.trans hF⟩
          have iov : a * 10 + ((c.toNat : Int) - 48) ≤ 255 := by omega
          clear hacc hF hov hdec ha hok hv hdig
          go_wp2
          refine ⟨⟨k + 1, acc * 10 + (c.toNat - 48), a * 10 + ((c.toNat : Int) - 48), rfl, (by first | rfl | (congr 1; omega)), (by first | rfl | (congr 1; omega)), by omega, HN⟩, by simp [intOf]; omega⟩
      | false =>
        have hnd := digit_no c hdig
        have hv0 := bits_lo_u8 .or (c.toNat : Int) 32
        have hv1 := bits_hi_u8 .or (c.toNat : Int) 32
        have hu0 := bits_lo_u8 .or 95 32
        have hu1 := bits_hi_u8 .or 95 32
        have hF : parseR 10 256 acc (c :: bs.drop (k + 1)) = none := by rw [parseR, if_neg (by rw [okDig_ten, hdig]; simp)]
        rw [hF] at hdec
        have HD := Lib.hid hdec
        clear hacc hF ha hdec hdig
        go_wp2_with (go_at_call 76; refine (lower_any _ _).mono ?_; rintro e w' ⟨rfl, rfl⟩)
        all_goals go_ret2
        all_goals exact ⟨pu_err 2 HD.out (.inr rfl), rfl⟩
    · have hkk : k = t.size := by omega
      subst hkk
      have hF : parseR 10 256 acc (bs.drop t.size) = some acc := by rw [List.drop_eq_nil_of_le (by omega)]; rfl
      rw [hF] at hdec
      subst ha
      have HD := Lib.hid hdec
      clear hacc hF a0 a1 hdec
      go_wp2
      go_ret2
      exact ⟨pu_ok HD.out, rfl⟩
end Go.Proofs.YtnaopgajinbnmaaGreatDoor
