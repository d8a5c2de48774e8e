/- The reference's numbers. -/
import Derived.Test.YtnaopgajinbnmaaGreatDoorNumMath
import Derived.Test.YtnaopgajinbnmaaGreatDoorRefText
import Derived.StillTailTactics
namespace Go.Proofs.YtnaopgajinbnmaaGreatDoor
open Go.RowKit

/-- What the reference answers for a number. -/
def RNum (r : Option Nat × Nat) (at_ : Nat) (w : World) (e : Ending) (w' : World) : Prop :=
  ∃ (v n : Nat) (b : Bool), e = .returned (.tuple #[.int .i64 (v : Int), .int .i64 (n : Int), .bool b]) ∧ Below w.heap.size w w' ∧
    (b = true → r.1 = some v ∧ n = at_ + r.2) ∧ (b = false → r.1 = none)
theorem hexHead_hd (l : List UInt8) : hexHead l = ((hd l).toNat == 48 && (hd (l.drop 1)).toNat == 120) := by
  match l with
  | [] => rfl
  | [c] => simp [hexHead, hd]
  | c :: d :: r => rfl
theorem dig_val {c : UInt8} (h : digitB c = true) : ∃ v : Nat, hexV c = v ∧ (c.toNat : Int) - 48 = (v : Int) ∧ v < 10 := by
  have h2 := h
  unfold digitB at h2
  simp at h2
  exact ⟨_, rfl, by unfold hexV; rw [if_pos h]; omega, by unfold hexV; rw [if_pos h]; omega⟩
theorem min_int (a b : Nat) : min (a : Int) (b : Int) = ((min a b : Nat) : Int) := by omega

set_option maxRecDepth 100000 in
set_option maxHeartbeats 16000000 in
theorem rnum_hex (s : ByteArray) (at_ : Nat) (h0 : at_ < s.size) (hz : s.size ≤ 1048576) (hh : hexHead ((bl s).drop at_) = true) (w : World) :
    Calls Tryz.prog 46 #[.string s, .int .i64 (at_ : Int)] w (RNum (numL ((bl s).drop at_)) at_ w) := by
  have hA := hd_at s at_ h0
  have hx := hexHead_hd ((bl s).drop at_)
  rw [hh, List.drop_drop, hA] at hx
  simp only [Bool.true_eq, Bool.and_eq_true, beq_iff_eq] at hx
  have y1 := byteAt_any s (at_ + 1) w
  have e48 : ((s[at_].toNat : Int) == 48) = true := by simp [hx.1]
  have e120 : (((hd ((bl s).drop (at_ + 1))).toNat : Int) == 120) = true := by simp [hx.2]
  have hlen : at_ + 2 ≤ s.size := by
    rcases Nat.lt_or_ge (at_ + 1) s.size with h | h
    · omega
    · have := hd_end s (at_ + 1) h; rw [this] at hx; exact absurd hx.2 (by decide)
  generalize hd ((bl s).drop (at_ + 1)) = d at y1 e120 hx
  have HN := Lib.hid (fun x => num_hex ((bl s).drop at_) hh x)
  clear hh hA hx
  go_enter Tryz.func46, Tryz.ntmps46
  go_wp2_with (go_at_call 32; rw [show ((at_ : Int) + 1) = ((at_ + 1 : Nat) : Int) from by omega]; refine y1.mono ?_; rintro e w' ⟨rfl, rfl⟩)
  go_loop [7, 8] (fun i n => ∃ e v : Nat, i = .int .i64 e ∧ n = .int .i64 v ∧ at_ + 2 ≤ e ∧ e ≤ s.size ∧ v ≤ 281474976710656 ∧
      Hid (numGo 16 hexB 0 ((bl s).drop (at_ + 2)) = ((numGo 16 hexB v ((bl s).drop e)).1, e - (at_ + 2) + (numGo 16 hexB v ((bl s).drop e)).2))) (fun i _ => s.size - (intOf i).toNat)
  case atStart => exact ⟨at_ + 2, 0, by go_num, rfl, by omega, by omega, by omega, Lib.hid (by simp)⟩
  case round =>
    obtain ⟨e, v, rfl, rfl, he1, he2, hv, HR⟩ := hrel
    have y2 := byteAt_any s e w
    have x2 := rhex_any (hd ((bl s).drop e)) w
    cases hxb : hexB (hd ((bl s).drop e)) with
    | true =>
      have hlt : e < s.size := by
        rcases Nat.lt_or_ge e s.size with h | h
        · exact h
        · rw [hd_end s e h] at hxb; cases hxb
      have hE := hd_at s e hlt
      have HS := Lib.hid (numGo_yes 16 hexB v _ rfl hxb)
      rw [hexI_true hxb] at x2
      have hv16 := hexV16 hxb
      rw [List.drop_drop] at HS
      rw [hE] at y2 x2 HS hv16
      obtain ⟨q, hq⟩ : ∃ q, hexV s[e] = q := ⟨_, rfl⟩
      rw [hq] at x2 HS hv16
      have HN2 : Hid (numGo 16 hexB 0 ((bl s).drop (at_ + 2)) = ((numGo 16 hexB (min (16 * v + q) 281474976710656) ((bl s).drop (e + 1))).1, e + 1 - (at_ + 2) + (numGo 16 hexB (min (16 * v + q) 281474976710656) ((bl s).drop (e + 1))).2)) := Lib.hid (by
        rw [HR.out, HS.out]; simp only; congr 1; omega)
      have hmin : min (16 * (v : Int) + (q : Int)) 281474976710656 = ((min (16 * v + q) 281474976710656 : Nat) : Int) := by omega
      have hml : min (16 * v + q) 281474976710656 ≤ 281474976710656 := Nat.min_le_right _ _
      have hdl : decide ((e : Int) < (s.size : Int)) = true := decide_eq_true (by omega)
      clear hxb hE hq
      go_wp2_with (first | (go_at_call 32; refine y2.mono ?_; rintro e w' ⟨rfl, rfl⟩) | (go_at_call 58; refine x2.mono ?_; rintro e w' ⟨rfl, rfl⟩))
      go_round
      case rel => exact ⟨e + 1, _, by go_num, rfl, by omega, by omega, hml, HN2⟩
      case measure => simp [intOf]; omega
    | false =>
      have HS := Lib.hid (numGo_no 16 hexB v _ hxb)
      rw [hexI_false hxb] at x2
      have HF := Lib.hid (HN.out (v, e - (at_ + 2)) (by rw [List.drop_drop, HR.out, HS.out]; rfl))
      clear hxb
      by_cases hgt : at_ + 2 < e
      · have hd2 : decide ((at_ : Int) + 2 < (e : Int)) = true := decide_eq_true (by omega)
        go_wp2_with (first | (go_at_call 32; refine y2.mono ?_; rintro e w' ⟨rfl, rfl⟩) | (go_at_call 58; refine x2.mono ?_; rintro e w' ⟨rfl, rfl⟩))
        go_ret3
        refine ⟨v, e, decide ((v : Int) ≤ 281474976710655), rfl, Below.refl _ _, fun h => ?_, fun h => ?_⟩
        · have h1 := of_decide_eq_true h
          rw [HF.out, if_pos ⟨by omega, by omega⟩]; exact ⟨rfl, by simp only; omega⟩
        · have h1 := of_decide_eq_false h
          rw [HF.out, if_neg (fun x => by have := x.2; omega)]
      · obtain rfl : e = at_ + 2 := by omega
        go_wp2_with (first | (go_at_call 32; refine y2.mono ?_; rintro e w' ⟨rfl, rfl⟩) | (go_at_call 58; refine x2.mono ?_; rintro e w' ⟨rfl, rfl⟩))
        go_ret3
        refine ⟨v, at_ + 2, false, by simp, Below.refl _ _, (fun h => by cases h), fun h => ?_⟩
        rw [HF.out, if_neg (fun x => by have := x.1; omega)]

abbrev vI (v : Nat) : Value := .int .i64 (v : Int)
theorem info3 : (Tryz.prog.info? 3).map (fun i => (i.zero, i.size, i.bytes)) = some (some (.int .i64 0), 1, 8) := by kernel_rfl
/-- A row of the call's own that is not empty. -/
theorem own_cells {w : World} {base e n : Nat} {v : Value} {xs : List Value} (h : w.ownsRow base e 1 v n xs) (hn : 0 < n) :
    ∃ g cp, v = .slice (some ⟨g, 0, none⟩) n cp ∧ n ≤ cp ∧ ∀ j, j < n → w.cell? ⟨g, j, none⟩ = xs[j]? := by
  rcases h.2 with ⟨_, h0⟩ | ⟨g, cap, cur, rfl, h1, h2, h3, h4⟩
  · omega
  · have h5 : w.ownsRow base e 1 (.slice (some ⟨g, 0, none⟩) n cap) n xs := h
    exact ⟨g, cap, rfl, h3, fun j hj => h5.cellAt j (by omega)⟩
theorem decGo_len (k : Nat) (l : List UInt8) : 0 < (decGo (k + 1) l).1.length := by
  rw [decGo]; split <;> simp
theorem decR_one (v : Nat) : decR [v] = if v ≤ 281474976710655 then some v else none := rfl
theorem decR_more (ps : List Nat) (h : ps.length ≠ 1) : decR ps = if ps.length = 4 then joinC 0 ps else none := by
  match ps with
  | [] => rfl
  | [v] => exact absurd rfl h
  | _ :: _ :: _ => rfl

/-- What is yet to come of the parts. -/
def PartsAt (s : ByteArray) (P : List Nat) (E : Nat) (out : List Nat) (e : Nat) : Bool → Prop
  | true => ∃ f, s.size - e < f ∧ digitB (hd ((bl s).drop e)) = true ∧ P = out ++ (decGo f ((bl s).drop e)).1 ∧ E = e + (decGo f ((bl s).drop e)).2
  | false => P = out ∧ E = e ∧ 0 < out.length

set_option maxRecDepth 100000 in
set_option maxHeartbeats 16000000 in
theorem rnum_dec (s : ByteArray) (at_ : Nat) (h0 : at_ < s.size) (hz : s.size ≤ 1048576) (hh : hexHead ((bl s).drop at_) = false) (hdg : digitB (hd ((bl s).drop at_)) = true) (w : World) :
    Calls Tryz.prog 46 #[.string s, .int .i64 (at_ : Int)] w (RNum (numL ((bl s).drop at_)) at_ w) := by
  obtain ⟨i0, hi, hz0, hz1, hz2⟩ := info_parts info3
  have hA := hd_at s at_ h0
  have hx := hexHead_hd ((bl s).drop at_)
  rw [hh, List.drop_drop, hA] at hx
  have y1 := byteAt_any s (at_ + 1) w
  obtain ⟨⟨P, E0⟩, hPE⟩ : ∃ x, decGo (s.size - at_ + 1) ((bl s).drop at_) = x := ⟨_, rfl⟩
  have HN := Lib.hid (num_dec ((bl s).drop at_) hh hdg _ (by rw [List.length_drop, bl_len]; omega) _ hPE)
  have HS0 : Hid (PartsAt s P (at_ + E0) [] at_ true) := Lib.hid ⟨s.size - at_ + 1, by omega, hdg, by rw [hPE]; rfl, by rw [hPE]⟩
  obtain ⟨E, hE⟩ : ∃ E, at_ + E0 = E := ⟨_, rfl⟩
  have HE := Lib.hid hE
  rw [hE] at HS0
  obtain ⟨B, hB⟩ : ∃ B, w.heap.size = B := ⟨_, rfl⟩
  have HB := Lib.hid hB
  generalize hd ((bl s).drop (at_ + 1)) = d at y1 hx
  have e48 : ((s[at_].toNat : Int) == 48) = true ∧ ((d.toNat : Int) == 120) = false ∨ ((s[at_].toNat : Int) == 48) = false := by
    by_cases h1 : s[at_].toNat = 48
    · left
      have : d.toNat ≠ 120 := by intro h; rw [h1, h] at hx; cases hx
      exact ⟨by simp [h1], by simp; omega⟩
    · right; simp; omega
  clear hh hA hx hPE hE hB hdg
  rcases e48 with ⟨e1, e2⟩ | e1
  all_goals
    go_enter Tryz.func46, Tryz.ntmps46
    go_wp2_with (go_at_call 32; rw [show ((at_ : Int) + 1) = ((at_ + 1 : Nat) : Int) from by omega]; refine y1.mono ?_; rintro e w' ⟨rfl, rfl⟩)
    clear y1 e1
    go_loopw [9, 10, 11] (fun v i m wr => ∃ (out : List Nat) (e : Nat) (mb : Bool), i = .int .i64 e ∧ m = .bool mb ∧ at_ ≤ e ∧ e ≤ s.size ∧ out.length ≤ e ∧ wr.ownsRow B 3 1 v out.length (out.map vI) ∧ (∀ x ∈ out, x ≤ 281474976710656) ∧
        Hid (Below B w wr) ∧ Hid (PartsAt s P E out e mb)) (fun _ i _ _ => s.size - (intOf i).toNat)
    case atStart => exact ⟨[], at_, true, rfl, rfl, Nat.le_refl _, by omega, by simp, World.ownsRow_nil _ _ _ _, by simp, Lib.hid (HB.out ▸ Below.refl _ _), HS0⟩
    case round =>
      obtain ⟨out, e, mb, rfl, rfl, he1, he2, hol, hown, hall, HW, HP⟩ := hrel
      cases mb with
      | true =>
        obtain ⟨f, hf, hd1, hP, hE1⟩ := HP.out
        have hsz := HW.out.size
        rw [HB.out] at hsz
        obtain ⟨g, rfl⟩ : ∃ g, f = g + 1 := ⟨f - 1, by omega⟩
        have HQ := Lib.hid (And.intro hf (And.intro hd1 (And.intro hP hE1)))
        clear hf hd1 hP hE1 HP
        go_wp2
        go_loop [10, 12] (fun i n => ∃ e2 v : Nat, i = .int .i64 e2 ∧ n = .int .i64 v ∧ e ≤ e2 ∧ e2 ≤ s.size ∧ v ≤ 281474976710656 ∧
            Hid (numGo 10 digitB 0 ((bl s).drop e) = ((numGo 10 digitB v ((bl s).drop e2)).1, e2 - e + (numGo 10 digitB v ((bl s).drop e2)).2))) (fun i _ => s.size - (intOf i).toNat)
        case atStart => exact ⟨e, 0, rfl, rfl, Nat.le_refl _, he2, by omega, Lib.hid (by simp)⟩
        case round =>
          obtain ⟨e2, v, rfl, rfl, he3, he4, hv, HR⟩ := hrel
          have y2 := byteAt_any s e2 wr
          have x2 := rdigit_any (hd ((bl s).drop e2)) wr
          cases hxb : digitB (hd ((bl s).drop e2)) with
          | true =>
            have hlt : e2 < s.size := by
              rcases Nat.lt_or_ge e2 s.size with h | h
              · exact h
              · rw [hd_end s e2 h] at hxb; cases hxb
            have hE := hd_at s e2 hlt
            have HS := Lib.hid (numGo_yes 10 digitB v _ rfl hxb)
            rw [hxb] at x2
            obtain ⟨q, hq, hqi, hq10⟩ := dig_val hxb
            rw [List.drop_drop, hq] at HS
            rw [hE] at y2 x2 hqi
            have HN2 : Hid (numGo 10 digitB 0 ((bl s).drop e) = ((numGo 10 digitB (min (10 * v + q) 281474976710656) ((bl s).drop (e2 + 1))).1, e2 + 1 - e + (numGo 10 digitB (min (10 * v + q) 281474976710656) ((bl s).drop (e2 + 1))).2)) := Lib.hid (by
              rw [HR.out, HS.out]; simp only; congr 1; omega)
            have hml : min (10 * v + q) 281474976710656 ≤ 281474976710656 := Nat.min_le_right _ _
            have hmin : min (10 * (v : Int) + (q : Int)) 281474976710656 = ((min (10 * v + q) 281474976710656 : Nat) : Int) := by omega
            have hdl : decide ((e2 : Int) < (s.size : Int)) = true := decide_eq_true (by omega)
            have hu : IntKind.u8.wrap ((s[e2].toNat : Int) - 48) = (q : Int) := by rw [u8_wrap_nat _ (by omega) (by omega)]; exact hqi
            clear hxb hE hq hqi
            go_wp2_with (first | (go_at_call 32; refine y2.mono ?_; rintro e w' ⟨rfl, rfl⟩) | (go_at_call 45; refine x2.mono ?_; rintro e w' ⟨rfl, rfl⟩))
            go_round
            case rel => exact ⟨e2 + 1, _, by go_num, by rw [← hmin], by omega, by omega, hml, HN2⟩
            case measure => simp [intOf]; omega
          | false =>
            have hgo := numGo_no 10 digitB v _ hxb
            have hrun := runL_pos digitB ((bl s).drop e) rfl HQ.out.2.1
            have hng : numGo 10 digitB 0 ((bl s).drop e) = (v, e2 - e) := by rw [HR.out, hgo]; rfl
            have hr2 : runL digitB ((bl s).drop e) = e2 - e := congrArg Prod.snd hng
            have hlt : e < e2 := by omega
            have hDG : decGo (g + 1) ((bl s).drop e) = if (hd ((bl s).drop e2)).toNat = 46 ∧ digitB (hd ((bl s).drop (e2 + 1))) = true then
                (v :: (decGo g ((bl s).drop (e2 + 1))).1, e2 - e + 1 + (decGo g ((bl s).drop (e2 + 1))).2) else ([v], e2 - e) := by
              rw [decGo, hng]; simp only [List.drop_drop]; rw [show e + (e2 - e) = e2 by omega, show e + (e2 - e + 1) = e2 + 1 by omega]
            have y3 := fun w => byteAt_any s e2 w
            have y4 := fun w => byteAt_any s (e2 + 1) w
            have hin : digitB (hd ((bl s).drop (e2 + 1))) = true → e2 + 1 < s.size := fun h => by
              rcases Nat.lt_or_ge (e2 + 1) s.size with h1 | h1
              · exact h1
              · rw [hd_end s _ h1] at h; cases h
            obtain ⟨c, hc⟩ : ∃ c, hd ((bl s).drop e2) = c := ⟨_, rfl⟩
            obtain ⟨d', hd'⟩ : ∃ c, hd ((bl s).drop (e2 + 1)) = c := ⟨_, rfl⟩
            rw [hxb] at x2
            rw [hc] at y2 y3 x2 hDG
            rw [hd'] at y4 hDG hin
            have x4 := fun w => rdigit_any d' w
            have b1 : out.length + 1 ≤ maxLen := by unfold maxLen; omega
            have b2 : (out.length + 1) * 8 ≤ 140737488355328 := by omega
            have hqa := HQ.out.1
            have hall2 : ∀ x ∈ out ++ [v], x ≤ 281474976710656 := fun x hx => by
              rcases List.mem_append.1 hx with h | h
              · exact hall x h
              · rw [List.mem_singleton] at h; omega
            have HALL := Lib.hid hall2
            by_cases h46 : c.toNat = 46
            · have e46 : ((c.toNat : Int) == 46) = true := by simp [h46]
              cases hdg : digitB d' with
              | true =>
                have hlt2 := hin hdg
                have HN2 : Hid (PartsAt s P E (out ++ [v]) (e2 + 1) true) := Lib.hid (by
                  rw [if_pos ⟨h46, hdg⟩] at hDG
                  exact ⟨g, by omega, by rw [hd']; exact hdg, by rw [HQ.out.2.2.1, hDG]; simp, by rw [HQ.out.2.2.2, hDG]; simp only; omega⟩)
                have x5 : ∀ w, Calls Tryz.prog 45 #[.int .u8 (d'.toNat : Int)] w fun e w' => e = .returned (.bool true) ∧ w = w' := hdg ▸ x4
                clear h46 hdg hDG hc hd' hin hgo hng hxb x4 hall2 hall hrun hr2
                go_wp2_with (first | (go_at_call 32; (first | (with_reducible refine y2.mono ?_) | (with_reducible refine (y3 _).mono ?_) | (rw [show ((e2 : Int) + 1) = ((e2 + 1 : Nat) : Int) from by omega]; with_reducible refine (y4 _).mono ?_)); rintro e w' ⟨rfl, rfl⟩) | (go_at_call 45; (first | (with_reducible refine x2.mono ?_) | (with_reducible refine (x5 _).mono ?_)); rintro e w' ⟨rfl, rfl⟩) | (at_builtin; refine wpList_append_own _ rfl _ _ 81 rfl B 3 i0 (.int .i64 0) 1 8 Tryz.underlying81 hi hz0 hz1 hz2 rfl (by decide) _ _ _ rfl (hown.alloc _) ⟨wr.heap.size, 0, none⟩ 1 1 [vI v] rfl rfl (cell_one_new _ _ _) (by simp [Value.oneCell']) b1 b2 (by simp; omega) ?_; intro v' w1 hown' hgrow _))
                have hBe : Below B w w1 := (HW.out.alloc (by omega) _).grown hgrow (by simp; omega) (fun g hg => by have := (hown.lt g hg).1; omega)
                exact ⟨⟨out ++ [v], e2 + 1, true, by go_num, rfl, by omega, by omega, by simp; omega, by simpa using hown', HALL.out, Lib.hid hBe, HN2⟩, by simp [intOf]; omega⟩
              | false =>
                have HN2 : Hid (PartsAt s P E (out ++ [v]) e2 false) := Lib.hid (by
                  rw [if_neg (by rw [hdg]; simp)] at hDG
                  exact ⟨by rw [HQ.out.2.2.1, hDG], by rw [HQ.out.2.2.2, hDG]; simp only; omega, by simp⟩)
                have x5 : ∀ w, Calls Tryz.prog 45 #[.int .u8 (d'.toNat : Int)] w fun e w' => e = .returned (.bool false) ∧ w = w' := hdg ▸ x4
                clear h46 hdg hDG hc hd' hin hgo hng hxb x4 hall2 hall hrun hr2
                go_wp2_with (first | (go_at_call 32; (first | (with_reducible refine y2.mono ?_) | (with_reducible refine (y3 _).mono ?_) | (rw [show ((e2 : Int) + 1) = ((e2 + 1 : Nat) : Int) from by omega]; with_reducible refine (y4 _).mono ?_)); rintro e w' ⟨rfl, rfl⟩) | (go_at_call 45; (first | (with_reducible refine x2.mono ?_) | (with_reducible refine (x5 _).mono ?_)); rintro e w' ⟨rfl, rfl⟩) | (at_builtin; refine wpList_append_own _ rfl _ _ 81 rfl B 3 i0 (.int .i64 0) 1 8 Tryz.underlying81 hi hz0 hz1 hz2 rfl (by decide) _ _ _ rfl (hown.alloc _) ⟨wr.heap.size, 0, none⟩ 1 1 [vI v] rfl rfl (cell_one_new _ _ _) (by simp [Value.oneCell']) b1 b2 (by simp; omega) ?_; intro v' w1 hown' hgrow _))
                have hBe : Below B w w1 := (HW.out.alloc (by omega) _).grown hgrow (by simp; omega) (fun g hg => by have := (hown.lt g hg).1; omega)
                exact ⟨⟨out ++ [v], e2, false, rfl, rfl, by omega, by omega, by simp; omega, by simpa using hown', HALL.out, Lib.hid hBe, HN2⟩, by simp [intOf]; omega⟩
            · have e46 : ((c.toNat : Int) == 46) = false := by simp; omega
              have HN2 : Hid (PartsAt s P E (out ++ [v]) e2 false) := Lib.hid (by
                rw [if_neg (fun h => h46 h.1)] at hDG
                exact ⟨by rw [HQ.out.2.2.1, hDG], by rw [HQ.out.2.2.2, hDG]; simp only; omega, by simp⟩)
              clear h46 hDG hc hd' hin hgo hng hxb x4 hall2 hall hrun hr2
              go_wp2_with (first | (go_at_call 32; (first | (with_reducible refine y2.mono ?_) | (with_reducible refine (y3 _).mono ?_)); rintro e w' ⟨rfl, rfl⟩) | (go_at_call 45; with_reducible refine x2.mono ?_; rintro e w' ⟨rfl, rfl⟩) | (at_builtin; refine wpList_append_own _ rfl _ _ 81 rfl B 3 i0 (.int .i64 0) 1 8 Tryz.underlying81 hi hz0 hz1 hz2 rfl (by decide) _ _ _ rfl (hown.alloc _) ⟨wr.heap.size, 0, none⟩ 1 1 [vI v] rfl rfl (cell_one_new _ _ _) (by simp [Value.oneCell']) b1 b2 (by simp; omega) ?_; intro v' w1 hown' hgrow _))
              have hBe : Below B w w1 := (HW.out.alloc (by omega) _).grown hgrow (by simp; omega) (fun g hg => by have := (hown.lt g hg).1; omega)
              exact ⟨⟨out ++ [v], e2, false, rfl, rfl, by omega, by omega, by simp; omega, by simpa using hown', HALL.out, Lib.hid hBe, HN2⟩, by simp [intOf]; omega⟩
      | false =>
        obtain ⟨rfl, rfl, hpos⟩ := HP.out
        obtain ⟨gb, cp, rfl, hcp, hcell⟩ := own_cells hown hpos
        have hc2 : ∀ j (hj : j < P.length), wr.cell? ⟨gb, j, none⟩ = some (vI P[j]) := fun j hj => by
          rw [hcell j hj, List.getElem?_map, List.getElem?_eq_getElem hj]; rfl
        have HC := Lib.hid hc2
        have HALL := Lib.hid hall
        have HEE := HE.out
        clear hcell hc2 hall hown HP HS0
        by_cases h1 : P.length = 1
        · obtain ⟨v0, rfl⟩ : ∃ v0, P = [v0] := List.length_eq_one_iff.1 h1
          have c0 : wr.cell? ⟨gb, 0, none⟩ = some (vI v0) := HC.out 0 (by simp)
          have HD := Lib.hid (decR_one v0)
          clear h1 hpos hcp
          simp only [List.length_cons, List.length_nil, Nat.zero_add]
          go_wp2
          go_quiet (fail)
          go_wp2
          go_ret3
          refine ⟨v0, E, decide ((v0 : Int) ≤ 281474976710655), rfl, HB.out ▸ below_drewN HW.out _, fun h => ?_, fun h => ?_⟩
          · have h1 := of_decide_eq_true h
            rw [HN.out]; exact ⟨by rw [HD.out, if_pos (by omega)], HEE.symm⟩
          · have h1 := of_decide_eq_false h
            rw [HN.out]; simp only; rw [HD.out, if_neg (by omega)]
        · have HD := Lib.hid (decR_more P h1)
          obtain ⟨n, hn⟩ : ∃ n, P.length = n := ⟨_, rfl⟩
          have HLn := Lib.hid hn
          rw [hn] at hpos hcp h1 hol ⊢
          have e1 : ((n : Int) == 1) = false := by simp; omega
          clear hn h1
          go_wp2
          go_loop [13, 14] (fun i j => ∃ m k : Nat, i = .int .i64 m ∧ j = .int .i64 k ∧ k ≤ n ∧ Hid (m < 256 ^ k) ∧ Hid (n = 4 ∨ k = 0) ∧ Hid (joinC 0 P = joinC m (P.drop k))) (fun _ j => n - (intOf j).toNat)
          case atStart => exact ⟨0, 0, rfl, rfl, by omega, Lib.hid (by decide), Lib.hid (.inr rfl), Lib.hid rfl⟩
          case round =>
            obtain ⟨m, k, rfl, rfl, hk, HM, H4, HJ⟩ := hrel
            by_cases hlt : k < n
            · have hkl : k < P.length := by rw [HLn.out]; exact hlt
              have c0 := HC.out k hkl
              have HS : Hid (joinC m (P.drop k) = if 255 < P[k] then none else joinC (256 * m + P[k]) (P.drop (k + 1))) := Lib.hid (by rw [List.drop_eq_getElem_cons hkl, joinC])
              have hx48 := HALL.out P[k] (List.getElem_mem hkl)
              generalize P[k] = x at c0 HS hx48
              have hdl : decide ((k : Int) < (n : Int)) = true := decide_eq_true (by omega)
              by_cases hx : 255 < x
              · have hd2 : decide (255 < (x : Int)) = true := decide_eq_true (by omega)
                have HF : Hid (decR P = none) := Lib.hid (by
                  rw [HD.out]; split
                  · rw [HJ.out, HS.out, if_pos hx]
                  · rfl)
                clear hx
                go_wp2
                go_ret3
                refine ⟨0, E, false, rfl, HB.out ▸ HW.out, (fun h => by cases h), fun _ => ?_⟩
                rw [HN.out]; exact HF.out
              · have hd2 : decide (255 < (x : Int)) = false := decide_eq_false (by omega)
                have HX : Hid (x ≤ 255) := Lib.hid (by omega)
                by_cases h4 : n = 4
                · have e4 : ((n : Int) == 4) = true := by simp; omega
                  have hk3 : 256 ^ k ≤ 256 ^ 3 := Nat.pow_le_pow_right (by omega) (by omega)
                  have hmm : m < 16777216 := Nat.lt_of_lt_of_le HM.out hk3
                  have HN2 : Hid (joinC 0 P = joinC (256 * m + x) (P.drop (k + 1))) := Lib.hid (by rw [HJ.out, HS.out, if_neg hx])
                  have HM2 : Hid (256 * m + x < 256 ^ (k + 1)) := Lib.hid (by have h1 := HM.out; have h2 := HX.out; rw [Nat.pow_succ]; omega)
                  have HR4 : Hid (n = 4 ∨ k + 1 = 0) := Lib.hid (.inl h4)
                  have hw1 : IntKind.i64.wrap (256 * (m : Int)) = 256 * (m : Int) := by rw [IntKind.wrap_i64]; omega
                  have hw2 : IntKind.i64.wrap (256 * (m : Int) + (x : Int)) = 256 * (m : Int) + (x : Int) := by rw [IntKind.wrap_i64]; omega
                  clear hx h4 hk3 hmm hx48
                  go_wp2
                  go_round
                  case rel => exact ⟨256 * m + x, k + 1, by go_num, by go_num, by omega, HM2, HR4, HN2⟩
                  case measure => simp [intOf]; omega
                · have e4 : ((n : Int) == 4) = false := by simp; omega
                  have HF : Hid (decR P = none) := Lib.hid (by rw [HD.out, if_neg (by rw [HLn.out]; exact h4)])
                  clear hx h4
                  go_wp2
                  go_ret3
                  refine ⟨0, E, false, rfl, HB.out ▸ HW.out, (fun h => by cases h), fun _ => ?_⟩
                  rw [HN.out]; exact HF.out
            · obtain rfl : k = n := by omega
              have HF : Hid (decR P = some m) := Lib.hid (by
                have h4 := H4.out
                rw [HD.out, if_pos (by rw [HLn.out]; omega), HJ.out, List.drop_eq_nil_of_le (by rw [HLn.out]; omega)]; rfl)
              clear hlt
              go_wp2
              go_ret3
              refine ⟨m, E, true, rfl, HB.out ▸ HW.out, fun _ => ?_, (fun h => by cases h)⟩
              rw [HN.out]; exact ⟨HF.out, HEE.symm⟩
end Go.Proofs.YtnaopgajinbnmaaGreatDoor
