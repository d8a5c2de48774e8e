/- The reference's sources. -/
import Derived.Test.YtnaopgajinbnmaaGreatDoorRefTok
import Derived.Test.YtnaopgajinbnmaaGreatDoorMath3
namespace Go.Proofs.YtnaopgajinbnmaaGreatDoor
open Go.RowKit

theorem nosrc (b : UInt8) (h : srcB b = false) : blankB b = false ∧ (b.toNat == 47) = false ∧ letterB b = false ∧ digitB b = false ∧ b.toNat ≠ 34 ∧ isB 8 b = false := by
  have := all256 (fun b => srcB b || (!blankB b && !(b.toNat == 47) && !letterB b && !digitB b && !(b.toNat == 34) && !isB 8 b)) (by decide +kernel) b
  rw [h] at this
  simp at this
  obtain ⟨⟨⟨⟨⟨h1, h2⟩, h3⟩, h4⟩, h5⟩, h6⟩ := this
  exact ⟨h1, by simpa using h2, h3, h4, h5, h6⟩
theorem lexS_nil (k : Nat) (c : Bool) (a : Nat) : lexS k c a [] = ([], none) := by
  unfold lexS
  have : skipM c [] = 0 := by cases c <;> rfl
  rw [this]; cases k <;> rfl
theorem lexS_bad (k : Nat) (c : Bool) (a : Nat) (b : UInt8) (r : List UInt8) (h : srcB b = false) : lexS (k + 1) c a (b :: r) = ([], some a) := by
  obtain ⟨h1, h2, h3, h4, h5, h6⟩ := nosrc b h
  have hs : skipM c (b :: r) = 0 := by cases c <;> rw [skipM] <;> simp [h, h1, h2]
  unfold lexS
  rw [hs]
  exact lexQ_bad k _ _ (by simp) (by rw [List.drop_zero, tokL]; simp [h3, h4, h5, h6])
theorem lexS_in (k : Nat) (a : Nat) (b : UInt8) (r : List UInt8) (h : srcB b = true) : lexS k true a (b :: r) = lexS k (!(b.toNat == 10)) (a + 1) r := by
  unfold lexS
  have hs : skipM true (b :: r) = skipM (!(b.toNat == 10)) r + 1 := by
    rw [skipM, h]; cases (b.toNat == 10) <;> rfl
  rw [hs, List.drop_succ_cons, show a + (skipM (!(b.toNat == 10)) r + 1) = a + 1 + skipM (!(b.toNat == 10)) r by omega]
theorem lexS_blank (k : Nat) (a : Nat) (b : UInt8) (r : List UInt8) (h : blankB b = true) : lexS k false a (b :: r) = lexS k false (a + 1) r := by
  unfold lexS
  have hs : skipM false (b :: r) = skipM false r + 1 := by rw [skipM, h]; rfl
  rw [hs, List.drop_succ_cons, show a + (skipM false r + 1) = a + 1 + skipM false r by omega]
theorem lexS_slash (k : Nat) (a : Nat) (b d : UInt8) (r : List UInt8) (h : b.toNat = 47) (h2 : d.toNat = 47) : lexS k false a (b :: d :: r) = lexS k true (a + 2) r := by
  unfold lexS
  have hb : blankB b = false := by simp [blankB, h]
  have hd : srcB d = true := by simp [srcB, h2]
  have hs : skipM false (b :: d :: r) = skipM true r + 2 := by
    rw [skipM, hb, h, if_neg (by simp), if_pos (by simp [headIs, h2]), skipM, hd, h2]; rfl
  rw [hs, show a + (skipM true r + 2) = a + 2 + skipM true r by omega]
  rfl
theorem lexS_tok (k : Nat) (a : Nat) (b : UInt8) (r : List UInt8) (hb : blankB b = false) (h47 : ¬ (b.toNat = 47 ∧ (hd r).toNat = 47)) : lexS k false a (b :: r) = lexQ k a (b :: r) := by
  unfold lexS
  have hs : skipM false (b :: r) = 0 := by
    rw [skipM, hb]
    have : (b.toNat == 47 && headIs (fun d => d.toNat == 47) r) = false := by
      cases r with
      | nil => simp [headIs]
      | cons d r =>
        have : ¬ (b.toNat = 47 ∧ d.toNat = 47) := h47
        simp [headIs]; omega
    rw [this]; rfl
  rw [hs]; rfl

/-- What Cut answers. -/
def cutR (l : List UInt8) : List Tok × Nat × Nat :=
  match lexL l with
  | (_, some p) => ([], p, 2)
  | (ts, none) => (ts, ts.length, 0)
theorem cutR_bad {l : List UInt8} {p : Nat} {ts : List Tok} (h : lexL l = (ts, some p)) : cutR l = ([], p, 2) := by unfold cutR; rw [h]
theorem cutR_ok {l : List UInt8} {ts : List Tok} (h : lexL l = (ts, none)) : cutR l = (ts, ts.length, 0) := by unfold cutR; rw [h]
/-- What is yet to come. -/
def CutAt (s : ByteArray) (out : List Tok) (c : Bool) (a : Nat) : Prop := ∃ k, s.size - a < k ∧ lexL (bl s) = (out ++ (lexS k c a ((bl s).drop a)).1, (lexS k c a ((bl s).drop a)).2)

set_option maxRecDepth 100000 in
set_option maxHeartbeats 16000000 in
theorem rcut_any (s : ByteArray) (hz : s.size ≤ 1048576) (w : World) : Calls Tryz.prog 25 #[.string s] w (LexPost (cutR (bl s)) w) := by
  obtain ⟨i0, hi, hz0, hz1, hz2⟩ := info_parts info32
  obtain ⟨B, hB⟩ : ∃ B, w.heap.size = B := ⟨_, rfl⟩
  have HB := Lib.hid hB
  clear hB
  go_enter Tryz.func25, Tryz.ntmps25
  go_wp2
  go_loopw [5, 6, 7] (fun v c i wr => ∃ (out : List Tok) (cb : Bool) (a : Nat), c = .bool cb ∧ i = .int .i64 a ∧ a ≤ s.size ∧ out.length ≤ a ∧ wr.ownsRow B 32 4 v out.length (out.flatMap cellsT) ∧
      Hid (Below B w wr) ∧ Hid (CutAt s out cb a)) (fun _ _ i _ => s.size - (intOf i).toNat)
  case atStart => exact ⟨[], false, 0, rfl, rfl, by omega, by simp, World.ownsRow_nil _ _ _ _, Lib.hid (HB.out ▸ Below.refl _ _), Lib.hid ⟨(bl s).length + 1, by rw [bl_len]; omega, rfl⟩⟩
  case round =>
    obtain ⟨out, cb, a, rfl, rfl, ha, hol, hown, HW, HC⟩ := hrel
    have hsz := HW.out.size
    rw [HB.out] at hsz
    by_cases hal : a < s.size
    · obtain ⟨k, hk, hlx⟩ := HC.out
      obtain ⟨g, rfl⟩ : ∃ g, k = g + 1 := ⟨k - 1, by omega⟩
      rw [bl_at s a hal] at hlx
      have hdl : decide ((a : Int) < (s.size : Int)) = true := decide_eq_true (by omega)
      have hS := rsrc_any s[a] wr
      have HK := Lib.hid hk
      clear HC hk
      cases hs : srcB s[a] with
      | false =>
        rw [hs] at hS
        have HF : Hid (cutR (bl s) = ([], a, 2)) := Lib.hid (by rw [lexS_bad _ _ _ _ _ hs] at hlx; exact cutR_bad hlx)
        clear hlx hs
        go_wp2_with (go_at_call 31; refine hS.mono ?_; rintro e w' ⟨rfl, rfl⟩)
        go_ret3
        rw [HF.out]
        exact ⟨_, rfl, World.ownsRow_nil _ _ _ _, HB.out ▸ HW.out⟩
      | true =>
        rw [hs] at hS
        cases cb with
        | true =>
          rw [lexS_in _ _ _ _ hs] at hlx
          have e10 : ((s[a].toNat : Int) == 10) = (s[a].toNat == 10) := by
            rw [Bool.eq_iff_iff]; simp; omega
          have HN : Hid (CutAt s out (!(s[a].toNat == 10)) (a + 1)) := Lib.hid ⟨g + 1, by have := HK.out; omega, hlx⟩
          generalize (s[a].toNat == 10) = b10 at e10 HN
          clear hlx hs
          go_wp2_with (go_at_call 31; refine hS.mono ?_; rintro e w' ⟨rfl, rfl⟩)
          exact ⟨⟨out, !b10, a + 1, by rw [bne, e10], by go_num, by omega, by omega, hown, HW, HN⟩, by simp [intOf]; omega⟩
        | false =>
          cases hb : blankB s[a] with
          | true =>
            rw [lexS_blank _ _ _ _ hb] at hlx
            have HN : Hid (CutAt s out false (a + 1)) := Lib.hid ⟨g + 1, by have := HK.out; omega, hlx⟩
            have hbb : ((s[a].toNat : Int) == 9 || ((s[a].toNat : Int) == 10) || ((s[a].toNat : Int) == 32)) = true := by
              simp only [blankB] at hb; simp at hb ⊢; omega
            generalize h9 : ((s[a].toNat : Int) == 9) = b9 at hbb
            generalize h10 : ((s[a].toNat : Int) == 10) = b10 at hbb
            generalize h32 : ((s[a].toNat : Int) == 32) = b32 at hbb
            clear hlx hs hb
            cases b9
            · cases b10
              · cases b32
                · cases hbb
                · go_wp2_with (go_at_call 31; refine hS.mono ?_; rintro e w' ⟨rfl, rfl⟩)
                  exact ⟨⟨out, false, a + 1, rfl, by go_num, by omega, by omega, hown, HW, HN⟩, by simp [intOf]; omega⟩
              · go_wp2_with (go_at_call 31; refine hS.mono ?_; rintro e w' ⟨rfl, rfl⟩)
                exact ⟨⟨out, false, a + 1, rfl, by go_num, by omega, by omega, hown, HW, HN⟩, by simp [intOf]; omega⟩
            · go_wp2_with (go_at_call 31; refine hS.mono ?_; rintro e w' ⟨rfl, rfl⟩)
              exact ⟨⟨out, false, a + 1, rfl, by go_num, by omega, by omega, hown, HW, HN⟩, by simp [intOf]; omega⟩
          | false =>
            have hbb : ((s[a].toNat : Int) == 9) = false ∧ ((s[a].toNat : Int) == 10) = false ∧ ((s[a].toNat : Int) == 32) = false := by
              simp only [blankB] at hb; simp at hb ⊢; omega
            obtain ⟨h9, h10, h32⟩ := hbb
            have y1 := byteAt_any s (a + 1) wr
            have hin : (hd ((bl s).drop (a + 1))).toNat = 47 → a + 1 < s.size := fun h => by
              rcases Nat.lt_or_ge (a + 1) s.size with h1 | h1
              · exact h1
              · rw [hd_end s _ h1] at h; exact absurd h (by decide)
            by_cases h47 : s[a].toNat = 47 ∧ (hd ((bl s).drop (a + 1))).toNat = 47
            · have hlt := hin h47.2
              have e1 : ((s[a].toNat : Int) == 47) = true := by simp [h47.1]
              have e2 : (((hd ((bl s).drop (a + 1))).toNat : Int) == 47) = true := by simp [h47.2]
              have HN : Hid (CutAt s out true (a + 2)) := Lib.hid (by
                have h2 := h47.2
                rw [hd_at s _ hlt] at h2
                rw [bl_at s _ hlt, lexS_slash _ _ _ _ _ h47.1 h2] at hlx
                exact ⟨g + 1, by have := HK.out; omega, hlx⟩)
              generalize hd ((bl s).drop (a + 1)) = d at y1 e2 hin h47
              clear hlx hs hb hin h47
              go_wp2_with (first | (go_at_call 31; refine hS.mono ?_; rintro e w' ⟨rfl, rfl⟩) | (go_at_call 32; rw [show ((a : Int) + 1) = ((a + 1 : Nat) : Int) from by omega]; refine y1.mono ?_; rintro e w' ⟨rfl, rfl⟩))
              exact ⟨⟨out, true, a + 2, rfl, by go_num, by omega, by omega, hown, HW, HN⟩, by simp [intOf]; omega⟩
            · have hg : (((s[a].toNat : Int) == 47) = true ∧ (((hd ((bl s).drop (a + 1))).toNat : Int) == 47) = false) ∨ ((s[a].toNat : Int) == 47) = false := by
                by_cases h1 : s[a].toNat = 47
                · left
                  have : (hd ((bl s).drop (a + 1))).toNat ≠ 47 := fun h => h47 ⟨h1, h⟩
                  exact ⟨by simp [h1], by simp; omega⟩
                · right; simp; omega
              rw [lexS_tok _ _ _ _ hb h47] at hlx
              have hR := rtok_any s a hal hz wr
              have hne : (bl s).drop a ≠ [] := by rw [bl_at s a hal]; simp
              rw [← bl_at s a hal] at hlx
              obtain ⟨R, hRR⟩ : ∃ R, tokL a ((bl s).drop a) = R := ⟨_, rfl⟩
              rw [hRR] at hR
              generalize hd ((bl s).drop (a + 1)) = d at y1 hg hin h47
              have HX := Lib.hid (And.intro hne (And.intro hlx hRR))
              clear hlx hs hb hin h47 hne hRR
              rcases hg with ⟨e1, e2⟩ | e1
              all_goals
                go_wp2_with (first | (go_at_call 31; refine hS.mono ?_; rintro e w' ⟨rfl, rfl⟩) | (go_at_call 32; rw [show ((a : Int) + 1) = ((a + 1 : Nat) : Int) from by omega]; refine y1.mono ?_; rintro e w' ⟨rfl, rfl⟩))
                go_wp2_with (go_at_call 33; refine hR.mono ?_)
                rintro e w2 ⟨t, n, b, rfl, hb2, ht, hf⟩
                have hB2 : Below B w w2 := HW.out.trans (hb2.mono hsz)
                have hown2 := own_below hown hb2
                have hsz2 := hb2.size
                clear hb2
                cases b with
                | false =>
                  have HF : Hid (cutR (bl s) = ([], a, 2)) := Lib.hid (by
                    have h1 := hf rfl
                    have h2 := HX.out
                    rw [h1] at h2
                    have h3 := h2.2.1
                    rw [lexQ_bad _ _ _ h2.1 h2.2.2] at h3
                    exact cutR_bad h3)
                  have hbe : Below w.heap.size w (w2.alloc (.cells #[.int .i64 t.kind, .int .i64 t.num, .int .i64 t.at_, .string ⟨t.text.toArray⟩] 32)) := HB.out.symm ▸ hB2.alloc (by omega) _
                  have HBE := Lib.hid hbe
                  clear ht hf hbe
                  go_wp2
                  go_ret3
                  rw [HF.out]
                  exact ⟨_, rfl, World.ownsRow_nil _ _ _ _, HBE.out⟩
                | true =>
                  obtain ⟨m, h1, rfl⟩ := ht rfl
                  have hms : 1 ≤ m ∧ a + m ≤ s.size := by
                    have h2 := HX.out.2.2
                    rw [h1] at h2
                    have := tokL_size _ _ _ _ h2
                    rw [List.length_drop, bl_len] at this
                    omega
                  have HN : Hid (CutAt s (out ++ [t]) false (a + m)) := Lib.hid (by
                    have h2 := HX.out
                    rw [h1] at h2
                    have h3 := h2.2.1
                    rw [lexQ_step _ _ _ _ _ h2.2.2, List.drop_drop] at h3
                    exact ⟨g, by have := HK.out; omega, by rw [h3]; simp⟩)
                  have b1 : out.length + 1 ≤ maxLen := by unfold maxLen; omega
                  have b2 : (out.length + 1) * 40 ≤ 140737488355328 := by omega
                  have hcells := cells4_new (w2.alloc (.cells #[.int .i64 t.kind, .int .i64 t.num, .int .i64 t.at_, .string ⟨t.text.toArray⟩] 32)) (.int .i64 t.kind) (.int .i64 t.num) (.int .i64 t.at_) (.string ⟨t.text.toArray⟩)
                  rw [World.size_alloc] at hcells
                  have hcl := (Blk.new w2 32 #[.int .i64 t.kind, .int .i64 t.num, .int .i64 t.at_, .string ⟨t.text.toArray⟩])
                  clear ht hf h1
                  go_wp2_with (at_builtin; refine wpList_append_own _ rfl _ _ 22 rfl B 32 i0 (.agg #[.int .i64 0, .int .i64 0, .int .i64 0, .string ⟨#[]⟩]) 4 40 Tryz.underlying22 hi hz0 hz1 hz2 rfl (by decide) _ _ _ rfl ((hown2.alloc _).alloc _) ⟨w2.heap.size + 1, 0, none⟩ 1 1 (cellsT t) rfl rfl hcells (by simp [Value.oneCell']) b1 b2 (by simp; omega) ?_; intro v' w1 hown' hgrow _)
                  have hBe : Below B w w1 := ((hB2.alloc (by omega) _).alloc (by simp; omega) _).grown hgrow (by simp; omega) (fun g hg => by have := (hown2.lt g hg).1; omega)
                  exact ⟨⟨out ++ [t], false, a + m, rfl, by go_num, by omega, by simp; omega, by simpa using hown', Lib.hid hBe, HN⟩, by simp [intOf]; omega⟩
    · have HF : Hid (cutR (bl s) = (out, out.length, 0)) := Lib.hid (by
        obtain ⟨k, hk, hlx⟩ := HC.out
        rw [List.drop_eq_nil_of_le (by rw [bl_len]; omega), lexS_nil] at hlx
        exact cutR_ok (by rw [hlx]; simp))
      obtain rfl : a = s.size := by omega
      have hown3 := Lib.hid hown
      obtain ⟨A, cp, rfl, -⟩ := own_form hown
      clear hal
      go_wp2
      go_ret3
      rw [HF.out]
      refine ⟨_, rfl, ?_, HB.out ▸ HW.out⟩
      rw [HB.out]; exact hown3.out
end Go.Proofs.YtnaopgajinbnmaaGreatDoor
