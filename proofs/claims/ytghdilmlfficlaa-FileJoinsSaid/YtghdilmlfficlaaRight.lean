/- isRight and Validate: the reference's; Validate: the program's. -/
import Derived.Test.YtghdilmlfficlaaVald
import Derived.Test.YtghdilmlfficlaaRPkt
import Derived.Deep.RegionHeld3
import Derived.StillTailTactics
namespace Go.Proofs.Ytghdilmlfficlaa
open Go.RowKit

set_option maxRecDepth 100000 in
set_option maxHeartbeats 16000000 in
theorem right_any {w : World} {p : Pl} {c : Cap} (hm : CapM w w.heap.size p c) :
    Calls Try.prog 104 #[capV p c] w fun e w' => e = .returned (.bool (capB c)) ∧ Below w.heap.size w w' := by
  obtain ⟨pf, cf, pn, cn, ps, cs, pp, cp⟩ := p
  obtain ⟨B, hB⟩ : ∃ B, w.heap.size = B := ⟨_, rfl⟩
  have HB := Lib.hid hB
  have lf : c.faces.length ≤ 140737488355328 := by have := hm.lf; omega
  have ln : c.names.length ≤ 140737488355328 := by have := hm.ln; omega
  have ls : c.secs.length ≤ 140737488355328 := by have := hm.ls; omega
  have lp : c.pkts.length ≤ 140737488355328 := by have := hm.lp; omega
  have HM := Lib.hid hm
  have hnote := hm.note
  rw [hB] at HM
  clear hB hm
  cases h0 : textB c.note with
  | false =>
    have HR := Lib.hid (capB_note h0)
    have H0 := Lib.hid h0
    clear h0
    go_enter Try.func104, Try.ntmps104
    go_wp2_with fail
    refine (rtext_any _ _ hnote).mono ?_
    rintro e w' ⟨rfl, rfl⟩
    rw [H0.out]
    go_wp2
    go_ret
    exact ⟨ret_bool HR.out.symm, (Below.refl _ _).alloc (Nat.le_refl _) _⟩
  | true =>
    have H0 := Lib.hid h0
    clear h0
    by_cases hz : (c.faces.length : Int) < 1
    · have HR := Lib.hid (capB_none (c := c) (by omega))
      go_enter Try.func104, Try.ntmps104
      go_wp2_with fail
      refine (rtext_any _ _ hnote).mono ?_
      rintro e w' ⟨rfl, rfl⟩
      rw [H0.out]
      go_wp2
      go_ret
      exact ⟨ret_bool HR.out.symm, (Below.refl _ _).alloc (Nat.le_refl _) _⟩
    have hz0 : decide ((c.faces.length : Int) < 1) = false := decide_eq_false hz
    go_enter Try.func104, Try.ntmps104
    go_wp2_with fail
    refine (rtext_any _ _ hnote).mono ?_
    rintro e w' ⟨rfl, rfl⟩
    rw [H0.out]
    go_wp2
    have HW0 : Hid (Blk (w.alloc (.cells (capV ⟨pf, cf, pn, cn, ps, cs, pp, cp⟩ c).cells 31)) B 31 (capV ⟨pf, cf, pn, cn, ps, cs, pp, cp⟩ c).cells ∧ Below B w (w.alloc (.cells (capV ⟨pf, cf, pn, cn, ps, cs, pp, cp⟩ c).cells 31))) := Lib.hid ⟨by rw [← HB.out]; exact Blk.new _ _ _, (Below.refl _ _).alloc (by rw [HB.out]; omega) _⟩
    rw [HB.out]
    go_loopw [3] (fun i wr => ∃ k : Nat, i = .int .i64 k ∧ k ≤ c.faces.length ∧ Hid ((c.faces.take k).all facB = true) ∧ Hid (Blk wr B 31 (capV ⟨pf, cf, pn, cn, ps, cs, pp, cp⟩ c).cells ∧ Below B w wr)) (fun i _ => c.faces.length - (intOf i).toNat)
    case atStart => exact ⟨0, rfl, Nat.zero_le _, Lib.hid (by simp), HW0⟩
    case round =>
      obtain ⟨k, rfl, hk, HA, HW⟩ := hrel
      have hbc1 := HW.out.1.cell 1
      have hbc2 := HW.out.1.cell 2
      have hbc3 := HW.out.1.cell 3
      have hbc4 := HW.out.1.cell 4
      have hBl := HW.out.1.lt
      by_cases hlt : k < c.faces.length
      · obtain ⟨b, o, hA, hb, vs, hl, ⟨rfl, hbig, _, _⟩, hcell⟩ := (HM.out.faces.keep facK HW.out.2 (Nat.le_refl _)).row k hlt
        change pf = _ at hA
        subst hA
        have c0 : wr.cell? ⟨b, o + k * 3, none⟩ = _ := hcell 0 _ rfl
        have c1 := hcell 1 _ rfl
        have c2 := hcell 2 _ rfl
        clear hcell
        cases h1 : textB c.faces[k].name with
        | false =>
          have HR : Hid (capB c = false) := Lib.hid (capB_faces (all_false _ _ k hlt (facB_name h1)))
          have H1 := Lib.hid h1
          clear h1
          go_wp2_with fail
          refine (rtext_any _ _ hbig).mono ?_
          rintro e w' ⟨rfl, rfl⟩
          rw [H1.out]

          have HW1 := Lib.hid (round_alloc HW.out (.cells #[.string c.faces[k].name, .int .i64 c.faces[k].link, .int .i64 c.faces[k].snap] 79))
          go_wp2
          go_ret
          exact ⟨ret_bool HR.out.symm, by rw [HB.out]; exact HW1.out.2⟩

        | true =>
          have H1 := Lib.hid h1
          clear h1
          by_cases h2 : c.faces[k].link < 0
          · have HR : Hid (capB c = false) := Lib.hid (capB_faces (all_false _ _ k hlt (facB_link (within_false (Or.inl h2)))))
            go_wp2_with fail
            refine (rtext_any _ _ hbig).mono ?_
            rintro e w' ⟨rfl, rfl⟩
            rw [H1.out]

            have HW1 := Lib.hid (round_alloc HW.out (.cells #[.string c.faces[k].name, .int .i64 c.faces[k].link, .int .i64 c.faces[k].snap] 79))
            go_wp2
            go_ret
            exact ⟨ret_bool HR.out.symm, by rw [HB.out]; exact HW1.out.2⟩

          by_cases h3 : 65535 < c.faces[k].link
          · have HR : Hid (capB c = false) := Lib.hid (capB_faces (all_false _ _ k hlt (facB_link (within_false (Or.inr h3)))))
            go_wp2_with fail
            refine (rtext_any _ _ hbig).mono ?_
            rintro e w' ⟨rfl, rfl⟩
            rw [H1.out]

            have HW1 := Lib.hid (round_alloc HW.out (.cells #[.string c.faces[k].name, .int .i64 c.faces[k].link, .int .i64 c.faces[k].snap] 79))
            go_wp2
            go_ret
            exact ⟨ret_bool HR.out.symm, by rw [HB.out]; exact HW1.out.2⟩

          by_cases h4 : c.faces[k].snap < 0
          · have HR : Hid (capB c = false) := Lib.hid (capB_faces (all_false _ _ k hlt (facB_snap (within_false (Or.inl h4)))))
            go_wp2_with fail
            refine (rtext_any _ _ hbig).mono ?_
            rintro e w' ⟨rfl, rfl⟩
            rw [H1.out]

            have HW1 := Lib.hid (round_alloc HW.out (.cells #[.string c.faces[k].name, .int .i64 c.faces[k].link, .int .i64 c.faces[k].snap] 79))
            go_wp2
            go_ret
            exact ⟨ret_bool HR.out.symm, by rw [HB.out]; exact HW1.out.2⟩

          by_cases h5 : 400 < c.faces[k].snap
          · have HR : Hid (capB c = false) := Lib.hid (capB_faces (all_false _ _ k hlt (facB_snap (within_false (Or.inr h5)))))
            go_wp2_with fail
            refine (rtext_any _ _ hbig).mono ?_
            rintro e w' ⟨rfl, rfl⟩
            rw [H1.out]

            have HW1 := Lib.hid (round_alloc HW.out (.cells #[.string c.faces[k].name, .int .i64 c.faces[k].link, .int .i64 c.faces[k].snap] 79))
            go_wp2
            go_ret
            exact ⟨ret_bool HR.out.symm, by rw [HB.out]; exact HW1.out.2⟩

          have HP : Hid (facB c.faces[k] = true) := Lib.hid (facB_true H1.out (within_true (by omega) (by omega)) (within_true (by omega) (by omega)))
          go_wp2_with fail
          refine (rtext_any _ _ hbig).mono ?_
          rintro e w' ⟨rfl, rfl⟩
          rw [H1.out]

          go_wp2
          have HW1 := Lib.hid (round_alloc HW.out (.cells #[.string c.faces[k].name, .int .i64 c.faces[k].link, .int .i64 c.faces[k].snap] 79))
          go_roundw
          case rel => exact ⟨k + 1, by go_num, by omega, Lib.hid (by rw [all_take_succ _ _ k hlt, HA.out, HP.out]; rfl), HW1⟩
          case measure => simp [intOf]; omega

      · have hkn : k = c.faces.length := by omega
        subst hkn
        have HF : Hid (c.faces.all facB = true) := Lib.hid (by have := HA.out; rw [List.take_length] at this; exact this)
        go_wp2
        clear hbc1 hbc2 hbc3 hbc4 hBl
        go_loopw [5] (fun i wr => ∃ k : Nat, i = .int .i64 k ∧ k ≤ c.names.length ∧ Hid ((c.names.take k).all namB = true) ∧ Hid (Blk wr B 31 (capV ⟨pf, cf, pn, cn, ps, cs, pp, cp⟩ c).cells ∧ Below B w wr)) (fun i _ => c.names.length - (intOf i).toNat)
        case atStart => exact ⟨0, rfl, Nat.zero_le _, Lib.hid (by simp), HW⟩
        case round =>
          obtain ⟨k, rfl, hk, HA, HW⟩ := hrel
          have hbc1 := HW.out.1.cell 1
          have hbc2 := HW.out.1.cell 2
          have hbc3 := HW.out.1.cell 3
          have hbc4 := HW.out.1.cell 4
          have hBl := HW.out.1.lt
          by_cases hlt : k < c.names.length
          · obtain ⟨b, o, hA, hb, vs, hl, ⟨A2, cp2, rfl, hbyc, hbig⟩, hcell⟩ := (HM.out.names.keep namK HW.out.2 (Nat.le_refl _)).row k hlt
            change pn = _ at hA
            subst hA
            have c0 : wr.cell? ⟨b, o + k * 2, none⟩ = _ := hcell 0 _ rfl
            have c1 := hcell 1 _ rfl
            clear hcell
            have hlen2 := hbyc.le
            have hcap2 := hbyc.cap
            clear hbyc
            by_cases h1 : (c.names[k].addr.length : Int) < 1
            · have HR : Hid (capB c = false) := Lib.hid (capB_names (all_false _ _ k hlt (namB_addr (within_false (Or.inl (by omega))))))
              have HW1 := Lib.hid (round_alloc HW.out (.cells #[.slice A2 c.names[k].addr.length cp2, .string c.names[k].text] 92))
              go_wp2
              go_ret
              exact ⟨ret_bool HR.out.symm, by rw [HB.out]; exact HW1.out.2⟩

            by_cases h2 : (16 : Int) < c.names[k].addr.length
            · have HR : Hid (capB c = false) := Lib.hid (capB_names (all_false _ _ k hlt (namB_addr (within_false (Or.inr (by omega))))))
              have HW1 := Lib.hid (round_alloc HW.out (.cells #[.slice A2 c.names[k].addr.length cp2, .string c.names[k].text] 92))
              go_wp2
              go_ret
              exact ⟨ret_bool HR.out.symm, by rw [HB.out]; exact HW1.out.2⟩

            cases h3 : textB c.names[k].text with
            | false =>
              have HR : Hid (capB c = false) := Lib.hid (capB_names (all_false _ _ k hlt (namB_text h3)))
              have H3 := Lib.hid h3
              clear h3
              go_wp2_with fail
              refine (rtext_any _ _ hbig).mono ?_
              rintro e w' ⟨rfl, rfl⟩
              rw [H3.out]

              have HW1 := Lib.hid (round_alloc HW.out (.cells #[.slice A2 c.names[k].addr.length cp2, .string c.names[k].text] 92))
              go_wp2
              go_ret
              exact ⟨ret_bool HR.out.symm, by rw [HB.out]; exact HW1.out.2⟩

            | true =>
              have H3 := Lib.hid h3
              clear h3
              have HP : Hid (namB c.names[k] = true) := Lib.hid (namB_true H3.out (within_true (by omega) (by omega)))
              go_wp2_with fail
              refine (rtext_any _ _ hbig).mono ?_
              rintro e w' ⟨rfl, rfl⟩
              rw [H3.out]

              go_wp2
              have HW1 := Lib.hid (round_alloc HW.out (.cells #[.slice A2 c.names[k].addr.length cp2, .string c.names[k].text] 92))
              go_roundw
              case rel => exact ⟨k + 1, by go_num, by omega, Lib.hid (by rw [all_take_succ _ _ k hlt, HA.out, HP.out]; rfl), HW1⟩
              case measure => simp [intOf]; omega

          · have hkn : k = c.names.length := by omega
            subst hkn
            have HN : Hid (c.names.all namB = true) := Lib.hid (by have := HA.out; rw [List.take_length] at this; exact this)
            go_wp2
            clear hbc1 hbc2 hbc3 hbc4 hBl
            go_loopw [7] (fun i wr => ∃ k : Nat, i = .int .i64 k ∧ k ≤ c.secs.length ∧ Hid ((c.secs.take k).all secB = true) ∧ Hid (Blk wr B 31 (capV ⟨pf, cf, pn, cn, ps, cs, pp, cp⟩ c).cells ∧ Below B w wr)) (fun i _ => c.secs.length - (intOf i).toNat)
            case atStart => exact ⟨0, rfl, Nat.zero_le _, Lib.hid (by simp), HW⟩
            case round =>
              obtain ⟨k, rfl, hk, HA, HW⟩ := hrel
              have hbc1 := HW.out.1.cell 1
              have hbc2 := HW.out.1.cell 2
              have hbc3 := HW.out.1.cell 3
              have hbc4 := HW.out.1.cell 4
              have hBl := HW.out.1.lt
              by_cases hlt : k < c.secs.length
              · obtain ⟨b, o, hA, hb, vs, hl, ⟨A2, cp2, rfl, hbyc, hbig⟩, hcell⟩ := (HM.out.secs.keep secK HW.out.2 (Nat.le_refl _)).row k hlt
                change ps = _ at hA
                subst hA
                have c0 : wr.cell? ⟨b, o + k * 2, none⟩ = _ := hcell 0 _ rfl
                have c1 := hcell 1 _ rfl
                clear hcell
                have hlen2 := hbyc.le
                have hcap2 := hbyc.cap
                clear hbyc
                cases h1 : textB c.secs[k].label with
                | false =>
                  have HR : Hid (capB c = false) := Lib.hid (capB_secs (all_false _ _ k hlt (secB_text h1)))
                  have H1 := Lib.hid h1
                  clear h1
                  go_wp2_with fail
                  refine (rtext_any _ _ hbig).mono ?_
                  rintro e w' ⟨rfl, rfl⟩
                  rw [H1.out]

                  have HW1 := Lib.hid (round_alloc HW.out (.cells #[.string c.secs[k].label, .slice A2 c.secs[k].key.length cp2] 95))
                  go_wp2
                  go_ret
                  exact ⟨ret_bool HR.out.symm, by rw [HB.out]; exact HW1.out.2⟩

                | true =>
                  have H1 := Lib.hid h1
                  clear h1
                  by_cases hpos : 0 < c.secs[k].label.size
                  · have hemp : c.secs[k].label.toList.isEmpty = false := notEmpty hpos
                    by_cases h3 : (c.secs[k].key.length : Int) < 1
                    · have HR : Hid (capB c = false) := Lib.hid (capB_secs (all_false _ _ k hlt (secB_key (within_false (Or.inl (by omega))))))
                      go_wp2_with fail
                      refine (rtext_any _ _ hbig).mono ?_
                      rintro e w' ⟨rfl, rfl⟩
                      rw [H1.out]

                      have HW1 := Lib.hid (round_alloc HW.out (.cells #[.string c.secs[k].label, .slice A2 c.secs[k].key.length cp2] 95))
                      go_wp2
                      go_ret
                      exact ⟨ret_bool HR.out.symm, by rw [HB.out]; exact HW1.out.2⟩

                    by_cases h4 : (200 : Int) < c.secs[k].key.length
                    · have HR : Hid (capB c = false) := Lib.hid (capB_secs (all_false _ _ k hlt (secB_key (within_false (Or.inr (by omega))))))
                      go_wp2_with fail
                      refine (rtext_any _ _ hbig).mono ?_
                      rintro e w' ⟨rfl, rfl⟩
                      rw [H1.out]

                      have HW1 := Lib.hid (round_alloc HW.out (.cells #[.string c.secs[k].label, .slice A2 c.secs[k].key.length cp2] 95))
                      go_wp2
                      go_ret
                      exact ⟨ret_bool HR.out.symm, by rw [HB.out]; exact HW1.out.2⟩

                    have HP : Hid (secB c.secs[k] = true) := Lib.hid (secB_true H1.out hpos (within_true (by omega) (by omega)))
                    go_wp2_with fail
                    refine (rtext_any _ _ hbig).mono ?_
                    rintro e w' ⟨rfl, rfl⟩
                    rw [H1.out]

                    go_wp2
                    have HW1 := Lib.hid (round_alloc HW.out (.cells #[.string c.secs[k].label, .slice A2 c.secs[k].key.length cp2] 95))
                    go_roundw
                    case rel => exact ⟨k + 1, by go_num, by omega, Lib.hid (by rw [all_take_succ _ _ k hlt, HA.out, HP.out]; rfl), HW1⟩
                    case measure => simp [intOf]; omega

                  · have hemp : c.secs[k].label.toList.isEmpty = true := isEmpty hpos
                    have HR : Hid (capB c = false) := Lib.hid (capB_secs (all_false _ _ k hlt (secB_empty hpos)))
                    go_wp2_with fail
                    refine (rtext_any _ _ hbig).mono ?_
                    rintro e w' ⟨rfl, rfl⟩
                    rw [H1.out]

                    have HW1 := Lib.hid (round_alloc HW.out (.cells #[.string c.secs[k].label, .slice A2 c.secs[k].key.length cp2] 95))
                    go_wp2
                    go_ret
                    exact ⟨ret_bool HR.out.symm, by rw [HB.out]; exact HW1.out.2⟩

              · have hkn : k = c.secs.length := by omega
                subst hkn
                have HS : Hid (c.secs.all secB = true) := Lib.hid (by have := HA.out; rw [List.take_length] at this; exact this)
                go_wp2
                clear hbc1 hbc2 hbc3 hbc4 hBl
                go_loopw [9] (fun i wr => ∃ k : Nat, i = .int .i64 k ∧ k ≤ c.pkts.length ∧ Hid ((c.pkts.take k).all (pktB c.faces) = true) ∧ Hid (Blk wr B 31 (capV ⟨pf, cf, pn, cn, ps, cs, pp, cp⟩ c).cells ∧ Below B w wr)) (fun i _ => c.pkts.length - (intOf i).toNat)
                case atStart => exact ⟨0, rfl, Nat.zero_le _, Lib.hid (by simp), HW⟩
                case round =>
                  obtain ⟨k, rfl, hk, HA, HW⟩ := hrel
                  have hbc1 := HW.out.1.cell 1
                  have hbc2 := HW.out.1.cell 2
                  have hbc3 := HW.out.1.cell 3
                  have hbc4 := HW.out.1.cell 4
                  have hBl := HW.out.1.lt
                  by_cases hlt : k < c.pkts.length
                  · obtain ⟨b, o, hA, hb, vs, hl, ⟨A2, cp2, rfl, hbyc, hbig, _, hfb, _⟩, hcell⟩ := (HM.out.pkts.keep pktK HW.out.2 (Nat.le_refl _)).row k hlt
                    change pp = _ at hA
                    subst hA
                    have c0 : wr.cell? ⟨b, o + k * 5, none⟩ = _ := hcell 0 _ rfl
                    have c1 := hcell 1 _ rfl
                    have c2 := hcell 2 _ rfl
                    have c3 := hcell 3 _ rfl
                    have c4 := hcell 4 _ rfl
                    clear hcell
                    have hlen2 := hbyc.le
                    have hcap2 := hbyc.cap
                    clear hbyc
                    have HW2 := Lib.hid (round_alloc HW.out (.cells #[.int .i64 c.pkts[k].time, .int .i64 c.pkts[k].face, .int .i64 c.pkts[k].real, .slice A2 c.pkts[k].data.length cp2, .string c.pkts[k].note] 50))
                    have HB2 : Hid (Blk (wr.alloc (.cells #[.int .i64 c.pkts[k].time, .int .i64 c.pkts[k].face, .int .i64 c.pkts[k].real, .slice A2 c.pkts[k].data.length cp2, .string c.pkts[k].note] 50)) wr.heap.size 50 #[.int .i64 c.pkts[k].time, .int .i64 c.pkts[k].face, .int .i64 c.pkts[k].real, .slice A2 c.pkts[k].data.length cp2, .string c.pkts[k].note]) := Lib.hid (Blk.new _ _ _)
                    obtain ⟨W2, hW2⟩ : ∃ W2, wr.alloc (.cells #[.int .i64 c.pkts[k].time, .int .i64 c.pkts[k].face, .int .i64 c.pkts[k].real, .slice A2 c.pkts[k].data.length cp2, .string c.pkts[k].note] 50) = W2 := ⟨_, rfl⟩
                    have hsz2 : wr.heap.size + 1 = W2.heap.size := by rw [← hW2, alloc_size]
                    rw [hW2] at HW2 HB2
                    obtain ⟨N, hN⟩ : ∃ N, wr.heap.size = N := ⟨_, rfl⟩
                    rw [hN] at HB2 hsz2 hBl
                    have HNl : Hid (N + 1 = W2.heap.size) := Lib.hid hsz2
                    clear hsz2
                    by_cases hf1 : c.pkts[k].face < 0
                    · have HR : Hid (capB c = false) := Lib.hid (capB_pkts (all_false _ _ k hlt (by unfold pktB; rw [within_false (Or.inl hf1)]; rfl)))
                      have d1 := HB2.out.cell 1
                      have hg1 : decide (c.pkts[k].face < 0) = true := decide_eq_true hf1
                      go_wp2_with fail
                      clear hW2 c0 c1 c2 c3 c4 hbc1 hbc2 hbc3 hbc4 HN HS HF HA
                      go_quiet (fail)
                      go_wp2
                      go_ret
                      exact ⟨ret_bool HR.out.symm, by rw [HB.out]; exact below_drewN HW2.out.2 _⟩
                    by_cases hf2 : (c.faces.length : Int) ≤ c.pkts[k].face
                    · have HR : Hid (capB c = false) := Lib.hid (capB_pkts (all_false _ _ k hlt (by unfold pktB; rw [within_false (Or.inr (by omega))]; rfl)))
                      have d1 := HB2.out.cell 1
                      have e1 := HW2.out.1.cell 1
                      have hg1 : decide (c.pkts[k].face < 0) = false := decide_eq_false hf1
                      have hg2 : decide ((c.faces.length : Int) ≤ c.pkts[k].face) = true := decide_eq_true hf2
                      go_wp2_with fail
                      clear hW2 c0 c1 c2 c3 c4 hbc1 hbc2 hbc3 hbc4 HN HS HF HA
                      go_quiet (fail)
                      go_wp2
                      go_ret
                      exact ⟨ret_bool HR.out.symm, by rw [HB.out]; exact below_drewN HW2.out.2 _⟩
                    obtain ⟨q, hq⟩ : ∃ q : Nat, c.pkts[k].face = q := ⟨c.pkts[k].face.toNat, by omega⟩
                    have hql : q < c.faces.length := by omega
                    have HPB : Hid (pktB c.faces c.pkts[k] = pktS c.faces[q].snap c.pkts[k]) := Lib.hid (by unfold pktB; rw [within_true (by omega) (by omega), hq]; simp [hql])
                    obtain ⟨b3, o3, hA3, hb3, vs3, hl3, ⟨rfl, _, _, _⟩, hcell3⟩ := (HM.out.faces.keep facK HW2.out.2 (Nat.le_refl _)).row q hql
                    change pf = _ at hA3
                    subst hA3
                    have g2 := hcell3 2 _ rfl
                    clear hcell3
                    have hg1 : decide (c.pkts[k].face < 0) = false := decide_eq_false hf1
                    have hg2 : decide ((c.faces.length : Int) ≤ c.pkts[k].face) = false := decide_eq_false hf2
                    have hg3 : (0 : Int) ≤ c.pkts[k].face := by omega
                    have hg4 : c.pkts[k].face < (c.faces.length : Int) := by omega
                    have hg5 : c.pkts[k].face.toNat = q := by omega
                    have d0 := HB2.out.cell 0
                    have d1 := HB2.out.cell 1
                    have d2 := HB2.out.cell 2
                    have d3 := HB2.out.cell 3
                    have d4 := HB2.out.cell 4
                    have e1 := HW2.out.1.cell 1
                    have HQ := Lib.hid hq
                    clear hq hf1 hf2
                    cases h1 : pktB c.faces c.pkts[k] with
                    | false =>
                      have HR : Hid (capB c = false) := Lib.hid (capB_pkts (all_false _ _ k hlt h1))
                      rw [HPB.out] at h1
                      have H1 := Lib.hid h1
                      clear h1
                      go_wp2_with fail
                      clear hW2 c0 c1 c2 c3 c4 hbc1 hbc2 hbc3 hbc4
                      go_still_tail 20, (by kernel_rfl)
                      change wpList _ _ _ _ _ W2.drew
                      have HW3 : Hid (Blk W2.drew B 31 (capV ⟨some ⟨b3, o3, none⟩, cf, pn, cn, ps, cs, some ⟨b, o, none⟩, cp⟩ c).cells ∧ Below B w W2.drew) := Lib.hid ⟨HW2.out.1.drewN 1, HW2.out.2.drew⟩
                      generalize W2.drew = w3 at HW3 ⊢
                      go_wp2_with fail
                      refine (rpkt_any _ (by omega) hbig).mono ?_
                      rintro e w1 ⟨rfl, hB1⟩
                      rw [H1.out]
                      have HW4 := Lib.hid (show Blk w1 B 31 (capV ⟨some ⟨b3, o3, none⟩, cf, pn, cn, ps, cs, some ⟨b, o, none⟩, cp⟩ c).cells ∧ Below B w w1 from ⟨HW3.out.1.below hB1 HW3.out.1.lt, HW3.out.2.trans (hB1.mono (Nat.le_of_lt HW3.out.1.lt))⟩)
                      clear hB1
                      go_wp2
                      go_ret
                      exact ⟨ret_bool HR.out.symm, by rw [HB.out]; exact HW4.out.2⟩
                    | true =>
                      have HA2 : Hid ((c.pkts.take (k + 1)).all (pktB c.faces) = true) := Lib.hid (by rw [all_take_succ _ _ k hlt, HA.out, h1]; rfl)
                      rw [HPB.out] at h1
                      have H1 := Lib.hid h1
                      clear h1
                      go_wp2_with fail
                      clear hW2 c0 c1 c2 c3 c4 hbc1 hbc2 hbc3 hbc4
                      go_still_tail 20, (by kernel_rfl)
                      change wpList _ _ _ _ _ W2.drew
                      have HW3 : Hid (Blk W2.drew B 31 (capV ⟨some ⟨b3, o3, none⟩, cf, pn, cn, ps, cs, some ⟨b, o, none⟩, cp⟩ c).cells ∧ Below B w W2.drew) := Lib.hid ⟨HW2.out.1.drewN 1, HW2.out.2.drew⟩
                      generalize W2.drew = w3 at HW3 ⊢
                      go_wp2_with fail
                      refine (rpkt_any _ (by omega) hbig).mono ?_
                      rintro e w1 ⟨rfl, hB1⟩
                      rw [H1.out]
                      have HW4 := Lib.hid (show Blk w1 B 31 (capV ⟨some ⟨b3, o3, none⟩, cf, pn, cn, ps, cs, some ⟨b, o, none⟩, cp⟩ c).cells ∧ Below B w w1 from ⟨HW3.out.1.below hB1 HW3.out.1.lt, HW3.out.2.trans (hB1.mono (Nat.le_of_lt HW3.out.1.lt))⟩)
                      clear hB1
                      go_wp2
                      go_roundw
                      case rel => exact ⟨k + 1, by go_num, by omega, HA2, HW4⟩
                      case measure => simp [intOf]; omega
                  · have hkn : k = c.pkts.length := by omega
                    subst hkn
                    have HP : Hid (c.pkts.all (pktB c.faces) = true) := Lib.hid (by have := HA.out; rw [List.take_length] at this; exact this)
                    go_wp2
                    clear hbc1 hbc2 hbc3 hbc4 hBl
                    have HR : Hid (capB c = true) := Lib.hid (capB_true (by omega) H0.out HF.out HN.out HS.out HP.out)
                    go_ret
                    exact ⟨ret_bool HR.out.symm, by rw [HB.out]; exact HW.out.2⟩
end Go.Proofs.Ytghdilmlfficlaa
