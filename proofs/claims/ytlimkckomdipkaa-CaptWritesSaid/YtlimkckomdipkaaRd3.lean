/- A block's body, read, whatever kind it is of. -/
import Derived.Test.YtlimkckomdipkaaFace
import Derived.Test.YtlimkckomdipkaaPairN
import Derived.Test.YtlimkckomdipkaaPairS
import Derived.Test.YtlimkckomdipkaaSect
namespace Go.Proofs.Ytlimkckomdipkaa
open Go.RowKit

/-- What reading a body leaves: the capture c2 is read so far. -/
def Red (w : World) (R b : Nat) (O : Value) (A : Option Addr) (cp : Nat) (xs : List Value) (c2 : Cap) (np torn : Nat) (e : Ending) (w' : World) : Prop :=
  e = .returned (.bool true) ∧ (∃ q', Rd w' R b O q' A cp xs c2 np torn) ∧ Below b w w'

set_option maxHeartbeats 4000000 in
theorem block_face {w : World} {R b np torn cp L cc b0 o : Nat} {O : Value} {A : Option Addr} {xs : List Value} {c2 : Cap}
    (hc : Calls Try.prog 81 #[.pointer (some ⟨R, 0, none⟩), .slice (some ⟨b0, o, none⟩) L cc] w (Red w R b O A cp xs c2 np torn)) :
    Calls Try.prog 77 #[.pointer (some ⟨R, 0, none⟩), .int .i64 1, .slice (some ⟨b0, o, none⟩) L cc] w (Red w R b O A cp xs c2 np torn) := by
  have HC := Lib.hid hc
  clear hc
  go_enter Try.func77, Try.ntmps77
  go_wp2_with fail
  refine HC.out.mono ?_
  rintro e w1 ⟨rfl, h1, h2⟩
  have H1 := Lib.hid h1
  have H2 := Lib.hid h2
  clear h1 h2
  go_wp2_with fail
  go_ret
  exact ⟨rfl, H1.out, H2.out⟩
set_option maxHeartbeats 4000000 in
theorem block_pkt {w : World} {R b np torn cp L cc b0 o : Nat} {O : Value} {A : Option Addr} {xs : List Value} {c2 : Cap}
    (hc : Calls Try.prog 82 #[.pointer (some ⟨R, 0, none⟩), .slice (some ⟨b0, o, none⟩) L cc] w (Red w R b O A cp xs c2 np torn)) :
    Calls Try.prog 77 #[.pointer (some ⟨R, 0, none⟩), .int .i64 6, .slice (some ⟨b0, o, none⟩) L cc] w (Red w R b O A cp xs c2 np torn) := by
  have HC := Lib.hid hc
  clear hc
  go_enter Try.func77, Try.ntmps77
  go_wp2_with fail
  refine HC.out.mono ?_
  rintro e w1 ⟨rfl, h1, h2⟩
  have H1 := Lib.hid h1
  have H2 := Lib.hid h2
  clear h1 h2
  go_wp2_with fail
  go_ret
  exact ⟨rfl, H1.out, H2.out⟩
set_option maxHeartbeats 4000000 in
theorem block_name {w : World} {R b np torn cp L cc b0 o : Nat} {O : Value} {A : Option Addr} {xs : List Value} {c2 : Cap}
    (hc : Calls Try.prog 83 #[.pointer (some ⟨R, 0, none⟩), .slice (some ⟨b0, o, none⟩) L cc, .bool true] w (Red w R b O A cp xs c2 np torn)) :
    Calls Try.prog 77 #[.pointer (some ⟨R, 0, none⟩), .int .i64 4, .slice (some ⟨b0, o, none⟩) L cc] w (Red w R b O A cp xs c2 np torn) := by
  have HC := Lib.hid hc
  clear hc
  go_enter Try.func77, Try.ntmps77
  go_wp2_with fail
  refine HC.out.mono ?_
  rintro e w1 ⟨rfl, h1, h2⟩
  have H1 := Lib.hid h1
  have H2 := Lib.hid h2
  clear h1 h2
  go_wp2_with fail
  go_ret
  exact ⟨rfl, H1.out, H2.out⟩
set_option maxHeartbeats 4000000 in
theorem block_sec {w : World} {R b np torn cp L cc b0 o : Nat} {O : Value} {A : Option Addr} {xs : List Value} {c2 : Cap}
    (hc : Calls Try.prog 83 #[.pointer (some ⟨R, 0, none⟩), .slice (some ⟨b0, o, none⟩) L cc, .bool false] w (Red w R b O A cp xs c2 np torn)) :
    Calls Try.prog 77 #[.pointer (some ⟨R, 0, none⟩), .int .i64 10, .slice (some ⟨b0, o, none⟩) L cc] w (Red w R b O A cp xs c2 np torn) := by
  have HC := Lib.hid hc
  clear hc
  go_enter Try.func77, Try.ntmps77
  go_wp2_with fail
  refine HC.out.mono ?_
  rintro e w1 ⟨rfl, h1, h2⟩
  have H1 := Lib.hid h1
  have H2 := Lib.hid h2
  clear h1 h2
  go_wp2_with fail
  go_ret
  exact ⟨rfl, H1.out, H2.out⟩
set_option maxHeartbeats 4000000 in
theorem block_sect {w : World} {R b torn cp L cc b0 o : Nat} {O : Value} {q : Pl} {A : Option Addr} {xs : List Value} {c c2 : Cap} (h : Rd w R b O q A cp xs c 0 torn)
    (hc : Calls Try.prog 80 #[.pointer (some ⟨R, 0, none⟩), .slice (some ⟨b0, o, none⟩) L cc] w (Red w R b O A cp xs c2 0 torn)) :
    Calls Try.prog 77 #[.pointer (some ⟨R, 0, none⟩), .int .i64 168627466, .slice (some ⟨b0, o, none⟩) L cc] w (Red w R b O A cp xs c2 0 torn) := by
  have HC := Lib.hid hc
  have e6 : w.cell? ⟨R, 6, none⟩ = some (.slice A 0 cp) := by rw [h.blk.cell]; rfl
  clear hc h
  go_enter Try.func77, Try.ntmps77
  go_wp2_with fail
  refine HC.out.mono ?_
  rintro e w1 ⟨rfl, h1, h2⟩
  have H1 := Lib.hid h1
  have H2 := Lib.hid h2
  clear h1 h2
  go_wp2_with fail
  go_ret
  exact ⟨rfl, H1.out, H2.out⟩
end Go.Proofs.Ytlimkckomdipkaa
/- What is read so far, with one part more, and with what is torn. -/
namespace Go.Proofs.Ytlimkckomdipkaa
open Go.RowKit

theorem info109 : (Try.prog.info? 109).map (fun i => (i.zero, i.size, i.bytes)) = some (some (.agg #[.int .i64 0, .int .i64 0, .int .i64 0]), 3, 24) := by kernel_rfl
/-- One part more. -/
theorem Rd.part {w5 w7 : World} {R b np torn cp c7 : Nat} {O : Value} {q : Pl} {c : Cap} {A A7 : Option Addr} {xs ys : List Value} (h : Rd w5 R b O q A cp xs c np torn)
    (ho : w7.ownsRow b 109 3 (.slice A7 (np + 1) c7) (np + 1) ys) (ha : AlikeT 109 w5 w7) :
    Rd (w7.setCell ⟨R, 6, none⟩ (.slice A7 (np + 1) c7)) R b O q A7 c7 ys c (np + 1) torn := by
  have hB7 : Blk w7 R 70 (rdV O q c A np cp torn) := ha.2 R 70 _ (by decide) h.blk
  have ha7 : AlikeT 70 w7 (w7.setCell ⟨R, 6, none⟩ (.slice A7 (np + 1) c7)) := AlikeT.set hB7 _
  exact ⟨by simpa [rdV] using hB7.set_ 6 (.slice A7 (np + 1) c7), (h.cap.alike ha (by decide)).alike ha7 (by decide), own_alikeT ho ha7 (by decide), h.le⟩
/-- What is torn. -/
theorem Rd.torn {w : World} {R b np torn t2 cp : Nat} {O : Value} {q : Pl} {c : Cap} {A : Option Addr} {xs : List Value} (h : Rd w R b O q A cp xs c np torn) :
    Rd (w.setCell ⟨R, 7, none⟩ (.int .i64 (t2 : Int))) R b O q A cp xs c np t2 := by
  have ha7 : AlikeT 70 w (w.setCell ⟨R, 7, none⟩ (.int .i64 (t2 : Int))) := AlikeT.set h.blk _
  exact ⟨by simpa [rdV] using h.blk.set_ 7 (.int .i64 (t2 : Int)), h.cap.alike ha7 (by decide), own_alikeT h.parts ha7 (by decide), h.le⟩
end Go.Proofs.Ytlimkckomdipkaa
