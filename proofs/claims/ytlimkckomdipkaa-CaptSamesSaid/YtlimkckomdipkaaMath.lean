/- Plain data: captures, and which of them are valid. Nothing of the program is named here. -/
import Derived.RowKit
import Derived.Lib.Hide
namespace Go.Proofs.Ytlimkckomdipkaa
open Go.RowKit

structure Fac where
  name : ByteArray
  link : Int
  snap : Int
structure Nam where
  addr : List Nat
  text : ByteArray
structure Sec where
  label : ByteArray
  key : List Nat
structure Pkt where
  time : Int
  face : Int
  real : Int
  data : List Nat
  note : ByteArray
structure Cap where
  note : ByteArray
  faces : List Fac
  names : List Nam
  secs : List Sec
  pkts : List Pkt

def charB (x : UInt8) : Bool := decide (32 ≤ (x.toNat : Int) ∧ (x.toNat : Int) ≤ 126)
def textB (s : ByteArray) : Bool := decide (s.size ≤ 200) && s.data.toList.all charB
def within (n a b : Int) : Bool := decide (a ≤ n ∧ n ≤ b)
def facB (f : Fac) : Bool := textB f.name && (within f.link 0 65535 && within f.snap 0 400)
def namB (x : Nam) : Bool := textB x.text && within x.addr.length 1 16
def secB (x : Sec) : Bool := textB x.label && (decide (0 < x.label.size) && within x.key.length 1 200)
/-- A packet at an interface with such a snap. -/
def pktS (snap : Int) (p : Pkt) : Bool := textB p.note && (within p.time 0 1000000000000000 && (decide ((p.data.length : Int) ≤ 400 ∧ (snap = 0 ∨ (p.data.length : Int) ≤ snap)) && within p.real p.data.length 1000000))
def pktB (fs : List Fac) (p : Pkt) : Bool := within p.face 0 ((fs.length : Int) - 1) && pktS (fs[p.face.toNat]?.map Fac.snap |>.getD 0) p
def partsB (c : Cap) : Bool := c.faces.all facB && (c.names.all namB && (c.secs.all secB && c.pkts.all (pktB c.faces)))
def capB (c : Cap) : Bool := (decide (0 < c.faces.length) && textB c.note) && partsB c
def hugeB (c : Cap) : Bool := decide (4 < c.faces.length ∨ 60 < c.names.length ∨ 60 < c.secs.length ∨ 100 < c.pkts.length)
def errV (c : Cap) : Int := if hugeB c then 3 else if capB c then 0 else 1

/-! ### Lists asked one by one -/
theorem all_take_succ {α : Type} (xs : List α) (p : α → Bool) (k : Nat) (h : k < xs.length) : (xs.take (k + 1)).all p = ((xs.take k).all p && p xs[k]) := by
  rw [List.take_succ_eq_append_getElem h, List.all_append]; simp
theorem all_false {α : Type} (xs : List α) (p : α → Bool) (k : Nat) (h : k < xs.length) (hp : p xs[k] = false) : xs.all p = false := by
  rw [List.all_eq_false]; exact ⟨xs[k], List.getElem_mem h, by simp [hp]⟩
theorem all_whole {α : Type} (xs : List α) (p : α → Bool) (k : Nat) (h : xs.length ≤ k) : (xs.take k).all p = xs.all p := by rw [List.take_of_length_le h]

theorem within_iff (n a b : Int) : within n a b = true ↔ a ≤ n ∧ n ≤ b := by simp [within]
theorem textB_size {s : ByteArray} (h : textB s = true) : s.size ≤ 200 := by
  simp only [textB, Bool.and_eq_true, decide_eq_true_eq] at h; exact h.1
end Go.Proofs.Ytlimkckomdipkaa
