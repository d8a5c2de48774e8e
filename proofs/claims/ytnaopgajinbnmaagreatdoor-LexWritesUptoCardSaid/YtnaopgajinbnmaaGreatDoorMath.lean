/- Sources and their tokens, as plain functions. -/
namespace Go.Proofs.YtnaopgajinbnmaaGreatDoor

/-- The classes of bytes. -/
def tabL : List Nat := (List.replicate 9 0) ++ [2, 2] ++ List.replicate 21 0 ++
  [2, 8, 4, 8, 1, 8, 8, 1, 8, 8, 8, 8, 8, 8, 8, 8, 16, 16, 16, 16, 16, 16, 16, 16, 16, 16, 8, 8, 8, 8, 8, 8, 8] ++
  List.replicate 6 32 ++ List.replicate 20 64 ++ [8, 1, 8, 8, 64, 1] ++ List.replicate 6 32 ++ List.replicate 20 64 ++ [8, 8, 8, 8]
theorem tabL_len : tabL.length = 127 := by rfl
/-- Whether a byte is of a class of a set. -/
def isB (set : Nat) (c : UInt8) : Bool := tabL.getD c.toNat 0 &&& set != 0

def srcB (c : UInt8) : Bool := c.toNat == 9 || c.toNat == 10 || (32 ≤ c.toNat && c.toNat ≤ 126)
def blankB (c : UInt8) : Bool := c.toNat == 9 || c.toNat == 10 || c.toNat == 32
def digitB (c : UInt8) : Bool := 48 ≤ c.toNat && c.toNat ≤ 57
def letterB (c : UInt8) : Bool := c.toNat == 95 || (97 ≤ c.toNat && c.toNat ≤ 122) || (65 ≤ c.toNat && c.toNat ≤ 90)
def wordB (c : UInt8) : Bool := letterB c || digitB c
def hexB (c : UInt8) : Bool := digitB c || (97 ≤ c.toNat && c.toNat ≤ 102) || (65 ≤ c.toNat && c.toNat ≤ 70)

theorem all256 (p : UInt8 → Bool) (h : ∀ n : Fin 256, p (UInt8.ofNat n.1) = true) (c : UInt8) : p c = true := by
  have := h ⟨c.toNat, c.toNat_lt⟩
  simpa using this
theorem isB_blank (c : UInt8) : isB 2 c = blankB c := by
  have := all256 (fun c => isB 2 c == blankB c) (by decide +kernel) c; simpa using this
theorem isB_digit (c : UInt8) : isB 16 c = digitB c := by
  have := all256 (fun c => isB 16 c == digitB c) (by decide +kernel) c; simpa using this
theorem isB_letter (c : UInt8) : isB 96 c = letterB c := by
  have := all256 (fun c => isB 96 c == letterB c) (by decide +kernel) c; simpa using this
theorem isB_word (c : UInt8) : isB 112 c = wordB c := by
  have := all256 (fun c => isB 112 c == wordB c) (by decide +kernel) c; simpa using this
theorem isB_hex (c : UInt8) : isB 48 c = hexB c := by
  have := all256 (fun c => isB 48 c == hexB c) (by decide +kernel) c; simpa using this
theorem isB_src (c : UInt8) : isB 127 c = srcB c := by
  have := all256 (fun c => isB 127 c == srcB c) (by decide +kernel) c; simpa using this
theorem isB_quote (c : UInt8) : isB 4 c = (c.toNat == 34) := by
  have := all256 (fun c => isB 4 c == (c.toNat == 34)) (by decide +kernel) c; simpa using this

/-- How many bytes at the begin are of a set. -/
def runL (p : UInt8 → Bool) (l : List UInt8) : Nat := (l.takeWhile p).length
theorem runL_nil (p : UInt8 → Bool) : runL p [] = 0 := rfl
theorem runL_cons (p : UInt8 → Bool) (c : UInt8) (l : List UInt8) : runL p (c :: l) = if p c then runL p l + 1 else 0 := by
  unfold runL; rw [List.takeWhile_cons]; split <;> simp_all
theorem runL_le (p : UInt8 → Bool) (l : List UInt8) : runL p l ≤ l.length := by
  induction l with
  | nil => simp [runL]
  | cons c l ih => rw [runL_cons]; split <;> simp <;> omega

/-- How many bytes at the begin are of a set, or a point ahead of such a byte. -/
def headIs (p : UInt8 → Bool) : List UInt8 → Bool
  | [] => false
  | c :: _ => p c
def dotS (p : UInt8 → Bool) : List UInt8 → Nat
  | [] => 0
  | c :: r => if p c || (c.toNat == 46 && headIs p r) then dotS p r + 1 else 0
theorem dotS_le (p : UInt8 → Bool) (l : List UInt8) : dotS p l ≤ l.length := by
  induction l with
  | nil => simp [dotS]
  | cons c l ih => rw [dotS]; split <;> simp <;> omega
theorem dotS_run (p : UInt8 → Bool) (l : List UInt8) : dotS p l = runL p l + dotS p (l.drop (runL p l)) := by
  induction l with
  | nil => simp [dotS, runL]
  | cons c l ih =>
    rw [runL_cons]
    by_cases h : p c
    · simp only [h, if_true, List.drop_succ_cons]; rw [dotS]; simp [h]; omega
    · simp [h]
theorem runL_stops (p : UInt8 → Bool) (l : List UInt8) : headIs p (l.drop (runL p l)) = false := by
  induction l with
  | nil => simp [headIs]
  | cons c l ih =>
    rw [runL_cons]
    by_cases h : p c
    · simp only [h, if_true, List.drop_succ_cons]; exact ih
    · simp [h, headIs]

/-- How many bytes are passed over ahead of a token; in a comment or not. -/
def skipM : Bool → List UInt8 → Nat
  | _, [] => 0
  | true, c :: r => if srcB c then (if c.toNat == 10 then skipM false r + 1 else skipM true r + 1) else 0
  | false, c :: r => if blankB c then skipM false r + 1 else if c.toNat == 47 && headIs (fun d => d.toNat == 47) r then skipM true r + 1 else 0
def inComment (c : UInt8) : Bool := srcB c && !(c.toNat == 10)
theorem skipM_le (b : Bool) (l : List UInt8) : skipM b l ≤ l.length := by
  induction l generalizing b with
  | nil => simp [skipM]
  | cons c l ih =>
    have h1 := ih true; have h2 := ih false
    cases b <;> rw [skipM] <;> repeat' split
    all_goals simp <;> omega
theorem skipM_run (l : List UInt8) : skipM false l = runL blankB l + skipM false (l.drop (runL blankB l)) := by
  induction l with
  | nil => simp [skipM, runL]
  | cons c l ih =>
    rw [runL_cons]
    by_cases h : blankB c
    · simp only [h, if_true, List.drop_succ_cons]; rw [skipM]; simp [h]; omega
    · simp [h]
theorem skipM_in (l : List UInt8) : skipM true l = runL inComment l + skipM false (l.drop (runL inComment l)) := by
  induction l with
  | nil => simp [skipM, runL]
  | cons c l ih =>
    rw [runL_cons, skipM]
    by_cases h : srcB c
    · by_cases h2 : c.toNat = 10
      · have hb : blankB c = true := by simp [blankB, h2]
        simp [h, h2, inComment, skipM, hb]
      · have hi : inComment c = true := by simp [inComment, h, h2]
        simp only [h, hi, if_true, List.drop_succ_cons]; simp [h2]; omega
    · have hb : blankB c = false := by
        simp only [srcB, blankB] at h ⊢; simp at h ⊢; omega
      have h47 : (c.toNat == 47) = false := by simp only [srcB] at h; simp at h ⊢; omega
      simp [h, inComment, skipM, hb, h47]
theorem skipM_slash (l : List UInt8) (c d : UInt8) (hc : c.toNat = 47) (hd : d.toNat = 47) :
    skipM false (c :: d :: l) = runL inComment (c :: d :: l) + skipM false ((c :: d :: l).drop (runL inComment (c :: d :: l))) := by
  rw [← skipM_in]
  have hb : blankB c = false := by simp [blankB, hc]
  have hs : srcB c = true := by simp [srcB, hc]
  have h1 : skipM true (c :: d :: l) = skipM true (d :: l) + 1 := by rw [skipM]; simp [hs, hc]
  have h2 : skipM false (c :: d :: l) = skipM true (d :: l) + 1 := by
    generalize hr : d :: l = r
    have h47 : headIs (fun d => d.toNat == 47) r = true := by subst hr; simp [headIs, hd]
    rw [skipM]; simp [hb, hc, h47]
  rw [h1, h2]

/-- The number that digits stand for. -/
def hexV (c : UInt8) : Nat := if digitB c then c.toNat - 48 else if 97 ≤ c.toNat then c.toNat - 87 else c.toNat - 55
def okDig (base : Nat) (c : UInt8) : Bool := hexB c && decide (hexV c < base)
def valF (base : Nat) (n : Nat) (l : List UInt8) : Nat := l.foldl (fun n c => n * base + hexV c) n
/-- None where there are no digits, another byte, or too great a number. -/
def valP (base top : Nat) (l : List UInt8) : Option Nat :=
  if l ≠ [] ∧ l.all (okDig base) = true ∧ valF base 0 l < top then some (valF base 0 l) else none

/-- The parts between points. -/
def splitD : List UInt8 → List (List UInt8)
  | [] => [[]]
  | c :: r => if c.toNat == 46 then [] :: splitD r else match splitD r with
    | [] => [[c]]
    | p :: q => (c :: p) :: q
def joinV : Nat → List (List UInt8) → Option Nat
  | n, [] => some n
  | n, p :: q => match valP 10 256 p with
    | none => none
    | some v => joinV (n * 256 + v) q
def decimalL (l : List UInt8) : Option Nat :=
  match splitD l with
  | [p] => valP 10 281474976710656 p
  | ps => if ps.length = 4 then joinV 0 ps else none

/-- A token: its kind, its number, its place, its text. -/
structure Tok where
  kind : Nat
  num : Nat
  at_ : Nat
  text : List UInt8
deriving DecidableEq

/-- The byte of a text that is written at the begin, and how many bytes it takes: 0 if it is wrong. -/
def byteL : List UInt8 → UInt8 × Nat
  | [] => (0, 0)
  | c :: r =>
    if c.toNat = 92 then
      match r with
      | [] => (0, 0)
      | d :: r2 =>
        if d.toNat = 34 ∨ d.toNat = 92 then (d, 2)
        else if d.toNat = 110 then (10, 2)
        else if d.toNat = 120 then
          match r2 with
          | a :: b :: _ => if hexB a && hexB b then (UInt8.ofNat (hexV a * 16 + hexV b), 4) else (0, 0)
          | _ => (0, 0)
        else (0, 0)
    else if c.toNat = 10 ∨ srcB c = false then (0, 0) else (c, 1)
/-- The text behind a quote, and how many bytes it takes with the quote behind it. -/
def textGo : Nat → List UInt8 → Option (List UInt8 × Nat)
  | 0, _ => none
  | _ + 1, [] => none
  | k + 1, c :: r =>
    if c.toNat = 34 then some ([], 1)
    else match byteL (c :: r) with
      | (_, 0) => none
      | (b, n + 1) => match textGo k ((c :: r).drop (n + 1)) with
        | none => none
        | some (t, m) => some (b :: t, m + n + 1)

def two (l : List UInt8) : Bool := match l with
  | c :: d :: _ => (c.toNat == 60 && d.toNat == 60) || (c.toNat == 62 && d.toNat == 62) || (c.toNat == 61 && d.toNat == 61) || (c.toNat == 33 && d.toNat == 61) ||
      (c.toNat == 60 && d.toNat == 61) || (c.toNat == 62 && d.toNat == 61) || (c.toNat == 38 && d.toNat == 38) || (c.toNat == 124 && d.toNat == 124) || (c.toNat == 46 && d.toNat == 46)
  | _ => false
def signL (l : List UInt8) : Nat := if two l then 2 else 1

def wordL (l : List UInt8) : Nat := if headIs letterB l then dotS wordB l else 0
def hexHead (l : List UInt8) : Bool := match l with
  | c :: d :: _ => c.toNat == 48 && d.toNat == 120
  | _ => false
def numL (l : List UInt8) : Option Nat × Nat :=
  if hexHead l then
    (valP 16 281474976710656 ((l.drop 2).take (runL hexB (l.drop 2))), runL hexB (l.drop 2) + 2)
  else (decimalL (l.take (dotS digitB l)), dotS digitB l)

/-- The token at the begin, and how many bytes it takes; none where none begins. -/
def tokL (at_ : Nat) (l : List UInt8) : Option (Tok × Nat) :=
  match l with
  | [] => none
  | c :: r =>
    if letterB c then if wordL (c :: r) ≤ 16 then some (⟨0, 0, at_, (c :: r).take (wordL (c :: r))⟩, wordL (c :: r)) else none
    else if digitB c then (match numL (c :: r) with
      | (none, _) => none
      | (some v, n) => some (⟨1, v, at_, []⟩, n))
    else if c.toNat = 34 then (match textGo (r.length + 1) r with
      | none => none
      | some (t, m) => if t.length ≤ 200 then some (⟨2, 0, at_, t⟩, m + 1) else none)
    else if isB 8 c then some (⟨3, 0, at_, (c :: r).take (signL (c :: r))⟩, signL (c :: r))
    else none

/-- The tokens from a place on where a token begins, and the place of what is none. -/
def lexQ : Nat → Nat → List UInt8 → List Tok × Option Nat
  | 0, _, _ => ([], none)
  | k + 1, at_, l =>
    if l = [] then ([], none) else
      match tokL at_ l with
      | none => ([], some at_)
      | some (t, n) =>
        let d := skipM false (l.drop n)
        ((t :: (lexQ k (at_ + n + d) (l.drop (n + d))).1), (lexQ k (at_ + n + d) (l.drop (n + d))).2)
def lexS (k : Nat) (b : Bool) (at_ : Nat) (l : List UInt8) : List Tok × Option Nat := lexQ k (at_ + skipM b l) (l.drop (skipM b l))
def lexL (l : List UInt8) : List Tok × Option Nat := lexS (l.length + 1) false 0 l

end Go.Proofs.YtnaopgajinbnmaaGreatDoor
