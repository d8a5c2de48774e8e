/- Unseven: what one round reckons; the answers. -/
import Derived.Test.YtghdilmlfficlaaS1Uns
namespace Go.Proofs.Ytghdilmlfficlaa.S1
open Go.RowKit Go.Shelf

theorem byt_take {w : World} {n₀ : Nat} {A : Option Addr} {bs : List Nat} (h : Byt w n₀ A bs) (k : Nat) : Byt w n₀ A (bs.take k) := by
  refine ⟨fun x hx => h.lt x (List.mem_of_mem_take hx), fun hn => ?_⟩
  rw [List.length_take] at hn
  obtain ⟨b, o, e, hb, hc⟩ := h.cells (by omega)
  refine ⟨b, o, e, hb, fun i hi => ?_⟩
  rw [List.length_take] at hi
  have e2 : at8 (bs.take k) i = at8 bs i := by
    rw [at8_eq (bs.take k) i (by rw [List.length_take]; omega), at8_eq bs i (by omega), List.getElem_take]
  rw [e2]
  exact hc i (by omega)

theorem pow128 (k : Nat) : (128 : Nat) ^ k = 2 ^ (7 * k) := by rw [Nat.pow_mul]
theorem uns_step (V p k : Nat) (hV : V < 128 ^ k) (hp : p < 128) (hk : k < 7) : ∃ q r V2 k2 : Nat, V + p * 128 ^ k = V2 ∧ k + 1 = k2 ∧ IntKind.i64.wrap (7 * (k : Int)) = (q : Int) ∧
    Op.shift .shl .i64 (p : Int) .i64 (q : Int) = pure (.int .i64 (r : Int)) ∧ bits .or .i64 (V : Int) (r : Int) = (V2 : Int) ∧ IntKind.i64.wrap ((k : Int) + 1) = (k2 : Int) := by
  have h49 : 128 ^ (k + 1) ≤ 562949953421312 := Nat.pow_le_pow_right (n := 128) (by decide) (show k + 1 ≤ 7 by omega)
  rw [Nat.pow_succ] at h49
  have hle : p * 128 ^ k ≤ 127 * 128 ^ k := Nat.mul_le_mul_right _ (by omega)
  have hor := nat_join (7 * k) (p * 128 ^ k) V (by rw [pow128]; exact Nat.mul_mod_left _ _) (by rw [← pow128]; exact hV)
  generalize hF : 128 ^ k = F at *
  generalize hr : p * F = r at *
  refine ⟨7 * k, r, V + r, k + 1, rfl, rfl, by rw [IntKind.wrap_i64]; omega, ?_, ?_, by rw [IntKind.wrap_i64]; omega⟩
  · rw [shift_shl .i64 .i64 p (7 * k : Nat) (by omega) (by simp [IntKind.bits]; omega), Int.toNat_natCast]
    have e : (p : Int) * 2 ^ (7 * k) = (r : Int) := by
      rw [← hr, ← hF, pow128]; push_cast; rfl
    have e2 : IntKind.i64.wrap (r : Int) = (r : Int) := by rw [IntKind.wrap_i64]; omega
    rw [e, e2]
  · rw [or64_nat V r (by omega) (by omega), Nat.or_comm, hor, Nat.add_comm]

/-- What Unseven answers when the bytes are of no number. -/
abbrev unsBad : Value := .tuple #[.int .i64 0, .int .i64 0, .int .i64 11]
/-- What Unseven answers of bytes. -/
def UnsR (bs : List Nat) (v : Value) : Prop := (Never bs → v = unsBad) ∧ ∀ t, Ends bs t → (unsOk bs t → v = .tuple #[.int .i64 (uv bs (t + 1)), .int .i64 (t + 1 : Nat), .int .i64 0]) ∧ (¬ unsOk bs t → v = unsBad)
theorem Ends.not_never {bs : List Nat} {t : Nat} (h : Ends bs t) : ¬ Never bs := fun hn => by
  have := hn t h.lt h.seven
  have := h.last
  omega
theorem Ends.same {bs : List Nat} {t s : Nat} (h : Ends bs t) (k : Ends bs s) : t = s := by
  rcases Nat.lt_trichotomy t s with hl | hl | hl
  · have := k.more t hl; have := h.last; omega
  · exact hl
  · have := h.more s hl; have := k.last; omega
theorem unsR_same {bs : List Nat} {v w : Value} (h : UnsR bs v) (k : UnsR bs w) : v = w := by
  rcases ends_or bs with e | ⟨t, e⟩
  · rw [h.1 e, k.1 e]
  · by_cases o : unsOk bs t
    · rw [(h.2 t e).1 o, (k.2 t e).1 o]
    · rw [(h.2 t e).2 o, (k.2 t e).2 o]
theorem unsR_never {bs : List Nat} (h : Never bs) : UnsR bs unsBad := ⟨fun _ => rfl, fun _ e => absurd h e.not_never⟩
theorem unsR_bad {bs : List Nat} {t : Nat} (h : Ends bs t) (o : ¬ unsOk bs t) : UnsR bs unsBad := ⟨fun n => absurd n h.not_never, fun s e => by
  have := h.same e
  subst this
  exact ⟨fun k => absurd k o, fun _ => rfl⟩⟩
theorem unsR_good {bs : List Nat} {t : Nat} (h : Ends bs t) (o : unsOk bs t) : UnsR bs (.tuple #[.int .i64 (uv bs (t + 1)), .int .i64 (t + 1 : Nat), .int .i64 0]) := ⟨fun n => absurd n h.not_never, fun s e => by
  have := h.same e
  subst this
  exact ⟨fun _ => rfl, fun k => absurd o k⟩⟩
end Go.Proofs.Ytghdilmlfficlaa.S1
