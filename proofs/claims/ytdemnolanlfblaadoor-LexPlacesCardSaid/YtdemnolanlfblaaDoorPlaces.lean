/- Plain facts: the tokens of a scan stand in the text one behind the other, with blanks, line feeds and notes between them alone. -/
import Derived.Test.YtdemnolanlfblaaDoorLen
namespace Go.Proofs.YtdemnolanlfblaaDoor
/-- The mark behind oneSign byte of a gap that ends at 'to'. -/
def nx (s : ByteArray) (to k : Nat) (b : Bool) : Bool :=
  if at' s k = 10 then false else if k + 1 < to ∧ at' s k = 47 ∧ at' s (k + 1) = 47 then true else b
/-- Is the byte oneSign that may stand there? -/
def okB (s : ByteArray) (k : Nat) (b : Bool) : Prop := b = true ∨ at' s k = 32 ∨ at' s k = 9 ∨ at' s k = 13 ∨ at' s k = 10
def stN (s : ByteArray) (to a : Nat) : Nat → Bool
  | 0 => false
  | n + 1 => nx s to (a + n) (stN s to a n)
def Gap (s : ByteArray) (a to : Nat) : Prop := ∀ n, a + n < to → okB s (a + n) (stN s to a (n + 1))
/-- A gap so far. -/
def G (s : ByteArray) (a i : Nat) : Prop := a ≤ i ∧ ∀ to, i ≤ to → (∀ n, a + n < i → okB s (a + n) (stN s to a (n + 1))) ∧ (stN s to a (i - a) = true → i = s.size ∨ at' s i = 10)
theorem G_nil (s : ByteArray) (a : Nat) : G s a a := ⟨Nat.le_refl _, fun to _ => ⟨fun n h => by omega, fun h => by simp [stN] at h⟩⟩
theorem G_gap {s : ByteArray} {a i : Nat} (h : G s a i) : Gap s a i := (h.2 i (Nat.le_refl _)).1
theorem st_last {s : ByteArray} {to a i : Nat} (h : a ≤ i) : stN s to a (i + 1 - a) = nx s to i (stN s to a (i - a)) := by
  rw [show i + 1 - a = (i - a) + 1 from by omega]
  show nx s to (a + (i - a)) _ = _
  rw [show a + (i - a) = i from by omega]
theorem G_line {s : ByteArray} {a i : Nat} (h : G s a i) (hc : at' s i = 10) : G s a (i + 1) := by
  refine ⟨by have := h.1; omega, fun to hto => ⟨fun n hn => ?_, fun hs => ?_⟩⟩
  · rcases Nat.lt_or_ge (a + n) i with h1 | h1
    · exact (h.2 to (by omega)).1 n h1
    · have : a + n = i := by omega
      rw [this]; right; right; right; right; exact hc
  · rw [st_last h.1] at hs
    simp [nx, hc] at hs
theorem G_blank {s : ByteArray} {a i : Nat} (h : G s a i) (hi : i < s.size) (hc : at' s i = 32 ∨ at' s i = 9 ∨ at' s i = 13) : G s a (i + 1) := by
  refine ⟨by have := h.1; omega, fun to hto => ⟨fun n hn => ?_, fun hs => ?_⟩⟩
  · rcases Nat.lt_or_ge (a + n) i with h1 | h1
    · exact (h.2 to (by omega)).1 n h1
    · have : a + n = i := by omega
      rw [this]; right; omega
  · rw [st_last h.1] at hs
    have h0 : stN s to a (i - a) = false := by
      cases hst : stN s to a (i - a) with
      | false => rfl
      | true => have := (h.2 to (by omega)).2 hst; omega
    rw [h0] at hs
    unfold nx at hs
    rw [if_neg (by omega), if_neg (by omega)] at hs
    cases hs
theorem G_note {s : ByteArray} {a i : Nat} (h : G s a i) (hn : at' s i = 47 ∧ at' s (i + 1) = 47) : ∀ (m : Nat), (∀ k, i ≤ k → k < i + 2 + m → at' s k ≠ 10) → (i + 2 + m = s.size ∨ at' s (i + 2 + m) = 10) → G s a (i + 2 + m) := by
  intro m hne hend
  have hai := h.1
  refine ⟨by omega, fun to hto => ?_⟩
  have hst : ∀ k, i < k → k ≤ i + 2 + m → stN s to a (k - a) = true := by
    intro k hk
    induction k with
    | zero => omega
    | succ k ih =>
      intro hk2
      rw [st_last (by omega)]
      unfold nx
      rw [if_neg (hne k (by omega) (by omega))]
      by_cases e : k = i
      · subst e
        rw [if_pos ⟨by omega, hn.1, hn.2⟩]
      · rw [ih (by omega) (by omega)]
        simp
  refine ⟨fun n hn2 => ?_, fun _ => hend⟩
  rcases Nat.lt_or_ge (a + n) i with h1 | h1
  · exact (h.2 to (by omega)).1 n h1
  · left
    have := hst (a + n + 1) (by omega) (by omega)
    rw [show a + n + 1 - a = n + 1 from by omega] at this
    exact this
end Go.Proofs.YtdemnolanlfblaaDoor
