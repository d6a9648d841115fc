/- How many tokens a scan tells at most. -/
import Derived.Test.YtdemnolanlfblaaDoorScan
namespace Go.Proofs.YtdemnolanlfblaaDoor
theorem scanGo_len : ∀ (f : Nat) (s : ByteArray) (i : Nat) (o : Bool) (acc : List Tok), i ≤ s.size → acc.length ≤ i → (scanGo f s i o acc).2.2.length ≤ s.size + 1
  | 0, s, i, o, acc, _, _ => by simp [scanGo]
  | f + 1, s, i, o, acc, hi, ha => by
    unfold scanGo
    by_cases h1 : i < s.size
    · rw [if_pos h1]
      by_cases h2 : (stepS s i o).code = 0
      · rw [if_pos h2]
        have hp := step_pos s i o h1 h2
        exact scanGo_len f s _ _ _ hp.2.1 (by simp; omega)
      · rw [if_neg h2]; simp
    · rw [if_neg h1]
      have := ending_le o i
      simp; omega
theorem scan_len (s : ByteArray) : (scan s).2.2.length ≤ 100000 := by
  unfold scan
  split
  · simp
  · have := scanGo_len (s.size + 1) s 0 false [] (Nat.zero_le _) (Nat.le_refl _)
    omega
end Go.Proofs.YtdemnolanlfblaaDoor
