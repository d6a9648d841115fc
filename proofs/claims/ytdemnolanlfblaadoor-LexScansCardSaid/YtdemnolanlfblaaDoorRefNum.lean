/- Plain facts on the number that digits spell, one digit more. -/
import Derived.Test.YtdemnolanlfblaaDoorRefPure
namespace Go.Proofs.YtdemnolanlfblaaDoor
theorem extract_list (s : ByteArray) (i m : Nat) : (s.extract i m).data.toList = (s.data.toList.drop i).take (m - i) := by
  simp only [ByteArray.data_extract, Array.toList_extract]
theorem numV_nil (s : ByteArray) (i : Nat) : numV (s.extract i i) = 0 := by
  unfold numV
  rw [extract_list s i i]
  simp [Lib.decFrom]
theorem dec_exists (s : ByteArray) (i m : Nat) (h : i ≤ m) (hm : m ≤ s.size) (hd : ∀ j, i ≤ j → j < m → digitB (at' s j) = true) : ∃ n, Lib.decFrom 0 ((s.data.toList.drop i).take (m - i)) = some n := by
  have hlen : s.data.toList.length = s.size := by cases s; simp [ByteArray.size]
  refine decFrom_some _ 0 (fun j hj => ?_)
  simp only [List.length_take, List.length_drop] at hj
  have := hd (i + j) (by omega) (by omega)
  have hj' : j < m - i := by omega
  simp only [at', List.getD_eq_getElem?_getD] at this ⊢
  rw [List.getElem?_take_of_lt hj', List.getElem?_drop]
  exact this
theorem numV_step (s : ByteArray) (i m : Nat) (h : i ≤ m) (hm : m < s.size) (hd : ∀ j, i ≤ j → j < m → digitB (at' s j) = true) (hc : digitB (at' s m) = true) :
    numV (s.extract i (m + 1)) = 10 * numV (s.extract i m) + ((at' s m : Int) - 48) := by
  have hlen : s.data.toList.length = s.size := by cases s; simp [ByteArray.size]
  obtain ⟨n, hn⟩ := dec_exists s i m h (by omega) hd
  have hb : (s.data.toList.drop i)[m - i]? = some (s.data.toList.getD m 0) := by
    rw [List.getElem?_drop, show i + (m - i) = m from by omega, List.getD_eq_getElem?_getD, List.getElem?_eq_getElem (by omega)]
    simp
  have hc' := hc
  simp only [digitB, decide_eq_true_eq] at hc'
  have hv : Lib.digitVal (s.data.toList.getD m 0) = some (at' s m - 48) := by
    unfold Lib.digitVal
    have e : (s.data.toList.getD m 0).toNat = at' s m := rfl
    rw [e, if_pos (by omega)]
  have := Lib.decFrom_take (s.data.toList.drop i) (m - i) 0 n _ _ hn hb hv
  have e1 : numV (s.extract i m) = (n : Int) := by
    unfold numV; rw [extract_list s i m, hn]; rfl
  have e2 : numV (s.extract i (m + 1)) = ((n * 10 + (at' s m - 48) : Nat) : Int) := by
    unfold numV; rw [extract_list s i (m + 1), show m + 1 - i = (m - i) + 1 from by omega, this]; rfl
  rw [e1, e2]
  omega
theorem numV_lt (s : ByteArray) (i : Nat) : ∀ (k : Nat), i + k ≤ s.size → (∀ j, i ≤ j → j < i + k → digitB (at' s j) = true) → 0 ≤ numV (s.extract i (i + k)) ∧ numV (s.extract i (i + k)) < (10 : Int) ^ k
  | 0, h, _ => by rw [Nat.add_zero, numV_nil s i]; simp
  | k + 1, h, hd => by
    have ih := numV_lt s i k (by omega) (fun j h1 h2 => hd j h1 (by omega))
    have hc := hd (i + k) (by omega) (by omega)
    rw [show i + (k + 1) = (i + k) + 1 from by omega, numV_step s i (i + k) (by omega) (by omega) (fun j h1 h2 => hd j h1 (by omega)) hc]
    simp only [digitB, decide_eq_true_eq] at hc
    have e : (10 : Int) ^ (k + 1) = 10 * 10 ^ k := by rw [Int.pow_succ]; omega
    rw [e]
    omega
theorem pow_le {k : Nat} (h : k ≤ 8) : (10 : Int) ^ k ≤ 100000000 := by
  have : k = 0 ∨ k = 1 ∨ k = 2 ∨ k = 3 ∨ k = 4 ∨ k = 5 ∨ k = 6 ∨ k = 7 ∨ k = 8 := by omega
  rcases this with rfl | rfl | rfl | rfl | rfl | rfl | rfl | rfl | rfl <;> decide
theorem numV_small (s : ByteArray) (i m : Nat) (h : i ≤ m) (hm : m ≤ s.size) (hd : ∀ j, i ≤ j → j < m → digitB (at' s j) = true) (h8 : m - i ≤ 8) : 0 ≤ numV (s.extract i m) ∧ numV (s.extract i m) < 100000000 := by
  have := numV_lt s i (m - i) (by omega) (fun j h1 h2 => hd j h1 (by omega))
  rw [show i + (m - i) = m from by omega] at this
  have := pow_le h8
  omega
end Go.Proofs.YtdemnolanlfblaaDoor
