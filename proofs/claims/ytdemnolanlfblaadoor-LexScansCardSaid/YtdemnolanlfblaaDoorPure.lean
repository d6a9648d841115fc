/- Plain facts on texts: how far a text goes on with bytes of one kind. -/
import Derived.Test.YtdemnolanlfblaaDoorLeafC
import Derived.Laws.Strings3
namespace Go.Proofs.YtdemnolanlfblaaDoor
/-- The byte at place i. -/
def at' (s : ByteArray) (i : Nat) : Nat := (s.data.toList.getD i 0).toNat
/-- How many bytes from place i on are of the kind. -/
def spanN (P : Int → Bool) (s : ByteArray) (i : Nat) : Nat := ((s.data.toList.drop i).takeWhile (fun b => P (b.toNat : Int))).length
theorem at_lt (s : ByteArray) (i : Nat) (h : i < s.size) : (s[i]'h).toNat = at' s i := by
  cases s with
  | mk d =>
    have h1 : i < d.size := h
    have h' : i < d.toList.length := by simpa using h1
    simp [at', List.getD_eq_getElem?_getD, List.getElem?_eq_getElem h']
    rfl
theorem at_lt256 (s : ByteArray) (i : Nat) : at' s i < 256 := by
  unfold at'
  exact (s.data.toList.getD i 0).toNat_lt
theorem takeWhile_len {p : UInt8 → Bool} : ∀ (l : List UInt8) (k : Nat), k ≤ l.length → (∀ j, j < k → p (l.getD j 0) = true) → (k = l.length ∨ p (l.getD k 0) = false) → (l.takeWhile p).length = k
  | [], k, h, _, _ => by simp at h; simp [h]
  | a :: l, 0, _, _, h => by
    rcases h with h | h
    · simp at h
    · simp at h; simp [h]
  | a :: l, k + 1, h, ha, he => by
    have h0 := ha 0 (by omega)
    simp at h0
    have := takeWhile_len (p := p) l k (by simpa using h) (fun j hj => by simpa using ha (j + 1) (by omega)) (by
      rcases he with he | he
      · left; simpa using he
      · right; simpa using he)
    simp [h0, this]
theorem spanN_eq {P : Int → Bool} {s : ByteArray} {i k : Nat} (hk : i + k ≤ s.size) (hall : ∀ j, j < k → P (at' s (i + j)) = true) (hend : i + k = s.size ∨ P (at' s (i + k)) = false) : spanN P s i = k := by
  have hlen : s.data.toList.length = s.size := by cases s; simp [ByteArray.size]
  refine takeWhile_len _ k (by simp [List.length_drop]; omega) (fun j hj => ?_) ?_
  · have := hall j hj
    simpa [at', List.getD_eq_getElem?_getD] using this
  · rcases hend with h | h
    · left; simp [List.length_drop]; omega
    · right; simpa [at', List.getD_eq_getElem?_getD] using h
theorem at_extract (s : ByteArray) (i k : Nat) (h : i + k < s.size) : at' (s.extract i s.size) k = at' s (i + k) := by
  have hsz : (s.extract i s.size).size = s.size - i := by simp
  have e1 := at_lt (s.extract i s.size) k (by omega)
  have e2 := at_lt s (i + k) h
  rw [← e1, ← e2]
  congr 1
  simp [ByteArray.getElem_extract]
theorem extract_twice (s : ByteArray) (i k : Nat) (h : i + k ≤ s.size) : (s.extract i s.size).extract 0 k = s.extract i (i + k) := by
  simp [ByteArray.extract_extract]
  congr 1
  omega
theorem extract_full (s : ByteArray) : s.extract 0 s.size = s := by simp
end Go.Proofs.YtdemnolanlfblaaDoor
