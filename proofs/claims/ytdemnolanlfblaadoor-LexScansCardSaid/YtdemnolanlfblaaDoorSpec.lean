/- What chapter 1 says of tokens, as plain functions over a text: one step, and the whole scan. -/
import Derived.Test.YtdemnolanlfblaaDoorPiece
namespace Go.Proofs.YtdemnolanlfblaaDoor
open Go.RowKit
theorem decN_width (n b0 b1 b2 b3 : Nat) (hn : 1 ≤ n) : 1 ≤ (Lib.decodeN n b0 b1 b2 b3).2 ∧ (Lib.decodeN n b0 b1 b2 b3).2 ≤ n := by
  unfold Lib.decodeN
  repeat' split
  all_goals simp
  all_goals omega
theorem dec_eq (s : ByteArray) (j : Nat) (h : j < s.size) : dec s j = Utf8.decode (s.extract j s.size) 0 := by
  have : ¬ (s.extract j s.size).size = 0 := by simp; omega
  simp only [dec, Lib.decodeGo, this, if_false]
theorem dec_width (s : ByteArray) (j : Nat) (h : j < s.size) : 1 ≤ (dec s j).2 ∧ j + (dec s j).2 ≤ s.size := by
  rw [dec_eq s j h, Lib.decode_at]
  have hz : (s.extract j s.size).size = s.size - j := by simp
  have := decN_width ((s.extract j s.size).size - 0) ((s.extract j s.size).get! 0).toNat ((s.extract j s.size).get! (0 + 1)).toNat ((s.extract j s.size).get! (0 + 2)).toNat ((s.extract j s.size).get! (0 + 3)).toNat (by omega)
  omega
theorem dec_ascii (s : ByteArray) (j : Nat) (h : j < s.size) (ha : at' s j < 128) : dec s j = (at' s j, 1) := by
  have hz : (s.extract j s.size).size = s.size - j := by simp
  have e : at' (s.extract j s.size) 0 = at' s j := at_extract s j 0 (by omega)
  rw [dec_eq s j h, decode_ascii _ 0 (by omega) (by rw [at_lt, e]; exact ha), at_lt, e]
theorem dec_high (s : ByteArray) (j : Nat) (h : j < s.size) (ha : 128 ≤ at' s j) : 128 ≤ (dec s j).1 := by
  have hz : (s.extract j s.size).size = s.size - j := by simp
  have e : at' (s.extract j s.size) 0 = at' s j := at_extract s j 0 (by omega)
  rw [dec_eq s j h]
  exact (decode_high _ 0 (by omega) (by rw [at_lt, e]; exact ha)).1
theorem dec_le (s : ByteArray) (j : Nat) (h : j < s.size) : (dec s j).1 ≤ 2147483647 := by
  rw [dec_eq s j h]; exact decode_le _ _
theorem dec_ten (s : ByteArray) (j : Nat) (h : j < s.size) : (dec s j).1 = 10 ↔ at' s j = 10 := by
  by_cases ha : at' s j < 128
  · rw [dec_ascii s j h ha]
  · have := dec_high s j h (by omega)
    omega
/-- Where a note ends, or the byte in it that begins no rune (2). -/
def noteGo : Nat → ByteArray → Nat → Int × Nat
  | 0, _, j => (0, j)
  | f + 1, s, j => if j < s.size then (if at' s j = 10 then (0, j) else if (dec s j).1 = 65533 ∧ (dec s j).2 = 1 then (2, j) else noteGo f s (j + (dec s j).2)) else (0, j)
def note (s : ByteArray) (i : Nat) : Int × Nat := noteGo (s.size + 1) s i
def numV (x : ByteArray) : Int := ((Lib.decFrom 0 x.data.toList).getD 0 : Nat)
def signN (s : ByteArray) (i : Nat) : Nat :=
  if i + 1 < s.size ∧ (s.extract i (i + 2)).toList ∈ two then 2 else if (at' s i : Int) ∈ oneSign then 1 else 0
structure LexOut where
  code : Int
  pos : Nat
  toks : List Tok
  mark : Bool
def numOut (s : ByteArray) (i : Nat) (o : Bool) : LexOut :=
  if 9 < spanN digitB s i ∨ (1 < spanN digitB s i ∧ at' s i = 48) then ⟨3, i, [], o⟩
  else ⟨0, i + spanN digitB s i, [⟨2, s.extract i (i + spanN digitB s i), numV (s.extract i (i + spanN digitB s i)), i⟩], true⟩
def kindOf (x : ByteArray) : Int := if wordB x = true then 4 else 1
def nameOut (s : ByteArray) (i : Nat) : LexOut :=
  ⟨0, i + spanN partB s i, [⟨kindOf (s.extract i (i + spanN partB s i)), s.extract i (i + spanN partB s i), 0, i⟩], endsB (kindOf (s.extract i (i + spanN partB s i))) (s.extract i (i + spanN partB s i))⟩
def signOut (s : ByteArray) (i : Nat) (o : Bool) : LexOut :=
  if signN s i = 0 then ⟨2, i, [], o⟩
  else ⟨0, i + signN s i, [⟨3, s.extract i (i + signN s i), 0, i⟩], endsB 3 (s.extract i (i + signN s i))⟩
/-- One step at a place of the text. -/
def stepS (s : ByteArray) (i : Nat) (o : Bool) : LexOut :=
  if at' s i = 10 then ⟨0, i + 1, ending o i, false⟩
  else if blankB (at' s i) = true then ⟨0, i + 1, [], o⟩
  else if at' s i = 47 ∧ i + 1 < s.size ∧ at' s (i + 1) = 47 then ⟨(note s i).1, (note s i).2, [], o⟩
  else if digitB (at' s i) = true then numOut s i o
  else if letterB (at' s i) = true then nameOut s i
  else signOut s i o
/-- The rest of a scan: its fault and place (or 0, 0), its tokens. -/
def scanGo : Nat → ByteArray → Nat → Bool → List Tok → Int × Nat × List Tok
  | 0, _, _, _, _ => (0, 0, [])
  | f + 1, s, i, o, acc =>
    if i < s.size then
      if (stepS s i o).code = 0 then scanGo f s (stepS s i o).pos (stepS s i o).mark (acc ++ (stepS s i o).toks)
      else ((stepS s i o).code, (stepS s i o).pos, [])
    else (0, 0, acc ++ ending o i)
def scan (s : ByteArray) : Int × Nat × List Tok := if 6000 < s.size then (1, 0, []) else scanGo (s.size + 1) s 0 false []
theorem takeWhile_le {p : UInt8 → Bool} (l : List UInt8) : (l.takeWhile p).length ≤ l.length := (List.takeWhile_sublist p).length_le
theorem spanN_le (P : Int → Bool) (s : ByteArray) (i : Nat) (h : i ≤ s.size) : i + spanN P s i ≤ s.size := by
  have hlen : s.data.toList.length = s.size := by cases s; simp [ByteArray.size]
  have := takeWhile_le (p := fun b : UInt8 => P (b.toNat : Int)) (s.data.toList.drop i)
  simp only [List.length_drop] at this
  unfold spanN
  omega
theorem spanN_pos (P : Int → Bool) (s : ByteArray) (i : Nat) (h : i < s.size) (hp : P (at' s i) = true) : 1 ≤ spanN P s i := by
  have hlen : s.data.toList.length = s.size := by cases s; simp [ByteArray.size]
  have h' : i < s.data.toList.length := by omega
  unfold spanN
  rw [List.drop_eq_getElem_cons h']
  have : P ((s.data.toList[i].toNat : Nat) : Int) = true := by
    have := hp
    simp only [at', List.getD_eq_getElem?_getD, List.getElem?_eq_getElem h'] at this
    simpa using this
  rw [List.takeWhile_cons, if_pos this]
  simp
theorem takeWhile_all {p : UInt8 → Bool} : ∀ (l : List UInt8) (j : Nat), j < (l.takeWhile p).length → p (l.getD j 0) = true
  | [], j, h => by simp at h
  | a :: l, 0, h => by
    by_cases ha : p a = true
    · simpa using ha
    · simp [ha] at h
  | a :: l, j + 1, h => by
    by_cases ha : p a = true
    · simp [ha] at h
      simpa using takeWhile_all l j h
    · simp [ha] at h
theorem spanN_all (P : Int → Bool) (s : ByteArray) (i j : Nat) (h : j < spanN P s i) : P (at' s (i + j)) = true := by
  have := takeWhile_all (p := fun b : UInt8 => P (b.toNat : Int)) (s.data.toList.drop i) j h
  simpa [at', List.getD_eq_getElem?_getD] using this
end Go.Proofs.YtdemnolanlfblaaDoor
