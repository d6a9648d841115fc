/- Plain facts for the document's scanner: what its rounds make of the plain scan. -/
import Derived.Test.YtdemnolanlfblaaDoorRefMem
namespace Go.Proofs.YtdemnolanlfblaaDoor
open Go.RowKit
theorem go_step {s : ByteArray} {i f : Nat} {o : Bool} {ts : List Tok} (hi : i < s.size) (hgo : scanGo (f + 1) s i o ts = scan s) (hc : (stepS s i o).code = 0) : scanGo f s (stepS s i o).pos (stepS s i o).mark (ts ++ (stepS s i o).toks) = scan s := by
  rw [← hgo]; simp only [scanGo]; rw [if_pos hi, if_pos hc]
theorem go_fault {s : ByteArray} {i f : Nat} {o : Bool} {ts : List Tok} (hi : i < s.size) (hgo : scanGo (f + 1) s i o ts = scan s) (hc : (stepS s i o).code ≠ 0) : scan s = ((stepS s i o).code, (stepS s i o).pos, []) := by
  rw [← hgo]; simp only [scanGo]; rw [if_pos hi, if_neg hc]
theorem go_done {s : ByteArray} {i f : Nat} {o : Bool} {ts : List Tok} (hi : ¬ i < s.size) (hgo : scanGo (f + 1) s i o ts = scan s) : scan s = (0, 0, ts ++ ending o i) := by
  rw [← hgo]; simp only [scanGo]; rw [if_neg hi]
theorem step_is_line {s : ByteArray} {i : Nat} {o : Bool} (h1 : at' s i = 10) : stepS s i o = ⟨0, i + 1, ending o i, false⟩ := by unfold stepS; rw [if_pos h1]
theorem step_is_blank {s : ByteArray} {i : Nat} {o : Bool} (h1 : ¬ at' s i = 10) (h2 : blankB (at' s i) = true) : stepS s i o = ⟨0, i + 1, [], o⟩ := by unfold stepS; rw [if_neg h1, if_pos h2]
def isNote (s : ByteArray) (i : Nat) : Prop := at' s i = 47 ∧ i + 1 < s.size ∧ at' s (i + 1) = 47
theorem step_is_note {s : ByteArray} {i : Nat} {o : Bool} (h1 : ¬ at' s i = 10) (h2 : ¬ blankB (at' s i) = true) (h3 : isNote s i) : stepS s i o = ⟨(note s i).1, (note s i).2, [], o⟩ := by unfold isNote at h3; unfold stepS; rw [if_neg h1, if_neg h2, if_pos h3]
theorem step_is_num {s : ByteArray} {i : Nat} {o : Bool} (h1 : ¬ at' s i = 10) (h2 : ¬ blankB (at' s i) = true) (h3 : ¬ isNote s i) (h4 : digitB (at' s i) = true) : stepS s i o = numOut s i o := by unfold isNote at h3; unfold stepS; rw [if_neg h1, if_neg h2, if_neg h3, if_pos h4]
theorem step_is_name {s : ByteArray} {i : Nat} {o : Bool} (h1 : ¬ at' s i = 10) (h2 : ¬ blankB (at' s i) = true) (h3 : ¬ isNote s i) (h4 : ¬ digitB (at' s i) = true) (h5 : letterB (at' s i) = true) : stepS s i o = nameOut s i := by unfold isNote at h3; unfold stepS; rw [if_neg h1, if_neg h2, if_neg h3, if_neg h4, if_pos h5]
theorem step_is_sign {s : ByteArray} {i : Nat} {o : Bool} (h1 : ¬ at' s i = 10) (h2 : ¬ blankB (at' s i) = true) (h3 : ¬ isNote s i) (h4 : ¬ digitB (at' s i) = true) (h5 : ¬ letterB (at' s i) = true) : stepS s i o = signOut s i o := by unfold isNote at h3; unfold stepS; rw [if_neg h1, if_neg h2, if_neg h3, if_neg h4, if_neg h5]
theorem letter_part {r : Int} (h : letterB r = true) : partB r = true := by unfold letterB at h; unfold partB; simp at h ⊢; omega
theorem letter_or {r : Int} : partB r = (letterB r || digitB r) := by
  rw [Bool.eq_iff_iff]; unfold letterB digitB partB; simp; omega
theorem letter_nodigit {r : Int} (h : letterB r = true) : digitB r = false := by unfold letterB at h; unfold digitB; simp at h ⊢; omega
theorem toList_extract1 (s : ByteArray) (i : Nat) (h : i < s.size) : ∃ a : UInt8, (s.extract i (i + 1)).toList = [a] ∧ a.toNat = at' s i := by
  have hsz := piece_size s i 1 (by omega)
  have ha := piece_at s i 1 0 (by omega) (by omega)
  generalize s.extract i (i + 1) = x at *
  rw [ByteArray.toList_eq]
  have hl : x.data.toList.length = 1 := by rw [← hsz]; cases x; simp [ByteArray.size]
  match hx : x.data.toList, hl with
  | [a], _ => exact ⟨a, rfl, by rw [at', hx] at ha; simpa using ha⟩
theorem toList_extract2 (s : ByteArray) (i : Nat) (h : i + 1 < s.size) : ∃ a b : UInt8, (s.extract i (i + 2)).toList = [a, b] ∧ a.toNat = at' s i ∧ b.toNat = at' s (i + 1) := by
  have hsz := piece_size s i 2 (by omega)
  have ha := piece_at s i 2 0 (by omega) (by omega)
  have hb := piece_at s i 2 1 (by omega) (by omega)
  generalize s.extract i (i + 2) = x at *
  rw [ByteArray.toList_eq]
  have hl : x.data.toList.length = 2 := by rw [← hsz]; cases x; simp [ByteArray.size]
  match hx : x.data.toList, hl with
  | [a, b], _ => exact ⟨a, b, rfl, by rw [at', hx] at ha; simpa using ha, by rw [at', hx] at hb; simpa using hb⟩
theorem bytes_eq {x y : ByteArray} (h : x.toList = y.toList) : x = y := by
  rw [ByteArray.toList_eq, ByteArray.toList_eq] at h
  cases x; cases y; simp at h; congr 1
theorem begins_note (s : ByteArray) (i : Nat) (hi : i < s.size) : beginsB s i ⟨#[47, 47]⟩ = true ↔ isNote s i := by
  unfold beginsB isNote
  have hz : (⟨#[47, 47]⟩ : ByteArray).size = 2 := rfl
  rw [hz, show (⟨#[47, 47]⟩ : ByteArray).toList = [47, 47] from by rw [ByteArray.toList_eq]]
  by_cases h1 : i + 1 < s.size
  · obtain ⟨a, b, e, ea, eb⟩ := toList_extract2 s i h1
    rw [e, ← ea, ← eb]
    simp only [Bool.and_eq_true, decide_eq_true_eq, beq_iff_eq, List.cons.injEq, and_true]
    constructor
    · rintro ⟨_, rfl, rfl⟩; exact ⟨rfl, h1, rfl⟩
    · rintro ⟨h2, _, h3⟩
      refine ⟨by omega, ?_, ?_⟩
      · exact UInt8.toNat_inj.1 h2
      · exact UInt8.toNat_inj.1 h3
  · simp only [Bool.and_eq_true, decide_eq_true_eq]
    constructor
    · rintro ⟨h2, _⟩; omega
    · rintro ⟨_, h2, _⟩; omega
/-- The sign of the list that stands at a place. -/
def signAt (s : ByteArray) (i j : Nat) : Bool := beginsB s i ⟨(signsL.getD j []).toArray⟩
theorem mk_toList (l : List UInt8) : (⟨l.toArray⟩ : ByteArray).toList = l := by simp
theorem mk_size (l : List UInt8) : (⟨l.toArray⟩ : ByteArray).size = l.length := by simp [ByteArray.size]
theorem one_of {s : ByteArray} {i : Nat} (hi : i < s.size) {c : UInt8} : beginsB s i ⟨[c].toArray⟩ = true ↔ at' s i = c.toNat := by
  unfold beginsB
  rw [mk_size [c], mk_toList [c]]
  obtain ⟨a, e, ea⟩ := toList_extract1 s i hi
  simp only [List.length_singleton, e, ← ea, Bool.and_eq_true, decide_eq_true_eq, beq_iff_eq, List.cons.injEq, and_true]
  constructor
  · rintro ⟨_, rfl⟩; rfl
  · intro h; exact ⟨by omega, UInt8.toNat_inj.1 h⟩
theorem two_of {s : ByteArray} {i : Nat} {c d : UInt8} : beginsB s i ⟨[c, d].toArray⟩ = true ↔ i + 1 < s.size ∧ (s.extract i (i + 2)).toList = [c, d] := by
  unfold beginsB
  rw [mk_size [c, d], mk_toList [c, d]]
  simp only [List.length_cons, List.length_nil, Bool.and_eq_true, decide_eq_true_eq, beq_iff_eq]
  constructor
  · rintro ⟨h1, h2⟩; exact ⟨by omega, h2⟩
  · rintro ⟨h1, h2⟩; exact ⟨by omega, h2⟩
theorem signs_len : signsL.length = 25 := rfl
theorem in_two {s : ByteArray} {i : Nat} : (i + 1 < s.size ∧ (s.extract i (i + 2)).toList ∈ two) ↔ ∃ j, j < 8 ∧ signAt s i j = true := by
  constructor
  · rintro ⟨h1, h2⟩
    simp only [two, List.mem_cons, List.mem_nil_iff, or_false] at h2
    rcases h2 with h | h | h | h | h | h | h | h
    · exact ⟨0, by omega, two_of.2 ⟨h1, h⟩⟩
    · exact ⟨1, by omega, two_of.2 ⟨h1, h⟩⟩
    · exact ⟨2, by omega, two_of.2 ⟨h1, h⟩⟩
    · exact ⟨3, by omega, two_of.2 ⟨h1, h⟩⟩
    · exact ⟨4, by omega, two_of.2 ⟨h1, h⟩⟩
    · exact ⟨5, by omega, two_of.2 ⟨h1, h⟩⟩
    · exact ⟨6, by omega, two_of.2 ⟨h1, h⟩⟩
    · exact ⟨7, by omega, two_of.2 ⟨h1, h⟩⟩
  · rintro ⟨j, hj, h⟩
    have : j = 0 ∨ j = 1 ∨ j = 2 ∨ j = 3 ∨ j = 4 ∨ j = 5 ∨ j = 6 ∨ j = 7 := by omega
    rcases this with rfl | rfl | rfl | rfl | rfl | rfl | rfl | rfl <;> (have := two_of.1 h; exact ⟨this.1, by rw [this.2]; decide⟩)
theorem in_one {s : ByteArray} {i : Nat} (hi : i < s.size) : (at' s i : Int) ∈ oneSign ↔ ∃ j, 8 ≤ j ∧ j < 25 ∧ signAt s i j = true := by
  constructor
  · intro h2
    simp only [oneSign, List.mem_cons, List.mem_nil_iff, or_false] at h2
    rcases h2 with h | h | h | h | h | h | h | h | h | h | h | h | h | h | h | h | h
    · exact ⟨8, by omega, by omega, (one_of hi).2 (by simpa using Int.ofNat_inj.1 h)⟩
    · exact ⟨9, by omega, by omega, (one_of hi).2 (by simpa using Int.ofNat_inj.1 h)⟩
    · exact ⟨10, by omega, by omega, (one_of hi).2 (by simpa using Int.ofNat_inj.1 h)⟩
    · exact ⟨11, by omega, by omega, (one_of hi).2 (by simpa using Int.ofNat_inj.1 h)⟩
    · exact ⟨12, by omega, by omega, (one_of hi).2 (by simpa using Int.ofNat_inj.1 h)⟩
    · exact ⟨13, by omega, by omega, (one_of hi).2 (by simpa using Int.ofNat_inj.1 h)⟩
    · exact ⟨14, by omega, by omega, (one_of hi).2 (by simpa using Int.ofNat_inj.1 h)⟩
    · exact ⟨15, by omega, by omega, (one_of hi).2 (by simpa using Int.ofNat_inj.1 h)⟩
    · exact ⟨16, by omega, by omega, (one_of hi).2 (by simpa using Int.ofNat_inj.1 h)⟩
    · exact ⟨17, by omega, by omega, (one_of hi).2 (by simpa using Int.ofNat_inj.1 h)⟩
    · exact ⟨18, by omega, by omega, (one_of hi).2 (by simpa using Int.ofNat_inj.1 h)⟩
    · exact ⟨19, by omega, by omega, (one_of hi).2 (by simpa using Int.ofNat_inj.1 h)⟩
    · exact ⟨20, by omega, by omega, (one_of hi).2 (by simpa using Int.ofNat_inj.1 h)⟩
    · exact ⟨21, by omega, by omega, (one_of hi).2 (by simpa using Int.ofNat_inj.1 h)⟩
    · exact ⟨22, by omega, by omega, (one_of hi).2 (by simpa using Int.ofNat_inj.1 h)⟩
    · exact ⟨23, by omega, by omega, (one_of hi).2 (by simpa using Int.ofNat_inj.1 h)⟩
    · exact ⟨24, by omega, by omega, (one_of hi).2 (by simpa using Int.ofNat_inj.1 h)⟩
  · rintro ⟨j, hj, hj2, h⟩
    have : j = 8 ∨ j = 9 ∨ j = 10 ∨ j = 11 ∨ j = 12 ∨ j = 13 ∨ j = 14 ∨ j = 15 ∨ j = 16 ∨ j = 17 ∨ j = 18 ∨ j = 19 ∨ j = 20 ∨ j = 21 ∨ j = 22 ∨ j = 23 ∨ j = 24 := by omega
    rcases this with rfl | rfl | rfl | rfl | rfl | rfl | rfl | rfl | rfl | rfl | rfl | rfl | rfl | rfl | rfl | rfl | rfl <;> (have := (one_of hi).1 h; rw [this]; decide)
theorem sign_none {s : ByteArray} {i : Nat} (hi : i < s.size) (h : ∀ j, j < 25 → signAt s i j = false) : signN s i = 0 := by
  unfold signN
  rw [if_neg, if_neg]
  · intro hm
    obtain ⟨j, h1, h2, h3⟩ := (in_one hi).1 hm
    rw [h j (by omega)] at h3; cases h3
  · intro hm
    obtain ⟨j, h1, h3⟩ := in_two.1 hm
    rw [h j (by omega)] at h3; cases h3
theorem signs_size : ∀ j, j < 25 → (signsL.getD j []).length = if j < 8 then 2 else 1 := by decide
theorem sign_first {s : ByteArray} {i k : Nat} (hi : i < s.size) (hk : k < 25) (hyes : signAt s i k = true) (h : ∀ j, j < k → signAt s i j = false) :
    signN s i = (signsL.getD k []).length ∧ s.extract i (i + (signsL.getD k []).length) = ⟨(signsL.getD k []).toArray⟩ := by
  have hx : s.extract i (i + (signsL.getD k []).length) = ⟨(signsL.getD k []).toArray⟩ := by
    apply bytes_eq
    have := hyes
    unfold signAt beginsB at this
    rw [mk_size (signsL.getD k []), mk_toList (signsL.getD k [])] at this
    simp only [Bool.and_eq_true, decide_eq_true_eq, beq_iff_eq] at this
    rw [mk_toList (signsL.getD k [])]; exact this.2
  refine ⟨?_, hx⟩
  rw [signs_size k hk]
  by_cases h8 : k < 8
  · rw [if_pos h8]
    unfold signN
    rw [if_pos (in_two.2 ⟨k, h8, hyes⟩)]
  · rw [if_neg h8]
    unfold signN
    rw [if_neg, if_pos ((in_one hi).2 ⟨k, by omega, hk, hyes⟩)]
    intro hm
    obtain ⟨j, h1, h3⟩ := in_two.1 hm
    rw [h j (by omega)] at h3; cases h3
end Go.Proofs.YtdemnolanlfblaaDoor
