/- Contracts of the small functions of the document's own scanner. -/
import Derived.Test.YtdemnolanlfblaaDoorSpec
namespace Go.Proofs.YtdemnolanlfblaaDoor
open Go.RowKit
set_option maxHeartbeats 400000 in
theorem rdigit_any (r : Int) (w : World) : Calls Tryd.prog 16 #[.int .u8 r] w fun e w' => e = .returned (.bool (digitB r)) ∧ w' = w := by
  go_enter Tryd.func16, Tryd.ntmps16
  go_wp2
  all_goals
    go_ret
    refine ⟨ret_bool (bool_of ?_), rfl⟩
    simp
    try omega
set_option maxHeartbeats 400000 in
theorem rletter_any (r : Int) (w : World) : Calls Tryd.prog 15 #[.int .u8 r] w fun e w' => e = .returned (.bool (letterB r)) ∧ w' = w := by
  go_enter Tryd.func15, Tryd.ntmps15
  go_wp2
  all_goals
    go_ret
    refine ⟨ret_bool (bool_of ?_), rfl⟩
    simp
    try omega
/-- Does the text go on with another oneSign at a place? -/
def beginsB (s : ByteArray) (i : Nat) (t : ByteArray) : Bool := decide (i + t.size ≤ s.size) && ((s.extract i (i + t.size)).toList == t.toList)
set_option maxHeartbeats 400000 in
theorem begins_any (s : ByteArray) (i : Nat) (t : ByteArray) (w : World) (hi : i ≤ s.size) (hs : s.size ≤ 6000) (ht : t.size ≤ 6000) : Calls Tryd.prog 13 #[.string s, .int .i64 i, .string t] w fun e w' => e = .returned (.bool (beginsB s i t)) ∧ w' = w := by
  have i0 : (0 : Int) ≤ (i : Int) := by omega
  by_cases h : i + t.size ≤ s.size
  · have h1 : (i : Int) + (t.size : Int) ≤ (s.size : Int) := by omega
    have h2 : (i : Int) ≤ (i : Int) + (t.size : Int) := by omega
    have h3 : (0 : Int) ≤ (i : Int) + (t.size : Int) := by omega
    go_enter Tryd.func13, Tryd.ntmps13
    go_wp2
    go_ret
    refine ⟨ret_bool ?_, rfl⟩
    unfold beginsB
    simp [h]
  · have h1 : ¬ (i : Int) + (t.size : Int) ≤ (s.size : Int) := by omega
    go_enter Tryd.func13, Tryd.ntmps13
    go_wp2
    go_ret
    refine ⟨ret_bool ?_, rfl⟩
    unfold beginsB
    simp [h]
/-- A row of texts in memory. -/
def Strs (g : Nat) (l : List (List UInt8)) (w : World) : Prop := w.heap[g]? = some (.cells (l.map (fun x => Value.string ⟨x.toArray⟩)).toArray 9 (0, 0))
theorem Strs.cell {g : Nat} {l : List (List UInt8)} {w : World} (h : Strs g l w) (j : Nat) (hj : j < l.length) : w.cell? ⟨g, j, none⟩ = some (.string ⟨(l.getD j []).toArray⟩) := by
  unfold Strs at h
  simp [World.cell?, h, List.getElem?_map, List.getElem?_eq_getElem hj, List.getD_eq_getElem?_getD]
theorem Strs.below {g : Nat} {l : List (List UInt8)} {w w' : World} {B : Nat} (h : Strs g l w) (hb : Below B w w') (hg : g < B) : Strs g l w' := by
  unfold Strs at *
  rw [hb.block g hg]; exact h
def hasB (l : List (List UInt8)) (x : ByteArray) : Bool := l.contains x.toList
set_option maxHeartbeats 400000 in
theorem has_any (g : Nat) (l : List (List UInt8)) (x : ByteArray) (w : World) (hS : Strs g l w) (hl : l.length ≤ 100) :
    Calls Tryd.prog 17 #[.slice (some ⟨g, 0, none⟩) l.length l.length, .string x] w fun e w' => e = .returned (.bool (hasB l x)) ∧ w' = w := by
  have HS := hide hS
  clear hS
  go_enter Tryd.func17, Tryd.ntmps17
  go_wp2
  go_loop [5] (fun i => ∃ k : Nat, k ≤ l.length ∧ i = .int .i64 k ∧ ∀ j, j < k → l.getD j [] ≠ x.toList) (fun i => l.length - (intOf i).toNat)
  case atStart => exact ⟨0, Nat.zero_le _, rfl, fun j hj => absurd hj (by omega)⟩
  case round =>
    obtain ⟨k, hk, rfl, hall⟩ := hrel
    have HA := hide hall
    clear hall
    by_cases hlt : k < l.length
    · have hltz : (k : Int) < (l.length : Int) := by omega
      have hc := (unhide HS).cell k hlt
      obtain ⟨y, hy⟩ : ∃ y, l.getD k [] = y := ⟨_, rfl⟩
      rw [hy] at hc
      have HY := hide hy
      clear hy
      by_cases he : (y == x.toList) = true
      · go_wp2
        go_ret
        refine ⟨ret_bool ?_, rfl⟩
        have hy := unhide HY
        rw [beq_iff_eq] at he
        symm
        unfold hasB
        rw [List.contains_iff_mem, ← he, ← hy, List.getD_eq_getElem?_getD, List.getElem?_eq_getElem hlt]
        simp
      · have he' : (y == x.toList) = false := by simpa using he
        go_wp2
        go_round
        case rel =>
          refine ⟨k + 1, by omega, by go_num, ?_⟩
          intro j hj
          rcases Nat.lt_or_ge j k with h | h
          · exact unhide HA j h
          · have : j = k := by omega
            subst this
            rw [unhide HY]
            simpa using he'
        case measure => simp [intOf]; omega
    · have hltz : ¬ (k : Int) < (l.length : Int) := by omega
      go_wp2
      go_ret
      refine ⟨ret_bool ?_, rfl⟩
      symm
      unfold hasB
      rw [← Bool.not_eq_true, List.contains_iff_mem]
      intro hm
      obtain ⟨j, hj, he⟩ := List.getElem_of_mem hm
      refine unhide HA j (by omega) ?_
      rw [List.getD_eq_getElem?_getD, List.getElem?_eq_getElem hj]
      simpa using he
set_option maxHeartbeats 1000000 in
theorem words_any (w : World) : Calls Tryd.prog 10 #[] w fun e w' => e = .returned (.slice (some ⟨w.heap.size, 0, none⟩) 24 24) ∧ Strs w.heap.size wordsL w' ∧ w'.heap.size = w.heap.size + 1 ∧ Below w.heap.size w w' := by
  go_enter Tryd.func10, Tryd.ntmps10
  go_wp2
  go_ret
  refine ⟨rfl, ?_, by simp, (Below.refl _ w).alloc (Nat.le_refl _) _⟩
  show (Array.push _ _)[w.heap.size]? = _
  rw [Array.getElem?_push_size]
  rfl
set_option maxHeartbeats 1000000 in
theorem signs_any (w : World) : Calls Tryd.prog 11 #[] w fun e w' => e = .returned (.slice (some ⟨w.heap.size, 0, none⟩) 25 25) ∧ Strs w.heap.size signsL w' ∧ w'.heap.size = w.heap.size + 1 ∧ Below w.heap.size w w' := by
  go_enter Tryd.func11, Tryd.ntmps11
  go_wp2
  go_ret
  refine ⟨rfl, ?_, by simp, (Below.refl _ w).alloc (Nat.le_refl _) _⟩
  show (Array.push _ _)[w.heap.size]? = _
  rw [Array.getElem?_push_size]
  rfl
set_option maxHeartbeats 1000000 in
theorem rcloses_any (k : Int) (s : ByteArray) (n p : Int) (w : World) : Calls Tryd.prog 12 #[.agg #[.int .i64 k, .string s, .int .i64 n, .int .i64 p]] w fun e w' => e = .returned (.bool (endsB k s)) ∧ Below w.heap.size w w' := by
  have hb0 : ∀ o, Below w.heap.size w (w.alloc o) := fun o => (Below.refl _ w).alloc (Nat.le_refl _) o
  have HB := hide hb0
  clear hb0
  by_cases h1 : k = 1
  · subst h1
    go_enter Tryd.func12, Tryd.ntmps12
    go_wp2
    go_ret
    exact ⟨rfl, unhide HB _⟩
  have e1 : (k == 1) = false := ne_b h1
  by_cases h2 : k = 2
  · subst h2
    go_enter Tryd.func12, Tryd.ntmps12
    go_wp2
    go_ret
    exact ⟨rfl, unhide HB _⟩
  have e2 : (k == 2) = false := ne_b h2
  by_cases h3 : k = 3
  · subst h3
    have hE : endsB 3 s = (s.toList == [41] || s.toList == [125]) := rfl
    have HE := hide hE
    clear hE h1 h2
    by_cases hp : (s.toList == [41]) = true
    · go_enter Tryd.func12, Tryd.ntmps12
      go_wp2
      go_ret
      exact ⟨ret_bool (by rw [unhide HE, hp]; rfl), unhide HB _⟩
    · simp only [Bool.not_eq_true] at hp
      go_enter Tryd.func12, Tryd.ntmps12
      go_wp2
      go_ret
      exact ⟨ret_bool (by rw [unhide HE, hp]; rfl), unhide HB _⟩
  · have e3 : (k == 3) = false := ne_b h3
    have hE : endsB k s = endsL.contains s.toList := by simp [endsB, h1, h2, h3]
    have HE := hide hE
    clear hE h1 h2 h3
    have hS : ∀ o, Strs (w.heap.size + 1) endsL ((w.alloc o).alloc (.cells #[.string ⟨#[114, 101, 116, 117, 114, 110]⟩, .string ⟨#[98, 114, 101, 97, 107]⟩, .string ⟨#[105, 110, 116]⟩, .string ⟨#[98, 111, 111, 108]⟩, .string ⟨#[110, 105, 108]⟩, .string ⟨#[116, 114, 117, 101]⟩, .string ⟨#[102, 97, 108, 115, 101]⟩] 9)) := fun o => by
      show (Array.push _ _)[w.heap.size + 1]? = _
      have : w.heap.size + 1 = (w.alloc o).heap.size := by simp
      rw [this, Array.getElem?_push_size]
      rfl
    have HC := hide (fun o => has_any (w.heap.size + 1) endsL s _ (hS o) (by decide))
    clear hS
    go_enter Tryd.func12, Tryd.ntmps12
    go_wp2_with (go_at_call 17; refine (unhide HC _).mono ?_; rintro e w2 ⟨rfl, rfl⟩)
    go_ret
    exact ⟨ret_bool (by rw [unhide HE]; rfl), (unhide HB _).alloc (by simp) _⟩
end Go.Proofs.YtdemnolanlfblaaDoor
