import Derived.Test.YtdemnolanlfblaaChecked
import Derived.Deep.RegionLaw
import Derived.Deep.RegionWith
import Derived.Deep.QuietTactic
import Derived.BigQuiet
import Derived.WalkSmall
import Derived.Test.YtdemnolanlfblaaZCWalk
set_option linter.all false
namespace Go.Proofs.Ytdemnolanlfblaa
section
open Go.RowKit
theorem hide {p : Prop} (h : p) : Hid p := h
theorem unhide {p : Prop} (h : Hid p) : p := h
theorem ne_b {α : Type} [BEq α] [LawfulBEq α] {a b : α} (h : ¬ a = b) : (a == b) = false := beq_eq_false_iff_ne.2 h
theorem ret_bool {a b : Bool} (h : a = b) : Ending.returned (.bool a) = .returned (.bool b) := by rw [h]
theorem ret_int {k : IntKind} {a b : Int} (h : a = b) : Ending.returned (.int k a) = .returned (.int k b) := by rw [h]
theorem bool_of {a : Bool} {p : Prop} [Decidable p] (h : a = true ↔ p) : a = decide p := by
  by_cases hp : p
  · simp [h, hp]
  · simp [hp]; rw [← Bool.not_eq_true, h]; exact hp
set_option maxHeartbeats 400000 in
theorem within_any (x l h : Int) (w : World) : Calls Try.prog 16 #[.int .i64 x, .int .i64 l, .int .i64 h] w fun e w' => e = .returned (.bool (inB x l h)) ∧ w' = w := by
  go_enter Try.func16, Try.ntmps16
  go_wp2
  all_goals
    go_ret
    refine ⟨ret_bool (bool_of ?_), rfl⟩
    simp
    try omega
def opv (o : OpD) : Value := .agg #[.int .i64 o.d, .int .i64 o.a, .int .i64 o.b]
set_option maxHeartbeats 4000000 in
theorem ranges_any (a1 a2 a3 : Option Addr) (no nf nk c1 c2 c3 : Nat) (d a b : Int) (w : World) (h1 : no ≤ 8000) (h2 : nf ≤ 1200) (h3 : nk ≤ 1200) :
    Calls Try.prog 17 #[.agg #[.slice a1 no c1, .slice a2 nf c2, .slice a3 nk c3], .agg #[.int .i64 d, .int .i64 a, .int .i64 b]] w fun e w' => e = .returned (.bool (rangesB nf nk no ⟨d, a, b⟩)) ∧ Below w.heap.size w w' := by
  have hB : ∀ o1 o2, Below w.heap.size w ((w.alloc o1).alloc o2) := fun o1 o2 => ((Below.refl _ _).alloc (Nat.le_refl _) _).alloc (by simp) _
  have HB := hide hB
  clear hB
  by_cases hd : 1 ≤ d ∧ d ≤ 30
  · have h30 : d = 1 ∨ d = 2 ∨ d = 3 ∨ d = 4 ∨ d = 5 ∨ d = 6 ∨ d = 7 ∨ d = 8 ∨ d = 9 ∨ d = 10 ∨ d = 11 ∨ d = 12 ∨ d = 13 ∨ d = 14 ∨ d = 15 ∨ d = 16 ∨ d = 17 ∨ d = 18 ∨ d = 19 ∨ d = 20 ∨ d = 21 ∨ d = 22 ∨ d = 23 ∨ d = 24 ∨ d = 25 ∨ d = 26 ∨ d = 27 ∨ d = 28 ∨ d = 29 ∨ d = 30 := by omega
    clear hd
    rcases h30 with rfl | rfl | rfl | rfl | rfl | rfl | rfl | rfl | rfl | rfl | rfl | rfl | rfl | rfl | rfl | rfl | rfl | rfl | rfl | rfl | rfl | rfl | rfl | rfl | rfl | rfl | rfl | rfl | rfl | rfl
    all_goals
      go_enter Try.func17, Try.ntmps17
      go_wp2_with (go_at_call 16; refine (within_any _ _ _ _).mono ?_; rintro e w' ⟨rfl, rfl⟩)
      all_goals
        go_ret
        refine ⟨ret_bool (Bool.eq_iff_iff.2 ?_), (unhide HB) _ _⟩
        clear HB
        simp_all [rangesB, aOk, bOk, inB]
        try omega
  · have e1 : rangesB nf nk no ⟨d, a, b⟩ = false := by simp [rangesB, inB]; omega
    have E1 := hide e1
    clear e1
    have n1 : (d == 1) = false := ne_b (by omega)
    have n2 : (d == 2) = false := ne_b (by omega)
    have n3 : (d == 3) = false := ne_b (by omega)
    have n4 : (d == 4) = false := ne_b (by omega)
    have n5 : (d == 5) = false := ne_b (by omega)
    have n6 : (d == 6) = false := ne_b (by omega)
    have n7 : (d == 7) = false := ne_b (by omega)
    have n8 : (d == 8) = false := ne_b (by omega)
    have n9 : (d == 9) = false := ne_b (by omega)
    have n10 : (d == 10) = false := ne_b (by omega)
    have n11 : (d == 11) = false := ne_b (by omega)
    have n12 : (d == 12) = false := ne_b (by omega)
    have n13 : (d == 13) = false := ne_b (by omega)
    have n14 : (d == 14) = false := ne_b (by omega)
    have n15 : (d == 15) = false := ne_b (by omega)
    have n16 : (d == 16) = false := ne_b (by omega)
    have n17 : (d == 17) = false := ne_b (by omega)
    have n18 : (d == 18) = false := ne_b (by omega)
    have n19 : (d == 19) = false := ne_b (by omega)
    have n20 : (d == 20) = false := ne_b (by omega)
    have n21 : (d == 21) = false := ne_b (by omega)
    have n22 : (d == 22) = false := ne_b (by omega)
    have n23 : (d == 23) = false := ne_b (by omega)
    have n24 : (d == 24) = false := ne_b (by omega)
    have n25 : (d == 25) = false := ne_b (by omega)
    have n26 : (d == 26) = false := ne_b (by omega)
    have n27 : (d == 27) = false := ne_b (by omega)
    have n28 : (d == 28) = false := ne_b (by omega)
    have n29 : (d == 29) = false := ne_b (by omega)
    have n30 : (d == 30) = false := ne_b (by omega)
    clear hd
    go_enter Try.func17, Try.ntmps17
    go_wp2
    go_ret
    exact ⟨ret_bool (unhide E1).symm, (unhide HB) _ _⟩
set_option maxHeartbeats 4000000 in
theorem takes_any (d a b : Int) (w : World) (ha : d = 19 ∨ d = 27 → 0 ≤ a ∧ a ≤ 1200) :
    Calls Try.prog 55 #[.agg #[.int .i64 d, .int .i64 a, .int .i64 b]] w fun e w' => e = .returned (.tuple #[.int .i64 (takesN ⟨d, a, b⟩), .int .i64 (putsN ⟨d, a, b⟩)]) ∧ Below w.heap.size w w' := by
  have hB : ∀ o1, Below w.heap.size w (w.alloc o1) := fun o1 => (Below.refl _ _).alloc (Nat.le_refl _) _
  have HB := hide hB
  clear hB
  by_cases hd : d = 1 ∨ d = 2 ∨ d = 5 ∨ d = 6 ∨ d = 7 ∨ d = 8 ∨ d = 9 ∨ d = 10 ∨ d = 11 ∨ d = 12 ∨ d = 13 ∨ d = 14 ∨ d = 15 ∨ d = 16 ∨ d = 19 ∨ d = 23 ∨ d = 24 ∨ d = 27
  · rcases hd with rfl | rfl | rfl | rfl | rfl | rfl | rfl | rfl | rfl | rfl | rfl | rfl | rfl | rfl | rfl | rfl | rfl | rfl
    all_goals
      simp at ha
      go_enter Try.func55, Try.ntmps55
      go_wp2
      go_ret2
      exact ⟨by simp [takesN, putsN], (unhide HB) _⟩
  · simp only [not_or] at hd
    obtain ⟨m1, m2, m3, m4, m5, m6, m7, m8, m9, m10, m11, m12, m13, m14, m15, m16, m17, m18⟩ := hd
    have e1 : takesN ⟨d, a, b⟩ = 1 := by simp [takesN, *]
    have e2 : putsN ⟨d, a, b⟩ = 0 := by simp [putsN, *]
    have E1 := hide e1
    have E2 := hide e2
    clear e1 e2 ha
    replace m1 := ne_b m1
    replace m2 := ne_b m2
    replace m3 := ne_b m3
    replace m4 := ne_b m4
    replace m5 := ne_b m5
    replace m6 := ne_b m6
    replace m7 := ne_b m7
    replace m8 := ne_b m8
    replace m9 := ne_b m9
    replace m10 := ne_b m10
    replace m11 := ne_b m11
    replace m12 := ne_b m12
    replace m13 := ne_b m13
    replace m14 := ne_b m14
    replace m15 := ne_b m15
    replace m16 := ne_b m16
    replace m17 := ne_b m17
    replace m18 := ne_b m18
    go_enter Try.func55, Try.ntmps55
    go_wp2
    go_ret2
    exact ⟨by simp [unhide E1, unhide E2], (unhide HB) _⟩
end
end Go.Proofs.Ytdemnolanlfblaa
