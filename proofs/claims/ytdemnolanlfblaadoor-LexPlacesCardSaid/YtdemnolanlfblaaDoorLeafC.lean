/- Contracts of signSize and canEndLine. -/
import Derived.Test.YtdemnolanlfblaaDoorLeafB
namespace Go.Proofs.YtdemnolanlfblaaDoor
open Go.RowKit
def two : List (List UInt8) := [[60, 45], [61, 61], [33, 61], [60, 61], [62, 61], [38, 38], [124, 124], [58, 61]]
def oneSign : List Int := [40, 41, 123, 125, 46, 44, 59, 58, 42, 43, 45, 47, 37, 60, 62, 61, 33]
set_option maxHeartbeats 1000000 in
theorem sign_two (s : ByteArray) (w : World) (h : 1 < s.size) (hs : s.size ≤ 6000) (t : (s.extract 0 2).toList ∈ two) : Calls Tryd.prog 36 #[.string s] w fun e w' => e = .returned (.int .i64 2) ∧ w' = w := by
  have h' : (1 : Int) < (s.size : Int) := by omega
  simp only [two, List.mem_cons, List.mem_nil_iff, or_false] at t
  rcases t with t | t | t | t | t | t | t | t
  all_goals
    go_enter Tryd.func36, Tryd.ntmps36
    go_wp2
    go_ret
    exact ⟨rfl, rfl⟩
set_option maxHeartbeats 1000000 in
theorem sign_one (s : ByteArray) (w : World) (h : 0 < s.size) (hs : s.size ≤ 6000) (t : s.size = 1 ∨ ¬ (s.extract 0 2).toList ∈ two) (c : Int) (hc : (((s[0]'h).toNat : Nat) : Int) = c) (ho : c ∈ oneSign) : Calls Tryd.prog 36 #[.string s] w fun e w' => e = .returned (.int .i64 1) ∧ w' = w := by
  simp only [oneSign, List.mem_cons, List.mem_nil_iff, or_false] at ho
  by_cases h1 : 1 < s.size
  · have h' : (1 : Int) < (s.size : Int) := by omega
    have t' : ¬ (s.extract 0 2).toList ∈ two := by rcases t with t | t; omega; exact t
    clear t
    simp only [two, List.mem_cons, List.mem_nil_iff, or_false, not_or] at t'
    obtain ⟨t1, t2, t3, t4, t5, t6, t7, t8⟩ := t'
    replace t1 := ne_b t1
    replace t2 := ne_b t2
    replace t3 := ne_b t3
    replace t4 := ne_b t4
    replace t5 := ne_b t5
    replace t6 := ne_b t6
    replace t7 := ne_b t7
    replace t8 := ne_b t8
    rcases ho with ho | ho | ho | ho | ho | ho | ho | ho | ho | ho | ho | ho | ho | ho | ho | ho | ho
    all_goals
      subst ho
      go_enter Tryd.func36, Tryd.ntmps36
      go_wp2
      go_ret
      exact ⟨rfl, rfl⟩
  · have h' : ¬ (1 : Int) < (s.size : Int) := by omega
    clear t
    rcases ho with ho | ho | ho | ho | ho | ho | ho | ho | ho | ho | ho | ho | ho | ho | ho | ho | ho
    all_goals
      subst ho
      go_enter Tryd.func36, Tryd.ntmps36
      go_wp2
      go_ret
      exact ⟨rfl, rfl⟩
set_option maxHeartbeats 1000000 in
theorem sign_no (s : ByteArray) (w : World) (h : 0 < s.size) (hs : s.size ≤ 6000) (t : s.size = 1 ∨ ¬ (s.extract 0 2).toList ∈ two) (c : Int) (hc : (((s[0]'h).toNat : Nat) : Int) = c) (ho : ¬ c ∈ oneSign) : Calls Tryd.prog 36 #[.string s] w fun e w' => e = .returned (.int .i64 0) ∧ w' = w := by
  simp only [oneSign, List.mem_cons, List.mem_nil_iff, or_false, not_or] at ho
  obtain ⟨o1, o2, o3, o4, o5, o6, o7, o8, o9, p1, p2, p3, p4, p5, p6, p7, p8⟩ := ho
  replace o1 := ne_b o1
  replace o2 := ne_b o2
  replace o3 := ne_b o3
  replace o4 := ne_b o4
  replace o5 := ne_b o5
  replace o6 := ne_b o6
  replace o7 := ne_b o7
  replace o8 := ne_b o8
  replace o9 := ne_b o9
  replace p1 := ne_b p1
  replace p2 := ne_b p2
  replace p3 := ne_b p3
  replace p4 := ne_b p4
  replace p5 := ne_b p5
  replace p6 := ne_b p6
  replace p7 := ne_b p7
  replace p8 := ne_b p8
  by_cases h1 : 1 < s.size
  · have h' : (1 : Int) < (s.size : Int) := by omega
    have t' : ¬ (s.extract 0 2).toList ∈ two := by rcases t with t | t; omega; exact t
    clear t
    simp only [two, List.mem_cons, List.mem_nil_iff, or_false, not_or] at t'
    obtain ⟨t1, t2, t3, t4, t5, t6, t7, t8⟩ := t'
    replace t1 := ne_b t1
    replace t2 := ne_b t2
    replace t3 := ne_b t3
    replace t4 := ne_b t4
    replace t5 := ne_b t5
    replace t6 := ne_b t6
    replace t7 := ne_b t7
    replace t8 := ne_b t8
    go_enter Tryd.func36, Tryd.ntmps36
    go_wp2
    go_ret
    exact ⟨rfl, rfl⟩
  · have h' : ¬ (1 : Int) < (s.size : Int) := by omega
    clear t
    go_enter Tryd.func36, Tryd.ntmps36
    go_wp2
    go_ret
    exact ⟨rfl, rfl⟩
end Go.Proofs.YtdemnolanlfblaaDoor
