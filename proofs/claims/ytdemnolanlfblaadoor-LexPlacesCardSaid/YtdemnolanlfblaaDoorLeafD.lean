/- Contract of canEndLine. -/
import Derived.Test.YtdemnolanlfblaaDoorLeafB
namespace Go.Proofs.YtdemnolanlfblaaDoor
open Go.RowKit
set_option maxHeartbeats 1000000 in
theorem end_any (k : Int) (s : ByteArray) (n p : Int) (w : World) : Calls Tryd.prog 37 #[.agg #[.int .i64 k, .string s, .int .i64 n, .int .i64 p]] w fun e w' => e = .returned (.bool (endsB k s)) ∧ w' = w.alloc (.cells #[.int .i64 k, .string s, .int .i64 n, .int .i64 p] 29) := by
  by_cases h1 : k = 1
  · subst h1
    go_enter Tryd.func37, Tryd.ntmps37
    go_wp2
    go_ret
    exact ⟨rfl, rfl⟩
  by_cases h2 : k = 2
  · subst h2
    go_enter Tryd.func37, Tryd.ntmps37
    go_wp2
    go_ret
    exact ⟨rfl, rfl⟩
  have e1 : (k == 1) = false := by simpa using h1
  have e2 : (k == 2) = false := by simpa using h2
  by_cases h3 : k = 3
  · subst h3
    have hE : endsB 3 s = (s.toList == [41] || s.toList == [125]) := rfl
    have HE := hide hE
    clear hE h1 h2
    by_cases hp : (s.toList == [41]) = true
    · go_enter Tryd.func37, Tryd.ntmps37
      go_wp2
      go_ret
      exact ⟨ret_bool (by rw [unhide HE, hp]; rfl), rfl⟩
    · simp only [Bool.not_eq_true] at hp
      go_enter Tryd.func37, Tryd.ntmps37
      go_wp2
      go_ret
      exact ⟨ret_bool (by rw [unhide HE, hp]; rfl), rfl⟩
  · have e3 : (k == 3) = false := by simpa using h3
    have hE : endsB k s = endsL.contains s.toList := by simp [endsB, h1, h2, h3]
    have HE := hide hE
    clear hE h1 h2 h3
    by_cases hm : s.toList ∈ endsL
    · have hc : endsL.contains s.toList = true := by simpa using hm
      have HC := hide hc
      clear hc
      simp only [endsL, List.mem_cons, List.mem_nil_iff, or_false] at hm
      rcases hm with t | t | t | t | t | t | t
      all_goals
        go_enter Tryd.func37, Tryd.ntmps37
        go_wp2
        go_ret
        exact ⟨ret_bool (by rw [unhide HE, unhide HC]), rfl⟩
    · have hc : endsL.contains s.toList = false := by simpa using hm
      have HC := hide hc
      clear hc
      simp only [endsL, List.mem_cons, List.mem_nil_iff, or_false, not_or] at hm
      obtain ⟨t1, t2, t3, t4, t5, t6, t7⟩ := hm
      replace t1 := ne_b t1
      replace t2 := ne_b t2
      replace t3 := ne_b t3
      replace t4 := ne_b t4
      replace t5 := ne_b t5
      replace t6 := ne_b t6
      replace t7 := ne_b t7
      go_enter Tryd.func37, Tryd.ntmps37
      go_wp2
      go_ret
      exact ⟨ret_bool (by rw [unhide HE, unhide HC]), rfl⟩
end Go.Proofs.YtdemnolanlfblaaDoor
