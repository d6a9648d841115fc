import Derived.Test.YtahpfahjiielkaaZCOrder
set_option linter.all false
namespace Go.Proofs.Ytahpfahjiielkaa
section
open Go.RowKit
def AskIs (w : World) (v : Value) (p : Int → Bool) : Prop :=
  (v = .nilFunc ∧ ∀ n, p n = decide (n = 0)) ∨
  (∃ g last, v = .func (.func 57) #[] #[.pointer (some ⟨g, 0, none⟩)] ∧ w.cell? ⟨g, 0, none⟩ = some (.int .i64 last) ∧ ∀ n, p n = inB n 0 last) ∨
  (v = .func (.func 46) #[] #[] ∧ ∀ n, p n = true)
theorem AskIs.keep {w w' : World} {v : Value} {p : Int → Bool} (h : AskIs w v p) (hk : ∀ g u, w.cell? ⟨g, 0, none⟩ = some u → w'.cell? ⟨g, 0, none⟩ = some u) : AskIs w' v p := by
  rcases h with h | ⟨g, last, h1, h2, h3⟩ | h
  · exact Or.inl h
  · exact Or.inr (Or.inl ⟨g, last, h1, hk _ _ h2, h3⟩)
  · exact Or.inr (Or.inr h)
theorem cell_lt {w : World} {g j : Nat} {u : Value} (h : w.cell? ⟨g, j, none⟩ = some u) : g < w.heap.size := by
  by_cases hg : g < w.heap.size
  · exact hg
  · simp [World.cell?, Array.getElem?_eq_none (Nat.le_of_not_lt hg)] at h
theorem AskIs.below {w w' : World} {v : Value} {p : Int → Bool} (h : AskIs w v p) (hb : Below w.heap.size w w') : AskIs w' v p :=
  h.keep fun g u hu => (hb.cell (p := ⟨g, 0, none⟩) (cell_lt hu)).trans hu
theorem upTo_any (last : Int) (w : World) : Calls Try.prog 45 #[.int .i64 last] w fun e w' => e = .returned (.func (.func 57) #[] #[.pointer (some ⟨w.heap.size, 0, none⟩)]) ∧ w' = w.alloc (.cells #[.int .i64 last] 3) := by
  go_enter Try.func45, Try.ntmps45
  go_wp2
  go_ret
  exact ⟨rfl, rfl⟩
theorem upTo_in (n last : Int) (w : World) {g : Nat} (hg : w.cell? ⟨g, 0, none⟩ = some (.int .i64 last)) : Calls Try.prog 57 #[.int .i64 n, .pointer (some ⟨g, 0, none⟩)] w fun e w' => e = .returned (.bool (inB n 0 last)) ∧ w' = w := by
  by_cases h0 : (0 : Int) ≤ n
  · go_enter Try.func57, Try.ntmps57
    go_wp2
    go_ret
    exact ⟨by simp [inB, h0], rfl⟩
  · go_enter Try.func57, Try.ntmps57
    go_wp2
    go_ret
    exact ⟨by simp [inB]; omega, rfl⟩
theorem all_in (n : Int) (w : World) : Calls Try.prog 46 #[.int .i64 n] w fun e w' => e = .returned (.bool true) ∧ w' = w := by
  go_enter Try.func46, Try.ntmps46
  go_wp2
  go_ret
  exact ⟨rfl, rfl⟩
theorem isAs_any {w : World} {v : Value} {p : Int → Bool} (h : AskIs w v p) (n : Int) : Calls Try.prog 47 #[v, .int .i64 n] w fun e w' => e = .returned (.bool (p n)) ∧ w' = w := by
  rcases h with ⟨rfl, hp⟩ | ⟨g, last, rfl, hg, hp⟩ | ⟨rfl, hp⟩
  · rw [hp n]
    clear hp
    have hnil : ∀ w : World, (binOp BinOp.eql 60 .nilFunc .nilFunc).run Try.prog w = .ok (.bool true) w := fun _ => by kernel_rfl
    go_enter Try.func47, Try.ntmps47
    go_wp2
    go_ret
    exact ⟨ret_bool (by rw [Bool.eq_iff_iff]; simp), rfl⟩
  · rw [hp n]
    clear hp
    have HC := hide (upTo_in n last w hg)
    have hnil : ∀ w : World, (binOp BinOp.eql 60 (.func (.func 57) #[] #[.pointer (some ⟨g, 0, none⟩)]) .nilFunc).run Try.prog w = .ok (.bool false) w := fun _ => by kernel_rfl
    clear hg
    go_enter Try.func47, Try.ntmps47
    go_wp2_with (go_at_call 57; refine (unhide HC).mono ?_; rintro e w1 ⟨rfl, hw1⟩; subst w1)
    go_ret
    exact ⟨rfl, rfl⟩
  · rw [hp n]
    clear hp
    have HC := hide (all_in n w)
    have hnil : ∀ w : World, (binOp BinOp.eql 60 (.func (.func 46) #[] #[]) .nilFunc).run Try.prog w = .ok (.bool false) w := fun _ => by kernel_rfl
    go_enter Try.func47, Try.ntmps47
    go_wp2_with (go_at_call 46; refine (unhide HC).mono ?_; rintro e w1 ⟨rfl, hw1⟩; subst w1)
    go_ret
    exact ⟨rfl, rfl⟩
structure RuleD where
  pa : Int → Bool
  pb : Int → Bool
  takes : Int
  more : Bool
  puts : Int
def RuleIs (w : World) (v : Value) (r : RuleD) : Prop := ∃ fa fb, v = .agg #[fa, fb, .int .i64 r.takes, .bool r.more, .int .i64 r.puts] ∧ AskIs w fa r.pa ∧ AskIs w fb r.pb
theorem RuleIs.keep {w w' : World} {v : Value} {r : RuleD} (h : RuleIs w v r) (hk : ∀ g u, w.cell? ⟨g, 0, none⟩ = some u → w'.cell? ⟨g, 0, none⟩ = some u) : RuleIs w' v r := by
  obtain ⟨fa, fb, h1, h2, h3⟩ := h
  exact ⟨fa, fb, h1, h2.keep hk, h3.keep hk⟩
theorem allows_any {w : World} {v : Value} {r : RuleD} (h : RuleIs w v r) (o : OpD) : Calls Try.prog 26 #[v, .agg #[.int .i64 o.d, .int .i64 o.a, .int .i64 o.b]] w fun e w' => e = .returned (.bool (r.pa o.a && r.pb o.b)) ∧ Below w.heap.size w w' := by
  obtain ⟨fa, fb, rfl, ha, hb⟩ := h
  obtain ⟨od, oa, ob⟩ := o
  have HA : Hid (∀ w', Below w.heap.size w w' → Calls Try.prog 47 #[fa, .int .i64 oa] w' fun e w'' => e = .returned (.bool (r.pa oa)) ∧ w'' = w') := fun w' hw => isAs_any (ha.below hw) oa
  have HB : Hid (∀ w', Below w.heap.size w w' → Calls Try.prog 47 #[fb, .int .i64 ob] w' fun e w'' => e = .returned (.bool (r.pb ob)) ∧ w'' = w') := fun w' hw => isAs_any (hb.below hw) ob
  clear ha hb
  have HW : Hid (∀ o1 o2, Below w.heap.size w ((w.alloc o1).alloc o2)) := fun o1 o2 => ((Below.refl _ w).alloc (Nat.le_refl _) o1).alloc (by rw [heap_size_alloc]; omega) o2
  generalize r.takes = rt
  generalize r.more = rm
  generalize r.puts = rp
  generalize hpa : r.pa oa = pa at HA ⊢
  generalize hpb : r.pb ob = pb at HB ⊢
  clear hpa hpb
  cases pa
  · go_enter Try.func26, Try.ntmps26
    go_wp2_with (go_at_call 47; refine (unhide HA _ (unhide HW _ _)).mono ?_; rintro e w1 ⟨rfl, hw1⟩; subst w1)
    go_ret
    exact ⟨rfl, unhide HW _ _⟩
  · go_enter Try.func26, Try.ntmps26
    go_wp2_with (first | (go_at_call_of 47 fa; refine (unhide HA _ (unhide HW _ _)).mono ?_; rintro e w1 ⟨rfl, hw1⟩; subst w1) | (go_at_call 47; refine (unhide HB _ (unhide HW _ _)).mono ?_; rintro e w1 ⟨rfl, hw1⟩; subst w1))
    go_ret
    exact ⟨by simp, unhide HW _ _⟩
end
end Go.Proofs.Ytahpfahjiielkaa
