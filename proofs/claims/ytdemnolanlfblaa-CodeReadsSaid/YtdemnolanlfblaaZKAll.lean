import Derived.Laws.EntriesVeiled
import Derived.Test.YtdemnolanlfblaaZKRulesB
import Derived.Test.YtdemnolanlfblaaZCMake
set_option linter.all false
namespace Go.Proofs.Ytdemnolanlfblaa
section
open Go.RowKit
def AskedBy (f : Nat) (g : Nat) (p : Int → Bool) (w : World) : Prop := ∀ n, Calls Try.prog f #[.int .i64 n, .pointer (some ⟨g, 0, none⟩)] w fun e w' => e = .returned (.bool (p n)) ∧ w' = w
theorem not_up {w : World} {g h : Nat} {p : Int → Bool} (hh : w.cell? ⟨h, 0, none⟩ = some (.func (.func 57) #[] #[.pointer (some ⟨g, 0, none⟩)])) (hp : AskedBy 57 g p w) (n : Int) : Calls Try.prog 59 #[.int .i64 n, .pointer (some ⟨h, 0, none⟩)] w fun e w' => e = .returned (.bool (!(p n))) ∧ w' = w := by
  have HC := hide (hp n)
  clear hp
  go_enter Try.func59, Try.ntmps59
  go_wp2_with (go_at_call 57; refine (unhide HC).mono ?_; rintro e w1 ⟨rfl, hw1⟩; subst w1)
  go_ret
  exact ⟨rfl, rfl⟩
theorem not_kd {w : World} {g h : Nat} {p : Int → Bool} (hh : w.cell? ⟨h, 0, none⟩ = some (.func (.func 49) #[] #[.pointer (some ⟨g, 0, none⟩)])) (hp : AskedBy 49 g p w) (n : Int) : Calls Try.prog 59 #[.int .i64 n, .pointer (some ⟨h, 0, none⟩)] w fun e w' => e = .returned (.bool (!(p n))) ∧ w' = w := by
  have HC := hide (hp n)
  clear hp
  go_enter Try.func59, Try.ntmps59
  go_wp2_with (go_at_call 49; refine (unhide HC).mono ?_; rintro e w1 ⟨rfl, hw1⟩; subst w1)
  go_ret
  exact ⟨rfl, rfl⟩
theorem kind_in (n last : Int) (w : World) {g : Nat} (hg : w.cell? ⟨g, 0, none⟩ = some (.int .i64 last)) : Calls Try.prog 49 #[.int .i64 n, .pointer (some ⟨g, 0, none⟩)] w fun e w' => e = .returned (.bool (inB n (-1) (last - 1))) ∧ w' = w := by
  by_cases h0 : (-1 : Int) ≤ n
  · go_enter Try.func49, Try.ntmps49
    go_wp2
    go_ret
    exact ⟨ret_bool (by rw [Bool.eq_iff_iff]; simp [inB]; omega), rfl⟩
  · go_enter Try.func49, Try.ntmps49
    go_wp2
    go_ret
    exact ⟨ret_bool (by simp [inB]; omega), rfl⟩
theorem drop_any {α : Type} {xs : List α} {i : Nat} {y : α} (hy : xs[i]? = some y) (p : α → Bool) : (xs.drop i).any p = (p y || (xs.drop (i + 1)).any p) := by
  obtain ⟨h1, h2⟩ := List.getElem?_eq_some_iff.1 hy
  rw [List.drop_eq_getElem_cons h1, h2, List.any_cons]
set_option maxHeartbeats 8000000 in
theorem index_ints {w : World} {B h : Nat} {a : Option Addr} {c : Nat} {xs : List Int} (hx : IntsIn B w (.slice a xs.length c) xs) (hB : B ≤ w.heap.size) (hl : xs.length ≤ 1000000000) (p : Int → Bool) (hp : ∀ x ∈ xs, Calls Try.prog 59 #[.int .i64 x, .pointer (some ⟨h, 0, none⟩)] w fun e w' => e = .returned (.bool (p x)) ∧ w' = w) :
    Calls Try.prog 63 #[.slice a xs.length c, .func (.func 59) #[] #[.pointer (some ⟨h, 0, none⟩)]] w fun e w' => (∃ i : Int, e = .returned (.int .i64 i) ∧ decide (0 ≤ i) = xs.any p) ∧ w' = w := by
  have HX := hide hx
  have HP := hide hp
  clear hx hp
  go_enter Try.func63, Try.ntmps63
  go_wp2
  go_loopg [8] xs.length (fun k e8 wr => ∃ i : Nat, i ≤ xs.length ∧ k = xs.length - i ∧ e8 = .int .i64 (i : Int) ∧ wr = w ∧ Hid (xs.any p = (xs.drop i).any p))
  case atStart => exact ⟨0, Nat.zero_le _, rfl, rfl, rfl, by show _ = _; simp⟩
  case round =>
    obtain ⟨i, hi, rfl, rfl, rfl, HD⟩ := hrel
    by_cases hlt : i < xs.length
    · have hz : (i : Int) < (xs.length : Int) := by omega
      obtain ⟨y, hy⟩ : ∃ y, xs[i]? = some y := ⟨_, List.getElem?_eq_getElem hlt⟩
      obtain ⟨tb, tq, rfl, htb, t0⟩ := ints_at (unhide HX) hy
      have HC := hide (unhide HP y (List.mem_of_getElem? hy))
      have HD2 : Hid (xs.any p = (p y || (xs.drop (i + 1)).any p)) := (unhide HD).trans (drop_any hy p)
      clear hy HD
      cases hpy : p y with
      | true =>
        rw [hpy] at HC HD2
        go_wp2_with (go_at_call 59; refine (unhide HC).mono ?_; rintro e w1 ⟨rfl, hw1⟩; subst w1)
        go_ret
        exact ⟨⟨(i : Int), rfl, by rw [unhide HD2]; simp⟩, rfl⟩
      | false =>
        rw [hpy] at HC HD2
        have HD3 : Hid (xs.any p = (xs.drop (i + 1)).any p) := (unhide HD2).trans (Bool.false_or _)
        go_wp2_with (go_at_call 59; refine (unhide HC).mono ?_; rintro e w1 ⟨rfl, hw1⟩; subst w1)
        go_roundg (xs.length - (i + 1))
        case measure => omega
        case rel => exact ⟨i + 1, by omega, rfl, by go_num, rfl, HD3⟩
    · have hz : ¬ (i : Int) < (xs.length : Int) := by omega
      obtain rfl : i = xs.length := by omega
      have HD2 : Hid (xs.any p = false) := by
        have := unhide HD
        show _ = _
        rw [this, List.drop_length]
        rfl
      go_wp2
      go_ret
      exact ⟨⟨-1, rfl, by rw [unhide HD2]; rfl⟩, rfl⟩
theorem contains_ints {w : World} {B h : Nat} {a : Option Addr} {c : Nat} {xs : List Int} (hx : IntsIn B w (.slice a xs.length c) xs) (hB : B ≤ w.heap.size) (hl : xs.length ≤ 1000000000) (p : Int → Bool) (hp : ∀ x ∈ xs, Calls Try.prog 59 #[.int .i64 x, .pointer (some ⟨h, 0, none⟩)] w fun e w' => e = .returned (.bool (p x)) ∧ w' = w) :
    Calls Try.prog 58 #[.slice a xs.length c, .func (.func 59) #[] #[.pointer (some ⟨h, 0, none⟩)]] w fun e w' => e = .returned (.bool (xs.any p)) ∧ w' = w := by
  have HI := hide (index_ints hx hB hl p hp)
  clear hx hp
  go_enter Try.func58, Try.ntmps58
  go_wp2_with (go_at_call 63; refine (unhide HI).mono ?_; rintro e w1 ⟨⟨i, rfl, hi⟩, hw1⟩; subst w1; have HIE := hide hi; clear hi)
  go_ret
  exact ⟨by rw [← unhide HIE]; rfl, rfl⟩
theorem allAre_any {w : World} {B : Nat} {a : Option Addr} {c : Nat} {xs : List Int} {f : Nat} {cap : Array Value} (hx : IntsIn B w (.slice a xs.length c) xs) (hB : B ≤ w.heap.size) (hl : xs.length ≤ 1000000000) (p : Int → Bool)
    (hp : ∀ W h, Below w.heap.size w W → W.cell? ⟨h, 0, none⟩ = some (.func (.func f) #[] cap) → ∀ n, Calls Try.prog 59 #[.int .i64 n, .pointer (some ⟨h, 0, none⟩)] W fun e w' => e = .returned (.bool (!(p n))) ∧ w' = W) :
    Calls Try.prog 48 #[.slice a xs.length c, .func (.func f) #[] cap] w fun e w' => e = .returned (.bool (xs.all p)) ∧ Below w.heap.size w w' := by
  have HW : Hid (∀ o, Below w.heap.size w (w.alloc o)) := fun o => (Below.refl _ w).alloc (Nat.le_refl _) o
  have HC : Hid (∀ t, Calls Try.prog 58 #[.slice a xs.length c, .func (.func 59) #[] #[.pointer (some ⟨w.heap.size, 0, none⟩)]] (w.alloc (.cells #[.func (.func f) #[] cap] t)) fun e w' => e = .returned (.bool (xs.any fun n => !(p n))) ∧ w' = w.alloc (.cells #[.func (.func f) #[] cap] t)) := fun t =>
    contains_ints (hx.same (Same.of_below (unhide HW _) hB)) (Nat.le_trans hB (unhide HW (.cells #[.func (.func f) #[] cap] t)).size) hl _ fun x _ => hp _ w.heap.size (unhide HW _) (by simp) x
  clear hx hp
  go_enter Try.func48, Try.ntmps48
  go_wp2_with (go_at_call 58; refine (unhide HC _).mono ?_; rintro e w1 ⟨rfl, hw1⟩; subst w1)
  go_ret
  exact ⟨ret_bool (by rw [Bool.eq_iff_iff]; simp), unhide HW _⟩
end
end Go.Proofs.Ytdemnolanlfblaa
