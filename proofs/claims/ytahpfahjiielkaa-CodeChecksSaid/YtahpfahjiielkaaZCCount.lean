import Derived.Test.YtahpfahjiielkaaZCIn
set_option linter.all false
namespace Go.Proofs.Ytahpfahjiielkaa
section
open Go.RowKit
def Sp (e : Int) (R T : Rd CodeD) : Prop := (e = 0 ∧ R = T) ∨ (e ≠ 0 ∧ T = .error e)
theorem Sp.bad {e : Int} {R T : Rd CodeD} (h : Sp e R T) (he : e ≠ 0) (R' : Rd CodeD) : Sp e R' T := by
  rcases h with h | h
  · exact absurd h.1 he
  · exact Or.inr h
theorem Sp.to {e : Int} {R R' T : Rd CodeD} (h : Sp e R T) (hr : R = R') : Sp e R' T := by rw [← hr]; exact h
set_option maxHeartbeats 1000000 in
theorem number_bad (p : Nat) (bv : Value) (i : Nat) (e : Int) (w : World) (hbox : RBox p bv i e w) (he : e ≠ 0) :
    Calls Try.prog 24 #[.pointer (some ⟨p, 0, none⟩)] w fun r w' => r = .returned (.int .i64 0) ∧ w' = w := by
  have hcells := hbox.cells
  have he' : (e != 0) = true := by simpa using he
  clear hbox he
  go_enter Try.func24, Try.ntmps24
  go_wp2
  go_ret
  exact ⟨rfl, rfl⟩
structure Src (p : Nat) (a : Option Addr) (cap : Nat) (bs : List Nat) (C : Nat) (w : World) : Prop where
  low : C ≤ p
  here : p < w.heap.size
  bytes : BytesIn C w (.slice a bs.length cap) bs
  small : ∀ x ∈ bs, x < 256
  len : bs.length ≤ maxLen
theorem Src.below {p : Nat} {a : Option Addr} {cap : Nat} {bs : List Nat} {C : Nat} {w w' : World} (h : Src p a cap bs C w) (hb : Below p w w') : Src p a cap bs C w' := ⟨h.low, Nat.lt_of_lt_of_le h.here hb.size, h.bytes.same (Same.of_below hb h.low), h.small, h.len⟩
def NPost (p : Nat) (bv : Value) (bs : List Nat) (j : Nat) (e : Int) (w : World) (r : Ending) (w' : World) : Prop :=
  Only p w w' ∧ ∃ n j' e', r = .returned (.int .i64 n) ∧ I64 n ∧ j' ≤ bs.length ∧ RBox p bv j' e' w' ∧ (e' = 0 → e = 0) ∧ ∀ (F : Int → List Nat → Rd CodeD) T, Sp e ((rNum (bs.drop j)).bind F) T → Sp e' (F n (bs.drop j')) T
theorem number_all (p : Nat) (a : Option Addr) (cap : Nat) (bs : List Nat) (C : Nat) (j : Nat) (e : Int) (w : World) (hbox : RBox p (.slice a bs.length cap) j e w) (hj : j ≤ bs.length) (hs : Src p a cap bs C w) :
    Calls Try.prog 24 #[.pointer (some ⟨p, 0, none⟩)] w (NPost p (.slice a bs.length cap) bs j e w) := by
  by_cases he : e = 0
  · subst he
    refine (number_any p a cap bs j w hbox hj C hs.low hs.bytes hs.small hs.len).mono ?_
    rintro r w' ⟨ho, ⟨h1, rfl, i', hi', h2⟩ | ⟨n, i', h1, h2, h3, rfl, h4⟩⟩
    · refine ⟨ho, 0, i', 3, rfl, by unfold I64; omega, hi', h2, by simp, ?_⟩
      intro F T h
      rcases h with ⟨_, h⟩ | ⟨h, _⟩
      · refine Or.inr ⟨by decide, ?_⟩
        rw [← h]
        unfold rNum
        rw [h1]
        rfl
      · exact absurd rfl h
    · refine ⟨ho, n, i', 0, rfl, h3, h2, h4, fun _ => rfl, ?_⟩
      intro F T h
      rcases h with ⟨_, h⟩ | ⟨h, _⟩
      · refine Or.inl ⟨rfl, ?_⟩
        rw [← h]
        unfold rNum
        rw [h1]
        rfl
      · exact absurd rfl h
  · refine (number_bad p _ j e w hbox he).mono ?_
    rintro r w' ⟨rfl, rfl⟩
    exact ⟨Only.refl _ _, 0, j, e, rfl, by unfold I64; omega, hj, hbox, id, fun F T h => h.bad he _⟩
def CoPost (p : Nat) (bv : Value) (bs : List Nat) (j : Nat) (e : Int) (w : World) (r : Ending) (w' : World) : Prop :=
  Only p w w' ∧ ∃ (n : Int) (j' : Nat) (e' : Int), r = .returned (.int .i64 n) ∧ j' ≤ bs.length ∧ RBox p bv j' e' w' ∧ (e' = 0 → e = 0 ∧ 0 ≤ n ∧ n ≤ 10000) ∧ ∀ (F : Nat → List Nat → Rd CodeD) T, Sp e ((rCount (bs.drop j)).bind F) T → Sp e' (F n.toNat (bs.drop j')) T
theorem rCount_num (bs : List Nat) (F : Nat → List Nat → Rd CodeD) : (rCount bs).bind F = (rNum bs).bind fun n r => if n < 0 ∨ 10000 < n then .error 1 else F n.toNat r := by
  unfold rCount rNum
  cases num bs with
  | none => rfl
  | some x =>
    obtain ⟨n, r⟩ := x
    show Rd.bind (if n < 0 ∨ 10000 < n then _ else _) F = (if n < 0 ∨ 10000 < n then _ else _)
    split <;> rfl
theorem count_great {e n : Int} {r : List Nat} {F : Nat → List Nat → Rd CodeD} {T : Rd CodeD} (h : Sp e (if n < 0 ∨ 10000 < n then .error 1 else F n.toNat r) T) (he : e = 0) (hn : n < 0 ∨ 10000 < n) {R : Rd CodeD} : Sp 1 R T := by
  subst he
  rcases h with ⟨_, h⟩ | ⟨h, _⟩
  · rw [if_pos hn] at h
    exact Or.inr ⟨by decide, h.symm⟩
  · exact absurd rfl h
set_option maxHeartbeats 1000000 in
theorem count_all (p : Nat) (a : Option Addr) (cap : Nat) (bs : List Nat) (C : Nat) (j : Nat) (e : Int) (w : World) (hbox : RBox p (.slice a bs.length cap) j e w) (hj : j ≤ bs.length) (hs : Src p a cap bs C w) :
    Calls Try.prog 23 #[.pointer (some ⟨p, 0, none⟩)] w (CoPost p (.slice a bs.length cap) bs j e w) := by
  have HC := hide (number_all p a cap bs C j e w hbox hj hs)
  clear hbox hs
  go_enter Try.func23, Try.ntmps23
  go_wp2_with (go_at_call 24; refine (unhide HC).mono ?_; rintro r w1 ⟨ho, n, j1, e1, rfl, hn, hj1, hb1, he1, hF⟩; have hcells := hb1.cells; have hf := hb1.free 2; have HO := hide ho; have HB := hide hb1; have HE := hide he1; have HF := hide hF; clear ho hb1 he1 hF HC)
  all_goals
    go_ret
    first
      | (refine ⟨unhide HO, n, j1, e1, rfl, hj1, unhide HB, fun h => ?_, fun F T h => ?_⟩
         · simp_all
         · rw [rCount_num] at h
           exact Sp.bad (unhide HF _ _ h) (by simp_all) _)
      | (refine ⟨(unhide HO).set _ _, n, j1, 1, rfl, hj1, (unhide HB).setE 1, fun h => by simp at h, fun F T h => ?_⟩
         rw [rCount_num] at h
         exact count_great (unhide HF _ _ h) (by simp_all) (by omega))
      | (refine ⟨unhide HO, n, j1, e1, rfl, hj1, unhide HB, fun h => ⟨unhide HE h, by omega, by omega⟩, fun F T h => ?_⟩
         rw [rCount_num] at h
         have h2 := unhide HF _ _ h
         rw [if_neg (by omega)] at h2
         exact h2)
end
end Go.Proofs.Ytahpfahjiielkaa
