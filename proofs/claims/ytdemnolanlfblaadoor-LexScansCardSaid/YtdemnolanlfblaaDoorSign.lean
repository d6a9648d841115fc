/- Contract of the scanner's method takeSign. -/
import Derived.Test.YtdemnolanlfblaaDoorName
namespace Go.Proofs.YtdemnolanlfblaaDoor
open Go.RowKit
theorem sign_any (s : ByteArray) (i : Nat) (hi : i < s.size) (hs : s.size ≤ 6000) (w : World) : Calls Tryd.prog 36 #[.string (s.extract i s.size)] w fun e w' => e = .returned (.int .i64 (signN s i)) ∧ w' = w := by
  have hz : (s.extract i s.size).size = s.size - i := by simp
  have hc : (((s.extract i s.size)[0]'(by omega)).toNat : Int) = (at' s i : Int) := by
    rw [at_lt, at_extract s i 0 (by omega)]; rfl
  by_cases h1 : i + 1 < s.size
  · have e2 : (s.extract i s.size).extract 0 2 = s.extract i (i + 2) := extract_twice s i 2 (by omega)
    by_cases h2 : (s.extract i (i + 2)).toList ∈ two
    · have hn : signN s i = 2 := by unfold signN; rw [if_pos ⟨h1, h2⟩]
      rw [hn]
      exact sign_two _ w (by omega) (by omega) (by rw [e2]; exact h2)
    · by_cases h3 : (at' s i : Int) ∈ oneSign
      · have hn : signN s i = 1 := by unfold signN; rw [if_neg (fun h => h2 h.2), if_pos h3]
        rw [hn]
        exact sign_one _ w (by omega) (by omega) (Or.inr (by rw [e2]; exact h2)) _ hc h3
      · have hn : signN s i = 0 := by unfold signN; rw [if_neg (fun h => h2 h.2), if_neg h3]
        rw [hn]
        exact sign_no _ w (by omega) (by omega) (Or.inr (by rw [e2]; exact h2)) _ hc h3
  · by_cases h3 : (at' s i : Int) ∈ oneSign
    · have hn : signN s i = 1 := by unfold signN; rw [if_neg (fun h => h1 h.1), if_pos h3]
      rw [hn]
      exact sign_one _ w (by omega) (by omega) (Or.inl (by omega)) _ hc h3
    · have hn : signN s i = 0 := by unfold signN; rw [if_neg (fun h => h1 h.1), if_neg h3]
      rw [hn]
      exact sign_no _ w (by omega) (by omega) (Or.inl (by omega)) _ hc h3
theorem signN_le (s : ByteArray) (i : Nat) (hi : i < s.size) : i + signN s i ≤ s.size := by
  unfold signN
  split
  · omega
  · split <;> omega
set_option maxHeartbeats 1000000 in
theorem sign_bad (p : Nat) (s : ByteArray) (i : Nat) (o : Bool) (ts : List Tok) (v : Value) (w : World) (hst : St p s i o ts v w) (hi : i < s.size) (hs : s.size ≤ 6000) (hbad : signN s i = 0) :
    Calls Tryd.prog 26 #[.pointer (some ⟨p, 0, none⟩)] w fun e w' => e = .panicked [{ v := .iface 25 (.agg #[.int .i64 2, .int .i64 i]), recovered := false }] ∧ Below p w w' := by
  obtain ⟨c0, c1, c2, c3⟩ := hst.cells
  have hi1 : (0 : Int) ≤ (i : Int) := by omega
  have hi2 : (i : Int) ≤ (s.size : Int) := by omega
  have hC : ∀ w, Calls Tryd.prog 36 #[.string (s.extract i s.size)] w fun e w' => e = .returned (.int .i64 0) ∧ w' = w := fun w => by
    have := sign_any s i hi hs w
    rw [hbad] at this
    exact this
  have HC := hide hC
  clear hC hbad
  have hlt := hst.lt
  go_enter Tryd.func26, Tryd.ntmps26
  go_wp2
  go_quiet (fail)
  have hst1 : St p s i o ts v (w.drewN nq) := ⟨hst.block, hst.own⟩
  go_wp2_with (first
    | (go_at_call 36; refine (unhide HC _).mono ?_; rintro e w1 ⟨rfl, rfl⟩)
    | (go_at_call 30; refine (giveUp_any p s i o ts v _ hst1 _).mono ?_; rintro e w2 ⟨rfl, rfl⟩))
  exact ⟨rfl, rfl, (below_drewN w nq).mono (by omega)⟩
set_option maxHeartbeats 1000000 in
theorem sign_ok (p : Nat) (s : ByteArray) (i : Nat) (o : Bool) (ts : List Tok) (v : Value) (w : World) (hst : St p s i o ts v w) (hi : i < s.size) (hs : s.size ≤ 6000) (hl : ts.length ≤ 100000) (hok : ¬ signN s i = 0) :
    Calls Tryd.prog 26 #[.pointer (some ⟨p, 0, none⟩)] w fun e w' => e = .returned (.tuple #[]) ∧ ∃ v', St p s (signOut s i o).pos (signOut s i o).mark (ts ++ (signOut s i o).toks) v' w' ∧ Below p w w' := by
  have hO : signOut s i o = ⟨0, i + signN s i, [⟨3, s.extract i (i + signN s i), 0, i⟩], endsB 3 (s.extract i (i + signN s i))⟩ := by unfold signOut; rw [if_neg hok]
  rw [hO]
  clear hO
  have hle := signN_le s i hi
  have e2 := extract_twice s i (signN s i) hle
  have hsz := piece_size s i (signN s i) hle
  have hC := hide (fun w => sign_any s i hi hs w)
  obtain ⟨c0, c1, c2, c3⟩ := hst.cells
  have hi1 : (0 : Int) ≤ (i : Int) := by omega
  have hi2 : (i : Int) ≤ (s.size : Int) := by omega
  have hlt := hst.lt
  have hrz : (s.extract i s.size).size = s.size - i := by simp
  generalize hx : s.extract i (i + signN s i) = x at *
  generalize hn : signN s i = n at *
  clear hx hn
  subst hsz
  have hz : ((x.size : Int) == 0) = false := ne_b (by omega)
  have hxs : x.size ≤ 6000 := by omega
  have E2 := hide e2
  have RZ := hide hrz
  clear e2 hrz
  go_enter Tryd.func26, Tryd.ntmps26
  go_wp2
  go_quiet (fail)
  have hb0 := below_drewN w nq
  have hst1 : St p s i o ts v (w.drewN nq) := ⟨hst.block, hst.own⟩
  generalize hr : s.extract i s.size = r at *
  have hrz := unhide RZ
  have hxr : (x.size : Int) ≤ (r.size : Int) := by omega
  have e2 := unhide E2
  clear hrz hr RZ E2
  go_wp2_with (first
    | (go_at_call 36; refine (unhide hC _).mono ?_; rintro e w1 ⟨rfl, rfl⟩)
    | (go_at_call 33; refine (take_any p s i o ts v _ hst1 hl _ _ _ hxs (by omega)).mono ?_; rintro e w3 ⟨rfl, v3, hst3, hb3⟩))
  go_end0
  exact ⟨rfl, v3, hst3, (hb0.mono (by omega)).trans hb3⟩
end Go.Proofs.YtdemnolanlfblaaDoor
