/- Contract of the scanner's method skipNote. -/
import Derived.Test.YtdemnolanlfblaaDoorSpec
namespace Go.Proofs.YtdemnolanlfblaaDoor
open Go.RowKit
set_option maxHeartbeats 1000000 in
theorem note_any (p : Nat) (s : ByteArray) (i : Nat) (o : Bool) (ts : List Tok) (v : Value) (w : World) (hst : St p s i o ts v w) (hi : i ≤ s.size) (hs : s.size ≤ 6000) (hp : 2 ≤ p) (hT : Lib.Utf8Tabs 0 1 w) :
    Calls Tryd.prog 21 #[.pointer (some ⟨p, 0, none⟩)] w fun e w' => Below p w w' ∧ (((note s i).1 = 0 ∧ e = .returned (.tuple #[]) ∧ St p s (note s i).2 o ts v w') ∨ ((note s i).1 = 2 ∧ e = .panicked [{ v := .iface 25 (.agg #[.int .i64 2, .int .i64 (note s i).2]), recovered := false }])) := by
  generalize hN : note s i = N
  have HN : Hid (noteGo (s.size + 1) s i = N) := hN
  clear hN
  go_enter Tryd.func21, Tryd.ntmps21
  go_wp2
  go_loopw [2, 3] (fun _ _ wr => ∃ (j f : Nat), j ≤ s.size ∧ s.size < j + f ∧ noteGo f s j = N ∧ St p s j o ts v wr ∧ Below p w wr) (fun _ _ wr => s.size - (intOf ((wr.cell? ⟨p, 1, none⟩).getD undef)).toNat)
  case atStart => exact ⟨i, s.size + 1, hi, by omega, unhide HN, hst, Below.refl _ _⟩
  case round =>
    obtain ⟨j, f, hj, hf, hgo, hst1, hb1⟩ := hrel
    obtain ⟨c0, c1, c2, c3⟩ := hst1.cells
    have hlt := hst1.lt
    obtain ⟨f, rfl⟩ : ∃ g, f = g + 1 := ⟨f - 1, by omega⟩
    have HG := hide hgo
    clear hgo HN
    have hT1 := hide (tabs_below hp hT hb1)
    by_cases hlt1 : j < s.size
    · have hltz : (j : Int) < (s.size : Int) := by omega
      have hd1 := dec_le s j hlt1
      have hd2 := dec_width s j hlt1
      have hd3 := dec_ten s j hlt1
      have hG : N = (if at' s j = 10 then (0, j) else if (dec s j).1 = 65533 ∧ (dec s j).2 = 1 then (2, j) else noteGo f s (j + (dec s j).2)) := by
        rw [← unhide HG]; simp only [noteGo]; rw [if_pos hlt1]
      have hC : ∀ w2, St p s j o ts v w2 → Lib.Utf8Tabs 0 1 w2 → Calls Tryd.prog 18 #[.pointer (some ⟨p, 0, none⟩)] w2 fun e w' => e = .returned (.tuple #[.int .i32 (dec s j).1, .int .i64 (dec s j).2]) ∧ Below w2.heap.size w2 w' :=
        fun w2 h1 h2 => peek_any p s j o ts v w2 h1 hj h2
      generalize (dec s j).1 = R at *
      generalize (dec s j).2 = K at *
      have HC := hide hC
      clear hC HG
      by_cases ha : at' s j = 10
      · rw [if_pos ha] at hG
        have hR : R = 10 := hd3.2 ha
        subst hR
        have HG := hide hG
        clear hG hd3 ha
        go_wp2
        go_quiet (fail)
        have hst2 : St p s j o ts v (wr.drewN nq) := ⟨hst1.block, hst1.own⟩
        go_wp2_with (go_at_call 18; refine (unhide HC _ hst2 (unhide hT1)).mono ?_; rintro e w3 ⟨rfl, hb3⟩)
        refine bodyPost_ret (results_none rfl _ _ _) rfl ?_
        have hG := unhide HG
        subst hG
        exact ⟨hb1.trans ((below_drewN wr nq).mono (by omega) |>.trans (hb3.mono (by show p ≤ wr.heap.size; omega))), Or.inl ⟨rfl, rfl, hst2.below hb3⟩⟩
      · rw [if_neg ha] at hG
        have hR : ((R : Int) == 10) = false := ne_b (fun h => ha (hd3.1 (by omega)))
        clear hd3 ha
        by_cases hbad : R = 65533 ∧ K = 1
        · rw [if_pos hbad] at hG
          obtain ⟨rfl, rfl⟩ := hbad
          have HG := hide hG
          clear hG
          go_wp2
          go_quiet (fail)
          have hst2 : St p s j o ts v (wr.drewN nq) := ⟨hst1.block, hst1.own⟩
          go_wp2_with (first
            | (go_at_call 18; refine (unhide HC _ hst2 (unhide hT1)).mono ?_; rintro e w3 ⟨rfl, hb3⟩; have hst3 := hst2.below hb3)
            | (go_at_call 30; refine (giveUp_any p s j o ts v _ hst3 _).mono ?_; rintro e w4 ⟨rfl, rfl⟩))
          have hG := unhide HG
          subst hG
          exact ⟨rfl, hb1.trans ((below_drewN wr nq).mono (by omega) |>.trans (hb3.mono (by show p ≤ wr.heap.size; omega))), Or.inr ⟨rfl, rfl⟩⟩
        · rw [if_neg hbad] at hG
          have HG := hide hG
          clear hG
          by_cases hR2 : R = 65533
          · subst hR2
            have hK : ((K : Int) == 1) = false := ne_b (fun h => hbad ⟨rfl, by omega⟩)
            clear hbad
            go_wp2
            go_quiet (fail)
            have hst2 : St p s j o ts v (wr.drewN nq) := ⟨hst1.block, hst1.own⟩
            go_wp2_with (first
              | (go_at_call 18; refine (unhide HC _ hst2 (unhide hT1)).mono ?_; rintro e w3 ⟨rfl, hb3⟩; have hst3 := hst2.below hb3; obtain ⟨d0, d1, d2, d3⟩ := hst3.cells; have hf1 := hst3.free 1))
            go_roundw
            case rel =>
              refine ⟨j + K, f, by omega, by omega, (unhide HG).symm, hst3.setAt (j + K) (by omega), ?_⟩
              exact (hb1.trans ((below_drewN wr nq).mono (by omega) |>.trans (hb3.mono (by show p ≤ wr.heap.size; omega)))).setCell (Nat.le_refl _) _
            case measure =>
              have e1 := ((hst3.setAt (j + K) (n := (j : Int) + K) (by omega)).cells).2.1
              rw [e1, c1]
              simp [intOf]; omega
          · have hR3 : ((R : Int) == 65533) = false := ne_b (by omega)
            clear hbad hR2
            go_wp2
            go_quiet (fail)
            have hst2 : St p s j o ts v (wr.drewN nq) := ⟨hst1.block, hst1.own⟩
            go_wp2_with (first
              | (go_at_call 18; refine (unhide HC _ hst2 (unhide hT1)).mono ?_; rintro e w3 ⟨rfl, hb3⟩; have hst3 := hst2.below hb3; obtain ⟨d0, d1, d2, d3⟩ := hst3.cells; have hf1 := hst3.free 1))
            go_roundw
            case rel =>
              refine ⟨j + K, f, by omega, by omega, (unhide HG).symm, hst3.setAt (j + K) (by omega), ?_⟩
              exact (hb1.trans ((below_drewN wr nq).mono (by omega) |>.trans (hb3.mono (by show p ≤ wr.heap.size; omega)))).setCell (Nat.le_refl _) _
            case measure =>
              have e1 := ((hst3.setAt (j + K) (n := (j : Int) + K) (by omega)).cells).2.1
              rw [e1, c1]
              simp [intOf]; omega
    · have hltz : ¬ (j : Int) < (s.size : Int) := by omega
      have hG : N = (0, j) := by
        rw [← unhide HG]; simp only [noteGo]; rw [if_neg hlt1]
      clear HG
      go_wp2
      go_quiet (fail)
      have hst2 : St p s j o ts v (wr.drewN nq) := ⟨hst1.block, hst1.own⟩
      have HG := hide hG
      clear hG
      go_wp2
      go_end0
      have hG := unhide HG
      subst hG
      exact ⟨hb1.trans ((below_drewN wr nq).mono (by omega)), Or.inl ⟨rfl, rfl, hst2⟩⟩
end Go.Proofs.YtdemnolanlfblaaDoor
