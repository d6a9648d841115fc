import Derived.Test.YtdemnolanlfblaaZCCap
set_option linter.all false
namespace Go.Proofs.Ytdemnolanlfblaa
section
open Go.RowKit
theorem ivals_set (l : List Int) (k : Nat) (d : Int) : (ivals l).set k (.int .i64 d) = ivals (l.set k d) := by simp [ivals, List.map_set]
theorem WSt.setDeep {p g B ov fv kv cap s rv w} (h : WSt p g B ov fv kv cap s rv w) (k : Nat) (d : Int) : WSt p g B ov fv kv cap ⟨s.deep.set k d, s.row, s.bad⟩ rv (w.setCell ⟨g, k, none⟩ (.int .i64 d)) := by
  have hd := (h.deep.stored k (.int .i64 d)).1
  rw [ivals_set] at hd
  refine ⟨⟨h.lo.1, h.lo.2.1, by simpa using h.lo.2.2⟩, ?_, ?_, ownsRow_setCell_below h.row (by show g < B; have := h.lo; omega) _⟩
  · rw [heap_setCell_other _ _ _ _ (by show p ≠ g; have := h.lo; omega), h.block]; simp
  · simpa using hd
theorem WSt.grown {p g B : Nat} {ov fv kv : Value} {cap : Nat} {s : WS} {rv : Value} {w w1 : World} {v1 : Value} (h : WSt p g B ov fv kv cap s rv w) (k : Nat) (o : Obj) (hg : (w.alloc o).grownBy w1 rv.ownBlock) (_h1 : w1.ownsRow B 3 1 v1 (s.row.length + 1) (nvals s.row ++ [.int .i64 k])) :
    w1.heap[p]? = some (.cells #[ov, fv, kv, .slice (some ⟨g, 0, none⟩) s.deep.length cap, rv, .bool s.bad] 74 (0, 0)) ∧ w1.ownsRow g 3 1 (.slice (some ⟨g, 0, none⟩) s.deep.length cap) s.deep.length (ivals s.deep) ∧ Below B w w1 := by
  have hlo := h.lo
  have hlt := h.lt
  have hne : ∀ x, x < B → some x ≠ rv.ownBlock := fun x hx e => by
    have := own_ge h.row x e.symm
    omega
  refine ⟨?_, ?_, ?_⟩
  · rw [hg.block p (by simp; omega) (hne p (by omega)), Below.heap_alloc _ _ _ hlt]; exact h.block
  · exact (h.deep.alloc o).kept hg (Or.inr (by simpa [Value.ownBlock] using hne g (by omega)))
  · exact ((Below.refl B w).alloc (by omega) o).grown hg (by simp; omega) (fun k hk => own_ge h.row k hk)
theorem WSt.put {p g B : Nat} {ov fv kv : Value} {cap : Nat} {s : WS} {rv : Value} {w1 : World} {v1 : Value} {k : Nat} (hlo : p < g ∧ g < B ∧ B ≤ w1.heap.size) (hB : w1.heap[p]? = some (.cells #[ov, fv, kv, .slice (some ⟨g, 0, none⟩) s.deep.length cap, rv, .bool s.bad] 74 (0, 0))) (hD : w1.ownsRow g 3 1 (.slice (some ⟨g, 0, none⟩) s.deep.length cap) s.deep.length (ivals s.deep)) (h1 : w1.ownsRow B 3 1 v1 (s.row.length + 1) (nvals s.row ++ [.int .i64 k])) :
    WSt p g B ov fv kv cap ⟨s.deep, s.row ++ [k], s.bad⟩ v1 (w1.setCell ⟨p, 4, none⟩ v1) :=
  ⟨⟨hlo.1, hlo.2.1, by simpa using hlo.2.2⟩, by rw [block_set (j := 4) hB]; rfl, ownsRow_setCell_below hD hlo.1 _, by
    have := ownsRow_setCell_below h1 (a := ⟨p, 4, none⟩) (by show p < B; omega) v1
    simpa [nvals] using this⟩
theorem wcells {w : World} {p : Nat} {a b c d e f : Value} {t : TypeId} (h : w.heap[p]? = some (.cells #[a, b, c, d, e, f] t (0, 0))) : w.cell? ⟨p, 0, none⟩ = some a ∧ w.cell? ⟨p, 1, none⟩ = some b ∧ w.cell? ⟨p, 2, none⟩ = some c ∧ w.cell? ⟨p, 3, none⟩ = some d ∧ w.cell? ⟨p, 4, none⟩ = some e ∧ w.cell? ⟨p, 5, none⟩ = some f := by
  simp [World.cell?, h]
theorem wfree {w : World} {p : Nat} {c : Array Value} {t : TypeId} (h : w.heap[p]? = some (.cells c t (0, 0))) : ∀ j, w.frozen? ⟨p, j, none⟩ = false := by
  intro j
  simp [World.frozen?, h]
set_option maxHeartbeats 1000000 in
theorem lead_any (p g B : Nat) (a1 : Option Addr) (c1 cap : Nat) (fv kv rv : Value) (s : WS) (w : World) (hst : WSt p g B (.slice a1 s.deep.length c1) fv kv cap s rv w) (hn : s.deep.length ≤ 8000) (hr : s.row.length ≤ 8000) (k : Nat) (d : Int) :
    Calls Try.prog 33 #[.pointer (some ⟨p, 0, none⟩), .int .i64 k, .int .i64 d] w fun e w' => e = .returned (.tuple #[]) ∧ (∃ rv', WSt p g B (.slice a1 s.deep.length c1) fv kv cap (leadS s k d) rv' w') ∧ Below p w w' := by
  obtain ⟨c0, c1', c2, c3, c4, c5⟩ := hst.cells
  have hlo := hst.lo
  by_cases h1 : s.deep.length ≤ k ∨ 1200 < d
  · have e1 : leadS s k d = s.ill := by unfold leadS; rw [if_pos h1]; rfl
    have hF := hst.free 5
    have HS := hide hst.ill
    have HB := hide ((Below.refl p w).setCell (p := ⟨p, 5, none⟩) (Nat.le_refl _) (.bool true))
    rw [e1]
    by_cases h2 : s.deep.length ≤ k
    · have h2' : (s.deep.length : Int) ≤ (k : Int) := by omega
      clear e1 hst h1
      go_enter Try.func33, Try.ntmps33
      go_wp2
      refine bodyPost_ret (results_none rfl _ _ _) rfl ?_
      exact ⟨rfl, ⟨_, unhide HS⟩, unhide HB⟩
    · have h2' : ¬ (s.deep.length : Int) ≤ (k : Int) := by omega
      have h3' : 1200 < d := by omega
      clear e1 hst h1
      go_enter Try.func33, Try.ntmps33
      go_wp2
      refine bodyPost_ret (results_none rfl _ _ _) rfl ?_
      exact ⟨rfl, ⟨_, unhide HS⟩, unhide HB⟩
  · simp only [not_or, Nat.not_le] at h1
    have h2' : ¬ (s.deep.length : Int) ≤ (k : Int) := by omega
    have h2'' : (k : Int) < (s.deep.length : Int) := by omega
    have h3' : ¬ 1200 < d := h1.2
    have hD := hst.deepAt k h1.1
    obtain ⟨x, hx⟩ : ∃ x, x = s.deep.getD k 0 := ⟨_, rfl⟩
    rw [← hx] at hD
    by_cases h4 : x < 0
    · have e1 : leadS s k d = ⟨s.deep.set k d, s.row ++ [k], s.bad⟩ := by unfold leadS; rw [if_neg (by omega), if_pos (by rw [← hx]; exact h4)]
      clear hx
      rw [e1]
      have hFd := hst.deep.frozenAt k
      have hst2 := hst.setDeep k d
      have hB2 : Below p w (w.setCell ⟨g, k, none⟩ (.int .i64 d)) := (Below.refl p w).setCell (p := ⟨g, k, none⟩) (by show p ≤ g; omega) (.int .i64 d)
      have HS2 := hide hst2
      have HB2 := hide hB2
      have hne : ¬ g = p := by omega
      have HK := hide h1.1
      clear e1 h1 hst2 hB2 hst
      go_enter Try.func33, Try.ntmps33
      go_wp2_with (at_builtin; refine wpList_int_own rfl (.tmp 40) (.tmp 42) rfl B rv s.row.length (nvals s.row) rfl ((unhide HS2).row.alloc _) _ k rfl (by simp [go_sem]) (by omega) (by simp; omega) ?_; intro v1 w1 h1 hg1; obtain ⟨hB1, hD1, hL1⟩ := (unhide HS2).grown k _ ⟨hg1.os, hg1.tape, hg1.output, hg1.size, hg1.block⟩ h1; obtain ⟨va, vc, rfl⟩ := own_form h1; obtain ⟨d0, d1, d2, d3, d4, d5⟩ := wcells hB1; have hf1 := wfree hB1 4; have hx1 : w1.cell? ⟨g, k, none⟩ = some (.int .i64 d) := (by have := hD1.cellAt k (by have := unhide HK; simp; omega); rw [this]; have := unhide HK; simp [ivals, this]); have HP := hide (WSt.put (k := k) ⟨hlo.1, hlo.2.1, Nat.le_trans hlo.2.2 (Nat.le_trans (by simp) hg1.size)⟩ hB1 hD1 h1); have HL := hide hL1; clear hB1 hD1 hL1 h1 hg1)
      go_end0
      exact ⟨rfl, ⟨_, by have := unhide HP; simpa using this⟩, ((unhide HB2).trans ((unhide HL).mono (by omega))).setCell (Nat.le_refl _) _⟩
    · by_cases h5 : x = d
      · have e1 : leadS s k d = s := by unfold leadS; rw [if_neg (by omega), if_neg (by rw [← hx]; exact h4), if_pos (by rw [← hx]; exact h5)]
        rw [e1]
        have h5' : (x != d) = false := by rw [h5]; simp
        have HS := hide hst
        clear e1 hst h1 h5 hx
        go_enter Try.func33, Try.ntmps33
        go_wp2
        go_end0
        exact ⟨rfl, ⟨_, unhide HS⟩, Below.refl _ _⟩
      · have e1 : leadS s k d = s.ill := by unfold leadS; rw [if_neg (by omega), if_neg (by rw [← hx]; exact h4), if_neg (by rw [← hx]; exact h5)]; rfl
        rw [e1]
        have h5' : (x != d) = true := by simpa using h5
        have hF := hst.free 5
        have HS := hide hst.ill
        have HB := hide ((Below.refl p w).setCell (p := ⟨p, 5, none⟩) (Nat.le_refl _) (.bool true))
        clear e1 hst h1 h5 hx
        go_enter Try.func33, Try.ntmps33
        go_wp2
        go_end0
        exact ⟨rfl, ⟨_, unhide HS⟩, unhide HB⟩
end
end Go.Proofs.Ytdemnolanlfblaa
