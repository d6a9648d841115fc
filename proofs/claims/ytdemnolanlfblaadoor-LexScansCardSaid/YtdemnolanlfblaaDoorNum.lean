/- Contracts of the scanner's methods takeNumber and takeName. -/
import Derived.Test.YtdemnolanlfblaaDoorSpec
import Derived.Lib.AtoiErrMem
namespace Go.Proofs.YtdemnolanlfblaaDoor
open Go.RowKit
theorem piece_size (s : ByteArray) (i n : Nat) (h : i + n ≤ s.size) : (s.extract i (i + n)).size = n := by simp; omega
theorem piece_at (s : ByteArray) (i n j : Nat) (h : i + n ≤ s.size) (hj : j < n) : at' (s.extract i (i + n)) j = at' s (i + j) := by
  have hsz := piece_size s i n h
  rw [← at_lt (s.extract i (i + n)) j (by omega), ← at_lt s (i + j) (by omega)]
  congr 1
  simp [ByteArray.getElem_extract]
theorem decFrom_some : ∀ (l : List UInt8) (a : Nat), (∀ j, j < l.length → digitB ((l.getD j 0).toNat : Int) = true) → ∃ n, Lib.decFrom a l = some n
  | [], a, _ => ⟨a, rfl⟩
  | b :: l, a, h => by
    have h0 := h 0 (by simp)
    simp only [List.getD_cons_zero, digitB, decide_eq_true_eq] at h0
    have hd : Lib.digitVal b = some (b.toNat - 48) := by unfold Lib.digitVal; rw [if_pos (by omega)]
    obtain ⟨n, hn⟩ := decFrom_some l (a * 10 + (b.toNat - 48)) (fun j hj => by simpa using h (j + 1) (by simp; omega))
    exact ⟨n, by simp only [Lib.decFrom, hd]; exact hn⟩
theorem atoi_of (x : ByteArray) (h0 : 0 < x.size) (h : ∀ j, j < x.size → digitB (at' x j : Int) = true) : Lib.atoi x.data.toList = some (numV x) := by
  have hlen : x.data.toList.length = x.size := by cases x; simp [ByteArray.size]
  obtain ⟨n, hn⟩ := decFrom_some x.data.toList 0 (fun j hj => h j (by omega))
  have hv : numV x = (n : Int) := by simp [numV, hn]
  have hb := h 0 h0
  rw [hv]
  unfold at' at hb
  cases hl : x.data.toList with
  | nil => rw [hl] at hlen; simp at hlen; omega
  | cons b r =>
    rw [hl] at hn hb
    simp only [List.getD_cons_zero, digitB, decide_eq_true_eq] at hb
    have e1 : (b == 45) = false := by
      rw [beq_eq_false_iff_ne]; intro e; subst e; simp at hb
    have e2 : (b == 43) = false := by
      rw [beq_eq_false_iff_ne]; intro e; subst e; simp at hb
    simp [Lib.atoi, e1, e2, Lib.decNat, hn]
set_option maxHeartbeats 1000000 in
theorem num_bad (p : Nat) (s : ByteArray) (i : Nat) (o : Bool) (ts : List Tok) (v : Value) (w : World) (hst : St p s i o ts v w) (hi : i < s.size) (hs : s.size ≤ 6000) (hd : digitB (at' s i) = true)
    (hbad : 9 < spanN digitB s i ∨ (1 < spanN digitB s i ∧ at' s i = 48)) :
    Calls Tryd.prog 23 #[.pointer (some ⟨p, 0, none⟩)] w fun e w' => e = .panicked [{ v := .iface 25 (.agg #[.int .i64 3, .int .i64 i]), recovered := false }] ∧ Below p w w' := by
  have hlt := hst.lt
  have hle := spanN_le digitB s i (by omega)
  have hpo := spanN_pos digitB s i hi hd
  have hsz := piece_size s i (spanN digitB s i) hle
  have hz0 := piece_at s i (spanN digitB s i) 0 hle (by omega)
  have hC := hide (piece_digit p s i o ts v w hst (by omega) hs)
  generalize hx : s.extract i (i + spanN digitB s i) = x at *
  generalize hn : spanN digitB s i = n at *
  clear hx hn
  have hxs : x.size ≤ 6000 := by omega
  have h0 : 0 < x.size := by omega
  have hb0 : (x[0]'h0).toNat = at' s i := by rw [at_lt]; simpa using hz0
  have hb1 : (((x[0]'h0).toNat : Nat) : Int) = (at' s i : Nat) := by rw [hb0]
  clear hz0 hb0
  generalize at' s i = c at *
  by_cases h9 : 9 < x.size
  · have h9' : (9 : Int) < (x.size : Int) := by omega
    clear hbad
    go_enter Tryd.func23, Tryd.ntmps23
    go_wp2_with (first
      | (go_at_call 31; refine (unhide hC).mono ?_; rintro e w1 ⟨rfl, hb⟩; have hst1 := hst.below hb)
      | (go_at_call 30; refine (giveUp_any p s i o ts v _ hst1 _).mono ?_; rintro e w2 ⟨rfl, rfl⟩))
    exact ⟨rfl, rfl, hb.mono (by omega)⟩
  · have h9' : ¬ (9 : Int) < (x.size : Int) := by omega
    have h1' : (1 : Int) < (x.size : Int) := by omega
    have hc : c = 48 := by omega
    subst hc
    clear hbad
    go_enter Tryd.func23, Tryd.ntmps23
    go_wp2_with (first
      | (go_at_call 31; refine (unhide hC).mono ?_; rintro e w1 ⟨rfl, hb⟩; have hst1 := hst.below hb)
      | (go_at_call 30; refine (giveUp_any p s i o ts v _ hst1 _).mono ?_; rintro e w2 ⟨rfl, rfl⟩))
    exact ⟨rfl, rfl, hb.mono (by omega)⟩
end Go.Proofs.YtdemnolanlfblaaDoor
