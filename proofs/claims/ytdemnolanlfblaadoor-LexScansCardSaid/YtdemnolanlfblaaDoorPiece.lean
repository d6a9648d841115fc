/- Contract of the scanner's method piece: the bytes of one kind that stand at the scanner's place. -/
import Derived.Test.YtdemnolanlfblaaDoorTake
import Derived.Test.YtdemnolanlfblaaDoorPure
namespace Go.Proofs.YtdemnolanlfblaaDoor
open Go.RowKit
theorem digit_hi (r : Int) (h : 128 ≤ r) : digitB r = false := by unfold digitB; simp; omega
theorem part_hi (r : Int) (h : 128 ≤ r) : partB r = false := by unfold partB; simp; omega
theorem below_iter {w w' : World} (h : Below w.heap.size w w') (hs : w.heap.size ≤ w'.heap.size) (s : ByteArray) (k : Nat) : Below w.heap.size w (w'.iter s k) := h.alloc hs _
theorem below_drewN (w : World) (n : Nat) : Below w.heap.size w (w.drewN n) := ⟨rfl, rfl, rfl, Nat.le_refl _, fun _ _ => rfl⟩
set_option maxHeartbeats 1000000 in
theorem piece_digit (p : Nat) (s : ByteArray) (i : Nat) (o : Bool) (ts : List Tok) (v : Value) (w : World) (hst : St p s i o ts v w) (hi : i ≤ s.size) (hs : s.size ≤ 6000) :
    Calls Tryd.prog 31 #[.pointer (some ⟨p, 0, none⟩), .func (.func 22) #[] #[]] w fun e w' => e = .returned (.string (s.extract i (i + spanN digitB s i))) ∧ Below w.heap.size w w' := by
  obtain ⟨c0, c1, c2, c3⟩ := hst.cells
  have hi1 : (0 : Int) ≤ (i : Int) := by omega
  have hi2 : (i : Int) ≤ (s.size : Int) := by omega
  go_enter Tryd.func31, Tryd.ntmps31
  go_wp2
  go_quiet (fail)
  go_wp2
  obtain ⟨r, hr⟩ : ∃ r, s.extract i s.size = r := ⟨_, rfl⟩
  rw [hr]
  have hrs : r.size = s.size - i := by rw [← hr]; simp
  have hbd : r.size ≤ 6000 := by omega
  have HR := hide hr
  have HRS := hide hrs
  clear hr hrs
  have hbz : (w.drewN nq).heap.size = w.heap.size := rfl
  go_loopw [6, 7] (fun _ _ wr => ∃ k : Nat, k ≤ r.size ∧ (∀ j, j < k → digitB (at' r j) = true) ∧ wr = (w.drewN nq).iter r k) (fun _ _ wr => r.size - wr.iterPos w.heap.size)
  case atStart => exact ⟨0, Nat.zero_le _, fun j hj => absurd hj (by omega), rfl⟩
  case round =>
    obtain ⟨k, hk, hall, rfl⟩ := hrel
    have HA := hide hall
    clear hall
    by_cases hlt : k < r.size
    · have hnx : ∀ ty, (Instr.next (.pointer (some ⟨w.heap.size, 0, none⟩)) true ty).run Tryd.prog ((w.drewN nq).iter r k) = _ := fun ty => run_next_any (w.drewN nq) r k ty hlt
      by_cases ha : at' r k < 128
      · have hdec : Utf8.decode r k = (at' r k, 1) := by
          have := decode_ascii r k hlt (by rw [at_lt]; exact ha)
          rw [this, at_lt]
        rw [hdec] at hnx
        clear hdec
        by_cases hd : digitB (at' r k) = true
        · go_wp2_with (go_at_call 22; refine (digit_any _ _).mono ?_; rintro e w' ⟨rfl, rfl⟩)
          go_roundw
          case rel =>
            refine ⟨k + 1, by omega, ?_, rfl⟩
            intro j hj
            rcases Nat.lt_or_ge j k with h | h
            · exact unhide HA j h
            · have : j = k := by omega
              rw [this]; exact hd
          case measure =>
            have e1 : ((w.drewN nq).iter r (k + 1)).iterPos w.heap.size = k + 1 := World.iterPos_iter (w.drewN nq) r (k + 1)
            have e2 : ((w.drewN nq).iter r k).iterPos w.heap.size = k := World.iterPos_iter (w.drewN nq) r k
            rw [e1, e2]; omega
        · have hd' : digitB (at' r k) = false := by simpa using hd
          go_wp2_with (go_at_call 22; refine (digit_any _ _).mono ?_; rintro e w' ⟨rfl, rfl⟩)
          go_ret
          have hsp : spanN digitB s i = k := by
            have hrs := unhide HRS
            refine spanN_eq (by omega) (fun j hj => ?_) (Or.inr ?_)
            · rw [← at_extract s i j (by omega), unhide HR]; exact unhide HA j hj
            · rw [← at_extract s i k (by omega), unhide HR]; exact hd'
          have hrs := unhide HRS
          refine ⟨?_, below_iter (below_drewN w nq) (Nat.le_refl _) _ _⟩
          rw [hsp, ← extract_twice s i k (by omega), unhide HR]
          simp
      · have hhi := decode_high r k hlt (by rw [at_lt]; omega)
        have hd' : digitB ((Utf8.decode r k).1 : Int) = false := digit_hi _ (by omega)
        have hd2 : digitB (at' r k) = false := digit_hi _ (by omega)
        have HH := hide hhi
        clear hhi
        go_wp2_with (go_at_call 22; refine (digit_any _ _).mono ?_; rintro e w' ⟨rfl, rfl⟩)
        go_ret
        have hsp : spanN digitB s i = k := by
          have hrs := unhide HRS
          refine spanN_eq (by omega) (fun j hj => ?_) (Or.inr ?_)
          · rw [← at_extract s i j (by omega), unhide HR]; exact unhide HA j hj
          · rw [← at_extract s i k (by omega), unhide HR]; exact hd2
        have hrs := unhide HRS
        refine ⟨?_, below_iter (below_drewN w nq) (Nat.le_refl _) _ _⟩
        rw [hsp, ← extract_twice s i k (by omega), unhide HR]
        simp
    · have hnx : ∀ ty, (Instr.next (.pointer (some ⟨w.heap.size, 0, none⟩)) true ty).run Tryd.prog ((w.drewN nq).iter r k) = _ := fun ty => run_next_end (w.drewN nq) r k ty hlt
      go_wp2
      go_ret
      have hsp : spanN digitB s i = k := by
        have hrs := unhide HRS
        refine spanN_eq (by omega) (fun j hj => ?_) (Or.inl (by omega))
        rw [← at_extract s i j (by omega), unhide HR]; exact unhide HA j hj
      have hrs := unhide HRS
      refine ⟨?_, below_iter (below_drewN w nq) (Nat.le_refl _) _ _⟩
      rw [hsp, show i + k = s.size from by omega, unhide HR]
      simp
set_option maxHeartbeats 1000000 in
theorem piece_part (p : Nat) (s : ByteArray) (i : Nat) (o : Bool) (ts : List Tok) (v : Value) (w : World) (hst : St p s i o ts v w) (hi : i ≤ s.size) (hs : s.size ≤ 6000) :
    Calls Tryd.prog 31 #[.pointer (some ⟨p, 0, none⟩), .func (.func 34) #[] #[]] w fun e w' => e = .returned (.string (s.extract i (i + spanN partB s i))) ∧ Below w.heap.size w w' := by
  obtain ⟨c0, c1, c2, c3⟩ := hst.cells
  have hi1 : (0 : Int) ≤ (i : Int) := by omega
  have hi2 : (i : Int) ≤ (s.size : Int) := by omega
  go_enter Tryd.func31, Tryd.ntmps31
  go_wp2
  go_quiet (fail)
  go_wp2
  obtain ⟨r, hr⟩ : ∃ r, s.extract i s.size = r := ⟨_, rfl⟩
  rw [hr]
  have hrs : r.size = s.size - i := by rw [← hr]; simp
  have hbd : r.size ≤ 6000 := by omega
  have HR := hide hr
  have HRS := hide hrs
  clear hr hrs
  have hbz : (w.drewN nq).heap.size = w.heap.size := rfl
  go_loopw [6, 7] (fun _ _ wr => ∃ k : Nat, k ≤ r.size ∧ (∀ j, j < k → partB (at' r j) = true) ∧ wr = (w.drewN nq).iter r k) (fun _ _ wr => r.size - wr.iterPos w.heap.size)
  case atStart => exact ⟨0, Nat.zero_le _, fun j hj => absurd hj (by omega), rfl⟩
  case round =>
    obtain ⟨k, hk, hall, rfl⟩ := hrel
    have HA := hide hall
    clear hall
    by_cases hlt : k < r.size
    · have hnx : ∀ ty, (Instr.next (.pointer (some ⟨w.heap.size, 0, none⟩)) true ty).run Tryd.prog ((w.drewN nq).iter r k) = _ := fun ty => run_next_any (w.drewN nq) r k ty hlt
      by_cases ha : at' r k < 128
      · have hdec : Utf8.decode r k = (at' r k, 1) := by
          have := decode_ascii r k hlt (by rw [at_lt]; exact ha)
          rw [this, at_lt]
        rw [hdec] at hnx
        clear hdec
        by_cases hd : partB (at' r k) = true
        · go_wp2_with (go_at_call 34; refine (part_any _ _).mono ?_; rintro e w' ⟨rfl, rfl⟩)
          go_roundw
          case rel =>
            refine ⟨k + 1, by omega, ?_, rfl⟩
            intro j hj
            rcases Nat.lt_or_ge j k with h | h
            · exact unhide HA j h
            · have : j = k := by omega
              rw [this]; exact hd
          case measure =>
            have e1 : ((w.drewN nq).iter r (k + 1)).iterPos w.heap.size = k + 1 := World.iterPos_iter (w.drewN nq) r (k + 1)
            have e2 : ((w.drewN nq).iter r k).iterPos w.heap.size = k := World.iterPos_iter (w.drewN nq) r k
            rw [e1, e2]; omega
        · have hd' : partB (at' r k) = false := by simpa using hd
          go_wp2_with (go_at_call 34; refine (part_any _ _).mono ?_; rintro e w' ⟨rfl, rfl⟩)
          go_ret
          have hsp : spanN partB s i = k := by
            have hrs := unhide HRS
            refine spanN_eq (by omega) (fun j hj => ?_) (Or.inr ?_)
            · rw [← at_extract s i j (by omega), unhide HR]; exact unhide HA j hj
            · rw [← at_extract s i k (by omega), unhide HR]; exact hd'
          have hrs := unhide HRS
          refine ⟨?_, below_iter (below_drewN w nq) (Nat.le_refl _) _ _⟩
          rw [hsp, ← extract_twice s i k (by omega), unhide HR]
          simp
      · have hhi := decode_high r k hlt (by rw [at_lt]; omega)
        have hd' : partB ((Utf8.decode r k).1 : Int) = false := part_hi _ (by omega)
        have hd2 : partB (at' r k) = false := part_hi _ (by omega)
        have HH := hide hhi
        clear hhi
        go_wp2_with (go_at_call 34; refine (part_any _ _).mono ?_; rintro e w' ⟨rfl, rfl⟩)
        go_ret
        have hsp : spanN partB s i = k := by
          have hrs := unhide HRS
          refine spanN_eq (by omega) (fun j hj => ?_) (Or.inr ?_)
          · rw [← at_extract s i j (by omega), unhide HR]; exact unhide HA j hj
          · rw [← at_extract s i k (by omega), unhide HR]; exact hd2
        have hrs := unhide HRS
        refine ⟨?_, below_iter (below_drewN w nq) (Nat.le_refl _) _ _⟩
        rw [hsp, ← extract_twice s i k (by omega), unhide HR]
        simp
    · have hnx : ∀ ty, (Instr.next (.pointer (some ⟨w.heap.size, 0, none⟩)) true ty).run Tryd.prog ((w.drewN nq).iter r k) = _ := fun ty => run_next_end (w.drewN nq) r k ty hlt
      go_wp2
      go_ret
      have hsp : spanN partB s i = k := by
        have hrs := unhide HRS
        refine spanN_eq (by omega) (fun j hj => ?_) (Or.inl (by omega))
        rw [← at_extract s i j (by omega), unhide HR]; exact unhide HA j hj
      have hrs := unhide HRS
      refine ⟨?_, below_iter (below_drewN w nq) (Nat.le_refl _) _ _⟩
      rw [hsp, show i + k = s.size from by omega, unhide HR]
      simp
end Go.Proofs.YtdemnolanlfblaaDoor
