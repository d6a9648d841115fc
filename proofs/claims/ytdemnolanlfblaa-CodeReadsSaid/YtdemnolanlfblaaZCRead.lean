import Derived.Laws.Bits64b
import Derived.Test.YtdemnolanlfblaaZCBytes
set_option linter.all false
namespace Go.Proofs.Ytdemnolanlfblaa
section
open Go.RowKit
def BytesIn (B : Nat) (w : World) (v : Value) (l : List Nat) : Prop :=
  ∃ a cap, v = .slice a l.length cap ∧ (l ≠ [] → ∃ b o, a = some ⟨b, o, none⟩ ∧ b < B ∧ ∀ i x : Nat, l[i]? = some x → w.cell? ⟨b, o + i, none⟩ = some (.int .u8 (x : Int)))
theorem BytesIn.same {B : Nat} {w w' : World} {v : Value} {l : List Nat} (h : BytesIn B w v l) (hs : Same B w w') : BytesIn B w' v l := by
  obtain ⟨a, cap, hv, h⟩ := h
  refine ⟨a, cap, hv, fun hne => ?_⟩
  obtain ⟨b, o, ha, hb, hc⟩ := h hne
  exact ⟨b, o, ha, hb, fun i x hx => (hs b _ hb).trans (hc i x hx)⟩
theorem bytes_at {C : Nat} {w : World} {a1 : Option Addr} {N c1 : Nat} {l : List Nat} (h : BytesIn C w (.slice a1 N c1) l) {i x : Nat} (hx : l[i]? = some x) : ∃ b q, a1 = some ⟨b, q, none⟩ ∧ b < C ∧ w.cell? ⟨b, q + i, none⟩ = some (.int .u8 (x : Int)) := by
  obtain ⟨a, cap, hv, h⟩ := h
  simp only [Value.slice.injEq] at hv
  obtain ⟨rfl, rfl, rfl⟩ := hv
  obtain ⟨b, o, ha, hb, hc⟩ := h (by intro h0; rw [h0] at hx; simp at hx)
  exact ⟨b, o, ha, hb, hc i x hx⟩
def RBox (p : Nat) (bv : Value) (i : Nat) (e : Int) (w : World) : Prop := w.heap[p]? = some (.cells #[bv, .int .i64 (i : Int), .int .i64 e] 56 (0, 0))
theorem RBox.cells {p : Nat} {bv : Value} {i : Nat} {e : Int} {w : World} (h : RBox p bv i e w) : w.cell? ⟨p, 0, none⟩ = some bv ∧ w.cell? ⟨p, 1, none⟩ = some (.int .i64 (i : Int)) ∧ w.cell? ⟨p, 2, none⟩ = some (.int .i64 e) := cells3 h
theorem RBox.free {p : Nat} {bv : Value} {i : Nat} {e : Int} {w : World} (h : RBox p bv i e w) (j : Nat) : w.frozen? ⟨p, j, none⟩ = false := wfree h j
theorem RBox.drewN {p : Nat} {bv : Value} {i : Nat} {e : Int} {w : World} (h : RBox p bv i e w) (n : Nat) : RBox p bv i e (w.drewN n) := bx_below h (drewN_below n w)
theorem RBox.setI {p : Nat} {bv : Value} {i : Nat} {e : Int} {w : World} (h : RBox p bv i e w) (j : Int) (k : Nat) (hj : j = k) : RBox p bv k e (w.setCell ⟨p, 1, none⟩ (.int .i64 j)) := by
  subst hj
  exact (block_set h).trans rfl
theorem RBox.setE {p : Nat} {bv : Value} {i : Nat} {e : Int} {w : World} (h : RBox p bv i e w) (j : Int) : RBox p bv i j (w.setCell ⟨p, 2, none⟩ (.int .i64 j)) := (block_set h).trans rfl
structure Only (p : Nat) (w w' : World) : Prop where
  grown : w.grownBy w' (some p)
  size : w'.heap.size = w.heap.size
theorem Only.refl (p : Nat) (w : World) : Only p w w := ⟨⟨rfl, rfl, rfl, Nat.le_refl _, fun _ _ _ => rfl⟩, rfl⟩
theorem Only.trans {p : Nat} {w w1 w2 : World} (h : Only p w w1) (g : Only p w1 w2) : Only p w w2 := ⟨h.grown.trans g.grown, g.size.trans h.size⟩
theorem Only.drewN {p : Nat} {w w1 : World} (h : Only p w w1) (n : Nat) : Only p w (w1.drewN n) := ⟨⟨h.grown.os, h.grown.tape, h.grown.output, h.grown.size, h.grown.block⟩, h.size⟩
theorem Only.set {p : Nat} {w w1 : World} (h : Only p w w1) (j : Nat) (v : Value) : Only p w (w1.setCell ⟨p, j, none⟩ v) := by
  refine ⟨⟨h.grown.os, h.grown.tape, h.grown.output, by simpa using h.grown.size, fun k hk hne => ?_⟩, by simpa using h.size⟩
  rw [heap_setCell_other _ _ _ _ (by show k ≠ p; intro he; subst he; exact hne rfl)]
  exact h.grown.block k hk hne
theorem Only.below {p : Nat} {w w1 : World} (h : Only p w w1) (hp : p ≤ w.heap.size) : Below p w w1 := (Below.refl p w).grown h.grown hp (fun k hk => by injection hk with hk; omega)
theorem Only.same {p B : Nat} {w w1 : World} (h : Only p w w1) (hp : p ≤ w.heap.size) (hB : B ≤ p) : Same B w w1 := Same.of_below (h.below hp) hB
theorem num_none {bs : List Nat} (h : dec bs 0 0 = none) : num bs = none := by unfold num; rw [h]; rfl
theorem num_some {bs r : List Nat} {u : Nat} (h : dec bs 0 0 = some (u, r)) : num bs = some (unzig u, r) := by unfold num; rw [h]; rfl
theorem or_mul7 (a b k : Nat) (h : a < 2 ^ (7 * k)) : a ||| (b * 2 ^ (7 * k)) = a + b * 2 ^ (7 * k) := by
  rw [Nat.or_comm, ← Nat.shiftLeft_eq, ← Nat.shiftLeft_add_eq_or_of_lt h, Nat.add_comm]
theorem pow7_le {k : Nat} (h : k ≤ 9) : 2 ^ (7 * k) ≤ 9223372036854775808 := by
  rw [← pow_nine]
  exact Nat.pow_le_pow_right (by decide) (by omega)
theorem or64 {u y k : Nat} (hk : k ≤ 9) (hu : u < 2 ^ (7 * k)) (hy : y * 2 ^ (7 * k) < 18446744073709551616) : bits BinOp.or IntKind.u64 (u : Int) ((y * 2 ^ (7 * k) : Nat) : Int) = ((u + y * 2 ^ (7 * k) : Nat) : Int) := by
  have := pow7_le hk
  rw [u64_or_nat _ _ (by omega) hy, or_mul7 _ _ _ hu]
theorem wrap_small {n : Nat} (h : n < 18446744073709551616) : IntKind.u64.wrap (n : Int) = n := by
  unfold IntKind.wrap
  simp [IntKind.bits, IntKind.signed]
  omega
def NumPost (p : Nat) (bv : Value) (bs : List Nat) (i : Nat) (w : World) (e : Ending) (w' : World) : Prop :=
  Only p w w' ∧ ((num (bs.drop i) = none ∧ e = .returned (.int .i64 0) ∧ ∃ j, j ≤ bs.length ∧ RBox p bv j 3 w') ∨ ∃ n j, num (bs.drop i) = some (n, bs.drop j) ∧ j ≤ bs.length ∧ I64 n ∧ e = .returned (.int .i64 n) ∧ RBox p bv j 0 w')
set_option maxRecDepth 100000 in
set_option maxHeartbeats 4000000 in
theorem number_any (p : Nat) (a : Option Addr) (cap : Nat) (bs : List Nat) (i : Nat) (w : World) (hbox : RBox p (.slice a bs.length cap) i 0 w) (hi : i ≤ bs.length) (C : Nat) (hC : C ≤ p) (hb : BytesIn C w (.slice a bs.length cap) bs) (hby : ∀ x ∈ bs, x < 256) (hlen : bs.length ≤ maxLen) :
    Calls Try.prog 24 #[.pointer (some ⟨p, 0, none⟩)] w (NumPost p (.slice a bs.length cap) bs i w) := by
  have hcells := hbox.cells
  unfold maxLen at hlen
  have HBX := hide hbox
  have HB := hide hb
  have HBY := hide hby
  clear hbox hb hby
  go_enter Try.func24, Try.ntmps24
  go_wp2
  go_loopg [3, 4] 9 (fun r e3 e4 wr => ∃ (k u j : Nat), r = 9 - k ∧ k ≤ 9 ∧ e3 = .int .u64 (u : Int) ∧ e4 = .int .i64 (k : Int) ∧ u < 2 ^ (7 * k) ∧ j ≤ bs.length ∧ Hid (dec (bs.drop j) k u = dec (bs.drop i) 0 0) ∧ RBox p (.slice a bs.length cap) j 0 wr ∧ Only p w wr)
  case atStart => exact ⟨0, 0, i, rfl, by omega, rfl, rfl, by simp, hi, rfl, unhide HBX, Only.refl _ _⟩
  case round =>
    obtain ⟨k, u, j, rfl, hk, rfl, rfl, hu, hj, HD, hbx, ho⟩ := hrel
    clear hcells
    have hcells := hbx.cells
    have hkz : (k : Int) < 10 := by omega
    have hf1 := hbx.free 1
    have hf2 := hbx.free 2
    by_cases hje : j = bs.length
    · have hjz : ((j : Int) == (bs.length : Int)) = true := by simp [hje]
      have HJE := hide hje
      clear hje
      have HN : Hid (num (bs.drop i) = none) := num_none (by rw [← unhide HD, List.drop_eq_nil_of_le (by have := unhide HJE; omega)]; rfl)
      have HBX2 := hide hbx
      have HO := hide ho
      clear hbx ho
      go_wp2
      go_quiet (fail)
      go_wp2
      go_ret
      exact ⟨((unhide HO).drewN _).set _ _, Or.inl ⟨unhide HN, rfl, _, hj, ((unhide HBX2).drewN _).setE 3⟩⟩
    · have hjz : ((j : Int) == (bs.length : Int)) = false := ne_b (by omega)
      have hjl : (j : Int) < (bs.length : Int) := by omega
      obtain ⟨x, hx⟩ : ∃ x, bs[j]? = some x := ⟨_, List.getElem?_eq_getElem (by omega)⟩
      obtain ⟨bb, bq, rfl, hbb, hc0⟩ := bytes_at ((unhide HB).same (ho.same (by have := (Array.getElem?_eq_some_iff.1 (unhide HBX)).1; omega) hC)) hx
      have hx8 := unhide HBY x (List.mem_of_getElem? hx)
      have hrest : bs.drop j = x :: bs.drop (j + 1) := by
        obtain ⟨g1, g2⟩ := List.getElem?_eq_some_iff.1 hx
        rw [List.drop_eq_getElem_cons g1, g2]
      rw [hrest] at HD
      have HBX2 := hide hbx
      have HO := hide ho
      clear hbx ho hrest hx
      by_cases hbad : (k = 9 ∧ 1 < x) ∨ (0 < k ∧ x = 0)
      · have HN : Hid (num (bs.drop i) = none) := num_none (by rw [← unhide HD]; unfold dec; rw [if_pos hbad])
        clear HD
        have hall : (((k : Int) == 9) = true ∧ 1 < (x : Int)) ∨ (((k : Int) == 9) = false ∧ 0 < k ∧ ((x : Int) == 0) = true) ∨ (((k : Int) == 9) = true ∧ ¬ 1 < (x : Int) ∧ 0 < k ∧ ((x : Int) == 0) = true) := by
          simp only [beq_iff_eq, beq_eq_false_iff_ne, ne_eq]
          omega
        clear hbad
        rcases hall with ⟨g1, g2⟩ | ⟨g1, g2, g3⟩ | ⟨g1, g2, g3, g4⟩
        all_goals
          go_wp2
          go_quiet (fail)
          go_wp2
          go_quiet (fail)
          go_wp2
          go_ret
          exact ⟨(((unhide HO).drewN _).set _ _).set _ _, Or.inl ⟨unhide HN, rfl, _, by omega, (((unhide HBX2).drewN _).setI _ (j + 1) (by omega)).setE 3⟩⟩
      · have hy : x % 128 * 2 ^ (7 * k) < 18446744073709551616 := by
          by_cases hk9 : k = 9
          · subst hk9
            rw [pow_nine]
            omega
          · have h8 : 2 ^ (7 * k) ≤ 2 ^ (7 * 8) := Nat.pow_le_pow_right (by decide) (by omega)
            have h9 : x % 128 * 2 ^ (7 * k) ≤ 127 * 2 ^ (7 * 8) := Nat.mul_le_mul (by omega) h8
            have h10 : 127 * 2 ^ (7 * 8) = 9151314442816847872 := by decide
            omega
        have hor := or64 hk hu hy
        have hU : u + x % 128 * 2 ^ (7 * k) < 18446744073709551616 := by
          by_cases hk9 : k = 9
          · subst hk9
            rw [pow_nine] at hu ⊢
            omega
          · have h8 : 2 ^ (7 * k) ≤ 2 ^ (7 * 8) := Nat.pow_le_pow_right (by decide) (by omega)
            have h9 : x % 128 * 2 ^ (7 * k) ≤ 127 * 2 ^ (7 * 8) := Nat.mul_le_mul (by omega) h8
            have h10 : 127 * 2 ^ (7 * 8) = 9151314442816847872 := by decide
            have h11 : 2 ^ (7 * 8) = 72057594037927936 := by decide
            omega
        have hU2 : u + x % 128 * 2 ^ (7 * k) < 2 ^ (7 * (k + 1)) := by
          rw [pow_step]
          have : x % 128 * 2 ^ (7 * k) ≤ 127 * 2 ^ (7 * k) := Nat.mul_le_mul (by omega) (Nat.le_refl _)
          omega
        have hcast : ((x : Int) % 128 * 2 ^ (7 * k)) = ((x % 128 * 2 ^ (7 * k) : Nat) : Int) := by
          rw [Int.natCast_mul, Int.natCast_emod, Int.natCast_pow]; rfl
        have hw : IntKind.u64.wrap ((x : Int) % 128 * 2 ^ (7 * k)) = ((x % 128 * 2 ^ (7 * k) : Nat) : Int) := by rw [hcast]; exact wrap_small hy
        have HD2 : Hid (dec (x :: bs.drop (j + 1)) k u = if x < 128 then some (u + x % 128 * 2 ^ (7 * k), bs.drop (j + 1)) else if k = 9 then none else dec (bs.drop (j + 1)) (k + 1) (u + x % 128 * 2 ^ (7 * k))) := by
          show dec _ _ _ = _
          rw [dec, if_neg hbad]
        generalize hUU : u + x % 128 * 2 ^ (7 * k) = U at *
        rw [← hw] at hor
        clear hUU hy hcast hw
        have HU2 := hide hU2
        have hx0 : Hid (0 < k → ¬ x = 0) := fun h h' => hbad (Or.inr ⟨h, h'⟩)
        have hx9 : Hid (k = 9 → ¬ 1 < x) := fun h h' => hbad (Or.inl ⟨h, h'⟩)
        clear hU2 hu hbad
        by_cases hx1 : x < 128
        · have hx1z : (x : Int) < 128 := by omega
          have HN : Hid (num (bs.drop i) = some (unzig U, bs.drop (j + 1))) := num_some (by rw [← unhide HD, unhide HD2, if_pos hx1])
          clear HD HD2
          have hpar : (((U : Int) % 2 == 1) = true ∧ Hid (unzig U = -((U : Int) / 2) - 1)) ∨ (((U : Int) % 2 == 1) = false ∧ Hid (unzig U = (U : Int) / 2)) := by
            by_cases h : U % 2 = 1
            · refine Or.inl ⟨by simp; omega, ?_⟩
              show _ = _
              unfold unzig
              rw [if_pos h]
              omega
            · refine Or.inr ⟨ne_b (by omega), ?_⟩
              show _ = _
              unfold unzig
              rw [if_neg h]
              omega
          rcases hpar with ⟨hpar, HV⟩ | ⟨hpar, HV⟩
          all_goals
            by_cases hk9 : ((k : Int) == 9) = true
            · have hk0 : 0 < k := by simp at hk9; omega
              have hk1 : ¬ 1 < (x : Int) := by simp at hk9; have := unhide hx9 (by omega); omega
              have hk2 : ((x : Int) == 0) = false := ne_b (by have := unhide hx0 hk0; omega)
              go_wp2
              go_quiet (fail)
              go_wp2
              go_quiet (fail)
              go_wp2
              go_ret
              refine ⟨((unhide HO).drewN _).set _ _, Or.inr ⟨unzig U, j + 1, unhide HN, by omega, unzig_in hU, ret_int ?_, ((unhide HBX2).drewN _).setI _ (j + 1) (by omega)⟩⟩
              rw [unhide HV]
            · replace hk9 : ((k : Int) == 9) = false := by simpa using hk9
              by_cases hk0 : 0 < k
              · have hk2 : ((x : Int) == 0) = false := ne_b (by have := unhide hx0 hk0; omega)
                go_wp2
                go_quiet (fail)
                go_wp2
                go_quiet (fail)
                go_wp2
                go_ret
                refine ⟨((unhide HO).drewN _).set _ _, Or.inr ⟨unzig U, j + 1, unhide HN, by omega, unzig_in hU, ret_int ?_, ((unhide HBX2).drewN _).setI _ (j + 1) (by omega)⟩⟩
                rw [unhide HV]
              ·
                go_wp2
                go_quiet (fail)
                go_wp2
                go_quiet (fail)
                go_wp2
                go_ret
                refine ⟨((unhide HO).drewN _).set _ _, Or.inr ⟨unzig U, j + 1, unhide HN, by omega, unzig_in hU, ret_int ?_, ((unhide HBX2).drewN _).setI _ (j + 1) (by omega)⟩⟩
                rw [unhide HV]
        · have hx1z : ¬ (x : Int) < 128 := by omega
          have hk8 : k < 9 := by
            have h1 := unhide hx9
            by_cases h : k = 9
            · have := h1 h; omega
            · omega
          have hk9 : ((k : Int) == 9) = false := ne_b (by omega)
          have hk2 : ((x : Int) == 0) = false := ne_b (by omega)
          have HD3 : Hid (dec (bs.drop (j + 1)) (k + 1) U = dec (bs.drop i) 0 0) := by
            show _ = _
            rw [← unhide HD, unhide HD2, if_neg hx1, if_neg (by omega)]
          clear HD HD2
          by_cases hk0 : 0 < k
          all_goals
            go_wp2
            go_quiet (fail)
            go_wp2
            go_quiet (fail)
            go_wp2
            go_roundg (9 - (k + 1))
            case measure => omega
            case rel => exact ⟨k + 1, U, j + 1, rfl, by omega, rfl, by go_num, unhide HU2, by omega, HD3, ((unhide HBX2).drewN _).setI _ (j + 1) (by omega), ((unhide HO).drewN _).set _ _⟩
end
end Go.Proofs.Ytdemnolanlfblaa
