import Derived.Test.YtdemnolanlfblaaZCOrderAll
set_option linter.all false
namespace Go.Proofs.Ytdemnolanlfblaa
section
open Go.RowKit
theorem ivals_snoc (l : List Int) (x : Int) : ivals l ++ [.int .i64 x] = ivals (l ++ [x]) := by simp [ivals]
theorem rep_snoc (n : Nat) : List.replicate n (-1 : Int) ++ [-1] = List.replicate (n + 1) (-1) := by rw [List.replicate_succ']
theorem below_grown {B : Nat} {w w1 : World} {v : Value} (o : Obj) (hB : B ≤ w.heap.size) (hg : (w.alloc o).grownBy w1 v.ownBlock) (hv : ∀ k, v.ownBlock = some k → B ≤ k) : Below B w w1 :=
  ((Below.refl B w).alloc hB o).grown hg (by simp; omega) hv
theorem loop_step {c : CodeD} {x : Int} {n i : Nat} {s R : WS} (h : loopS c x (n + 1) i s = R) (hi : i < s.row.length) (hb : s.bad = false) : loopS c x n (i + 1) (orderS c x s (s.row.getD i 0)) = R := by
  rw [← h]
  show _ = if i < s.row.length ∧ s.bad = false then _ else _
  rw [if_pos ⟨hi, hb⟩]
theorem loop_stop {c : CodeD} {x : Int} {n i : Nat} {s R : WS} (h : loopS c x n i s = R) (hi : s.row.length ≤ i ∨ s.bad = true) : R = s := by
  rw [← h]
  cases n with
  | zero => rfl
  | succ n =>
    show (if i < s.row.length ∧ s.bad = false then _ else _) = _
    rw [if_neg]
    rintro ⟨h1, h2⟩
    rcases hi with hi | hi
    · omega
    · rw [hi] at h2; simp at h2
theorem three_new (w : World) (a b c : Obj) : (((w.alloc a).alloc b).alloc c).heap[w.heap.size]? = some a ∧ (((w.alloc a).alloc b).alloc c).heap[w.heap.size + 1]? = some b ∧ (((w.alloc a).alloc b).alloc c).heap[w.heap.size + 2]? = some c := by
  refine ⟨?_, ?_, ?_⟩
  · rw [Below.heap_alloc _ _ _ (by rw [heap_size_alloc, heap_size_alloc]; omega)]; exact two_new1 w a b
  · rw [Below.heap_alloc _ _ _ (by rw [heap_size_alloc, heap_size_alloc]; omega)]; exact two_new2 w a b
  · have := heap_alloc_new ((w.alloc a).alloc b) c
    rwa [heap_size_alloc, heap_size_alloc] at this
theorem below3 (w : World) (a b c : Obj) : Below w.heap.size w (((w.alloc a).alloc b).alloc c) := (((Below.refl _ w).alloc (Nat.le_refl _) a).alloc (by simp) b).alloc (by rw [heap_size_alloc, heap_size_alloc]; omega) c
theorem cells3 {w : World} {p : Nat} {a b c : Value} {t : TypeId} (h : w.heap[p]? = some (.cells #[a, b, c] t (0, 0))) : w.cell? ⟨p, 0, none⟩ = some a ∧ w.cell? ⟨p, 1, none⟩ = some b ∧ w.cell? ⟨p, 2, none⟩ = some c := by
  simp [World.cell?, h]
theorem cells4 {w : World} {p : Nat} {a b c d : Value} {t : TypeId} (h : w.heap[p]? = some (.cells #[a, b, c, d] t (0, 0))) : w.cell? ⟨p, 0, none⟩ = some a ∧ w.cell? ⟨p, 1, none⟩ = some b ∧ w.cell? ⟨p, 2, none⟩ = some c ∧ w.cell? ⟨p, 3, none⟩ = some d := by
  simp [World.cell?, h]
theorem block_grown {w w1 : World} {B b : Nat} {v : Value} {n : Nat} {xs : List Value} {e z : Nat} (o : Obj) (hr : w.ownsRow B e z v n xs) (hg : (w.alloc o).grownBy w1 v.ownBlock) (hb : b < B) (hlt : b < w.heap.size) : w1.heap[b]? = w.heap[b]? := by
  rw [hg.block b (by rw [heap_size_alloc]; omega) (fun h => by have := own_ge hr b h.symm; omega), Below.heap_alloc _ _ _ hlt]
theorem own_at {w : World} {B e z : Nat} {v : Value} {n : Nat} {xs : List Value} (h : w.ownsRow B e z v n xs) (hn : 0 < n) : ∃ g cap, v = .slice (some ⟨g, 0, none⟩) n cap ∧ B ≤ g ∧ g < w.heap.size ∧ w.ownsRow g e z (.slice (some ⟨g, 0, none⟩) n cap) n xs := by
  obtain ⟨h1, h2⟩ := h
  rcases h2 with ⟨_, h0⟩ | ⟨g, cap, cur, hv, hg, hh, r⟩
  · omega
  · exact ⟨g, cap, hv, hg, (Array.getElem?_eq_some_iff.1 hh).1, h1, Or.inr ⟨g, cap, cur, rfl, Nat.le_refl _, hh, r⟩⟩
theorem WSt.rowAt {p g B : Nat} {ov fv kv : Value} {cap : Nat} {s : WS} {rv : Value} {w : World} (h : WSt p g B ov fv kv cap s rv w) {i : Nat} (hi : i < s.row.length) : ∃ gr cr, rv = .slice (some ⟨gr, 0, none⟩) s.row.length cr ∧ w.cell? ⟨gr, i, none⟩ = some (.int .i64 ((s.row.getD i 0 : Nat) : Int)) := by
  obtain ⟨gr, cr, hv, _, _, ho⟩ := own_at h.row (by omega)
  refine ⟨gr, cr, hv, ?_⟩
  rw [ho.cellAt i (by omega)]
  simp [nvals, List.getD, hi]
theorem start_wok (n : Nat) : WOk n ⟨List.replicate n (-1), [], false⟩ := by
  refine ⟨by simp, by simp [negs_replicate], by simp, ?_⟩
  intro k hk h0
  simp [List.getD, hk] at h0
theorem start_le (n : Nat) : DeepLe ⟨List.replicate n (-1), [], false⟩ := by
  intro k
  show (List.replicate n (-1 : Int)).getD k 0 ≤ 1200
  by_cases hk : k < n
  · simp [List.getD, hk]
  · simp [List.getD, hk]
set_option maxRecDepth 100000 in
set_option maxHeartbeats 8000000 in
theorem form_any (a1 a2 a3 : Option Addr) (c1 c2 c3 : Nat) (c : CodeD) (f : FnD) (hf : f ∈ c.fns) (w : World) (ax : Option Addr) (nx cx : Nat) (C : Nat) (hC : C ≤ w.heap.size) (hO : OpsIn C w (.slice a1 c.ops.length c1) c.ops) (hF : FnsIn C w (.slice a2 c.fns.length c2) c.fns) (hsize : SizeOk c) (hok : RangeOk c) :
    Calls Try.prog 18 #[.agg #[.slice a1 c.ops.length c1, .slice a2 c.fns.length c2, .slice a3 c.kinds.length c3], .agg #[.int .i64 f.params, .int .i64 f.slots, .int .i64 f.frm, .slice ax nx cx]] w fun e w' => e = .returned (.bool (!(formS c f).bad)) ∧ Below w.heap.size w w' := by
  have hfo := hok.fns f hf
  have hfrm := hfo.frm
  have hn1 : 1 ≤ c.ops.length := by omega
  have hn2 := hsize.1
  have HO := hide hO
  have HF := hide hF
  have HSZ := hide hsize
  have HOK := hide hok
  obtain ⟨A, hA⟩ : ∃ A : Nat, f.frm = A := ⟨f.frm.toNat, by omega⟩
  have HST := hide (start_looked (c := c) (f := f) hfrm.1 hfrm.2)
  have HA : Hid (startS c f = leadS ⟨List.replicate c.ops.length (-1), [], false⟩ A 0) := by show startS c f = _; unfold startS; rw [hA, Int.toNat_natCast]
  rw [hA]
  have HAA := hide hA
  clear hA hO hF hsize hok hfo hfrm hf
  go_enter Try.func18, Try.ntmps18
  go_wp2
  go_loopg [6] c.ops.length (fun r iv wr => ∃ i : Nat, ∃ dv, i ≤ c.ops.length ∧ r = c.ops.length - i ∧ iv = .int .i64 (i : Int) ∧ wr.heap[w.heap.size]? = some (.cells #[.slice a1 c.ops.length c1, .slice a2 c.fns.length c2, .slice a3 c.kinds.length c3] 26 (0, 0)) ∧ wr.heap[w.heap.size + 1]? = some (.cells #[.int .i64 f.params, .int .i64 f.slots, .int .i64 (A : Int), .slice ax nx cx] 40 (0, 0)) ∧ wr.heap[w.heap.size + 2]? = some (.cells #[.slice a1 c.ops.length c1, .slice a2 c.fns.length c2, .slice a3 c.kinds.length c3, dv, .slice none 0 0, .bool false] 74 (0, 0)) ∧ wr.ownsRow (w.heap.size + 3) 3 1 dv i (ivals (List.replicate i (-1))) ∧ Below w.heap.size w wr ∧ w.heap.size + 3 ≤ wr.heap.size)
  case atStart =>
    obtain ⟨z1, z2, z3⟩ := three_new w _ _ _
    exact ⟨0, .slice none 0 0, Nat.zero_le _, rfl, rfl, z1, z2, z3, World.ownsRow_nil _ _ _ _, below3 w _ _ _, by rw [heap_size_alloc, heap_size_alloc, heap_size_alloc]; omega⟩
  case round =>
    obtain ⟨i, dv, hi, rfl, rfl, h0, h1, h2, hr, hb, hz⟩ := hrel
    obtain ⟨y0, y1, y2⟩ := cells3 h0
    obtain ⟨x0, x1, x2, x3⟩ := cells4 h1
    obtain ⟨p0, p1, p2, p3, p4, p5⟩ := wcells h2
    have hp3 := wfree h2 3
    have HH0 := hide h0
    have HH1 := hide h1
    have HH2 := hide h2
    have HB := hide hb
    have HR := hide hr
    clear h0 h1 h2 hb
    by_cases hlt : i < c.ops.length
    · have hltz : (i : Int) < (c.ops.length : Int) := by omega
      obtain ⟨va, vc, rfl⟩ := own_form hr
      clear hr
      go_wp2_with (at_builtin; refine wpList_int_own rfl (.tmp 22) (.tmp 23) rfl (w.heap.size + 3) _ i (ivals (List.replicate i (-1))) rfl ((unhide HR).alloc _) _ (-1) rfl (by simp [go_sem]) (by omega) (by rw [heap_size_alloc]; omega) ?_; intro v1 w1 hr1 hg1; have hg2 := show World.grownBy (wr.alloc _) w1 _ from ⟨hg1.os, hg1.tape, hg1.output, hg1.size, hg1.block⟩; have q0 := (block_grown _ (unhide HR) hg2 (b := w.heap.size) (by omega) (by omega)).trans (unhide HH0); have q1 := (block_grown _ (unhide HR) hg2 (b := w.heap.size + 1) (by omega) (by omega)).trans (unhide HH1); have q2 := (block_grown _ (unhide HR) hg2 (b := w.heap.size + 2) (by omega) (by omega)).trans (unhide HH2); have qb := (unhide HB).trans (below_grown _ (by omega) hg2 (fun k hk => by have := own_ge (unhide HR) k hk; omega)); have qs := hg2.size; rw [heap_size_alloc] at qs; have hp3' := wfree q2 3; obtain ⟨va2, vc2, rfl⟩ := own_form hr1; rw [ivals_snoc, rep_snoc] at hr1; have Q0 := hide q0; have Q1 := hide q1; have Q2 := hide q2; have QB := hide qb; have QR := hide hr1; obtain ⟨_, _, _, s3, _, _⟩ := wcells q2; clear hg1 hg2 q0 q1 q2 qb hr1)
      go_roundg (c.ops.length - (i + 1))
      case measure => omega
      case rel => exact ⟨i + 1, _, by omega, rfl, by go_num, (heap_setCell_other _ _ _ _ (by show w.heap.size ≠ w.heap.size + 2; omega)).trans (unhide Q0), (heap_setCell_other _ _ _ _ (by show w.heap.size + 1 ≠ w.heap.size + 2; omega)).trans (unhide Q1), (block_set (unhide Q2)).trans rfl, ownsRow_setCell_below (unhide QR) (by show w.heap.size + 2 < w.heap.size + 3; omega) _, (unhide QB).setCell (by show w.heap.size ≤ w.heap.size + 2; omega) _, by simp; omega⟩
    · have hltz : ¬ (i : Int) < (c.ops.length : Int) := by omega
      have hie : i = c.ops.length := by omega
      subst hie
      clear hr
      obtain ⟨g, cap, rfl, hg1, hg2, hd⟩ := own_at (unhide HR) (by omega)
      have hst : WSt (w.heap.size + 2) g wr.heap.size (.slice a1 c.ops.length c1) (.slice a2 c.fns.length c2) (.slice a3 c.kinds.length c3) cap ⟨List.replicate c.ops.length (-1), [], false⟩ (.slice none 0 0) wr :=
        ⟨⟨by omega, hg2, Nat.le_refl _⟩, by have := unhide HH2; simpa using this, by simpa using hd, World.ownsRow_nil _ _ _ _⟩
      have HS := hide hst
      have HWK := hide (start_wok c.ops.length)
      have hzz : (A : Int) = (A : Int) := rfl
      clear hst hd
      obtain ⟨wo, rfl⟩ : ∃ x, x = wr := ⟨wr, rfl⟩
      go_wp2_with (go_at_call 33; refine (lead_any' (w.heap.size + 2) g _ c.ops.length a1 c1 cap _ _ _ _ _ (unhide HS) (unhide HWK) hn2 A A rfl 0).mono ?_; rintro e w3 ⟨rfl, ⟨rv3, hst3⟩, hb3⟩; have HI3 := hide hst3; have HB3 := hide hb3; clear hst3 hb3)
      go_loopg [7] (c.ops.length + 1) (fun r iv wr => ∃ i : Nat, ∃ s rv, i ≤ c.ops.length ∧ r = c.ops.length + 1 - i ∧ iv = .int .i64 (i : Int) ∧ WSt (w.heap.size + 2) g wo.heap.size (.slice a1 c.ops.length c1) (.slice a2 c.fns.length c2) (.slice a3 c.kinds.length c3) cap s rv wr ∧ Looked c f i s ∧ DeepLe s ∧ Hid (loopS c f.slots (c.ops.length + 1 - i) i s = formS c f) ∧ wr.heap[w.heap.size + 1]? = some (.cells #[.int .i64 f.params, .int .i64 f.slots, .int .i64 (A : Int), .slice ax nx cx] 40 (0, 0)) ∧ Below w.heap.size w wr)
      case atStart =>
        refine ⟨0, startS c f, rv3, Nat.zero_le _, rfl, rfl, by rw [unhide HA]; exact unhide HI3, unhide HST, by rw [unhide HA]; exact lead_le (start_le _) _ _, rfl, ?_, (unhide HB).trans ((unhide HB3).mono (by omega))⟩
        exact ((unhide HB3).block (w.heap.size + 1) (by omega)).trans (unhide HH1)
      case round =>
        obtain ⟨i, s, rv, hi, rfl, rfl, hst, hL, hle, hloop, hfb, hb⟩ := hrel
        obtain ⟨p0, p1, p2, p3, p4, p5⟩ := hst.cells
        obtain ⟨x0, x1, x2, x3⟩ := cells4 hfb
        have hsum := hL.wok.sum
        obtain ⟨ra, rc, rfl⟩ := own_form hst.row
        by_cases hrow : i < s.row.length
        · have hrz : (i : Int) < (s.row.length : Int) := by omega
          cases hbad : s.bad with
          | true =>
            rw [hbad] at p5
            have hfin : Hid (formS c f = s) := loop_stop (unhide hloop) (Or.inr hbad)
            have HBD := hide hbad
            have HB2 := hide hb
            clear hst hL hle hloop hfb hb hbad
            go_wp2
            go_ret
            exact ⟨by rw [unhide hfin, unhide HBD]; rfl, unhide HB2⟩
          | false =>
            rw [hbad] at p5
            obtain ⟨gr, cr, hv, hcell⟩ := hst.rowAt hrow
            simp only [Value.slice.injEq] at hv
            obtain ⟨rfl, _, rfl⟩ := hv
            have hm : s.row.getD i 0 ∈ s.row := by simp [List.getD, hrow]
            have hO2 := (unhide HO).same (Same.of_below hb hC)
            have hF2 := (unhide HF).same (Same.of_below hb hC)
            have hC2 : ∀ n, Calls Try.prog 34 #[.pointer (some ⟨w.heap.size + 2, 0, none⟩), .agg #[.int .i64 f.params, .int .i64 f.slots, .int .i64 (A : Int), .slice ax nx cx], .int .i64 ((s.row.getD i 0 : Nat) : Int)] (wr.drewN n) (WPost (w.heap.size + 2) g wo.heap.size (.slice a1 c.ops.length c1) (.slice a2 c.fns.length c2) (.slice a3 c.kinds.length c3) cap (orderS c f.slots s (s.row.getD i 0)) (wr.drewN n)) := fun n =>
              order_any (w.heap.size + 2) g wo.heap.size C a1 a2 c1 c2 cap _ _ c s (wr.drewN n) f.params f.slots A ax nx cx (s.row.getD i 0) _ rfl (hst.below (drewN_below _ _)) (by omega) (hO2.same (Same.of_below (drewN_below n wr) (by have := hst.lt; omega))) (hF2.same (Same.of_below (drewN_below n wr) (by have := hst.lt; omega))) (unhide HSZ) (unhide HOK) hm hL.wok hle
            have HC2 := hide hC2
            have hL2 := looked_step hL hrow hbad
            have hle2 := order_le (c := c) (x2 := f.slots) (k := s.row.getD i 0) hle
            have hloop2 : Hid (loopS c f.slots (c.ops.length + 1 - (i + 1)) (i + 1) (orderS c f.slots s (s.row.getD i 0)) = formS c f) := by
              refine loop_step ?_ hrow hbad
              have h1 := unhide hloop
              rwa [show c.ops.length + 1 - i = c.ops.length + 1 - (i + 1) + 1 from by omega] at h1
            have HL2 := hide hL2
            have HLE2 := hide hle2
            have HFB := hide hfb
            have HB2 := hide hb
            have HI2 := hide hst
            clear hC2 hL2 hle2 hO2 hF2 hm hst hL hle hloop hfb hb hbad
            generalize s.row.getD i 0 = rk at *
            go_wp2
            go_region_with (go_at_call 34; refine (unhide HC2 _).mono ?_; rintro e w4 ⟨rfl, ⟨rv4, hst4⟩, hb4⟩)
            all_goals
              have HI4 := hide hst4
              have HB4 := hide hb4
              clear hst4 hb4
              go_wp2
              go_roundg (c.ops.length + 1 - (i + 1))
              case measure => omega
              case rel =>
                refine ⟨i + 1, _, rv4, by omega, rfl, by go_num, unhide HI4, unhide HL2, unhide HLE2, hloop2, ?_, ?_⟩
                · exact ((unhide HB4).block (w.heap.size + 1) (by omega)).trans (unhide HFB)
                · exact (unhide HB2).trans (Below.mono ⟨(unhide HB4).os, (unhide HB4).tape, (unhide HB4).output, (unhide HB4).size, (unhide HB4).block⟩ (by omega))
        · have hrz : ¬ (i : Int) < (s.row.length : Int) := by omega
          have hfin : Hid (formS c f = s) := loop_stop (unhide hloop) (Or.inl (by omega))
          have HB2 := hide hb
          clear hst hL hle hloop hfb hb
          generalize hbb : s.bad = bb at *
          have HBB := hide hbb
          clear hbb
          go_wp2
          go_ret
          exact ⟨by rw [unhide hfin, unhide HBB]; rfl, unhide HB2⟩
end
end Go.Proofs.Ytdemnolanlfblaa
