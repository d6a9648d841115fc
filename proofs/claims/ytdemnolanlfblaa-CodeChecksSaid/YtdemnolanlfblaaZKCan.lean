import Derived.WalkSmall
import Derived.Test.YtdemnolanlfblaaZKRepB
import Derived.Test.YtdemnolanlfblaaZKGo
set_option linter.all false
namespace Go.Proofs.Ytdemnolanlfblaa
section
open Go.RowKit
def intVals (l : List Int) : List Value := l.map fun i => .int .i64 i
structure ValsAt (w : World) (g : Nat) (vals : List Int) : Prop where
  row : w.heap[g]? = some (.cells (intVals vals).toArray 3 (0, 0))
theorem rep_vals {B n g : Nat} {w : World} (h : w.ownsRow B 3 1 (.slice (some ⟨g, 0, none⟩) n n) n (List.replicate n (.int .i64 (-1)))) : ValsAt w g (List.replicate n (-1)) ∧ B ≤ g := by
  obtain ⟨_, h2⟩ := h
  rcases h2 with ⟨h0, _⟩ | ⟨g', cap', cur, hv, hg, hh, hn, hcap, hsz, htake⟩
  · cases h0
  · cases hv
    refine ⟨⟨?_⟩, hg⟩
    rw [hh]
    rw [List.take_of_length_le (by simp; omega)] at htake
    have : cur = (intVals (List.replicate n (-1))).toArray := by
      apply Array.toList_inj.1
      rw [htake]
      simp [intVals]
    rw [this]
theorem stopVals_get : ∀ (ss : List (StopD × Value)) (k j : Nat) (p : StopD × Value), ss[k]? = some p → j < 4 → (stopVals ss)[k * 4 + j]? = (stopCells p)[j]?
  | [], k, j, p, h, _ => by simp at h
  | q :: ss, 0, j, p, h, hj => by
    simp at h
    subst h
    simp only [stopVals, List.flatMap_cons, Nat.zero_mul, Nat.zero_add]
    rw [List.getElem?_append_left (by simp [stopCells]; omega)]
  | q :: ss, k + 1, j, p, h, hj => by
    have := stopVals_get ss k j p (by simpa using h) hj
    simp only [stopVals, List.flatMap_cons] at *
    rw [List.getElem?_append_right (by simp [stopCells]; omega)]
    rw [← this]
    congr 1
    simp [stopCells]
    omega
structure CanW (w w1 : World) (g : Nat) (vals : List Int) (todo : List (Int × Int)) (tv : Value) (wr : World) : Prop where
  row : wr.ownsRow w1.heap.size 95 2 tv todo.length (stepVals todo)
  val : ValsAt wr g vals
  box : wr.heap[w.heap.size]? = w1.heap[w.heap.size]?
  bel : Below w.heap.size w wr
  size : w1.heap.size ≤ wr.heap.size
theorem CanW.keep {w w1 wr wr' : World} {g : Nat} {vals : List Int} {todo : List (Int × Int)} {tv : Value} (h : CanW w w1 g vals todo tv wr) (hw : w.heap.size < w1.heap.size) (hb : Below wr.heap.size wr wr') : CanW w w1 g vals todo tv wr' :=
  ⟨own_below h.row hb, ⟨bx_below h.val.row hb⟩, (hb.block _ (by have := h.size; omega)).trans h.box, h.bel.trans (hb.mono h.bel.size), Nat.le_trans h.size hb.size⟩
theorem can_two (wr : World) (A C : Obj) (nq : Nat) : Below wr.heap.size wr (((wr.alloc A).drewN nq).alloc C) := (below_drewN (balloc1 wr A) nq).trans ((balloc1 _ C).mono (below_drewN (balloc1 wr A) nq).size)
theorem can_two_at {wr w2 : World} {A C : Obj} {nq : Nat} (hb : Below (((wr.alloc A).drewN nq).alloc C).heap.size (((wr.alloc A).drewN nq).alloc C) w2) : Below wr.heap.size wr w2 ∧ w2.heap[wr.heap.size]? = some A ∧ w2.heap[wr.heap.size + 1]? = some C := by
  have hz : (((wr.alloc A).drewN nq).alloc C).heap.size = wr.heap.size + 2 := by simp
  rw [hz] at hb
  refine ⟨(can_two wr A C nq).trans (hb.mono (by omega)), ?_, ?_⟩
  · rw [hb.block _ (by omega), heap_alloc_old _ _ (by simp)]
    exact heap_alloc_new wr A
  · rw [hb.block _ (by omega)]
    have := heap_alloc_new ((wr.alloc A).drewN nq) C
    simpa using this
theorem stepVals_get : ∀ (l : List (Int × Int)) (k : Nat) (p : Int × Int), l[k]? = some p → (stepVals l)[k * 2]? = some (.int .i64 p.1) ∧ (stepVals l)[k * 2 + 1]? = some (.int .i64 p.2)
  | [], k, p, h => by simp at h
  | q :: l, 0, p, h => by
    simp at h
    subst h
    simp [stepVals]
  | q :: l, k + 1, p, h => by
    have := stepVals_get l k p (by simpa using h)
    rw [show (k + 1) * 2 = k * 2 + 2 by omega, show k * 2 + 2 + 1 = k * 2 + 1 + 2 by omega]
    simp only [stepVals, List.flatMap_cons, List.cons_append, List.nil_append, List.getElem?_cons_succ] at *
    exact this
theorem cells2f {w : World} {b : Nat} {x y : Value} {t : TypeId} (h : w.heap[b]? = some (.cells #[x, y] t (0, 0))) : w.cell? ⟨b, 0, none⟩ = some x ∧ w.cell? ⟨b, 1, none⟩ = some y := by
  constructor <;> simp [World.cell?, h]
theorem CanW.cell {w w1 wr : World} {g : Nat} {vals : List Int} {todo : List (Int × Int)} {tv : Value} (h : CanW w w1 g vals todo tv wr) {k : Nat} {v : Int} (hv : vals[k]? = some v) : wr.cell? ⟨g, k, none⟩ = some (.int .i64 v) ∧ wr.frozen? ⟨g, k, none⟩ = false := by
  constructor
  · simp [World.cell?, h.val.row, intVals, hv]
  · simp [World.frozen?, h.val.row]
theorem CanW.set {w w1 wr : World} {g : Nat} {vals : List Int} {todo : List (Int × Int)} {tv : Value} (h : CanW w w1 g vals todo tv wr) (hg : g < w1.heap.size) (hg2 : w.heap.size < g) (k : Nat) (d : Int) : CanW w w1 g (vals.set k d) todo tv (wr.setCell ⟨g, k, none⟩ (.int .i64 d)) := by
  refine ⟨ownsRow_setCell_below h.row hg _, ⟨?_⟩, ?_, h.bel.trans ?_, by simpa using h.size⟩
  · rw [block_set h.val.row]
    simp [intVals, List.map_set]
  · rw [heap_set_ne (by omega)]
    exact h.box
  · exact below_set (Below.refl _ _) (by show w.heap.size ≤ g; omega)
theorem CanW.grow {w w1 wr w9 : World} {g : Nat} {vals : List Int} {todo : List (Int × Int)} {tv v9 : Value} {a b : Int} (h : CanW w w1 g vals todo tv wr) (hg : g < w1.heap.size) (hw : w.heap.size < w1.heap.size) (hgr : wr.grownBy w9 tv.ownBlock) (hown : w9.ownsRow w1.heap.size 95 2 v9 (todo.length + 1) (stepVals todo ++ [.int .i64 a, .int .i64 b])) : CanW w w1 g vals (todo ++ [(a, b)]) v9 w9 := by
  have hz := h.size
  have hk : ∀ x, x < w1.heap.size → w9.heap[x]? = wr.heap[x]? := fun x hx => hgr.block x (by omega) (fun e => by have := (h.row.lt x e.symm).1; omega)
  refine ⟨?_, ⟨(hk g hg).trans h.val.row⟩, (hk _ hw).trans h.box, h.bel.grown hgr h.bel.size (fun x hx => by have := (h.row.lt x hx).1; omega), Nat.le_trans hz hgr.size⟩
  have : stepVals (todo ++ [(a, b)]) = stepVals todo ++ [.int .i64 a, .int .i64 b] := by simp [stepVals]
  rw [this]
  simpa using hown
def CanPost (c : CodeD) (f : FnD) (w : World) (e : Ending) (w' : World) : Prop := ∃ b, e = .returned (.bool b) ∧ (b = true ↔ FormOk c f) ∧ Below w.heap.size w w'
set_option maxRecDepth 100000 in
set_option maxHeartbeats 16000000 in
theorem can_any (sa : Option Addr) (sc : Nat) (tv : Value) (ss : List (StopD × Value)) (c : CodeD) (f : FnD) (w : World) (B : Nat) (hst : StopsAt B w (.slice sa ss.length sc) c ss) (hlen : ss.length = c.ops.length) (hn : c.ops.length ≤ 8000) (hf : 0 ≤ f.frm ∧ f.frm ≤ (c.ops.length : Int) - 1) (hsl : 0 ≤ f.slots) :
    Calls Try.prog 32 #[.slice sa ss.length sc, .agg #[.int .i64 f.params, .int .i64 f.slots, .int .i64 f.frm, tv]] w (CanPost c f w) := by
  have HREP := hide (fun xb W hx => repeat_any xb ss.length (by omega) (by omega) W hx)
  have HST := hide hst
  have hss : ss.length ≤ 8000 := by omega
  have hs1 : 1 ≤ ss.length := by omega
  have HLEN := hide hlen
  have HF := hide hf
  clear hst hlen hn hf
  go_enter Try.func32, Try.ntmps32
  go_wp2_with (go_at_call 52; refine (unhide HREP _ _ (by simp)).mono ?_; rintro e w1 ⟨g, rfl, hr1, hb1⟩; obtain ⟨hv1, hg1⟩ := rep_vals hr1; simp only [heap_size_alloc] at hg1; have HV1 := hide hv1; have HBX1 := hide ((hb1.block _ (by simp only [heap_size_alloc]; omega)).trans ((balloc1 _ _).block _ (by rw [heap_size_alloc]; omega) |>.trans (heap_alloc_new w _))); have HB1 := hide (((balloc1 w _).trans ((balloc1 _ _).mono (by rw [heap_size_alloc]; omega))).trans (hb1.mono (by simp only [heap_size_alloc]; omega))); obtain ⟨x0, x1, x2, x3, _⟩ := cells4f (unhide HBX1); clear hv1 hb1 hr1)
  obtain ⟨M, hM⟩ : ∃ M, M = gain ss (List.replicate ss.length (-1)) + 1 := ⟨_, rfl⟩
  have hM2 : M ≤ 9700000 := by
    rw [hM]
    have := gain_le ss (List.replicate ss.length (-1)) (fun p hp => by
      obtain ⟨k, hk⟩ := List.getElem?_of_mem hp
      exact ((unhide HST).fits k p hk).len)
    omega
  have HM := hide hM
  clear hM x0 x1 x2 x3
  go_loopg [6] M (fun r tv wr => ∃ (vals : List Int) (todo : List (Int × Int)), r = gain ss vals + todo.length ∧ r ≤ M ∧ GoInv c f vals todo ∧ CanW w w1 g vals todo tv wr)
  case atStart =>
    have hg2 : g < w1.heap.size := heap_lt (unhide HV1).row
    refine ⟨List.replicate ss.length (-1), [(f.frm, 0)], unhide HM, Nat.le_refl _, by rw [unhide HLEN]; exact GoInv.first (unhide HF), ⟨?_, ⟨by rw [heap_alloc_old _ _ hg2]; exact (unhide HV1).row⟩, heap_alloc_old _ _ (heap_lt (unhide HBX1)), (unhide HB1).trans ((balloc1 _ _).mono (unhide HB1).size), by rw [heap_size_alloc]; omega⟩⟩
    refine ⟨by simp [stepVals], Or.inr ⟨w1.heap.size, 1, _, rfl, Nat.le_refl _, heap_alloc_new _ _, Nat.le_refl _, by unfold maxLen; omega, by simp, by simp [stepVals]⟩⟩
  case round =>
    obtain ⟨vals, todo, rfl, hrM, hinv, hcan⟩ := hrel
    obtain ⟨hrow, hval, hbox, hbel, hsz⟩ := hcan
    have hg2 : g < w1.heap.size := heap_lt (unhide HV1).row
    obtain ⟨va, vc, rfl⟩ := own_form hrow
    obtain ⟨x0, x1, x2, x3, _⟩ := cells4f (hbox.trans (unhide HBX1))
    have hw0 : w.heap.size < wr.heap.size := heap_lt (hbox.trans (unhide HBX1))
    have HINV := hide hinv
    have HVAL := hide hval
    have HBOX := hide hbox
    have HBEL := hide hbel
    rcases List.eq_nil_or_concat todo with rfl | ⟨t, p, rfl⟩
    · clear hinv hval hbox hbel
      go_wp2
      go_ret
      exact ⟨true, rfl, ⟨fun _ => (unhide HINV).done, fun _ => rfl⟩, unhide HBEL⟩
    · simp only [List.concat_eq_append] at *
      obtain ⟨p1, p2⟩ := p
      have hlen : (t ++ [(p1, p2)]).length = t.length + 1 := by simp
      rw [hlen] at hrow hrM ⊢
      obtain ⟨g2, rfl, hvc⟩ : ∃ g2, va = some ⟨g2, 0, none⟩ ∧ t.length + 1 ≤ vc := by
        obtain ⟨_, h2⟩ := hrow
        rcases h2 with ⟨h0, h1⟩ | ⟨g', cap', cur, hv, _, _, hc, _⟩
        · simp at h1
        · cases hv
          exact ⟨g', rfl, hc⟩
      have hvcz : (t.length : Int) ≤ (vc : Int) := by omega
      have hsv : stepVals (t ++ [(p1, p2)]) = stepVals t ++ [.int .i64 p1, .int .i64 p2] := by simp [stepVals]
      rw [hsv] at hrow
      have hst := stepVals_len t
      have c0 : wr.cell? ⟨g2, t.length * 2, none⟩ = some (.int .i64 p1) := by
        rw [hrow.cellAt _ (by omega), List.getElem?_append_right (by omega), hst]
        simp
      have c1 : wr.cell? ⟨g2, t.length * 2 + 1, none⟩ = some (.int .i64 p2) := by
        rw [hrow.cellAt _ (by omega), List.getElem?_append_right (by omega), hst]
        simp
      have HPOP := hide (show CanW w w1 g vals t _ wr from ⟨ownsRow_pop hst hrow, hval, hbox, hbel, hsz⟩)
      have hg3 : w1.heap.size ≤ g2 ∧ g2 < wr.heap.size := hrow.lt g2 rfl
      clear hinv hval hbox hbel hrow hsv hst
      have hto := (unhide HINV).todos (p1, p2) (by simp)
      have hto1 : 0 ≤ p1 := hto.1
      have hto2 : p1 ≤ ss.length := by rw [unhide HLEN]; exact hto.2.1
      have hto3 : 0 ≤ p2 := hto.2.2.1
      have hto4 : p2 ≤ 4200 := hto.2.2.2.1
      clear hto
      obtain ⟨k, rfl⟩ : ∃ k : Nat, p1 = (k : Int) := ⟨p1.toNat, by omega⟩
      by_cases hpe : k = ss.length
      · have HPE := hide hpe
        have hpz : (k : Int) = (ss.length : Int) := by omega
        go_wp2
        go_ret
        refine ⟨false, rfl, ⟨fun h => (by cases h), fun h => absurd h ((unhide HINV).end_ ?_)⟩, unhide HBEL |>.trans ((balloc1 _ _).mono (unhide HBEL).size)⟩
        show (k : Int) = _
        rw [unhide HPE, unhide HLEN]
      · have hpz : ¬ (k : Int) = (ss.length : Int) := by omega
        have hkl : k < ss.length := by omega
        have hkz : (k : Int) < (ss.length : Int) := by omega
        obtain ⟨v, hv⟩ : ∃ v, vals[k]? = some v := ⟨_, List.getElem?_eq_getElem (by rw [(unhide HINV).len, ← unhide HLEN]; exact hkl)⟩
        have hcv : wr.cell? ⟨g, k, none⟩ = some (.int .i64 v) := by
          simp [World.cell?, (unhide HVAL).row, intVals, hv]
        have hgz : g < wr.heap.size := by omega
        have HV := hide hv
        clear hv
        by_cases hve : v = p2
        · subst hve
          go_wp2
          go_quiet (fail)
          go_wp2
          go_roundg (gain ss vals + t.length)
          case measure => simp
          case rel => exact ⟨vals, t, rfl, by omega, (unhide HINV).again (unhide HV), (unhide HPOP).keep (heap_lt (unhide HBX1)) (below_drewN (balloc1 _ _) _)⟩
        · obtain ⟨q, hq⟩ : ∃ q, ss[k]? = some q := ⟨_, List.getElem?_eq_getElem hkl⟩
          obtain ⟨s, wv⟩ := q
          have hstw := (unhide HST).below (unhide HBEL)
          obtain ⟨g4, rfl⟩ : ∃ g4, sa = some ⟨g4, 0, none⟩ := by
            obtain ⟨_, h2⟩ := hstw.row
            rcases h2 with ⟨h0, h1⟩ | ⟨g', cap', cur, hv, _, _, hc, _⟩
            · omega
            · cases hv
              exact ⟨g', rfl⟩
          have hcs : ∀ j, j < 4 → wr.cell? ⟨g4, k * 4 + j, none⟩ = (stopCells (s, wv))[j]? := fun j hj => by
            rw [hstw.row.cellAt _ (by omega), stopVals_get ss k j _ hq hj]
          have s0 : wr.cell? ⟨g4, k * 4, none⟩ = some (.bool s.shut) := hcs 0 (by omega)
          have s1 : wr.cell? ⟨g4, k * 4 + 1, none⟩ = some (.int .i64 s.needs) := hcs 1 (by omega)
          have s2 : wr.cell? ⟨g4, k * 4 + 2, none⟩ = some (.int .i64 s.slots) := hcs 2 (by omega)
          have s3 : wr.cell? ⟨g4, k * 4 + 3, none⟩ = some wv := hcs 3 (by omega)
          have hg4 : g4 < wr.heap.size := cell_lt s0
          have hfit := hstw.fits k _ hq
          have hway := hstw.each _ (List.mem_of_getElem? hq)
          obtain ⟨wa, wc, hwv⟩ := own_form hway
          simp only at hwv hway hfit
          subst hwv
          have HFIT := hide hfit
          have HWAY := hide hway
          have HQ := hide hq
          clear hcs hstw hfit hway hq
          by_cases hv0 : 0 ≤ v
          · go_wp2
            go_quiet (fail)
            go_wp2
            go_ret
            refine ⟨false, rfl, ⟨fun h => (by cases h), fun h => absurd h ((unhide HINV).other (unhide HV) hv0 hve)⟩, (unhide HBEL).trans ((can_two _ _ _ _).mono (unhide HBEL).size)⟩
          · obtain ⟨bl, hbl⟩ : ∃ bl, bl = (!s.shut && (decide (s.needs ≤ p2) && (decide (p2 ≤ 1200) && decide (s.slots ≤ f.slots)))) := ⟨_, rfl⟩
            have HLET := hide (fun W => lets_any s (.slice wa s.ways.length wc) p2 f.slots W)
            rw [← hbl] at HLET
            have HBL := hide hbl
            clear hbl
            cases bl with
            | false =>
              go_wp2
              go_quiet (fail)
              go_wp2_with (go_at_call 53; refine (unhide HLET _).mono ?_; rintro e w2 ⟨rfl, hb2⟩; have HB2 := hide (can_two_at hb2); clear hb2)
              go_ret
              exact ⟨false, rfl, ⟨fun h => (by cases h), fun h => absurd h ((unhide HINV).bad (unhide HFIT) hsl (unhide HBL).symm)⟩, (unhide HBEL).trans ((unhide HB2).1.mono (unhide HBEL).size)⟩
            | true =>
              go_wp2
              go_quiet (fail)
              go_wp2_with (go_at_call 53; refine (unhide HLET _).mono ?_; rintro e w2 ⟨rfl, hb2⟩; obtain ⟨hb2, hA2, hC2⟩ := can_two_at hb2; have HB2 := hide hb2; have HC2 := hide ((unhide HPOP).keep (heap_lt (unhide HBX1)) hb2); obtain ⟨hcv2, hcf2⟩ := (unhide HC2).cell (unhide HV); obtain ⟨ha0, ha1⟩ := cells2f hA2; obtain ⟨_, _, _, hc3, _⟩ := cells4f hC2; have HA2 := hide hA2; clear hb2 hA2 hC2)
              have hw2z := (unhide HB2).size
              have hwl12 := (unhide HFIT).len
              have hA3 := cell_lt ha0
              have HGG : Hid (w.heap.size < g) := by show _ < _; omega
              clear hcv2 hcf2 ha0 ha1 hc3 x0 x1 x2 x3 c0 c1 s0 s1 s2 s3 hcv
              obtain ⟨wo, rfl⟩ : ∃ x, x = wr := ⟨wr, rfl⟩
              go_loopg [75, 6] s.ways.length (fun r jv tv wi => ∃ j, j ≤ s.ways.length ∧ r = s.ways.length - j ∧ jv = .int .i64 (j : Int) ∧ CanW w w1 g (vals.set k p2) (t ++ (s.ways.take j).map fun q => (q.1, p2 + q.2)) tv wi ∧ wi.heap[wo.heap.size]? = some (.cells #[.int .i64 (k : Int), .int .i64 p2] 95 (0, 0)) ∧ wo.heap.size < wi.heap.size ∧ tv.ownBlock ≠ some wo.heap.size)
              case atStart =>
                refine ⟨0, Nat.zero_le _, rfl, rfl, ?_, ?_, ?_, fun h => Nat.lt_irrefl _ ((unhide HPOP).row.lt _ h).2⟩
                · simpa using (unhide HC2).set hg2 (unhide HGG) k p2
                · rw [heap_set_ne (by omega)]
                  exact unhide HA2
                · simpa using hA3
              case round =>
                obtain ⟨j, hj, rfl, rfl, hcan, hA, hzi, hown⟩ := hrel
                obtain ⟨va3, vc3, rfl⟩ := own_form hcan.row
                obtain ⟨td, htd⟩ : ∃ td, td = t ++ (s.ways.take j).map fun q => (q.1, p2 + q.2) := ⟨_, rfl⟩
                rw [← htd] at hcan ⊢
                have HTD := hide htd
                have hA0 := (cells2f hA).1
                have hA1 := (cells2f hA).2
                have HA3 := hide hA
                have HCAN := hide hcan
                rw [← htd] at hown
                have HNO := hide hown
                clear hown
                clear htd hA hcan
                by_cases hlt : j < s.ways.length
                · have hltz : (j : Int) < (s.ways.length : Int) := by omega
                  obtain ⟨y, hy⟩ : ∃ y, s.ways[j]? = some y := ⟨_, List.getElem?_eq_getElem hlt⟩
                  obtain ⟨y1, y2⟩ := y
                  have hym := (unhide HFIT).more _ (List.mem_of_getElem? hy)
                  have hy1 : -3000 ≤ y2 := hym.1
                  have hy2 : y2 ≤ 3000 := hym.2
                  have hsw := own_below ((unhide HST).each _ (List.mem_of_getElem? (unhide HQ))) (unhide HCAN).bel
                  simp only at hsw
                  obtain ⟨g5, rfl⟩ : ∃ g5, wa = some ⟨g5, 0, none⟩ := by
                    obtain ⟨_, h2⟩ := hsw
                    rcases h2 with ⟨h0, h1⟩ | ⟨g', cap', cur, hv, _, _, hc, _⟩
                    · omega
                    · cases hv
                      exact ⟨g', rfl⟩
                  have hsv := stepVals_get s.ways j _ hy
                  have d0 : wr.cell? ⟨g5, j * 2, none⟩ = some (.int .i64 y1) := by rw [hsw.cellAt _ (by omega)]; exact hsv.1
                  have d1 : wr.cell? ⟨g5, j * 2 + 1, none⟩ = some (.int .i64 y2) := by rw [hsw.cellAt _ (by omega)]; exact hsv.2
                  have hg5 := cell_lt d0
                  have HY := hide hy
                  have htdl : td.length ≤ 9700000 := by
                    have hgs := gain_set ss vals k (s, .slice (some ⟨g5, 0, none⟩) s.ways.length wc) v p2 (unhide HQ) (unhide HV) (by omega) hto3
                    have hl := congrArg List.length (unhide HTD)
                    simp only [List.length_append, List.length_map, List.length_take] at hl
                    simp only at hgs
                    omega
                  clear hy hym hsw hsv
                  go_wp2_with (at_builtin; refine wpList_one_own 88 95 (.agg #[.int .i64 0, .int .i64 0]) 2 16 Try.underlying88 stepInfo rfl (by omega) (by omega) rfl (.tmp 79) (.tmp 88) rfl w1.heap.size (.slice va3 td.length vc3) td.length (stepVals td) rfl (own_below (own_below (unhide HCAN).row (balloc1 _ _)) (balloc1 _ _)) (wr.heap.size + 1) [.int .i64 y1, .int .i64 (p2 + y2)] rfl rfl (fun j u hj => by match j, hj with | 0, hj => simp at hj; subst hj; simp [go_sem] | 1, hj => simp at hj; subst hj; simp [go_sem]) (by simp [Value.oneCell']) (by omega) (by have := (unhide HCAN).size; simp; omega) ?_; intro v9 w9 hown9 hgrow9 hloc9; obtain ⟨va9, vc9, hv9⟩ := own_form hown9; subst hv9; have HOWN := hide hown9; have HGR := hide hgrow9; have HLOC := hide hloc9; clear hown9 hgrow9 hloc9)
                  go_roundg (s.ways.length - (j + 1))
                  case measure => omega
                  case rel =>
                    have hc2 := fun A C => ((unhide HCAN).keep (heap_lt (unhide HBX1)) (balloc1 _ A)).keep (heap_lt (unhide HBX1)) (balloc1 _ C)
                    have htk : td ++ [(y1, p2 + y2)] = t ++ (s.ways.take (j + 1)).map fun q => (q.1, p2 + q.2) := by
                      obtain ⟨h1, h2⟩ := List.getElem?_eq_some_iff.1 (unhide HY)
                      rw [unhide HTD, ← List.take_append_getElem h1, h2]
                      simp
                    refine ⟨j + 1, by omega, rfl, by go_num, ?_, ?_, ?_, ?_⟩
                    · rw [← htk]
                      exact (hc2 _ _).grow hg2 (heap_lt (unhide HBX1)) (unhide HGR) (unhide HOWN)
                    · rw [(unhide HGR).block _ (by simp; omega) (fun h => unhide HNO h.symm), heap_alloc_old _ _ (by simp; omega), heap_alloc_old _ _ hzi]
                      exact unhide HA3
                    · have := (unhide HGR).size
                      simp at this
                      omega
                    · rcases unhide HLOC with h | h
                      · rw [h]
                        exact unhide HNO
                      · rw [h]
                        simp
                        omega
                · have hltz : ¬ (j : Int) < (s.ways.length : Int) := by omega
                  obtain rfl : j = s.ways.length := by omega
                  have hgs := gain_set ss vals k (s, .slice wa s.ways.length wc) v p2 (unhide HQ) (unhide HV) (by omega) hto3
                  simp only at hgs
                  have htd := unhide HTD
                  rw [List.take_length] at htd
                  have HTL := hide (show td.length = t.length + s.ways.length by rw [htd]; simp)
                  have HTD2 := hide htd
                  clear htd
                  go_wp2
                  go_roundg (gain ss (vals.set k p2) + td.length)
                  case measure =>
                    have := unhide HTL
                    omega
                  case rel => exact ⟨vals.set k p2, td, rfl, by have := unhide HTL; omega, by rw [unhide HTD2]; exact (unhide HINV).go (unhide HFIT) hsl (unhide HV) (by omega) (unhide HBL).symm, unhide HCAN⟩
end
end Go.Proofs.Ytdemnolanlfblaa
