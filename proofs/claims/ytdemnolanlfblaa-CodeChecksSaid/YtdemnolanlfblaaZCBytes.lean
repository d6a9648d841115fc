import Derived.Test.YtdemnolanlfblaaZCPut
set_option linter.all false
namespace Go.Proofs.Ytdemnolanlfblaa
section
open Go.RowKit
theorem bOp_len (o : OpD) : (bOp o).length ≤ 30 := by
  have h1 := put_len o.d
  have h2 := put_len o.a
  have h3 := put_len o.b
  unfold bOp
  simp only [List.length_append]
  omega
theorem bInts_len {l : List Int} (h : l.length ≤ 1200) : (bInts l).length ≤ 12010 := by
  have h1 := put_len l.length
  have h2 := bMany_len putL 10 l (fun a _ => put_len a)
  unfold bInts
  simp only [List.length_append]
  omega
theorem bFn_len {f : FnD} (h : f.takes.length ≤ 1200) : (bFn f).length ≤ 12040 := by
  have h1 := put_len f.params
  have h2 := put_len f.slots
  have h3 := put_len f.frm
  have h4 := bInts_len h
  unfold bFn
  simp only [List.length_append]
  omega
theorem takes_few {c : CodeD} {f : FnD} (h : FnOk c f) : f.takes.length ≤ 1200 := by
  have h1 := h.takes
  have h2 := h.slots
  have h3 := h.params
  omega
theorem bCode_len {c : CodeD} (hs : SizeOk c) (hr : RangeOk c) : (bCode c).length ≤ 100000000 := by
  obtain ⟨h1, h2, h3, _⟩ := hs
  have a1 := put_len c.ops.length
  have a2 := put_len c.fns.length
  have a3 := put_len c.kinds.length
  have b1 := bMany_len bOp 30 c.ops (fun a _ => bOp_len a)
  have b2 := bMany_len bFn 12040 c.fns (fun a ha => bFn_len (takes_few (hr.fns a ha)))
  have b3 := bMany_len bInts 12010 c.kinds (fun a ha => bInts_len (hr.kinds a ha).size.2)
  unfold bCode
  simp only [List.length_append]
  omega
theorem bMany_drop {α : Type} (f : α → List Nat) {l : List α} {i : Nat} {a : α} (h : l[i]? = some a) : bMany f (l.drop i) = f a ++ bMany f (l.drop (i + 1)) := by
  obtain ⟨h1, h2⟩ := List.getElem?_eq_some_iff.1 h
  rw [List.drop_eq_getElem_cons h1, h2]
  rfl
theorem bOp_app (o : OpD) (R S : List Nat) : bOp o ++ R ++ S = putL o.d ++ (putL o.a ++ (putL o.b ++ (R ++ S))) := by simp [bOp]
theorem bFn_app (f : FnD) (R S : List Nat) : bFn f ++ R ++ S = putL f.params ++ (putL f.slots ++ (putL f.frm ++ (putL f.takes.length ++ (bMany putL f.takes ++ (R ++ S))))) := by simp [bFn, bInts]
theorem bInts_app (l : List Int) (R : List Nat) : bInts l ++ R = putL l.length ++ (bMany putL l ++ R) := by simp [bInts]
structure BSt (w : World) (cv : Array Value) (T : List Nat) (v : Value) (acc r : List Nat) (wr : World) : Prop where
  bytes : BytesAt (w.heap.size + 1) wr v acc
  all : acc ++ r = T
  box : wr.heap[w.heap.size]? = some (.cells cv 26 (0, 0))
  below : Below w.heap.size w wr
  size : w.heap.size + 1 ≤ wr.heap.size
theorem put_st {w : World} {cv : Array Value} {T : List Nat} {v : Value} {acc r : List Nat} {wr : World} {x : Int} (h : BSt w cv T v acc (putL x ++ r) wr) (hT : T.length ≤ 100000000) (hx : I64 x) :
    Calls Try.prog 20 #[v, .int .i64 x] wr fun e w' => ∃ v' acc', e = .returned v' ∧ BSt w cv T v' acc' r w' ∧ Grew v wr v' w' := by
  have hl : acc.length ≤ T.length := by rw [← h.all]; simp only [List.length_append]; omega
  refine (put_any wr _ v acc h.bytes h.size (by omega) x hx).mono ?_
  rintro e w' ⟨v', rfl, h1, h2⟩
  have hb := h2.below h.size (own_ge h.bytes)
  refine ⟨v', _, rfl, ⟨h1, by rw [← h.all]; simp, ?_, h.below.trans (hb.mono (by omega)), Nat.le_trans h.size h2.grown.size⟩, h2⟩
  rw [hb.block _ (by omega)]
  exact h.box
theorem BSt.cells {w : World} {a b c : Value} {T : List Nat} {v : Value} {acc r : List Nat} {wr : World} (h : BSt w #[a, b, c] T v acc r wr) : wr.cell? ⟨w.heap.size, 0, none⟩ = some a ∧ wr.cell? ⟨w.heap.size, 1, none⟩ = some b ∧ wr.cell? ⟨w.heap.size, 2, none⟩ = some c := cells3 h.box
theorem BSt.alloc {w : World} {cv : Array Value} {T : List Nat} {v : Value} {acc r : List Nat} {wr : World} (h : BSt w cv T v acc r wr) (o : Obj) : BSt w cv T v acc r (wr.alloc o) :=
  have hb : Below wr.heap.size wr (wr.alloc o) := (Below.refl _ _).alloc (Nat.le_refl _) o
  ⟨h.bytes.below hb, h.all, bx_below h.box hb, h.below.trans (hb.mono (by have := h.size; omega)), by have := h.size; rw [heap_size_alloc]; omega⟩
theorem put_stq {w : World} {cv : Array Value} {T : List Nat} {v : Value} {acc r : List Nat} {wr : World} {x : Int} {q : Nat} {X : Obj} (h : BSt w cv T v acc (putL x ++ r) wr) (hT : T.length ≤ 100000000) (hx : I64 x) (hq : wr.heap[q]? = some X ∧ some q ≠ v.ownBlock) :
    Calls Try.prog 20 #[v, .int .i64 x] wr fun e w' => ∃ v' acc', e = .returned v' ∧ BSt w cv T v' acc' r w' ∧ w'.heap[q]? = some X ∧ some q ≠ v'.ownBlock := by
  refine (put_st h hT hx).mono ?_
  rintro e w' ⟨v', acc', rfl, h1, h2⟩
  obtain ⟨h3, h4⟩ := h2.other (Array.getElem?_eq_some_iff.1 hq.1).1 hq.2
  exact ⟨v', acc', rfl, h1, h3.trans hq.1, h4⟩
set_option maxRecDepth 100000 in
set_option maxHeartbeats 8000000 in
theorem bytes_any (a1 a2 a3 : Option Addr) (c1 c2 c3 : Nat) (c : CodeD) (w : World) (C : Nat) (hC : C ≤ w.heap.size) (hIn : CodeIn C w (.slice a1 c.ops.length c1) (.slice a2 c.fns.length c2) (.slice a3 c.kinds.length c3) c) (hs : SizeOk c) (hr : RangeOk c) (hf : CodeFits c) :
    Calls Try.prog 9 #[.agg #[.slice a1 c.ops.length c1, .slice a2 c.fns.length c2, .slice a3 c.kinds.length c3]] w fun e w' => ∃ v', e = .returned v' ∧ BytesAt (w.heap.size + 1) w' v' (bCode c) ∧ Below w.heap.size w w' := by
  have hT := bCode_len hs hr
  have hst : BSt w #[.slice a1 c.ops.length c1, .slice a2 c.fns.length c2, .slice a3 c.kinds.length c3] (bCode c) (.slice none 0 0) [] (putL c.ops.length ++ (putL c.fns.length ++ (putL c.kinds.length ++ (bMany bOp c.ops ++ (bMany bFn c.fns ++ bMany bInts c.kinds))))) (w.alloc (.cells #[.slice a1 c.ops.length c1, .slice a2 c.fns.length c2, .slice a3 c.kinds.length c3] 26)) :=
    ⟨World.ownsRow_nil _ _ _ _, by simp [bCode], heap_alloc_new _ _, (Below.refl _ _).alloc (Nat.le_refl _) _, by simp⟩
  obtain ⟨n1, n2, n3, _⟩ := id hs
  have HIN := hide hIn
  have HS := hide hs
  have HR := hide hr
  have HF := hide hf
  have HB := hide hst
  generalize hTT : bCode c = T at *
  clear hIn hs hr hf hst hTT
  go_enter Try.func9, Try.ntmps9
  go_wp2_with (go_at_call 20; refine (put_st (unhide HB) hT (by unfold I64; omega)).mono ?_; rintro e w9 ⟨v9, acc9, rfl, hst9, _⟩; have hcells := hst9.cells; replace HB := hide hst9; clear hst9)
  go_loopg [3, 4] c.ops.length (fun k e3 e4 wr => ∃ (i : Nat) (acc : List Nat), i ≤ c.ops.length ∧ k = c.ops.length - i ∧ e4 = .int .i64 (i : Int) ∧ BSt w #[.slice a1 c.ops.length c1, .slice a2 c.fns.length c2, .slice a3 c.kinds.length c3] T e3 acc (bMany bOp (c.ops.drop i) ++ (bMany bFn c.fns ++ bMany bInts c.kinds)) wr)
  case atStart => exact ⟨0, _, Nat.zero_le _, rfl, rfl, unhide HB⟩
  case round =>
    clear HB hcells
    obtain ⟨i, acc, hi, rfl, rfl, hst⟩ := hrel
    have hcells := hst.cells
    by_cases hlt : i < c.ops.length
    · have hltz : (i : Int) < (c.ops.length : Int) := by omega
      obtain ⟨o, hoi⟩ : ∃ o, c.ops[i]? = some o := ⟨_, List.getElem?_eq_getElem hlt⟩
      obtain ⟨ob, oq, rfl, hob, hv⟩ := ops_at (unhide HIN).ops hoi
      have HV : Hid (∀ w', Below w.heap.size w w' → w'.cell? ⟨ob, oq + i * 3, none⟩ = some (.int .i64 o.d) ∧ w'.cell? ⟨ob, oq + i * 3 + 1, none⟩ = some (.int .i64 o.a) ∧ w'.cell? ⟨ob, oq + i * 3 + 2, none⟩ = some (.int .i64 o.b)) := fun w' hb => ⟨(hb.cell (p := ⟨ob, _, none⟩) (by show ob < w.heap.size; omega)).trans hv.1, (hb.cell (p := ⟨ob, _, none⟩) (by show ob < w.heap.size; omega)).trans hv.2.1, (hb.cell (p := ⟨ob, _, none⟩) (by show ob < w.heap.size; omega)).trans hv.2.2⟩
      have hvv := unhide HV _ hst.below
      have HI := hide ((unhide HF).ops o (List.mem_of_getElem? hoi))
      rw [bMany_drop bOp hoi] at hst
      rw [bOp_app] at hst
      have HB := hide hst
      clear hst hv hoi
      go_wp2_with (go_at_call 20; refine (put_st (unhide HB) hT (by first | exact (unhide HI).1 | exact (unhide HI).2.1 | exact (unhide HI).2.2)).mono ?_; rintro e w9 ⟨v9, acc9, rfl, hst9, _⟩; have hcells := hst9.cells; have hvv := unhide HV _ hst9.below; replace HB := hide hst9; clear hst9)
      go_roundg (c.ops.length - (i + 1))
      case measure => omega
      case rel => exact ⟨i + 1, _, by omega, rfl, by go_num, unhide HB⟩
    · have hltz : ¬ (i : Int) < (c.ops.length : Int) := by omega
      rw [List.drop_eq_nil_of_le (by omega)] at hst
      have HB := hide hst
      clear hst
      go_wp2
      obtain ⟨wo, rfl⟩ : ∃ x, x = wr := ⟨wr, rfl⟩
      clear hcells hlt hltz hi
      go_loopg [3, 5] c.fns.length (fun k e3 e5 wr => ∃ (i : Nat) (acc : List Nat), i ≤ c.fns.length ∧ k = c.fns.length - i ∧ e5 = .int .i64 (i : Int) ∧ BSt w #[.slice a1 c.ops.length c1, .slice a2 c.fns.length c2, .slice a3 c.kinds.length c3] T e3 acc (bMany bFn (c.fns.drop i) ++ bMany bInts c.kinds) wr)
      case atStart => exact ⟨0, _, Nat.zero_le _, rfl, rfl, unhide HB⟩
      case round =>
        clear HB
        obtain ⟨i, acc, hi, rfl, rfl, hst⟩ := hrel
        have hcells := hst.cells
        by_cases hlt : i < c.fns.length
        · have hltz : (i : Int) < (c.fns.length : Int) := by omega
          obtain ⟨f, hfi⟩ : ∃ f, c.fns[i]? = some f := ⟨_, List.getElem?_eq_getElem hlt⟩
          obtain ⟨fb, fq, ta, tc, rfl, hfb, hv⟩ := fns_at (unhide HIN).fns hfi
          have HV : Hid (∀ w', Below w.heap.size w w' → w'.cell? ⟨fb, fq + i * 4, none⟩ = some (.int .i64 f.params) ∧ w'.cell? ⟨fb, fq + i * 4 + 1, none⟩ = some (.int .i64 f.slots) ∧ w'.cell? ⟨fb, fq + i * 4 + 2, none⟩ = some (.int .i64 f.frm) ∧ w'.cell? ⟨fb, fq + i * 4 + 3, none⟩ = some (.slice ta f.takes.length tc)) := fun w' hb => ⟨(hb.cell (p := ⟨fb, _, none⟩) (by show fb < w.heap.size; omega)).trans hv.1, (hb.cell (p := ⟨fb, _, none⟩) (by show fb < w.heap.size; omega)).trans hv.2.1, (hb.cell (p := ⟨fb, _, none⟩) (by show fb < w.heap.size; omega)).trans hv.2.2.1, (hb.cell (p := ⟨fb, _, none⟩) (by show fb < w.heap.size; omega)).trans hv.2.2.2.1⟩
          have hvv := unhide HV _ hst.below
          have HI := hide ((unhide HF).fns f (List.mem_of_getElem? hfi))
          have htk := takes_few ((unhide HR).fns f (List.mem_of_getElem? hfi))
          have HTK := hide hv.2.2.2.2
          rw [bMany_drop bFn hfi, bFn_app] at hst
          have HB := hide hst
          clear hst hv hfi
          have hq0 := And.intro (heap_alloc_new wr (.cells #[.int .i64 f.params, .int .i64 f.slots, .int .i64 f.frm, .slice ta f.takes.length tc] 40)) (own_new (unhide HB).bytes)
          have HQ := hide hq0
          replace HB := hide ((unhide HB).alloc (.cells #[.int .i64 f.params, .int .i64 f.slots, .int .i64 f.frm, .slice ta f.takes.length tc] 40))
          clear hq0
          go_wp2_with (go_at_call 20; refine (put_stq (unhide HB) hT (by first | (unfold I64; omega) | exact (unhide HI).1 | exact (unhide HI).2.1 | exact (unhide HI).2.2.1) (unhide HQ)).mono ?_; rintro e w9 ⟨v9, acc9, rfl, hst9, hq9⟩; have hcells := hst9.cells; have hvv := cells4 hq9.1; replace HB := hide hst9; replace HQ := hide hq9; clear hst9 hq9)
          go_loopg [3, 7] f.takes.length (fun k e3 e7 ws => ∃ (j : Nat) (acc : List Nat), j ≤ f.takes.length ∧ k = f.takes.length - j ∧ e7 = .int .i64 (j : Int) ∧ BSt w #[.slice a1 c.ops.length c1, .slice (some ⟨fb, fq, none⟩) c.fns.length c2, .slice a3 c.kinds.length c3] T e3 acc (bMany putL (f.takes.drop j) ++ (bMany bFn (c.fns.drop (i + 1)) ++ bMany bInts c.kinds)) ws ∧ ws.heap[wr.heap.size]? = some (.cells #[.int .i64 f.params, .int .i64 f.slots, .int .i64 f.frm, .slice ta f.takes.length tc] 40 (0, 0)) ∧ some wr.heap.size ≠ e3.ownBlock)
          case atStart => exact ⟨0, _, Nat.zero_le _, rfl, rfl, unhide HB, unhide HQ⟩
          case round =>
            clear HB HQ hcells hvv
            obtain ⟨j, acc, hj, rfl, rfl, hst, hq⟩ := hrel
            have hcells := hst.cells
            have hvv := cells4 hq.1
            have HQ := hide hq
            clear hq
            by_cases hjt : j < f.takes.length
            · have hjz : (j : Int) < (f.takes.length : Int) := by omega
              obtain ⟨x, hxj⟩ : ∃ x, f.takes[j]? = some x := ⟨_, List.getElem?_eq_getElem hjt⟩
              obtain ⟨tb, tq, rfl, htb, t0⟩ := ints_at ((unhide HTK).same (Same.of_below hst.below hC)) hxj
              have HIX := hide ((unhide HI).2.2.2 x (List.mem_of_getElem? hxj))
              rw [bMany_drop putL hxj, List.append_assoc] at hst
              have HB := hide hst
              clear hst hxj
              go_wp2_with (go_at_call 20; refine (put_stq (unhide HB) hT (unhide HIX) (unhide HQ)).mono ?_; rintro e w9 ⟨v9, acc9, rfl, hst9, hq9⟩; have hcells := hst9.cells; have hvv := cells4 hq9.1; replace HB := hide hst9; replace HQ := hide hq9; clear hst9 hq9)
              go_roundg (f.takes.length - (j + 1))
              case measure => omega
              case rel => exact ⟨j + 1, _, by omega, rfl, by go_num, unhide HB, unhide HQ⟩
            · have hjz : ¬ (j : Int) < (f.takes.length : Int) := by omega
              rw [List.drop_eq_nil_of_le (by omega)] at hst
              have HB := hide hst
              clear hst
              go_wp2
              go_roundg (c.fns.length - (i + 1))
              case measure => omega
              case rel => exact ⟨i + 1, _, by omega, rfl, by go_num, unhide HB⟩
        · have hltz : ¬ (i : Int) < (c.fns.length : Int) := by omega
          rw [List.drop_eq_nil_of_le (by omega)] at hst
          have HB := hide hst
          clear hst
          go_wp2
          obtain ⟨wp, rfl⟩ : ∃ x, x = wr := ⟨wr, rfl⟩
          clear hcells hlt hltz hi
          go_loopg [3, 8] c.kinds.length (fun k e3 e8 wr => ∃ (i : Nat) (acc : List Nat), i ≤ c.kinds.length ∧ k = c.kinds.length - i ∧ e8 = .int .i64 (i : Int) ∧ BSt w #[.slice a1 c.ops.length c1, .slice a2 c.fns.length c2, .slice a3 c.kinds.length c3] T e3 acc (bMany bInts (c.kinds.drop i)) wr)
          case atStart => exact ⟨0, _, Nat.zero_le _, rfl, rfl, unhide HB⟩
          case round =>
            clear HB
            obtain ⟨i, acc, hi, rfl, rfl, hst⟩ := hrel
            have hcells := hst.cells
            by_cases hlt : i < c.kinds.length
            · have hltz : (i : Int) < (c.kinds.length : Int) := by omega
              obtain ⟨l, hli⟩ : ∃ l, c.kinds[i]? = some l := ⟨_, List.getElem?_eq_getElem hlt⟩
              obtain ⟨kb, kq, ta, tc, rfl, hkb, hv⟩ := kinds_at (unhide HIN).kinds hli
              have HV : Hid (∀ w', Below w.heap.size w w' → w'.cell? ⟨kb, kq + i, none⟩ = some (.slice ta l.length tc)) := fun w' hb => (hb.cell (p := ⟨kb, _, none⟩) (by show kb < w.heap.size; omega)).trans hv.1
              have hvv := unhide HV _ hst.below
              have HI := hide ((unhide HF).kinds l (List.mem_of_getElem? hli))
              have htk := ((unhide HR).kinds l (List.mem_of_getElem? hli)).size.2
              have HTK := hide hv.2
              rw [bMany_drop bInts hli, bInts_app] at hst
              have HB := hide hst
              clear hst hv hli
              go_wp2_with (go_at_call 20; refine (put_st (unhide HB) hT (by unfold I64; omega)).mono ?_; rintro e w9 ⟨v9, acc9, rfl, hst9, _⟩; have hcells := hst9.cells; have hvv := unhide HV _ hst9.below; replace HB := hide hst9; clear hst9)
              go_loopg [3, 9] l.length (fun k e3 e9 ws => ∃ (j : Nat) (acc : List Nat), j ≤ l.length ∧ k = l.length - j ∧ e9 = .int .i64 (j : Int) ∧ BSt w #[.slice a1 c.ops.length c1, .slice a2 c.fns.length c2, .slice (some ⟨kb, kq, none⟩) c.kinds.length c3] T e3 acc (bMany putL (l.drop j) ++ bMany bInts (c.kinds.drop (i + 1))) ws)
              case atStart => exact ⟨0, _, Nat.zero_le _, rfl, rfl, unhide HB⟩
              case round =>
                clear HB hcells hvv
                obtain ⟨j, acc, hj, rfl, rfl, hst⟩ := hrel
                have hcells := hst.cells
                have hvv := unhide HV _ hst.below
                by_cases hjt : j < l.length
                · have hjz : (j : Int) < (l.length : Int) := by omega
                  obtain ⟨x, hxj⟩ : ∃ x, l[j]? = some x := ⟨_, List.getElem?_eq_getElem hjt⟩
                  obtain ⟨tb, tq, rfl, htb, t0⟩ := ints_at ((unhide HTK).same (Same.of_below hst.below hC)) hxj
                  have HIX := hide ((unhide HI) x (List.mem_of_getElem? hxj))
                  rw [bMany_drop putL hxj, List.append_assoc] at hst
                  have HB := hide hst
                  clear hst hxj
                  go_wp2_with (go_at_call 20; refine (put_st (unhide HB) hT (unhide HIX)).mono ?_; rintro e w9 ⟨v9, acc9, rfl, hst9, _⟩; have hcells := hst9.cells; have hvv := unhide HV _ hst9.below; replace HB := hide hst9; clear hst9)
                  go_roundg (l.length - (j + 1))
                  case measure => omega
                  case rel => exact ⟨j + 1, _, by omega, rfl, by go_num, unhide HB⟩
                · have hjz : ¬ (j : Int) < (l.length : Int) := by omega
                  rw [List.drop_eq_nil_of_le (by omega)] at hst
                  have HB := hide hst
                  clear hst
                  go_wp2
                  go_roundg (c.kinds.length - (i + 1))
                  case measure => omega
                  case rel => exact ⟨i + 1, _, by omega, rfl, by go_num, unhide HB⟩
            · have hltz : ¬ (i : Int) < (c.kinds.length : Int) := by omega
              rw [List.drop_eq_nil_of_le (by omega)] at hst
              have HB := hide hst
              clear hst
              go_wp2
              go_ret
              refine ⟨_, rfl, ?_, (unhide HB).below⟩
              have h1 := (unhide HB).all
              have h2 := (unhide HB).bytes
              rw [show acc = T from by rw [← h1]; exact (List.append_nil _).symm] at h2
              exact h2
end
end Go.Proofs.Ytdemnolanlfblaa
