import Derived.Test.YtdemnolanlfblaaZKSelB
set_option linter.all false
namespace Go.Proofs.Ytdemnolanlfblaa
section
open Go.RowKit
set_option maxRecDepth 100000 in
set_option maxHeartbeats 16000000 in
theorem select_any {w : World} {B : Nat} {A : Option Addr} {C n : Nat} {bh : List OpD} (hO : OpsIn B w (.slice A bh.length C) bh) (hB : B ≤ w.heap.size) (hC : bh.length ≤ C) (hl : bh.length ≤ 8000) (hn : n ≤ 1200) (hA : ∀ o ∈ bh, o.d = 29 → 0 ≤ o.a ∧ o.a ≤ 1) :
    Calls Try.prog 60 #[.slice A bh.length C, .int .i64 (n : Int)] w (StopPost (selD bh n) w) := by
  have HB1 : Hid (∀ o, Below w.heap.size w (w.alloc o)) := fun o => (Below.refl _ _).alloc (Nat.le_refl _) o
  by_cases hlen : bh.length < n
  · have hz : (bh.length : Int) < (n : Int) := by omega
    have hR : selD bh n = ⟨true, 0, 0, []⟩ := by simp [selD, hlen]
    rw [hR]
    clear hO hR
    go_enter Try.func60, Try.ntmps60
    go_wp2
    refine bodyPost_ret (v := .agg #[.bool true, .int .i64 0, .int .i64 0, .slice none 0 0]) (by simp [results, Try.results60, go_sem]) rfl ?_
    exact stop_end ⟨true, 0, 0, []⟩ _ (World.ownsRow_nil _ _ _ _) (unhide HB1 _)
  have hz : ¬ (bh.length : Int) < (n : Int) := by omega
  have hsl := fun w => run_prefix (A := A) (n := bh.length) (C := C) (m := n) (by omega) w
  have HO := hide hO
  have HA := hide hA
  clear hO hA
  go_enter Try.func60, Try.ntmps60
  go_wp2
  go_loopg [21, 6] n (fun r iv ev wr => ∃ i : Nat, i ≤ n ∧ r = n - i ∧ iv = .int .i64 (i : Int) ∧ ev = .int .i64 (elses (bh.take i) : Int) ∧ SB w false (casesTake (bh.take i)) (.slice none 0 0) wr ∧ ∀ o ∈ bh.take i, o.d = 29 ∨ o.d = 30)
  case atStart => exact ⟨0, Nat.zero_le _, rfl, rfl, rfl, ⟨by rw [Below.heap_alloc _ _ _ (by rw [heap_size_alloc]; omega)]; exact heap_alloc_new w _, by have := heap_alloc_new (w.alloc (.cells #[.bool false, .int .i64 0, .int .i64 0, .slice none 0 0] 90)) (.cells #[.bool false, .int .i64 0, .int .i64 0, .slice none 0 0] 90); rw [heap_size_alloc] at this; exact this, (unhide HB1 _).alloc (by rw [heap_size_alloc]; omega) _⟩, by simp⟩
  case round =>
    obtain ⟨i, hi, rfl, rfl, rfl, hsb, hall⟩ := hrel
    have HSB := hide hsb
    have HALL := hide hall
    obtain ⟨x0, x1, x2, x3, xf⟩ := cells4f hsb.box
    obtain ⟨r0, r1, r2, r3, rf⟩ := cells4f hsb.res
    have xf1 := xf 1
    have rf0 := rf 0
    have rf1 := rf 1
    have rf2 := rf 2
    have rf3 := rf 3
    have hlt0 : w.heap.size + 1 < wr.heap.size := heap_lt hsb.box
    have hlt1 : w.heap.size < wr.heap.size := by omega
    have hbd0 := casesTake_le (l := bh.take i) (fun o ho => unhide HA o (List.mem_of_mem_take ho))
    have hel := elses_le (bh.take i)
    have htl : (bh.take i).length = i := by simp; omega
    rw [htl] at hbd0 hel
    have hbd := hbd0.1
    have hbe := hbd0.2
    clear hbd0
    clear hsb hall xf rf htl
    have HBA : Hid (∀ x, Below wr.heap.size wr (wr.alloc x)) := fun x => (Below.refl _ _).alloc (Nat.le_refl _) x
    by_cases hlt : i < n
    · have hltz : (i : Int) < (n : Int) := by omega
      obtain ⟨o, hoi⟩ : ∃ o, bh[i]? = some o := ⟨_, List.getElem?_eq_getElem (by omega)⟩
      obtain ⟨ob, oq, rfl, hob, v0, v1, v2⟩ := ops_at ((unhide HO).same (Same.of_below (unhide HSB).below hB)) hoi
      have hobz : ob < wr.heap.size := by omega
      have HN : Hid (casesTake (bh.take (i + 1)) = casesTake (bh.take i) + caseTakes o) := by show _ = _; rw [take_snoc' hoi, casesTake_snoc]
      have HE : Hid (elses (bh.take (i + 1)) = elses (bh.take i) + (if o.d = 30 then 1 else 0)) := by show _ = _; rw [take_snoc' hoi, elses_snoc]
      have HNX : Hid (o.d = 29 ∨ o.d = 30 → ∀ p ∈ bh.take (i + 1), p.d = 29 ∨ p.d = 30) := by
        intro h p hp
        rw [take_snoc' hoi] at hp
        simp only [List.mem_append, List.mem_singleton] at hp
        rcases hp with hp | rfl
        · exact unhide HALL p hp
        · exact h
      have ha := unhide HA o (List.mem_of_getElem? hoi)
      have HNO : Hid (o.d ≠ 29 → o.d ≠ 30 → selD bh n = ⟨true, 0, 0, []⟩) := by
        intro h1 h2
        show _ = _
        have hany : (bh.take n).any (fun o => decide (o.d ≠ 29 ∧ o.d ≠ 30)) = true := by
          rw [List.any_eq_true]
          exact ⟨o, List.mem_of_getElem? (i := i) (by rw [List.getElem?_take_of_lt hlt]; exact hoi), by simp [h1, h2]⟩
        simp only [selD, if_neg hlen, hany, if_true]
      clear hoi HALL
      generalize elses (bh.take i) = ne at *
      generalize casesTake (bh.take i) = nc at *
      obtain ⟨od, oa, obb⟩ := o
      by_cases h29 : od = 29
      · subst h29
        have ha1 := (ha rfl).1
        have ha2 := (ha rfl).2
        have HN2 : Hid (casesTake (bh.take (i + 1)) = nc + (1 + oa)) := by show _ = _; rw [unhide HN]; rfl
        have HE2 : Hid (elses (bh.take (i + 1)) = ne) := by show _ = _; rw [unhide HE]; rfl
        clear ha HN HE
        go_wp2
        go_roundg (n - (i + 1))
        case measure => omega
        case rel => exact ⟨i + 1, by omega, rfl, by go_num, by rw [unhide HE2], by rw [unhide HN2, show wrap64 (nc + wrap64 (1 + oa)) = nc + (1 + oa) by unfold wrap64; omega]; exact (unhide HSB).needs.step (balloc1 _ _), unhide HNX (by simp)⟩
      · have h29' : (od == 29) = false := ne_b h29
        by_cases h30 : od = 30
        · subst h30
          have HN2 : Hid (casesTake (bh.take (i + 1)) = nc) := by show _ = _; rw [unhide HN]; simp [caseTakes]
          have HE2 : Hid (elses (bh.take (i + 1)) = ne + 1) := by show _ = _; rw [unhide HE]; rfl
          clear ha HN HE
          go_wp2
          go_roundg (n - (i + 1))
          case measure => omega
          case rel => exact ⟨i + 1, by omega, rfl, by go_num, by rw [unhide HE2]; go_num, by rw [unhide HN2]; exact (unhide HSB).step (unhide HBA _), unhide HNX (by simp)⟩
        · have h30' : (od == 30) = false := ne_b h30
          have hR := unhide HNO h29 h30
          rw [hR]
          clear ha HN HE HNX HNO hR h29 h30
          go_wp2
          refine bodyPost_ret (v := .agg #[.bool true, .int .i64 0, .int .i64 0, .slice none 0 0]) (by simp [results, Try.results60, go_sem, *]) rfl ?_
          exact stop_end ⟨true, 0, 0, []⟩ _ (World.ownsRow_nil _ _ _ _) ((below_set (below_set (below_set (below_set (unhide HSB).below (by omega)) (by omega)) (by omega)) (by omega)).trans ((balloc1 _ _).mono (by have := (unhide HSB).below.size; simpa using this)))
    · have hltz : ¬ (i : Int) < (n : Int) := by omega
      obtain rfl : i = n := by omega
      have hsel : selD bh i = ⟨decide (1 < elses (bh.take i)), casesTake (bh.take i), 0, (bh.take i).map fun o => (o.b, recvN o - casesTake (bh.take i))⟩ := by
        have hany : (bh.take i).any (fun o => decide (o.d ≠ 29 ∧ o.d ≠ 30)) = false := by
          rw [List.any_eq_false]
          intro o ho
          have := unhide HALL o ho
          simp
          intro h29
          rcases this with h | h
          · exact absurd h h29
          · exact h
        simp only [selD, if_neg hlen, hany]
        rfl
      have HSEL := hide hsel
      clear hsel HALL hlt
      obtain ⟨wo, rfl⟩ : ∃ x, x = wr := ⟨wr, rfl⟩
      have xf0 := (cells4f (unhide HSB).box).2.2.2.2 0
      have HL : Hid ((bh.take i).length = i) := by show _ = _; simp; omega
      obtain ⟨N, hN⟩ : ∃ N, N = casesTake (bh.take i) := ⟨_, rfl⟩
      obtain ⟨ne, hne⟩ : ∃ ne, ne = elses (bh.take i) := ⟨_, rfl⟩
      obtain ⟨ws, hws⟩ : ∃ ws, ws = (bh.take i).map fun o => (o.b, recvN o - N) := ⟨_, rfl⟩
      rw [← hN, ← hne, ← hws] at HSEL
      rw [← hne]
      rw [← hN] at x1 hbd hbe HSB
      rw [← hne] at hel
      have HWS := hide hws
      have hwl : ws.length = i := by rw [hws, List.length_map, unhide HL]
      clear hN hne hws
      have hsh : decide ((1 : Int) < (ne : Int)) = decide (1 < ne) := by
        by_cases h : 1 < ne
        · have h' : (1 : Int) < (ne : Int) := by omega
          simp [h, h']
        · have h' : ¬ (1 : Int) < (ne : Int) := by omega
          simp [h, h']
      have HSH := hide hsh
      clear hsh
      go_wp2
      go_loopg [49] i (fun r jv wr => ∃ (j : Nat) (wv : Value), j ≤ i ∧ r = i - j ∧ jv = .int .i64 (j : Int) ∧ SB w (decide ((1 : Int) < (ne : Int))) N wv wr ∧ wr.ownsRow (w.heap.size + 2) 95 2 wv j (stepVals (ws.take j)))
      case atStart => exact ⟨0, .slice none 0 0, Nat.zero_le _, rfl, rfl, (unhide HSB).shut, World.ownsRow_nil _ _ _ _⟩
      case round =>
        clear x0 x1 x2 x3 r0 r1 r2 r3 rf0 rf1 rf2 rf3 xf1 xf0 HBA
        obtain ⟨j, wv, hj, rfl, rfl, hsb, hrow⟩ := hrel
        obtain ⟨x0, x1, x2, x3, xf⟩ := cells4f hsb.box
        obtain ⟨r0, r1, r2, r3, rf⟩ := cells4f hsb.res
        have rf0 := rf 0
        have rf1 := rf 1
        have rf2 := rf 2
        have rf3 := rf 3
        have hlt2 : w.heap.size + 1 < wr.heap.size := heap_lt hsb.box
        have hlt3 : w.heap.size < wr.heap.size := by omega
        have hrl := hrow.lt
        obtain ⟨wa, wc, rfl⟩ := own_form hrow
        have HSB2 := hide hsb
        have HROW := hide hrow
        have HRL := hide hrl
        clear hsb hrow xf rf hrl HSB
        by_cases hlt : j < i
        · have hltz2 : (j : Int) < (i : Int) := by omega
          obtain ⟨o, hoi⟩ : ∃ o, bh[j]? = some o := ⟨_, List.getElem?_eq_getElem (by omega)⟩
          obtain ⟨ob, oq, rfl, hob, v0, v1, v2⟩ := ops_at ((unhide HO).same (Same.of_below (unhide HSB2).below hB)) hoi
          have hobz : ob < wr.heap.size := by have := (unhide HSB2).below.size; omega
          have HTW : Hid (stepVals (ws.take (j + 1)) = stepVals (ws.take j) ++ [.int .i64 o.b, .int .i64 (recvN o - N)]) := by
            have hwj : ws[j]? = some (o.b, recvN o - N) := by
              rw [unhide HWS, List.getElem?_map, List.getElem?_take_of_lt hlt, hoi]
              rfl
            show _ = _
            obtain ⟨h1, h2⟩ := List.getElem?_eq_some_iff.1 hwj
            rw [← List.take_append_getElem h1, h2]
            simp [stepVals]
          have hsm : Hid (IntKind.i64.wrap (recvN o - N) = recvN o - N) := by
            show _ = _
            rw [IntKind.wrap_i64]
            have : 0 ≤ recvN o ∧ recvN o ≤ 1 := by unfold recvN; split <;> omega
            omega
          clear hoi
          go_wp2
          rename_i K HK
          refine seregion o N (.slice wa j wc) (decide ((1 : Int) < (ne : Int))) j (stepVals (ws.take j)) w wr (by kernel_rfl) (by kernel_rfl) (by rfl) (by rfl) ?_ ?_ ?_
          · intro p hp
            simp only [sebase, List.mem_cons, List.not_mem_nil, or_false] at hp
            rcases hp with rfl | rfl <;> rfl
          · refine ⟨heap_alloc_new wr _, by show _ ≤ (World.alloc _ _).heap.size; rw [heap_size_alloc]; omega, by omega, by omega, fun g hg => ⟨(unhide HRL g hg).2, (unhide HRL g hg).1⟩, ?_, unhide hsm, fun _ => ⟨((unhide HSB2).step (balloc1 _ _)).step (below_drew _)⟩, fun _ => own_below (own_below (unhide HROW) (balloc1 _ _)) (below_drew _), fun e => by cases e⟩
            exact (cells4f (((unhide HSB2).step (balloc1 wr _)).step (below_drew _)).box).2.1
          · intro a' w' h1 h2 h3 h4
            obtain ⟨v, hsb3, hrow3⟩ := h4.fin rfl
            have hsz3 := h4.size
            refine HK _ _ ?_
            have ha' := act_lit 68 a' h2 h1
            rw [show List.range 68 = [0, 1, 2, 3, 4, 5, 6, 7, 8, 9, 10, 11, 12, 13, 14, 15, 16, 17, 18, 19, 20, 21, 22, 23, 24, 25, 26, 27, 28, 29, 30, 31, 32, 33, 34, 35, 36, 37, 38, 39, 40, 41, 42, 43, 44, 45, 46, 47, 48, 49, 50, 51, 52, 53, 54, 55, 56, 57, 58, 59, 60, 61, 62, 63, 64, 65, 66, 67] from rfl] at ha'
            simp only [List.map_cons, List.map_nil] at ha'
            rw [h3 0 (by decide), h3 1 (by decide), h3 2 (by decide), h3 3 (by decide), h3 4 (by decide), h3 5 (by decide), h3 6 (by decide), h3 7 (by decide), h3 8 (by decide), h3 9 (by decide), h3 10 (by decide), h3 11 (by decide), h3 12 (by decide), h3 13 (by decide), h3 14 (by decide), h3 15 (by decide), h3 16 (by decide), h3 17 (by decide), h3 18 (by decide), h3 19 (by decide), h3 20 (by decide), h3 21 (by decide), h3 22 (by decide), h3 23 (by decide), h3 24 (by decide), h3 25 (by decide), h3 26 (by decide), h3 27 (by decide), h3 28 (by decide), h3 29 (by decide), h3 30 (by decide), h3 31 (by decide), h3 32 (by decide), h3 33 (by decide), h3 34 (by decide), h3 35 (by decide), h3 36 (by decide), h3 37 (by decide), h3 38 (by decide), h3 39 (by decide), h3 40 (by decide), h3 41 (by decide), h3 42 (by decide), h3 43 (by decide), h3 44 (by decide), h3 45 (by decide), h3 46 (by decide), h3 47 (by decide), h3 48 (by decide), h3 49 (by decide), h3 50 (by decide), h3 51 (by decide), h3 52 (by decide), h3 66 (by decide), h3 67 (by decide)] at ha'
            generalize sl a' 53 = v53 at ha'
            generalize sl a' 54 = v54 at ha'
            generalize sl a' 55 = v55 at ha'
            generalize sl a' 56 = v56 at ha'
            generalize sl a' 57 = v57 at ha'
            generalize sl a' 58 = v58 at ha'
            generalize sl a' 59 = v59 at ha'
            generalize sl a' 60 = v60 at ha'
            generalize sl a' 61 = v61 at ha'
            generalize sl a' 62 = v62 at ha'
            generalize sl a' 63 = v63 at ha'
            generalize sl a' 64 = v64 at ha'
            generalize sl a' 65 = v65 at ha'
            simp [sl, Act.eval] at ha'
            subst ha'
            clear h1 h2 h3 h4 HK
            go_wp2
            go_roundg (i - (j + 1))
            case measure => omega
            case rel => exact ⟨j + 1, v, by omega, rfl, by go_num, hsb3, by rw [unhide HTW]; exact hrow3⟩
        · have hltz2 : ¬ (j : Int) < (i : Int) := by omega
          obtain rfl : j = i := by omega
          have hfull : ws.take j = ws := List.take_of_length_le (by omega)
          rw [hfull] at HROW
          have hwl2 := hwl
          go_wp2
          refine bodyPost_ret (v := .agg #[.bool (decide ((1 : Int) < (ne : Int))), .int .i64 N, .int .i64 0, .slice wa j wc]) (by simp [results, Try.results60, go_sem, *]) rfl ?_
          rw [unhide HSH, unhide HSEL]
          refine stop_end ⟨decide (1 < ne), N, 0, ws⟩ _ ?_ (below_set (below_set (below_set (below_set (unhide HSB2).below (Nat.le_refl _)) (Nat.le_refl _)) (Nat.le_refl _)) (Nat.le_refl _))
          unfold StepsAt
          rw [hwl]
          have hlo : ∀ x : Nat, (⟨w.heap.size, x, none⟩ : Addr).block < w.heap.size + 2 := fun x => by show w.heap.size < _; omega
          exact own_mono (ownsRow_setCell_below (ownsRow_setCell_below (ownsRow_setCell_below (ownsRow_setCell_below (unhide HROW) (hlo _) _) (hlo _) _) (hlo _) _) (hlo _) _) (by omega)
end
end Go.Proofs.Ytdemnolanlfblaa
