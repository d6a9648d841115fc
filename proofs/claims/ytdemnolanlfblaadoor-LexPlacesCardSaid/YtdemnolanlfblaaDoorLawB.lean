/- The walk of the law LexPlaces, out of the scanner's contract. -/
import Derived.Test.YtdemnolanlfblaaDoorPlacesB
import Derived.Test.YtdemnolanlfblaaDoorLawA
namespace Go.Proofs.YtdemnolanlfblaaDoor
open Go.RowKit
theorem scan_ok_size (s : ByteArray) (h : (scan s).1 = 0) : s.size ≤ 6000 := by
  unfold scan at h
  split at h
  · simp at h
  · omega
set_option maxHeartbeats 8000000 in
set_option maxRecDepth 100000 in
theorem places_walk (s : ByteArray) (w : World) (hs : s.size ≤ maxLen) (hT : Lib.Utf8Tabs 0 1 w) (h2 : 2 ≤ w.heap.size) :
    Calls Tryd.prog 4 #[.string s] w fun e w' => e = .returned (.bool true) ∧ Below w.heap.size w w' := by
  have HS := scan_any ⟨#[97, 32, 47, 47, 32, 98, 10, 49, 50]⟩ w (by decide) hT h2
  rw [sample_scan] at HS
  have HA := hide HS
  have HR := hide (fun w5 h1 h3 => scan_any s w5 hs h1 h3)
  have hF0 := hide (scan_fit s)
  have hF1 := hide (scan_fault s)
  have hF2 := hide (scan_ok_size s)
  have hn := scan_len s
  have HT := hide hT
  clear hT HS
  have hs' : s.size ≤ 9223372036854775807 := hs
  clear hs
  generalize (scan s).1 = c at *
  generalize (scan s).2.1 = q at *
  generalize (scan s).2.2 = ts at *
  by_cases hc : c = 0
  · subst hc
    obtain ⟨c0, hfit, hc0s, hgapE⟩ := unhide hF0 rfl
    have HF0 := hide hfit
    have HGE := hide hgapE
    have hs6 := unhide hF2 rfl
    clear hfit hgapE hF0 hF1 hF2 hs'
    go_enter Tryd.func4, Tryd.ntmps4
    go_wp2_with (first
      | (go_at_call_of 5 (#[(97 : UInt8), 32, 47, 47, 32, 98, 10, 49, 50]); refine (unhide HA).mono ?_; rintro e w1 ⟨v1, rfl, ho1, hb1⟩; obtain ⟨a1, k1, rfl⟩ := own_toks ho1; obtain ⟨g1, rfl, hg1, x0, x1, x2, x3⟩ := own_toks_at ho1 1 _ rfl; obtain ⟨g2, hgg, hg2, y0, y1, y2, y3⟩ := own_toks_at ho1 2 _ rfl; obtain rfl : g2 = g1 := (by simpa using hgg.symm); have hgl := (ho1.lt g2 rfl).2; have x5 : w1.cell? ⟨g2, 5, none⟩ = some (.string ⟨#[59]⟩) := x1; have y10 : w1.cell? ⟨g2, 10, none⟩ = some (.int .i64 12) := y2; clear ho1 x0 x1 x2 x3 y0 y1 y2 y3 hgg hg1 hg2)
      | (go_at_call 5; refine (unhide HR _ (tabs_below h2 (unhide HT) (hb1.alloc hb1.size _)) (by simp; have := hb1.size; omega)).mono ?_; rintro e w2 ⟨v2, rfl, ho2, hb2⟩; obtain ⟨a2, k2, rfl⟩ := own_toks ho2; have HO2 := hide ho2; clear ho2; have hbf := (hb2.block w1.heap.size (by simp)).trans (heap_alloc_new w1 _); have hsz2 := hb2.size; simp only [heap_size_alloc] at hsz2; have hlt12 : w1.heap.size < w2.heap.size := (by omega); obtain ⟨b0, b1, b2, b3⟩ := two_cells hbf; have HBF := hide hbf; clear hbf))
    have hO : Hid (∀ u1 u2, ((w2.setCell ⟨w1.heap.size, 0, none⟩ u1).setCell ⟨w1.heap.size, 1, none⟩ u2).ownsRow w.heap.size 29 4 (.slice a2 ts.length k2) ts.length (tcells ts)) := fun u1 u2 => own_mono (own_set (own_set (unhide HO2) (a := ⟨w1.heap.size, 0, none⟩) (by simp) u1) (a := ⟨w1.heap.size, 1, none⟩) (by simp) u2) (by simp; have := hb1.size; omega)
    have hB : Hid (∀ u1 u2, Below w.heap.size w ((w2.setCell ⟨w1.heap.size, 0, none⟩ u1).setCell ⟨w1.heap.size, 1, none⟩ u2)) := fun u1 u2 => ((((hb1.alloc hb1.size _).trans (hb2.mono (by simp; have := hb1.size; omega))).setCell (p := ⟨w1.heap.size, 0, none⟩) hb1.size u1).setCell (p := ⟨w1.heap.size, 1, none⟩) hb1.size u2)
    clear HBF HO2 HA HR HT b0 b1 b2 b3 hb2 x5 y10
    go_loopw [5, 6] (fun a' k' wr => ∃ (k a : Nat), a' = .int .i64 a ∧ k' = .int .i64 k ∧ a ≤ s.size ∧ Hid ((k ≤ ts.length ∧ FitTo s (ts.drop k) a c0) ∨ k = ts.length + 1) ∧ k ≤ ts.length + 1 ∧ Hid (wr.ownsRow w.heap.size 29 4 (.slice a2 ts.length k2) ts.length (tcells ts)) ∧ Below w.heap.size w wr) (fun _ k' _ => ts.length + 1 - (intOf k').toNat)
    case atStart => exact ⟨0, 0, rfl, rfl, Nat.zero_le _, hide (Or.inl ⟨Nat.zero_le _, unhide HF0⟩), by omega, hide (unhide hO _ _), unhide hB _ _⟩
    case round =>
      obtain ⟨k, a, rfl, rfl, has, HF, hk, HO, hbw⟩ := hrel
      clear HF0 hO hB
      rcases Nat.lt_or_ge k ts.length with hlt | hge
      · as_aux_lemma =>
          obtain ⟨t, ht⟩ : ∃ t, ts[k]? = some t := ⟨_, List.getElem?_eq_getElem hlt⟩
          obtain ⟨g, rfl, hg, l0, l1, l2, l3⟩ := own_toks_at (unhide HO) k t ht
          have hdr : ts.drop k = t :: ts.drop (k + 1) := by
            rw [List.drop_eq_getElem_cons hlt, (List.getElem?_eq_some_iff.1 ht).2]
          obtain ⟨p, c1, htp, hap, hps, hgap, hstep, hrest⟩ : ∃ (p c1 : Nat), t.pos = (p : Int) ∧ a ≤ p ∧ p ≤ s.size ∧ Gap s a p ∧
              ((p + t.text.size ≤ s.size ∧ (s.extract p (p + t.text.size)).toList = t.text.toList ∧ c1 = p + t.text.size) ∨
               (¬ (p + t.text.size ≤ s.size ∧ (s.extract p (p + t.text.size)).toList = t.text.toList) ∧ t.text.toList = [59] ∧ (p < s.size → at' s p = 10) ∧ c1 = p)) ∧ FitTo s (ts.drop (k + 1)) c1 c0 := by
            rcases unhide HF with ⟨_, h⟩ | h
            · rw [hdr] at h
              obtain ⟨c1, ⟨p, h1, h2, h3, h4, h5⟩, h6⟩ := h
              exact ⟨p, c1, h1, h2, h3, h4, h5, h6⟩
            · omega
          rw [htp] at l3
          have hx1 : t.text.size ≤ s.size + 1 := by
            rcases hstep with ⟨h1, _, _⟩ | ⟨_, h1, _, _⟩
            · omega
            · have : t.text.size = t.text.toList.length := by rw [ByteArray.toList_eq]; rfl
              rw [h1] at this
              simp at this
              omega
          have HGAP := hide hgap
          have HREST := hide hrest
          have HSTEP := hide hstep
          clear hgap hrest hstep hdr htp ht l0 l2 HF HGE
          generalize t.text = x at *
          have hkz : (k : Int) ≤ (ts.length : Int) := by omega
          have hkz2 : (k : Int) < (ts.length : Int) := by omega
          have haz : ¬ (p : Int) < (a : Int) := by omega
          have haz2 : ¬ (s.size : Int) < (p : Int) := by omega
          go_wp2
          go_loop [8, 9] (fun b m' => ∃ m : Nat, m' = .int .i64 m ∧ a ≤ m ∧ m ≤ p ∧ b = .bool (stN s p a (m - a))) (fun _ m' => p - (intOf m').toNat)
          case atStart => exact ⟨a, rfl, Nat.le_refl _, by omega, by rw [Nat.sub_self]; rfl⟩
          case round =>
            obtain ⟨m, rfl, ham, hmto, rfl⟩ := hrel
            by_cases hmt : m < p
            · have hms : m < s.size := by omega
              have hmz : (m : Int) < (p : Int) := by omega
              have hmz2 : (m : Int) < (s.size : Int) := by omega
              have hbm : (((s[m]'hms).toNat : Nat) : Int) = (at' s m : Nat) := by rw [at_lt]
              have hok := unhide HGAP (m - a) (by omega)
              rw [show m - a + 1 = m + 1 - a from by omega, show a + (m - a) = m from by omega] at hok
              have hst1 := st_last (s := s) (to := p) ham
              by_cases h10 : at' s m = 10
              · have HST : Hid (stN s p a (m + 1 - a) = false) := by rw [hst1]; unfold nx; rw [if_pos h10]; exact hide rfl
                rw [h10] at hbm
                clear hok hst1 h10
                generalize stN s p a (m - a) = b at *
                by_cases hm1 : m + 1 < p
                · have hm1z : (m : Int) + 1 < (p : Int) := by omega
                  have hm1s : m + 1 < s.size := by omega
                  have hbm1 : (((s[m + 1]'hm1s).toNat : Nat) : Int) = (at' s (m + 1) : Nat) := by rw [at_lt]
                  go_wp2
                  go_round
                  case rel => exact ⟨m + 1, by go_num, by omega, by omega, by rw [unhide HST]⟩
                  case measure => simp [intOf]; omega
                · have hm1z : ¬ (m : Int) + 1 < (p : Int) := by omega
                  go_wp2
                  go_round
                  case rel => exact ⟨m + 1, by go_num, by omega, by omega, by rw [unhide HST]⟩
                  case measure => simp [intOf]; omega
              · have n10 : (((at' s m : Nat) : Int) == 10) = false := ne_b (by omega)
                have n10' : (((at' s m : Nat) : Int) != 10) = true := by rw [bne_iff_ne]; omega
                by_cases hsl : m + 1 < p ∧ at' s m = 47 ∧ at' s (m + 1) = 47
                · have HST : Hid (stN s p a (m + 1 - a) = true) := by rw [hst1]; unfold nx; rw [if_neg h10, if_pos hsl]; exact hide rfl
                  obtain ⟨hm1, h47, h47b⟩ := hsl
                  have hm1z : (m : Int) + 1 < (p : Int) := by omega
                  have hm1s : m + 1 < s.size := by omega
                  have hbm1 : (((s[m + 1]'hm1s).toNat : Nat) : Int) = (at' s (m + 1) : Nat) := by rw [at_lt]
                  rw [h47] at hbm n10 n10'
                  rw [h47b] at hbm1
                  clear hok hst1 h10 h47 h47b
                  generalize stN s p a (m - a) = b at *
                  go_wp2
                  go_round
                  case rel => exact ⟨m + 1, by go_num, by omega, by omega, by rw [unhide HST]⟩
                  case measure => simp [intOf]; omega
                · have hst2 : stN s p a (m + 1 - a) = stN s p a (m - a) := by rw [hst1]; unfold nx; rw [if_neg h10, if_neg hsl]
                  rw [hst2] at hok
                  have HST := hide hst2
                  clear hst1 hst2
                  cases hb : stN s p a (m - a) with
                  | true =>
                    rw [hb] at HST
                    clear hok hb
                    by_cases h47 : at' s m = 47
                    · rw [h47] at hbm n10 n10'
                      by_cases hm1 : m + 1 < p
                      · have hm1z : (m : Int) + 1 < (p : Int) := by omega
                        have hm1s : m + 1 < s.size := by omega
                        have hbm1 : (((s[m + 1]'hm1s).toNat : Nat) : Int) = (at' s (m + 1) : Nat) := by rw [at_lt]
                        have n47 : (((at' s (m + 1) : Nat) : Int) == 47) = false := ne_b (fun h => hsl ⟨hm1, h47, by omega⟩)
                        clear h47 hsl
                        go_wp2
                        go_round
                        case rel => exact ⟨m + 1, by go_num, by omega, by omega, by rw [unhide HST]⟩
                        case measure => simp [intOf]; omega
                      · have hm1z : ¬ (m : Int) + 1 < (p : Int) := by omega
                        clear h47 hsl
                        go_wp2
                        go_round
                        case rel => exact ⟨m + 1, by go_num, by omega, by omega, by rw [unhide HST]⟩
                        case measure => simp [intOf]; omega
                    · have n47 : (((at' s m : Nat) : Int) == 47) = false := ne_b (by omega)
                      clear h47 hsl
                      by_cases hm1 : m + 1 < p
                      · have hm1z : (m : Int) + 1 < (p : Int) := by omega
                        have hm1s : m + 1 < s.size := by omega
                        have hbm1 : (((s[m + 1]'hm1s).toNat : Nat) : Int) = (at' s (m + 1) : Nat) := by rw [at_lt]
                        go_wp2
                        go_round
                        case rel => exact ⟨m + 1, by go_num, by omega, by omega, by rw [unhide HST]⟩
                        case measure => simp [intOf]; omega
                      · have hm1z : ¬ (m : Int) + 1 < (p : Int) := by omega
                        go_wp2
                        go_round
                        case rel => exact ⟨m + 1, by go_num, by omega, by omega, by rw [unhide HST]⟩
                        case measure => simp [intOf]; omega
                  | false =>
                    rw [hb] at HST hok
                    clear hb
                    have hbl : at' s m = 32 ∨ at' s m = 9 ∨ at' s m = 13 := by
                      rcases hok with h | h | h | h | h
                      · cases h
                      · exact Or.inl h
                      · exact Or.inr (Or.inl h)
                      · exact Or.inr (Or.inr h)
                      · exact absurd h h10
                    clear hok hsl h10
                    rcases hbl with hb | hb | hb
                    all_goals
                      rw [hb] at hbm n10 n10'
                      clear hb
                      by_cases hm1 : m + 1 < p
                      · have hm1z : (m : Int) + 1 < (p : Int) := by omega
                        have hm1s : m + 1 < s.size := by omega
                        have hbm1 : (((s[m + 1]'hm1s).toNat : Nat) : Int) = (at' s (m + 1) : Nat) := by rw [at_lt]
                        go_wp2
                        go_round
                        case rel => exact ⟨m + 1, by go_num, by omega, by omega, by rw [unhide HST]⟩
                        case measure => simp [intOf]; omega
                      · have hm1z : ¬ (m : Int) + 1 < (p : Int) := by omega
                        go_wp2
                        go_round
                        case rel => exact ⟨m + 1, by go_num, by omega, by omega, by rw [unhide HST]⟩
                        case measure => simp [intOf]; omega
            · have hmz : ¬ (m : Int) < (p : Int) := by omega
              rcases unhide HSTEP with ⟨hm1, hm2, hcc⟩ | ⟨hno, h59, hnl, hcc⟩
              · have hfit : (p : Int) + (x.size : Int) ≤ (s.size : Int) := by omega
                have hlow : (p : Int) ≤ (p : Int) + (x.size : Int) := by omega
                have heq : ((s.extract p (p + x.size)).toList == x.toList) = true := beq_iff_eq.2 hm2
                rw [hcc] at HREST
                clear hm2 HSTEP hcc
                go_wp2
                go_quiet (fail)
                go_wp2
                go_roundw
                case rel => exact ⟨k + 1, p + x.size, by go_num, by go_num, by omega, hide (Or.inl ⟨by omega, unhide HREST⟩), by omega, hide (unhide HO), ⟨hbw.os, hbw.tape, hbw.output, hbw.size, hbw.block⟩⟩
                case measure => simp [intOf]; omega
              · have h59b : (x.toList == [59]) = true := beq_iff_eq.2 h59
                rw [hcc] at HREST
                clear HSTEP hcc h59
                by_cases hf : p + x.size ≤ s.size
                · have hfit : (p : Int) + (x.size : Int) ≤ (s.size : Int) := by omega
                  have hlow : (p : Int) ≤ (p : Int) + (x.size : Int) := by omega
                  have heq : ((s.extract p (p + x.size)).toList == x.toList) = false := ne_b (fun h => hno ⟨hf, h⟩)
                  clear hno
                  by_cases hp1 : p < s.size
                  · have hp1z : (p : Int) < (s.size : Int) := by omega
                    have hbp : (((s[p]'hp1).toNat : Nat) : Int) = 10 := by rw [at_lt, hnl hp1]; rfl
                    clear hnl
                    go_wp2
                    go_quiet (fail)
                    go_wp2
                    go_roundw
                    case rel => exact ⟨k + 1, p, by go_num, by go_num, by omega, hide (Or.inl ⟨by omega, unhide HREST⟩), by omega, hide (unhide HO), ⟨hbw.os, hbw.tape, hbw.output, hbw.size, hbw.block⟩⟩
                    case measure => simp [intOf]; omega
                  · have hp1z : ¬ (p : Int) < (s.size : Int) := by omega
                    clear hnl
                    go_wp2
                    go_quiet (fail)
                    go_wp2
                    go_roundw
                    case rel => exact ⟨k + 1, p, by go_num, by go_num, by omega, hide (Or.inl ⟨by omega, unhide HREST⟩), by omega, hide (unhide HO), ⟨hbw.os, hbw.tape, hbw.output, hbw.size, hbw.block⟩⟩
                    case measure => simp [intOf]; omega
                · have hfit : ¬ (p : Int) + (x.size : Int) ≤ (s.size : Int) := by omega
                  clear hno
                  by_cases hp1 : p < s.size
                  · have hp1z : (p : Int) < (s.size : Int) := by omega
                    have hbp : (((s[p]'hp1).toNat : Nat) : Int) = 10 := by rw [at_lt, hnl hp1]; rfl
                    clear hnl
                    go_wp2
                    have hfd : decide ((p : Int) + (x.size : Int) ≤ (s.size : Int)) = false := decide_eq_false (by omega)
                    go_quiet (fail)
                    go_wp2
                    go_roundw
                    case rel => exact ⟨k + 1, p, by go_num, by go_num, by omega, hide (Or.inl ⟨by omega, unhide HREST⟩), by omega, hide (unhide HO), ⟨hbw.os, hbw.tape, hbw.output, hbw.size, hbw.block⟩⟩
                    case measure => simp [intOf]; omega
                  · have hp1z : ¬ (p : Int) < (s.size : Int) := by omega
                    clear hnl
                    go_wp2
                    have hfd : decide ((p : Int) + (x.size : Int) ≤ (s.size : Int)) = false := decide_eq_false (by omega)
                    go_quiet (fail)
                    go_wp2
                    go_roundw
                    case rel => exact ⟨k + 1, p, by go_num, by go_num, by omega, hide (Or.inl ⟨by omega, unhide HREST⟩), by omega, hide (unhide HO), ⟨hbw.os, hbw.tape, hbw.output, hbw.size, hbw.block⟩⟩
                    case measure => simp [intOf]; omega
      · rcases Nat.lt_or_ge ts.length k with hgt | hle
        · have hkz : ¬ (k : Int) ≤ (ts.length : Int) := by omega
          go_wp2
          go_ret
          exact ⟨rfl, hbw⟩
        · as_aux_lemma =>
            have hke : k = ts.length := by omega
            have HGAP : Hid (Gap s a s.size) := by
              rcases unhide HF with ⟨_, h⟩ | h
              · rw [hke, List.drop_length] at h
                have : a = c0 := h
                subst this
                exact HGE
              · omega
            subst hke
            clear HF
            have hkz : (ts.length : Int) ≤ (ts.length : Int) := by omega
            have hkz2 : ¬ (ts.length : Int) < (ts.length : Int) := by omega
            have haz : ¬ (s.size : Int) < (a : Int) := by omega
            have haz2 : ¬ (s.size : Int) < (s.size : Int) := by omega
            go_wp2
            go_loop [8, 9] (fun b m' => ∃ m : Nat, m' = .int .i64 m ∧ a ≤ m ∧ m ≤ s.size ∧ b = .bool (stN s s.size a (m - a))) (fun _ m' => s.size - (intOf m').toNat)
            case atStart => exact ⟨a, rfl, Nat.le_refl _, by omega, by rw [Nat.sub_self]; rfl⟩
            case round =>
              obtain ⟨m, rfl, ham, hmto, rfl⟩ := hrel
              by_cases hmt : m < s.size
              · have hms : m < s.size := by omega
                have hmz : (m : Int) < (s.size : Int) := by omega
                have hmz2 : (m : Int) < (s.size : Int) := by omega
                have hbm : (((s[m]'hms).toNat : Nat) : Int) = (at' s m : Nat) := by rw [at_lt]
                have hok := unhide HGAP (m - a) (by omega)
                rw [show m - a + 1 = m + 1 - a from by omega, show a + (m - a) = m from by omega] at hok
                have hst1 := st_last (s := s) (to := s.size) ham
                by_cases h10 : at' s m = 10
                · have HST : Hid (stN s s.size a (m + 1 - a) = false) := by rw [hst1]; unfold nx; rw [if_pos h10]; exact hide rfl
                  rw [h10] at hbm
                  clear hok hst1 h10
                  generalize stN s s.size a (m - a) = b at *
                  by_cases hm1 : m + 1 < s.size
                  · have hm1z : (m : Int) + 1 < (s.size : Int) := by omega
                    have hm1s : m + 1 < s.size := by omega
                    have hbm1 : (((s[m + 1]'hm1s).toNat : Nat) : Int) = (at' s (m + 1) : Nat) := by rw [at_lt]
                    go_wp2
                    go_round
                    case rel => exact ⟨m + 1, by go_num, by omega, by omega, by rw [unhide HST]⟩
                    case measure => simp [intOf]; omega
                  · have hm1z : ¬ (m : Int) + 1 < (s.size : Int) := by omega
                    go_wp2
                    go_round
                    case rel => exact ⟨m + 1, by go_num, by omega, by omega, by rw [unhide HST]⟩
                    case measure => simp [intOf]; omega
                · have n10 : (((at' s m : Nat) : Int) == 10) = false := ne_b (by omega)
                  have n10' : (((at' s m : Nat) : Int) != 10) = true := by rw [bne_iff_ne]; omega
                  by_cases hsl : m + 1 < s.size ∧ at' s m = 47 ∧ at' s (m + 1) = 47
                  · have HST : Hid (stN s s.size a (m + 1 - a) = true) := by rw [hst1]; unfold nx; rw [if_neg h10, if_pos hsl]; exact hide rfl
                    obtain ⟨hm1, h47, h47b⟩ := hsl
                    have hm1z : (m : Int) + 1 < (s.size : Int) := by omega
                    have hm1s : m + 1 < s.size := by omega
                    have hbm1 : (((s[m + 1]'hm1s).toNat : Nat) : Int) = (at' s (m + 1) : Nat) := by rw [at_lt]
                    rw [h47] at hbm n10 n10'
                    rw [h47b] at hbm1
                    clear hok hst1 h10 h47 h47b
                    generalize stN s s.size a (m - a) = b at *
                    go_wp2
                    go_round
                    case rel => exact ⟨m + 1, by go_num, by omega, by omega, by rw [unhide HST]⟩
                    case measure => simp [intOf]; omega
                  · have hst2 : stN s s.size a (m + 1 - a) = stN s s.size a (m - a) := by rw [hst1]; unfold nx; rw [if_neg h10, if_neg hsl]
                    rw [hst2] at hok
                    have HST := hide hst2
                    clear hst1 hst2
                    cases hb : stN s s.size a (m - a) with
                    | true =>
                      rw [hb] at HST
                      clear hok hb
                      by_cases h47 : at' s m = 47
                      · rw [h47] at hbm n10 n10'
                        by_cases hm1 : m + 1 < s.size
                        · have hm1z : (m : Int) + 1 < (s.size : Int) := by omega
                          have hm1s : m + 1 < s.size := by omega
                          have hbm1 : (((s[m + 1]'hm1s).toNat : Nat) : Int) = (at' s (m + 1) : Nat) := by rw [at_lt]
                          have n47 : (((at' s (m + 1) : Nat) : Int) == 47) = false := ne_b (fun h => hsl ⟨hm1, h47, by omega⟩)
                          clear h47 hsl
                          go_wp2
                          go_round
                          case rel => exact ⟨m + 1, by go_num, by omega, by omega, by rw [unhide HST]⟩
                          case measure => simp [intOf]; omega
                        · have hm1z : ¬ (m : Int) + 1 < (s.size : Int) := by omega
                          clear h47 hsl
                          go_wp2
                          go_round
                          case rel => exact ⟨m + 1, by go_num, by omega, by omega, by rw [unhide HST]⟩
                          case measure => simp [intOf]; omega
                      · have n47 : (((at' s m : Nat) : Int) == 47) = false := ne_b (by omega)
                        clear h47 hsl
                        by_cases hm1 : m + 1 < s.size
                        · have hm1z : (m : Int) + 1 < (s.size : Int) := by omega
                          have hm1s : m + 1 < s.size := by omega
                          have hbm1 : (((s[m + 1]'hm1s).toNat : Nat) : Int) = (at' s (m + 1) : Nat) := by rw [at_lt]
                          go_wp2
                          go_round
                          case rel => exact ⟨m + 1, by go_num, by omega, by omega, by rw [unhide HST]⟩
                          case measure => simp [intOf]; omega
                        · have hm1z : ¬ (m : Int) + 1 < (s.size : Int) := by omega
                          go_wp2
                          go_round
                          case rel => exact ⟨m + 1, by go_num, by omega, by omega, by rw [unhide HST]⟩
                          case measure => simp [intOf]; omega
                    | false =>
                      rw [hb] at HST hok
                      clear hb
                      have hbl : at' s m = 32 ∨ at' s m = 9 ∨ at' s m = 13 := by
                        rcases hok with h | h | h | h | h
                        · cases h
                        · exact Or.inl h
                        · exact Or.inr (Or.inl h)
                        · exact Or.inr (Or.inr h)
                        · exact absurd h h10
                      clear hok hsl h10
                      rcases hbl with hb | hb | hb
                      all_goals
                        rw [hb] at hbm n10 n10'
                        clear hb
                        by_cases hm1 : m + 1 < s.size
                        · have hm1z : (m : Int) + 1 < (s.size : Int) := by omega
                          have hm1s : m + 1 < s.size := by omega
                          have hbm1 : (((s[m + 1]'hm1s).toNat : Nat) : Int) = (at' s (m + 1) : Nat) := by rw [at_lt]
                          go_wp2
                          go_round
                          case rel => exact ⟨m + 1, by go_num, by omega, by omega, by rw [unhide HST]⟩
                          case measure => simp [intOf]; omega
                        · have hm1z : ¬ (m : Int) + 1 < (s.size : Int) := by omega
                          go_wp2
                          go_round
                          case rel => exact ⟨m + 1, by go_num, by omega, by omega, by rw [unhide HST]⟩
                          case measure => simp [intOf]; omega
              · have hmz : ¬ (m : Int) < (s.size : Int) := by omega
                go_wp2
                go_roundw
                case rel => exact ⟨ts.length + 1, s.size, by go_num, by go_num, Nat.le_refl _, hide (Or.inr rfl), by omega, HO, hbw⟩
                case measure => simp [intOf]
  · have hcb : (c != 0) = true := by rw [bne_iff_ne]; exact hc
    clear hF2
    go_enter Tryd.func4, Tryd.ntmps4
    go_wp2_with (first
      | (go_at_call_of 5 (#[(97 : UInt8), 32, 47, 47, 32, 98, 10, 49, 50]); refine (unhide HA).mono ?_; rintro e w1 ⟨v1, rfl, ho1, hb1⟩; obtain ⟨a1, k1, rfl⟩ := own_toks ho1; obtain ⟨g1, rfl, hg1, x0, x1, x2, x3⟩ := own_toks_at ho1 1 _ rfl; obtain ⟨g2, hgg, hg2, y0, y1, y2, y3⟩ := own_toks_at ho1 2 _ rfl; obtain rfl : g2 = g1 := (by simpa using hgg.symm); have hgl := (ho1.lt g2 rfl).2; have x5 : w1.cell? ⟨g2, 5, none⟩ = some (.string ⟨#[59]⟩) := x1; have y10 : w1.cell? ⟨g2, 10, none⟩ = some (.int .i64 12) := y2; clear ho1 x0 x1 x2 x3 y0 y1 y2 y3 hgg hg1 hg2)
      | (go_at_call 5; refine (unhide HR _ (tabs_below h2 (unhide HT) (hb1.alloc hb1.size _)) (by simp; have := hb1.size; omega)).mono ?_; rintro e w2 ⟨v2, rfl, ho2, hb2⟩; obtain ⟨a2, k2, rfl⟩ := own_toks ho2; have HO2 := hide ho2; clear ho2; have hbf := (hb2.block w1.heap.size (by simp)).trans (heap_alloc_new w1 _); have hsz2 := hb2.size; simp only [heap_size_alloc] at hsz2; have hlt12 : w1.heap.size < w2.heap.size := (by omega); obtain ⟨b0, b1, b2, b3⟩ := two_cells hbf; have HBF := hide hbf; clear hbf))
    go_ret
    refine ⟨ret_bool ?_, ?_⟩
    · have := unhide hF1 hc
      rw [this]; rfl
    · exact ((((hb1.alloc hb1.size _).trans (hb2.mono (by simp; have := hb1.size; omega))).setCell (p := ⟨w1.heap.size, 0, none⟩) hb1.size _).setCell (p := ⟨w1.heap.size, 1, none⟩) hb1.size _)
end Go.Proofs.YtdemnolanlfblaaDoor
