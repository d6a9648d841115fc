import Derived.Deep.LoopGhost
import Derived.Test.YtdemnolanlfblaaZCLead
set_option linter.all false
namespace Go.Proofs.Ytdemnolanlfblaa
section
open Go.RowKit
def chooseS (c : CodeD) (k n : Nat) (d : Int) (s : WS) : WS :=
  if selBad c k n d then s.ill else leadsS s ((cases c k n).map (caseOut (d - casesTake (cases c k n))))
theorem cases_get {c : CodeD} {k n j : Nat} (hj : j < n) : (cases c k n)[j]? = c.ops[k + 1 + j]? := by
  unfold cases
  rw [List.getElem?_take, if_pos hj, List.getElem?_drop]
theorem cases_len (c : CodeD) (k n : Nat) : (cases c k n).length = min n (c.ops.length - (k + 1)) := by simp [cases]
theorem casesTake_app (a b : List OpD) : casesTake (a ++ b) = casesTake a + casesTake b := by
  induction a with
  | nil => simp [casesTake]
  | cons x r ih => simp [casesTake, ih]; omega
theorem elses_app (a b : List OpD) : elses (a ++ b) = elses a + elses b := by
  induction a with
  | nil => simp [elses]
  | cons x r ih => simp [elses, ih]; omega
theorem elses_le (l : List OpD) : elses l ≤ l.length := by
  induction l with
  | nil => simp [elses]
  | cons x r ih => simp only [elses, List.length_cons]; split <;> omega
theorem take_snoc' {α : Type} {l : List α} {j : Nat} {x : α} (h : l[j]? = some x) : l.take (j + 1) = l.take j ++ [x] := by
  obtain ⟨h1, h2⟩ := List.getElem?_eq_some_iff.1 h
  rw [List.take_succ_eq_append_getElem h1, h2]
theorem casesTake_bd {c : CodeD} (hok : ∀ o ∈ c.ops, OpOk c o) (l : List OpD) (hl : ∀ o ∈ l, o ∈ c.ops) : 0 ≤ casesTake l ∧ casesTake l ≤ 2 * (l.length : Int) := by
  induction l with
  | nil => simp [casesTake]
  | cons x r ih =>
    have hx := hok x (hl x (by simp))
    have hi := ih (fun o ho => hl o (by simp [ho]))
    have h2 : 0 ≤ caseTakes x ∧ caseTakes x ≤ 2 := by
      unfold caseTakes
      split
      · rename_i h29
        unfold OpOk rangesB at hx
        simp [aOk, h29, inB] at hx
        omega
      · omega
    simp only [casesTake, List.length_cons]
    omega
theorem leadsS_snoc (s : WS) (l : List (Nat × Int)) (p : Nat × Int) : leadsS s (l ++ [p]) = leadS (leadsS s l) p.1 p.2 := by simp [leadsS]
theorem lead_any' (p g B N : Nat) (a1 : Option Addr) (c1 cap : Nat) (fv kv rv : Value) (s : WS) (w : World) (hst : WSt p g B (.slice a1 N c1) fv kv cap s rv w) (hw : WOk N s) (hn : N ≤ 8000) (k : Nat) (x : Int) (hx : x = k) (d : Int) :
    Calls Try.prog 33 #[.pointer (some ⟨p, 0, none⟩), .int .i64 x, .int .i64 d] w fun e w' => e = .returned (.tuple #[]) ∧ (∃ rv', WSt p g B (.slice a1 N c1) fv kv cap (leadS s k d) rv' w') ∧ Below p w w' := by
  have h1 := hw.len
  have h2 := hw.sum
  subst hx h1
  exact lead_any p g B a1 c1 cap fv kv rv s w hst hn (by omega) k d
theorem selBad_short {c : CodeD} {k n j : Nat} {d : Int} (hj : j < n) (h : c.ops.length ≤ k + 1 + j) : selBad c k n d = true := by
  have : (cases c k n).length ≠ n := by rw [cases_len]; omega
  simp [selBad, this]
theorem selBad_kind {c : CodeD} {k n j : Nat} {d : Int} {o : OpD} (hj : j < n) (ho : c.ops[k + 1 + j]? = some o) (h1 : o.d ≠ 29) (h2 : o.d ≠ 30) : selBad c k n d = true := by
  have hm : o ∈ cases c k n := List.mem_of_getElem? ((cases_get hj).trans ho)
  have : (cases c k n).any (fun o => decide (o.d ≠ 29 ∧ o.d ≠ 30)) = true := List.any_eq_true.2 ⟨o, hm, by simp [h1, h2]⟩
  simp only [selBad, this]; simp
theorem selBad_all {c : CodeD} {k n : Nat} {d : Int} (hl : (cases c k n).length = n) (h : ∀ o ∈ cases c k n, o.d = 29 ∨ o.d = 30) : selBad c k n d = (decide (1 < elses (cases c k n)) || decide (d - casesTake (cases c k n) < 0)) := by
  have h1 : (cases c k n).any (fun o => decide (o.d ≠ 29 ∧ o.d ≠ 30)) = false := by
    rw [List.any_eq_false]
    intro o ho
    rcases h o ho with e | e <;> simp [e]
  simp only [selBad, h1, hl]; simp
theorem ops_at {C : Nat} {w : World} {a1 : Option Addr} {N c1 : Nat} {l : List OpD} (h : OpsIn C w (.slice a1 N c1) l) {i : Nat} {o : OpD} (ho : l[i]? = some o) : ∃ b q, a1 = some ⟨b, q, none⟩ ∧ b < C ∧ w.cell? ⟨b, q + i * 3, none⟩ = some (.int .i64 o.d) ∧ w.cell? ⟨b, q + i * 3 + 1, none⟩ = some (.int .i64 o.a) ∧ w.cell? ⟨b, q + i * 3 + 2, none⟩ = some (.int .i64 o.b) := by
  obtain ⟨a, cap, hv, h⟩ := h
  simp only [Value.slice.injEq] at hv
  obtain ⟨rfl, rfl, rfl⟩ := hv
  obtain ⟨b, q, ha, hb, hc⟩ := h (by rintro rfl; simp at ho)
  obtain ⟨h1, h2, h3⟩ := hc i o ho
  exact ⟨b, q, ha, hb, h1, h2, h3⟩
set_option maxHeartbeats 4000000 in
theorem choose_any (p g B C : Nat) (a1 : Option Addr) (c1 cap : Nat) (fv kv rv : Value) (c : CodeD) (s : WS) (w : World) (hst : WSt p g B (.slice a1 c.ops.length c1) fv kv cap s rv w) (hC : C ≤ p) (hO : OpsIn C w (.slice a1 c.ops.length c1) c.ops) (hok : ∀ o ∈ c.ops, OpOk c o) (hsz : c.ops.length ≤ 8000) (hw : WOk c.ops.length s) (k n : Nat) (o : OpD) (ho : c.ops[k]? = some o) (ha : o.a = n) (hn : n ≤ 1200) (d : Int) (hd : 0 ≤ d ∧ d ≤ 1200) :
    Calls Try.prog 54 #[.pointer (some ⟨p, 0, none⟩), .int .i64 k, .int .i64 d] w fun e w' => e = .returned (.tuple #[]) ∧ (∃ rv', WSt p g B (.slice a1 c.ops.length c1) fv kv cap (chooseS c k n d s) rv' w') ∧ Below p w w' := by
  obtain ⟨b, q, rfl, hbC, x0, x1, x2⟩ := ops_at hO ho
  obtain ⟨p0, p1, p2, p3, p4, p5⟩ := hst.cells
  have hk : k < c.ops.length := (List.getElem?_eq_some_iff.1 ho).1
  have hkz : (k : Int) < (c.ops.length : Int) := by omega
  rw [ha] at x1
  have HO := hide hO
  have HS := hide hst
  have HK := hide hok
  have HW := hide hw
  clear hO hst hok hw x0 x2 ho ha
  go_enter Try.func54, Try.ntmps54
  go_wp2
  go_loopg [2, 7, 8] n (fun r dv ev iv wr => ∃ j m : Nat, ∃ dd : Int, ∃ ee : Nat, j ≤ n ∧ r = n - j ∧ Hid (m = k + 1 + j) ∧ Hid (dd = d - casesTake ((cases c k n).take j)) ∧ Hid (ee = elses ((cases c k n).take j)) ∧ iv = .int .i64 (m : Int) ∧ dv = .int .i64 dd ∧ ev = .int .i64 (ee : Int) ∧ m ≤ max (k + 1) c.ops.length ∧ (∀ o ∈ (cases c k n).take j, o.d = 29 ∨ o.d = 30) ∧ Below w.heap.size w wr)
  case atStart => exact ⟨0, k + 1, d, 0, Nat.zero_le _, rfl, rfl, by show d = _; simp [casesTake], by show 0 = _; simp [elses], by first | rfl | simp, rfl, rfl, by omega, by simp, Below.refl _ _⟩
  case round =>
    obtain ⟨j, m, dd, ee, hj, rfl, hm, hdd, hee, rfl, rfl, rfl, hjl, hall, hb⟩ := hrel
    have hst := (unhide HS).below hb
    have hO := (unhide HO).same (Same.of_below hb (by have := (unhide HS).lt; omega))
    obtain ⟨y0, y1, y2, y3, y4, y5⟩ := hst.cells
    have hbd := casesTake_bd (unhide HK) ((cases c k n).take j) (fun o ho => List.mem_of_mem_drop (List.mem_of_mem_take (List.mem_of_mem_take ho)))
    have hlt2 : ((cases c k n).take j).length ≤ 1200 := by simp; omega
    have hdb : -2400 ≤ dd ∧ dd ≤ 1200 := by have := unhide hdd; omega
    have hel : ee ≤ 1200 := by have := unhide hee; have := elses_le ((cases c k n).take j); omega
    clear hbd hlt2
    have HALL := hide hall
    clear hall
    by_cases hjn : j < n
    · have hle : (m : Int) ≤ (k : Int) + (n : Int) := by have := unhide hm; omega
      by_cases hl : m < c.ops.length
      · have hlz : ¬ (c.ops.length : Int) ≤ (m : Int) := by omega
        have hlz' : (m : Int) < (c.ops.length : Int) := by omega
        obtain ⟨o1, ho1⟩ : ∃ o1, c.ops[m]? = some o1 := ⟨_, List.getElem?_eq_getElem hl⟩
        obtain ⟨b', q', he, _, z0, z1, z2⟩ := ops_at hO ho1
        simp only [Option.some.injEq, Addr.mk.injEq, and_true] at he
        obtain ⟨rfl, rfl⟩ := he
        have hget : (cases c k n)[j]? = some o1 := by rw [cases_get hjn, ← unhide hm]; exact ho1
        have hts := take_snoc' hget
        have hok1 := (unhide HK) o1 (List.mem_of_getElem? ho1)
        have HTS := hide hts
        have HB := hide hb
        have HI := hide hst
        clear hts hget hO hst hb
        by_cases h30 : o1.d = 30
        · have e30 : (o1.d == 30) = true := by simp [h30]
          have HT : Hid (dd = d - casesTake ((cases c k n).take (j + 1)) ∧ ee + 1 = elses ((cases c k n).take (j + 1)) ∧ ∀ o ∈ (cases c k n).take (j + 1), o.d = 29 ∨ o.d = 30) := by
            rw [unhide HTS, casesTake_app, elses_app]
            refine ⟨by rw [unhide hdd]; simp [casesTake, caseTakes, h30], by rw [unhide hee]; simp [elses, h30], ?_⟩
            intro o ho
            simp only [List.mem_append, List.mem_singleton] at ho
            rcases ho with ho | rfl
            · exact unhide HALL o ho
            · exact Or.inr h30
          clear HTS hok1 h30
          go_wp2
          go_roundg (n - (j + 1))
          case measure => omega
          case rel => exact ⟨j + 1, m + 1, dd, ee + 1, by omega, rfl, by show m + 1 = _; have := unhide hm; omega, (unhide HT).1, (unhide HT).2.1, by go_num, rfl, by go_num, by omega, (unhide HT).2.2, (unhide HB).alloc (unhide HB).size _⟩
        · have e30 : (o1.d == 30) = false := ne_b h30
          by_cases h29 : o1.d = 29
          · have e29 : (o1.d == 29) = true := by simp [h29]
            have ha01 : 0 ≤ o1.a ∧ o1.a ≤ 1 := by
              unfold OpOk rangesB at hok1
              simp [aOk, h29, inB] at hok1
              omega
            have HT : Hid (dd - 1 - o1.a = d - casesTake ((cases c k n).take (j + 1)) ∧ ee = elses ((cases c k n).take (j + 1)) ∧ ∀ o ∈ (cases c k n).take (j + 1), o.d = 29 ∨ o.d = 30) := by
              rw [unhide HTS, casesTake_app, elses_app]
              refine ⟨by rw [unhide hdd]; simp [casesTake, caseTakes, h29]; omega, by rw [unhide hee]; simp [elses, h29], ?_⟩
              intro o ho
              simp only [List.mem_append, List.mem_singleton] at ho
              rcases ho with ho | rfl
              · exact unhide HALL o ho
              · exact Or.inl h29
            clear HTS hok1 h29 h30
            go_wp2
            go_roundg (n - (j + 1))
            case measure => omega
            case rel => exact ⟨j + 1, m + 1, dd - 1 - o1.a, ee, by omega, rfl, by show m + 1 = _; have := unhide hm; omega, (unhide HT).1, (unhide HT).2.1, by go_num, by go_num, by go_num, by omega, (unhide HT).2.2, (unhide HB).alloc (unhide HB).size _⟩
          · have e29 : (o1.d == 29) = false := ne_b h29
            have hbad : Hid (chooseS c k n d s = s.ill) := by
              show chooseS c k n d s = s.ill
              unfold chooseS
              rw [if_pos (selBad_kind hjn (by rw [← unhide hm]; exact ho1) h29 h30)]
            have hfz := (unhide HI).free 5
            have hlt := (unhide HI).lt
            clear HTS hok1 h29 h30
            go_wp2
            refine bodyPost_ret (results_none rfl _ _ _) rfl ?_
            rw [unhide hbad]
            exact ⟨rfl, ⟨_, ((unhide HI).ill).alloc _⟩, (((unhide HB).mono (Nat.le_of_lt (unhide HS).lt)).setCell (Nat.le_refl _) _).alloc (by simp; omega) _⟩
      · have hlz : (c.ops.length : Int) ≤ (m : Int) := by omega
        have hbad : Hid (chooseS c k n d s = s.ill) := by
          show chooseS c k n d s = s.ill
          unfold chooseS
          rw [if_pos (selBad_short hjn (by have := unhide hm; omega))]
        have hfz := hst.free 5
        have HI := hide hst
        have HB := hide hb
        clear hst hb hO
        go_wp2
        refine bodyPost_ret (results_none rfl _ _ _) rfl ?_
        rw [unhide hbad]
        exact ⟨rfl, ⟨_, (unhide HI).ill⟩, ((unhide HB).mono (Nat.le_of_lt (unhide HS).lt)).setCell (Nat.le_refl _) _⟩
    · have hjn' : j = n := by omega
      subst hjn'
      have hle : ¬ (m : Int) ≤ (k : Int) + (j : Int) := by have := unhide hm; omega
      have hlen : (cases c k j).length = j := by rw [cases_len]; have := unhide hm; omega
      have htk : (cases c k j).take j = cases c k j := List.take_of_length_le (by omega)
      have hall := unhide HALL
      rw [htk] at hall
      have hsel := selBad_all (d := d) hlen hall
      have h1 := unhide hdd
      have h2 := unhide hee
      rw [htk] at h1 h2
      rw [← h1, ← h2] at hsel
      have HI := hide hst
      have HB := hide hb
      have HDD := hide h1
      have HALL2 := hide hall
      have HLEN := hide hlen
      clear hdd hee HALL htk hst hb hO h1 h2 hall hlen
      by_cases h1 : 1 < ee
      · have h1z : (1 : Int) < (ee : Int) := by omega
        have hbad : Hid (chooseS c k j d s = s.ill) := by
          show chooseS c k j d s = s.ill
          unfold chooseS
          rw [if_pos (by rw [hsel]; simp [h1])]
        have hfz := (unhide HI).free 5
        clear hsel
        go_wp2
        refine bodyPost_ret (results_none rfl _ _ _) rfl ?_
        rw [unhide hbad]
        exact ⟨rfl, ⟨_, (unhide HI).ill⟩, ((unhide HB).mono (Nat.le_of_lt (unhide HS).lt)).setCell (Nat.le_refl _) _⟩
      · have h1z : ¬ (1 : Int) < (ee : Int) := by omega
        by_cases h2 : dd < 0
        · have hbad : Hid (chooseS c k j d s = s.ill) := by
            show chooseS c k j d s = s.ill
            unfold chooseS
            rw [if_pos (by rw [hsel]; simp [h2])]
          have hfz := (unhide HI).free 5
          clear hsel
          go_wp2
          refine bodyPost_ret (results_none rfl _ _ _) rfl ?_
          rw [unhide hbad]
          exact ⟨rfl, ⟨_, (unhide HI).ill⟩, ((unhide HB).mono (Nat.le_of_lt (unhide HS).lt)).setCell (Nat.le_refl _) _⟩
        · have hgood : Hid (chooseS c k j d s = leadsS s ((cases c k j).map (caseOut dd))) := by
            show chooseS c k j d s = _
            unfold chooseS
            rw [if_neg (by rw [hsel]; simp; omega), unhide HDD]
          clear hsel
          obtain ⟨wo, rfl⟩ : ∃ x, x = wr := ⟨wr, rfl⟩
          clear y0 y1 y2 y3 y4 y5 p0 p1 p2 p3 p4 p5 hm hjl
          go_wp2
          clear hle x1
          go_loopg [10] j (fun r iv wr => ∃ i m : Nat, ∃ rv, i ≤ j ∧ r = j - i ∧ Hid (m = k + 1 + i) ∧ iv = .int .i64 (m : Int) ∧ WSt p g B (.slice (some ⟨b, q, none⟩) c.ops.length c1) fv kv cap (leadsS s (((cases c k j).take i).map (caseOut dd))) rv wr ∧ WOk c.ops.length (leadsS s (((cases c k j).take i).map (caseOut dd))) ∧ Below p w wr)
          case atStart => exact ⟨0, k + 1, rv, Nat.zero_le _, rfl, rfl, by first | rfl | simp, by simpa [leadsS] using unhide HI, by simpa [leadsS] using unhide HW, (unhide HB).mono (Nat.le_of_lt (unhide HS).lt)⟩
          case round =>
            obtain ⟨i, m, rv2, hi, rfl, hm, rfl, hst, hw2, hb⟩ := hrel
            have hO := (unhide HO).same (Same.of_below hb hC)
            obtain ⟨y0, y1, y2, y3, y4, y5⟩ := hst.cells
            by_cases hij : i < j
            · have hle : (m : Int) ≤ (k : Int) + (j : Int) := by have := unhide hm; omega
              have hl : m < c.ops.length := by have := unhide hm; have := unhide HLEN; rw [cases_len] at this; omega
              have hlz' : (m : Int) < (c.ops.length : Int) := by omega
              obtain ⟨o1, ho1⟩ : ∃ o1, c.ops[m]? = some o1 := ⟨_, List.getElem?_eq_getElem hl⟩
              obtain ⟨b', q', he, _, z0, z1, z2⟩ := ops_at hO ho1
              simp only [Option.some.injEq, Addr.mk.injEq, and_true] at he
              obtain ⟨rfl, rfl⟩ := he
              have hget : (cases c k j)[i]? = some o1 := by rw [cases_get hij, ← unhide hm]; exact ho1
              have hd1 := (unhide HALL2) o1 (List.mem_of_getElem? hget)
              have hok1 := (unhide HK) o1 (List.mem_of_getElem? ho1)
              have hb1 : 0 ≤ o1.b := by
                unfold OpOk rangesB at hok1
                rcases hd1 with e | e <;> simp [bOk, e, inB] at hok1 <;> omega
              have hN : Hid (leadsS s (((cases c k j).take (i + 1)).map (caseOut dd)) = leadS (leadsS s (((cases c k j).take i).map (caseOut dd))) (caseOut dd o1).1 (caseOut dd o1).2) := by
                show _ = _
                rw [take_snoc' hget, List.map_append, List.map_singleton, leadsS_snoc]
              have hnn : 0 ≤ (caseOut dd o1).2 := by unfold caseOut; simp only; split <;> omega
              have HW2 := hide hw2
              have HI2 := hide hst
              have HB2 := hide hb
              have hlt := hst.lt
              clear hget hO hst hb hok1 hw2 ho1
              have hfin : Hid (∀ w1 w2 rv3, (Below p wr w1) → Below p w1 w2 → WSt p g B (.slice (some ⟨b, q, none⟩) c.ops.length c1) fv kv cap (leadS (leadsS s (((cases c k j).take i).map (caseOut dd))) (caseOut dd o1).1 (caseOut dd o1).2) rv3 w2 → ∃ rv, WSt p g B (.slice (some ⟨b, q, none⟩) c.ops.length c1) fv kv cap (leadsS s (((cases c k j).take (i + 1)).map (caseOut dd))) rv w2 ∧ WOk c.ops.length (leadsS s (((cases c k j).take (i + 1)).map (caseOut dd))) ∧ Below p w w2) := by
                intro w1 w2 rv3 h1 h2 h3
                rw [unhide hN]
                exact ⟨rv3, h3, (unhide HW2).lead _ _ hnn, ((unhide HB2).trans h1).trans h2⟩
              by_cases hc : o1.d = 29 ∧ o1.a = 0
              · have e29 : (o1.d == 29) = true := by simp [hc.1]
                have e0 : (o1.a == 0) = true := by simp [hc.2]
                have hco : Hid (caseOut dd o1 = (o1.b.toNat, dd + 1)) := by show _ = _; unfold caseOut; rw [if_pos hc]
                clear hc hd1
                go_wp2_with (go_at_call 33; refine (lead_any' p g B c.ops.length (some ⟨b, q, none⟩) c1 cap fv kv rv2 _ _ ((unhide HI2).alloc _) (unhide HW2) hsz o1.b.toNat o1.b (by omega) (dd + 1)).mono ?_; rintro e w2 ⟨rfl, ⟨rv3, hst3⟩, hb3⟩)
                go_roundg (j - (i + 1))
                case measure => omega
                case rel =>
                  obtain ⟨rv4, q1, q2, q3⟩ := unhide hfin _ _ rv3 (((Below.refl p wr).alloc (by omega) _)) hb3 (by rw [unhide hco]; exact hst3)
                  exact ⟨i + 1, m + 1, rv4, by omega, rfl, by show m + 1 = _; have := unhide hm; omega, by go_num, q1, q2, q3⟩
              · have hco : Hid (caseOut dd o1 = (o1.b.toNat, dd)) := by show _ = _; unfold caseOut; rw [if_neg hc]
                by_cases h29 : o1.d = 29
                · have e29 : (o1.d == 29) = true := by simp [h29]
                  have e0 : (o1.a == 0) = false := ne_b (fun e => hc ⟨h29, e⟩)
                  clear hc hd1 h29
                  go_wp2_with (go_at_call 33; refine (lead_any' p g B c.ops.length (some ⟨b, q, none⟩) c1 cap fv kv rv2 _ _ ((unhide HI2).alloc _) (unhide HW2) hsz o1.b.toNat o1.b (by omega) dd).mono ?_; rintro e w2 ⟨rfl, ⟨rv3, hst3⟩, hb3⟩)
                  go_roundg (j - (i + 1))
                  case measure => omega
                  case rel =>
                    obtain ⟨rv4, q1, q2, q3⟩ := unhide hfin _ _ rv3 (((Below.refl p wr).alloc (by omega) _)) hb3 (by rw [unhide hco]; exact hst3)
                    exact ⟨i + 1, m + 1, rv4, by omega, rfl, by show m + 1 = _; have := unhide hm; omega, by go_num, q1, q2, q3⟩
                · have e29 : (o1.d == 29) = false := ne_b h29
                  clear hc hd1 h29
                  go_wp2_with (go_at_call 33; refine (lead_any' p g B c.ops.length (some ⟨b, q, none⟩) c1 cap fv kv rv2 _ _ ((unhide HI2).alloc _) (unhide HW2) hsz o1.b.toNat o1.b (by omega) dd).mono ?_; rintro e w2 ⟨rfl, ⟨rv3, hst3⟩, hb3⟩)
                  go_roundg (j - (i + 1))
                  case measure => omega
                  case rel =>
                    obtain ⟨rv4, q1, q2, q3⟩ := unhide hfin _ _ rv3 (((Below.refl p wr).alloc (by omega) _)) hb3 (by rw [unhide hco]; exact hst3)
                    exact ⟨i + 1, m + 1, rv4, by omega, rfl, by show m + 1 = _; have := unhide hm; omega, by go_num, q1, q2, q3⟩
            · have hij' : i = j := by omega
              subst hij'
              have hle : ¬ (m : Int) ≤ (k : Int) + (i : Int) := by have := unhide hm; omega
              have htk : (cases c k i).take i = cases c k i := List.take_of_length_le (by have := unhide HLEN; omega)
              rw [htk] at hst
              have HI2 := hide hst
              have HB2 := hide hb
              clear hst hb hO hw2 htk
              go_wp2
              go_end0
              rw [unhide hgood]
              exact ⟨rfl, ⟨_, unhide HI2⟩, unhide HB2⟩
end
end Go.Proofs.Ytdemnolanlfblaa
