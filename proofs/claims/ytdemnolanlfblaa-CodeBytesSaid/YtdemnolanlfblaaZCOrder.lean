import Derived.Test.YtdemnolanlfblaaZCChoose
set_option linter.all false
namespace Go.Proofs.Ytdemnolanlfblaa
section
open Go.RowKit
theorem heap_size_alloc (w : World) (o : Obj) : (w.alloc o).heap.size = w.heap.size + 1 := by simp
theorem bcell {W w1 : World} (hb : Below W.heap.size W w1) : (∀ b o, b < W.heap.size → w1.cell? ⟨b, o, none⟩ = W.cell? ⟨b, o, none⟩) ∧ (∀ b o, b < W.heap.size → w1.frozen? ⟨b, o, none⟩ = W.frozen? ⟨b, o, none⟩) :=
  ⟨fun b o h => hb.cell (p := ⟨b, o, none⟩) h, fun b o h => hb.frozen (p := ⟨b, o, none⟩) h⟩
def WPost (p g B : Nat) (ov fv kv : Value) (cap : Nat) (s : WS) (w : World) (e : Ending) (w' : World) : Prop :=
  e = .returned (.tuple #[]) ∧ (∃ rv', WSt p g B ov fv kv cap s rv' w') ∧ Below p w w'
theorem opAt {c : CodeD} {o : OpD} (hok : OpOk c o) : 1 ≤ o.d ∧ o.d ≤ 30 := by
  unfold OpOk rangesB at hok
  simp [inB] at hok
  exact hok.1
theorem opA {c : CodeD} {o : OpD} (hok : OpOk c o) : aOk c.fns.length c.kinds.length c.ops.length o = true := by
  unfold OpOk rangesB at hok
  simp at hok
  exact hok.2.1
theorem opA_small {c : CodeD} {o : OpD} (hok : OpOk c o) (hd : o.d = 19 ∨ o.d = 27 ∨ o.d = 28) : 0 ≤ o.a ∧ o.a ≤ 1200 := by
  have h := opA hok
  rcases hd with e | e | e <;> simp [aOk, e, inB] at h <;> exact h
theorem takesN_bd {c : CodeD} {o : OpD} (hok : OpOk c o) : 0 ≤ takesN o ∧ takesN o ≤ 1201 := by
  refine ⟨takesN_nonneg hok, ?_⟩
  unfold takesN
  split
  · omega
  · split
    · omega
    · split
      · rename_i h1
        have := opA_small hok (by omega)
        omega
      · omega
theorem putsN_bd (o : OpD) : 0 ≤ putsN o ∧ putsN o ≤ 1 := by unfold putsN; split <;> omega
theorem orderS_out {c : CodeD} {x2 : Int} {s : WS} {k : Nat} {o : OpD} {d : Int} (ho : c.ops[k]? = some o) (hd : d = s.deep.getD k 0) (h29 : ¬ o.d = 29) (h30 : ¬ o.d = 30) (h28 : ¬ o.d = 28) (hf : ¬ d < takesN o) : orderS c x2 s k = leadsS (if slotBad c x2 o then s.ill else s) (outs o k d) := by
  unfold orderS; rw [ho]; simp only; rw [if_neg (by omega), if_neg h28, if_neg (by rw [← hd]; exact hf), ← hd]
theorem slotBad_no {c : CodeD} {x2 : Int} {o : OpD} (h2 : ¬ o.d = 2) (h3 : ¬ o.d = 3) (h4 : ¬ o.d = 4) (h5 : ¬ o.d = 5) : slotBad c x2 o = false := by simp [slotBad, h2, h3, h4, h5]
theorem slotBad_slot {c : CodeD} {x2 : Int} {o : OpD} (h : o.d = 2 ∨ o.d = 3 ∨ o.d = 4) : slotBad c x2 o = decide (x2 ≤ o.a) := by
  have h5 : ¬ o.d = 5 := by omega
  simp [slotBad, h, h5]
theorem slotBad_make {c : CodeD} {x2 : Int} {o : OpD} (h : o.d = 5) : slotBad c x2 o = ((c.fns[o.a.toNat]?.map FnD.takes).getD []).any (fun t => decide (x2 ≤ t)) := by simp [slotBad, h]
theorem outs_rest {o : OpD} {k : Nat} {d : Int} (h1 : ¬ o.d = 20) (h2 : ¬ o.d = 22) (h3 : ¬ o.d = 16) (h4 : ¬ o.d = 17) (h5 : ¬ o.d = 18) : outs o k d = [(k + 1, d - takesN o + putsN o)] := by simp [outs, h1, h2, h3, h4, h5]
theorem WOk.iff_ill {n : Nat} {s : WS} (h : WOk n s) (b : Bool) : WOk n (if b then s.ill else s) := by cases b <;> simp [h, h.ill]
theorem takes_any' (d a b : Int) (w : World) (ha : d = 19 ∨ d = 27 → 0 ≤ a ∧ a ≤ 1200) (tk uk : Int) (h1 : takesN ⟨d, a, b⟩ = tk) (h2 : putsN ⟨d, a, b⟩ = uk) :
    Calls Try.prog 55 #[.agg #[.int .i64 d, .int .i64 a, .int .i64 b]] w fun e w' => e = .returned (.tuple #[.int .i64 tk, .int .i64 uk]) ∧ Below w.heap.size w w' := by
  subst h1 h2
  exact takes_any d a b w ha
set_option maxHeartbeats 4000000 in
theorem order_case (p g B C : Nat) (a1 : Option Addr) (c1 cap : Nat) (fv kv rv : Value) (c : CodeD) (s : WS) (w : World) (x1 x2 x3 : Int) (ax : Option Addr) (nx cx : Nat) (k : Nat) (o : OpD) (d : Int) (hst : WSt p g B (.slice a1 c.ops.length c1) fv kv cap s rv w) (hC : C ≤ p) (hO : OpsIn C w (.slice a1 c.ops.length c1) c.ops) (hok : ∀ o ∈ c.ops, OpOk c o) (hsz : c.ops.length ≤ 8000) (ho : c.ops[k]? = some o) (hw : WOk c.ops.length s) (hd : d = s.deep.getD k 0) (hdb : 0 ≤ d ∧ d ≤ 1200) (h : o.d = 29 ∨ o.d = 30) :
    Calls Try.prog 34 #[.pointer (some ⟨p, 0, none⟩), .agg #[.int .i64 x1, .int .i64 x2, .int .i64 x3, .slice ax nx cx], .int .i64 k] w (WPost p g B (.slice a1 c.ops.length c1) fv kv cap (orderS c x2 s k) w) := by
  have hS : orderS c x2 s k = s.ill := by unfold orderS; rw [ho]; simp only; rw [if_pos h]
  rw [hS]
  clear hS
  obtain ⟨b, q, rfl, hbC, y0, y1, y2⟩ := ops_at hO ho
  obtain ⟨p0, p1, p2, p3, p4, p5⟩ := hst.cells
  have hk : k < c.ops.length := (List.getElem?_eq_some_iff.1 ho).1
  have hkz : (k : Int) < (c.ops.length : Int) := by omega
  have hD := hst.deepAt k (by rw [hw.len]; exact hk)
  rw [← hd] at hD
  have hkd : (k : Int) < (s.deep.length : Int) := by rw [hw.len]; omega
  have hlt := hst.lt
  have hfz := hst.free 5
  have hlo := hst.lo
  have hbz : b < w.heap.size := by omega
  have hgz : g < w.heap.size := by omega
  have hko := hok o (List.mem_of_getElem? ho)
  have hA := opA hko
  have hpb := putsN_bd o
  have htb := takesN_bd hko
  have hts : o.d = 19 ∨ o.d = 27 → 0 ≤ o.a ∧ o.a ≤ 1200 := fun h => opA_small hko (by omega)
  have HI := hide hst
  have HO := hide hO
  have HW := hide hw
  have HK := hide hok
  have HT := hide hts
  obtain ⟨tk, htk⟩ : ∃ x, takesN o = x := ⟨_, rfl⟩
  obtain ⟨uk, huk⟩ : ∃ x, putsN o = x := ⟨_, rfl⟩
  rw [htk] at htb
  rw [huk] at hpb
  have HTK := hide htk
  have HUK := hide huk
  have HOO := hide ho
  clear hst hO ho hw hd hok hko hts
  have hfin : Hid (∀ o1 o2, WPost p g B (.slice (some ⟨b, q, none⟩) c.ops.length c1) fv kv cap s.ill w (.returned (.tuple #[])) (((w.setCell ⟨p, 5, none⟩ (.bool true)).alloc o1).alloc o2)) := fun o1 o2 =>
    ⟨rfl, ⟨_, (((unhide HI).ill).alloc _).alloc _⟩, ((((Below.refl p w).setCell (Nat.le_refl _) _).alloc (by simp; omega) _)).alloc (by simp; omega) _⟩
  clear HI HO HW HK HT HOO hA hpb htb htk huk HTK HUK
  rcases h with h | h
  · have e29 : (o.d == 29) = true := by simp [h]
    clear h
    go_enter Try.func34, Try.ntmps34
    go_wp2
    refine bodyPost_ret (results_none rfl _ _ _) rfl ?_
    exact unhide hfin _ _
  · have e29 : (o.d == 29) = false := by simp [h]
    have e30 : (o.d == 30) = true := by simp [h]
    clear h
    go_enter Try.func34, Try.ntmps34
    go_wp2
    refine bodyPost_ret (results_none rfl _ _ _) rfl ?_
    exact unhide hfin _ _
set_option maxHeartbeats 4000000 in
theorem order_select (p g B C : Nat) (a1 : Option Addr) (c1 cap : Nat) (fv kv rv : Value) (c : CodeD) (s : WS) (w : World) (x1 x2 x3 : Int) (ax : Option Addr) (nx cx : Nat) (k : Nat) (o : OpD) (d : Int) (hst : WSt p g B (.slice a1 c.ops.length c1) fv kv cap s rv w) (hC : C ≤ p) (hO : OpsIn C w (.slice a1 c.ops.length c1) c.ops) (hok : ∀ o ∈ c.ops, OpOk c o) (hsz : c.ops.length ≤ 8000) (ho : c.ops[k]? = some o) (hw : WOk c.ops.length s) (hd : d = s.deep.getD k 0) (hdb : 0 ≤ d ∧ d ≤ 1200) (h : o.d = 28) :
    Calls Try.prog 34 #[.pointer (some ⟨p, 0, none⟩), .agg #[.int .i64 x1, .int .i64 x2, .int .i64 x3, .slice ax nx cx], .int .i64 k] w (WPost p g B (.slice a1 c.ops.length c1) fv kv cap (orderS c x2 s k) w) := by
  have hS : orderS c x2 s k = chooseS c k o.a.toNat d s := by unfold orderS chooseS; rw [ho]; simp only; rw [if_neg (by omega), if_pos h, ← hd]
  rw [hS]
  clear hS
  obtain ⟨b, q, rfl, hbC, y0, y1, y2⟩ := ops_at hO ho
  obtain ⟨p0, p1, p2, p3, p4, p5⟩ := hst.cells
  have hk : k < c.ops.length := (List.getElem?_eq_some_iff.1 ho).1
  have hkz : (k : Int) < (c.ops.length : Int) := by omega
  have hD := hst.deepAt k (by rw [hw.len]; exact hk)
  rw [← hd] at hD
  have hkd : (k : Int) < (s.deep.length : Int) := by rw [hw.len]; omega
  have hlt := hst.lt
  have hfz := hst.free 5
  have hlo := hst.lo
  have hbz : b < w.heap.size := by omega
  have hgz : g < w.heap.size := by omega
  have hko := hok o (List.mem_of_getElem? ho)
  have hA := opA hko
  have hpb := putsN_bd o
  have htb := takesN_bd hko
  have hts : o.d = 19 ∨ o.d = 27 → 0 ≤ o.a ∧ o.a ≤ 1200 := fun h => opA_small hko (by omega)
  have HI := hide hst
  have HO := hide hO
  have HW := hide hw
  have HK := hide hok
  have HT := hide hts
  obtain ⟨tk, htk⟩ : ∃ x, takesN o = x := ⟨_, rfl⟩
  obtain ⟨uk, huk⟩ : ∃ x, putsN o = x := ⟨_, rfl⟩
  rw [htk] at htb
  rw [huk] at hpb
  have HTK := hide htk
  have HUK := hide huk
  have HOO := hide ho
  clear hst hO ho hw hd hok hko hts
  have ha : 0 ≤ o.a ∧ o.a ≤ 1200 := by simpa [aOk, h, inB] using hA
  have e29 : (o.d == 29) = false := by simp [h]
  have e30 : (o.d == 30) = false := by simp [h]
  have e28 : (o.d == 28) = true := by simp [h]
  have hC2 : Hid (∀ o1 o2, Calls Try.prog 54 #[.pointer (some ⟨p, 0, none⟩), .int .i64 k, .int .i64 d] ((w.alloc o1).alloc o2) (WPost p g B (.slice (some ⟨b, q, none⟩) c.ops.length c1) fv kv cap (chooseS c k o.a.toNat d s) ((w.alloc o1).alloc o2))) := fun o1 o2 =>
    choose_any p g B C _ c1 cap fv kv rv c s _ (((unhide HI).alloc o1).alloc o2) hC ((unhide HO).same (Same.of_below (((Below.refl p w).alloc (by omega) o1).alloc (by simp; omega) o2) hC)) (unhide HK) hsz (unhide HW) k o.a.toNat o (unhide HOO) (by omega) (by omega) d hdb
  have hB2 : Hid (∀ o1 o2, Below p w ((w.alloc o1).alloc o2)) := fun o1 o2 => ((Below.refl p w).alloc (by omega) o1).alloc (by simp; omega) o2
  clear h HI HO HW HK HT HOO hA hpb htb ha htk huk HTK HUK
  go_enter Try.func34, Try.ntmps34
  go_wp2_with (go_at_call 54; refine (unhide hC2 _ _).mono ?_; rintro e w2 ⟨rfl, ⟨rv2, hst2⟩, hb2⟩)
  refine bodyPost_ret (results_none rfl _ _ _) rfl ?_
  exact ⟨rfl, ⟨_, hst2⟩, (unhide hB2 _ _).trans hb2⟩
set_option maxHeartbeats 4000000 in
theorem order_few (p g B C : Nat) (a1 : Option Addr) (c1 cap : Nat) (fv kv rv : Value) (c : CodeD) (s : WS) (w : World) (x1 x2 x3 : Int) (ax : Option Addr) (nx cx : Nat) (k : Nat) (o : OpD) (d : Int) (hst : WSt p g B (.slice a1 c.ops.length c1) fv kv cap s rv w) (hC : C ≤ p) (hO : OpsIn C w (.slice a1 c.ops.length c1) c.ops) (hok : ∀ o ∈ c.ops, OpOk c o) (hsz : c.ops.length ≤ 8000) (ho : c.ops[k]? = some o) (hw : WOk c.ops.length s) (hd : d = s.deep.getD k 0) (hdb : 0 ≤ d ∧ d ≤ 1200) (h29 : ¬ o.d = 29) (h30 : ¬ o.d = 30) (h28 : ¬ o.d = 28) (h : d < takesN o) :
    Calls Try.prog 34 #[.pointer (some ⟨p, 0, none⟩), .agg #[.int .i64 x1, .int .i64 x2, .int .i64 x3, .slice ax nx cx], .int .i64 k] w (WPost p g B (.slice a1 c.ops.length c1) fv kv cap (orderS c x2 s k) w) := by
  have hS : orderS c x2 s k = s.ill := by unfold orderS; rw [ho]; simp only; rw [if_neg (by omega), if_neg h28, if_pos (by rw [← hd]; exact h)]
  rw [hS]
  clear hS
  obtain ⟨b, q, rfl, hbC, y0, y1, y2⟩ := ops_at hO ho
  obtain ⟨p0, p1, p2, p3, p4, p5⟩ := hst.cells
  have hk : k < c.ops.length := (List.getElem?_eq_some_iff.1 ho).1
  have hkz : (k : Int) < (c.ops.length : Int) := by omega
  have hD := hst.deepAt k (by rw [hw.len]; exact hk)
  rw [← hd] at hD
  have hkd : (k : Int) < (s.deep.length : Int) := by rw [hw.len]; omega
  have hlt := hst.lt
  have hfz := hst.free 5
  have hlo := hst.lo
  have hbz : b < w.heap.size := by omega
  have hgz : g < w.heap.size := by omega
  have hko := hok o (List.mem_of_getElem? ho)
  have hA := opA hko
  have hpb := putsN_bd o
  have htb := takesN_bd hko
  have hts : o.d = 19 ∨ o.d = 27 → 0 ≤ o.a ∧ o.a ≤ 1200 := fun h => opA_small hko (by omega)
  have HI := hide hst
  have HO := hide hO
  have HW := hide hw
  have HK := hide hok
  have HT := hide hts
  obtain ⟨tk, htk⟩ : ∃ x, takesN o = x := ⟨_, rfl⟩
  obtain ⟨uk, huk⟩ : ∃ x, putsN o = x := ⟨_, rfl⟩
  rw [htk] at htb
  rw [huk] at hpb
  have HTK := hide htk
  have HUK := hide huk
  have HOO := hide ho
  clear hst hO ho hw hd hok hko hts
  rw [htk] at h
  clear htk huk
  have e29 : (o.d == 29) = false := ne_b h29
  have e30 : (o.d == 30) = false := ne_b h30
  have e28 : (o.d == 28) = false := ne_b h28
  clear h28 h29 h30 HO HW HK HOO hA hpb
  go_enter Try.func34, Try.ntmps34
  go_wp2_with (go_at_call 55; refine (takes_any' o.d o.a o.b _ (unhide HT) tk uk (unhide HTK) (unhide HUK)).mono ?_; rintro e w2 ⟨rfl, hb2⟩; obtain ⟨hc2, hf2⟩ := bcell hb2; have hz2 := hb2.size; simp only [heap_size_alloc] at hz2; have hst2 := (((unhide HI).alloc _).alloc _).below hb2; obtain ⟨r0, r1, r2, r3, r4, r5⟩ := hst2.cells; have hfz2 := hst2.free 5; have HI2 := hide hst2; have HB2 := hide (show Below p w w2 from ((((Below.refl p w).alloc (by omega) _).alloc (by simp; omega) _).trans (hb2.mono (by simp; omega)))); clear hst2 hb2)
  refine bodyPost_ret (results_none rfl _ _ _) rfl ?_
  exact ⟨rfl, ⟨_, (unhide HI2).ill⟩, (unhide HB2).setCell (Nat.le_refl _) _⟩
end
end Go.Proofs.Ytdemnolanlfblaa
