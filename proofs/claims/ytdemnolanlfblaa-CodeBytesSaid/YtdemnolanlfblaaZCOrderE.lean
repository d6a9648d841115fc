import Derived.Test.YtdemnolanlfblaaZCOrder
set_option linter.all false
namespace Go.Proofs.Ytdemnolanlfblaa
section
open Go.RowKit
set_option maxHeartbeats 4000000 in
theorem order_end20 (p g B C : Nat) (a1 : Option Addr) (c1 cap : Nat) (fv kv rv : Value) (c : CodeD) (s : WS) (w : World) (x1 x2 x3 : Int) (ax : Option Addr) (nx cx : Nat) (k : Nat) (o : OpD) (d : Int) (hst : WSt p g B (.slice a1 c.ops.length c1) fv kv cap s rv w) (hC : C ≤ p) (hO : OpsIn C w (.slice a1 c.ops.length c1) c.ops) (hok : ∀ o ∈ c.ops, OpOk c o) (hsz : c.ops.length ≤ 8000) (ho : c.ops[k]? = some o) (hw : WOk c.ops.length s) (hd : d = s.deep.getD k 0) (hdb : 0 ≤ d ∧ d ≤ 1200) (h29 : ¬ o.d = 29) (h30 : ¬ o.d = 30) (h28 : ¬ o.d = 28) (hf : ¬ d < takesN o) (h : o.d = 20) :
    Calls Try.prog 34 #[.pointer (some ⟨p, 0, none⟩), .agg #[.int .i64 x1, .int .i64 x2, .int .i64 x3, .slice ax nx cx], .int .i64 k] w (WPost p g B (.slice a1 c.ops.length c1) fv kv cap (orderS c x2 s k) w) := by
  have hS : orderS c x2 s k = s := by
    rw [orderS_out ho hd h29 h30 h28 hf]
    rw [slotBad_no (by omega) (by omega) (by omega) (by omega)]
    simp [outs, leadsS, h]
  rw [hS]
  clear hS
  obtain ⟨b, q, rfl, hbC, y0, y1, y2⟩ := ops_at hO ho
  obtain ⟨p0, p1, p2, p3, p4, p5⟩ := hst.cells
  have hk : k < c.ops.length := (List.getElem?_eq_some_iff.1 ho).1
  have hkz : (k : Int) < (c.ops.length : Int) := by omega
  have hD := hst.deepAt k (by rw [hw.len]; exact hk)
  rw [← hd] at hD
  have hkd : (k : Int) < (s.deep.length : Int) := by rw [hw.len]; omega
  have hlt := hst.lt
  have hfz := hst.free 5
  have hlo := hst.lo
  have hbz : b < w.heap.size := by omega
  have hgz : g < w.heap.size := by omega
  have hko := hok o (List.mem_of_getElem? ho)
  have hA := opA hko
  have hpb := putsN_bd o
  have htb := takesN_bd hko
  have hts : o.d = 19 ∨ o.d = 27 → 0 ≤ o.a ∧ o.a ≤ 1200 := fun h => opA_small hko (by omega)
  have HI := hide hst
  have HO := hide hO
  have HW := hide hw
  have HK := hide hok
  have HT := hide hts
  obtain ⟨tk, htk⟩ : ∃ x, takesN o = x := ⟨_, rfl⟩
  obtain ⟨uk, huk⟩ : ∃ x, putsN o = x := ⟨_, rfl⟩
  rw [htk] at htb
  rw [huk] at hpb
  have HTK := hide htk
  have HUK := hide huk
  have HOO := hide ho
  clear hst hO ho hw hd hok hko hts
  have e29 : (o.d == 29) = false := ne_b h29
  have e30 : (o.d == 30) = false := ne_b h30
  have e28 : (o.d == 28) = false := ne_b h28
  have n2 : (o.d == 2) = false := ne_b (by omega)
  have n3 : (o.d == 3) = false := ne_b (by omega)
  have n4 : (o.d == 4) = false := ne_b (by omega)
  have n5 : (o.d == 5) = false := ne_b (by omega)
  have h22 : (o.d == 20) = true := by simp [h]
  clear h
  rw [htk] at hf
  try rw [htk, huk]
  clear htk huk h28 h29 h30 HO HK HOO hA
  go_enter Try.func34, Try.ntmps34
  go_wp2_with (first
    | (go_at_call 55; refine (takes_any' o.d o.a o.b _ (unhide HT) tk uk (unhide HTK) (unhide HUK)).mono ?_; rintro e w2 ⟨rfl, hb2⟩; obtain ⟨hc2, hf2⟩ := bcell hb2; have hz2 := hb2.size; simp only [heap_size_alloc] at hz2; have hst2 := (((unhide HI).alloc _).alloc _).below hb2; obtain ⟨r0, r1, r2, r3, r4, r5⟩ := hst2.cells; have hfz2 := hst2.free 5; have HI2 := hide hst2; have HB2 := hide (show Below p w w2 from ((((Below.refl p w).alloc (by omega) _).alloc (by simp; omega) _).trans (hb2.mono (by simp; omega)))); clear hst2 hb2)
    )
  go_end0
  exact ⟨rfl, ⟨_, unhide HI2⟩, unhide HB2⟩
end
section
open Go.RowKit
set_option maxHeartbeats 4000000 in
theorem order_end22 (p g B C : Nat) (a1 : Option Addr) (c1 cap : Nat) (fv kv rv : Value) (c : CodeD) (s : WS) (w : World) (x1 x2 x3 : Int) (ax : Option Addr) (nx cx : Nat) (k : Nat) (o : OpD) (d : Int) (hst : WSt p g B (.slice a1 c.ops.length c1) fv kv cap s rv w) (hC : C ≤ p) (hO : OpsIn C w (.slice a1 c.ops.length c1) c.ops) (hok : ∀ o ∈ c.ops, OpOk c o) (hsz : c.ops.length ≤ 8000) (ho : c.ops[k]? = some o) (hw : WOk c.ops.length s) (hd : d = s.deep.getD k 0) (hdb : 0 ≤ d ∧ d ≤ 1200) (h29 : ¬ o.d = 29) (h30 : ¬ o.d = 30) (h28 : ¬ o.d = 28) (hf : ¬ d < takesN o) (h : o.d = 22) :
    Calls Try.prog 34 #[.pointer (some ⟨p, 0, none⟩), .agg #[.int .i64 x1, .int .i64 x2, .int .i64 x3, .slice ax nx cx], .int .i64 k] w (WPost p g B (.slice a1 c.ops.length c1) fv kv cap (orderS c x2 s k) w) := by
  have hS : orderS c x2 s k = s := by
    rw [orderS_out ho hd h29 h30 h28 hf]
    rw [slotBad_no (by omega) (by omega) (by omega) (by omega)]
    simp [outs, leadsS, h]
  rw [hS]
  clear hS
  obtain ⟨b, q, rfl, hbC, y0, y1, y2⟩ := ops_at hO ho
  obtain ⟨p0, p1, p2, p3, p4, p5⟩ := hst.cells
  have hk : k < c.ops.length := (List.getElem?_eq_some_iff.1 ho).1
  have hkz : (k : Int) < (c.ops.length : Int) := by omega
  have hD := hst.deepAt k (by rw [hw.len]; exact hk)
  rw [← hd] at hD
  have hkd : (k : Int) < (s.deep.length : Int) := by rw [hw.len]; omega
  have hlt := hst.lt
  have hfz := hst.free 5
  have hlo := hst.lo
  have hbz : b < w.heap.size := by omega
  have hgz : g < w.heap.size := by omega
  have hko := hok o (List.mem_of_getElem? ho)
  have hA := opA hko
  have hpb := putsN_bd o
  have htb := takesN_bd hko
  have hts : o.d = 19 ∨ o.d = 27 → 0 ≤ o.a ∧ o.a ≤ 1200 := fun h => opA_small hko (by omega)
  have HI := hide hst
  have HO := hide hO
  have HW := hide hw
  have HK := hide hok
  have HT := hide hts
  obtain ⟨tk, htk⟩ : ∃ x, takesN o = x := ⟨_, rfl⟩
  obtain ⟨uk, huk⟩ : ∃ x, putsN o = x := ⟨_, rfl⟩
  rw [htk] at htb
  rw [huk] at hpb
  have HTK := hide htk
  have HUK := hide huk
  have HOO := hide ho
  clear hst hO ho hw hd hok hko hts
  have e29 : (o.d == 29) = false := ne_b h29
  have e30 : (o.d == 30) = false := ne_b h30
  have e28 : (o.d == 28) = false := ne_b h28
  have n2 : (o.d == 2) = false := ne_b (by omega)
  have n3 : (o.d == 3) = false := ne_b (by omega)
  have n4 : (o.d == 4) = false := ne_b (by omega)
  have n5 : (o.d == 5) = false := ne_b (by omega)
  have n20 : (o.d == 20) = false := ne_b (by omega)
  have h22 : (o.d == 22) = true := by simp [h]
  clear h
  rw [htk] at hf
  try rw [htk, huk]
  clear htk huk h28 h29 h30 HO HK HOO hA
  go_enter Try.func34, Try.ntmps34
  go_wp2_with (first
    | (go_at_call 55; refine (takes_any' o.d o.a o.b _ (unhide HT) tk uk (unhide HTK) (unhide HUK)).mono ?_; rintro e w2 ⟨rfl, hb2⟩; obtain ⟨hc2, hf2⟩ := bcell hb2; have hz2 := hb2.size; simp only [heap_size_alloc] at hz2; have hst2 := (((unhide HI).alloc _).alloc _).below hb2; obtain ⟨r0, r1, r2, r3, r4, r5⟩ := hst2.cells; have hfz2 := hst2.free 5; have HI2 := hide hst2; have HB2 := hide (show Below p w w2 from ((((Below.refl p w).alloc (by omega) _).alloc (by simp; omega) _).trans (hb2.mono (by simp; omega)))); clear hst2 hb2)
    )
  go_end0
  exact ⟨rfl, ⟨_, unhide HI2⟩, unhide HB2⟩
end
section
open Go.RowKit
set_option maxHeartbeats 4000000 in
theorem order_jump (p g B C : Nat) (a1 : Option Addr) (c1 cap : Nat) (fv kv rv : Value) (c : CodeD) (s : WS) (w : World) (x1 x2 x3 : Int) (ax : Option Addr) (nx cx : Nat) (k : Nat) (o : OpD) (d : Int) (hst : WSt p g B (.slice a1 c.ops.length c1) fv kv cap s rv w) (hC : C ≤ p) (hO : OpsIn C w (.slice a1 c.ops.length c1) c.ops) (hok : ∀ o ∈ c.ops, OpOk c o) (hsz : c.ops.length ≤ 8000) (ho : c.ops[k]? = some o) (hw : WOk c.ops.length s) (hd : d = s.deep.getD k 0) (hdb : 0 ≤ d ∧ d ≤ 1200) (h29 : ¬ o.d = 29) (h30 : ¬ o.d = 30) (h28 : ¬ o.d = 28) (hf : ¬ d < takesN o) (h : o.d = 16) :
    Calls Try.prog 34 #[.pointer (some ⟨p, 0, none⟩), .agg #[.int .i64 x1, .int .i64 x2, .int .i64 x3, .slice ax nx cx], .int .i64 k] w (WPost p g B (.slice a1 c.ops.length c1) fv kv cap (orderS c x2 s k) w) := by
  have hS : orderS c x2 s k = leadS s o.a.toNat d := by
    rw [orderS_out ho hd h29 h30 h28 hf]
    rw [slotBad_no (by omega) (by omega) (by omega) (by omega)]
    simp [outs, leadsS, h]
  rw [hS]
  clear hS
  obtain ⟨b, q, rfl, hbC, y0, y1, y2⟩ := ops_at hO ho
  obtain ⟨p0, p1, p2, p3, p4, p5⟩ := hst.cells
  have hk : k < c.ops.length := (List.getElem?_eq_some_iff.1 ho).1
  have hkz : (k : Int) < (c.ops.length : Int) := by omega
  have hD := hst.deepAt k (by rw [hw.len]; exact hk)
  rw [← hd] at hD
  have hkd : (k : Int) < (s.deep.length : Int) := by rw [hw.len]; omega
  have hlt := hst.lt
  have hfz := hst.free 5
  have hlo := hst.lo
  have hbz : b < w.heap.size := by omega
  have hgz : g < w.heap.size := by omega
  have hko := hok o (List.mem_of_getElem? ho)
  have hA := opA hko
  have hpb := putsN_bd o
  have htb := takesN_bd hko
  have hts : o.d = 19 ∨ o.d = 27 → 0 ≤ o.a ∧ o.a ≤ 1200 := fun h => opA_small hko (by omega)
  have HI := hide hst
  have HO := hide hO
  have HW := hide hw
  have HK := hide hok
  have HT := hide hts
  obtain ⟨tk, htk⟩ : ∃ x, takesN o = x := ⟨_, rfl⟩
  obtain ⟨uk, huk⟩ : ∃ x, putsN o = x := ⟨_, rfl⟩
  rw [htk] at htb
  rw [huk] at hpb
  have HTK := hide htk
  have HUK := hide huk
  have HOO := hide ho
  clear hst hO ho hw hd hok hko hts
  have e29 : (o.d == 29) = false := ne_b h29
  have e30 : (o.d == 30) = false := ne_b h30
  have e28 : (o.d == 28) = false := ne_b h28
  have n2 : (o.d == 2) = false := ne_b (by omega)
  have n3 : (o.d == 3) = false := ne_b (by omega)
  have n4 : (o.d == 4) = false := ne_b (by omega)
  have n5 : (o.d == 5) = false := ne_b (by omega)
  have n20 : (o.d == 20) = false := ne_b (by omega)
  have n22 : (o.d == 22) = false := ne_b (by omega)
  have ha : 0 ≤ o.a := by simp [aOk, h, inB] at hA; omega
  have h22 : (o.d == 16) = true := by simp [h]
  clear h
  rw [htk] at hf
  try rw [htk, huk]
  clear htk huk h28 h29 h30 HO HK HOO hA
  go_enter Try.func34, Try.ntmps34
  go_wp2_with (first
    | (go_at_call 55; refine (takes_any' o.d o.a o.b _ (unhide HT) tk uk (unhide HTK) (unhide HUK)).mono ?_; rintro e w2 ⟨rfl, hb2⟩; obtain ⟨hc2, hf2⟩ := bcell hb2; have hz2 := hb2.size; simp only [heap_size_alloc] at hz2; have hst2 := (((unhide HI).alloc _).alloc _).below hb2; obtain ⟨r0, r1, r2, r3, r4, r5⟩ := hst2.cells; have hfz2 := hst2.free 5; have HI2 := hide hst2; have HB2 := hide (show Below p w w2 from ((((Below.refl p w).alloc (by omega) _).alloc (by simp; omega) _).trans (hb2.mono (by simp; omega)))); clear hst2 hb2)
    | (go_at_call 33; refine (lead_any' p g B c.ops.length _ c1 cap fv kv _ _ _ (unhide HI2) (unhide HW) hsz (o.a.toNat) (o.a) (by omega) (d)).mono ?_; rintro e w3 ⟨rfl, ⟨rv3, hst3⟩, hb3⟩; have HI3 := hide hst3; have HB3 := hide hb3; clear hst3 hb3)
    )
  go_end0
  exact ⟨rfl, ⟨_, unhide HI3⟩, (unhide HB2).trans (unhide HB3)⟩
end
section
open Go.RowKit
set_option maxHeartbeats 4000000 in
theorem order_unless (p g B C : Nat) (a1 : Option Addr) (c1 cap : Nat) (fv kv rv : Value) (c : CodeD) (s : WS) (w : World) (x1 x2 x3 : Int) (ax : Option Addr) (nx cx : Nat) (k : Nat) (o : OpD) (d : Int) (hst : WSt p g B (.slice a1 c.ops.length c1) fv kv cap s rv w) (hC : C ≤ p) (hO : OpsIn C w (.slice a1 c.ops.length c1) c.ops) (hok : ∀ o ∈ c.ops, OpOk c o) (hsz : c.ops.length ≤ 8000) (ho : c.ops[k]? = some o) (hw : WOk c.ops.length s) (hd : d = s.deep.getD k 0) (hdb : 0 ≤ d ∧ d ≤ 1200) (h29 : ¬ o.d = 29) (h30 : ¬ o.d = 30) (h28 : ¬ o.d = 28) (hf : ¬ d < takesN o) (h : o.d = 17) :
    Calls Try.prog 34 #[.pointer (some ⟨p, 0, none⟩), .agg #[.int .i64 x1, .int .i64 x2, .int .i64 x3, .slice ax nx cx], .int .i64 k] w (WPost p g B (.slice a1 c.ops.length c1) fv kv cap (orderS c x2 s k) w) := by
  have hS : orderS c x2 s k = leadS (leadS s o.a.toNat (d - 1)) (k + 1) (d - 1) := by
    rw [orderS_out ho hd h29 h30 h28 hf]
    rw [slotBad_no (by omega) (by omega) (by omega) (by omega)]
    simp [outs, leadsS, h]
  rw [hS]
  clear hS
  obtain ⟨b, q, rfl, hbC, y0, y1, y2⟩ := ops_at hO ho
  obtain ⟨p0, p1, p2, p3, p4, p5⟩ := hst.cells
  have hk : k < c.ops.length := (List.getElem?_eq_some_iff.1 ho).1
  have hkz : (k : Int) < (c.ops.length : Int) := by omega
  have hD := hst.deepAt k (by rw [hw.len]; exact hk)
  rw [← hd] at hD
  have hkd : (k : Int) < (s.deep.length : Int) := by rw [hw.len]; omega
  have hlt := hst.lt
  have hfz := hst.free 5
  have hlo := hst.lo
  have hbz : b < w.heap.size := by omega
  have hgz : g < w.heap.size := by omega
  have hko := hok o (List.mem_of_getElem? ho)
  have hA := opA hko
  have hpb := putsN_bd o
  have htb := takesN_bd hko
  have hts : o.d = 19 ∨ o.d = 27 → 0 ≤ o.a ∧ o.a ≤ 1200 := fun h => opA_small hko (by omega)
  have HI := hide hst
  have HO := hide hO
  have HW := hide hw
  have HK := hide hok
  have HT := hide hts
  obtain ⟨tk, htk⟩ : ∃ x, takesN o = x := ⟨_, rfl⟩
  obtain ⟨uk, huk⟩ : ∃ x, putsN o = x := ⟨_, rfl⟩
  rw [htk] at htb
  rw [huk] at hpb
  have HTK := hide htk
  have HUK := hide huk
  have HOO := hide ho
  clear hst hO ho hw hd hok hko hts
  have e29 : (o.d == 29) = false := ne_b h29
  have e30 : (o.d == 30) = false := ne_b h30
  have e28 : (o.d == 28) = false := ne_b h28
  have n2 : (o.d == 2) = false := ne_b (by omega)
  have n3 : (o.d == 3) = false := ne_b (by omega)
  have n4 : (o.d == 4) = false := ne_b (by omega)
  have n5 : (o.d == 5) = false := ne_b (by omega)
  have n20 : (o.d == 20) = false := ne_b (by omega)
  have n22 : (o.d == 22) = false := ne_b (by omega)
  have n16 : (o.d == 16) = false := ne_b (by omega)
  have ha : 0 ≤ o.a := by simp [aOk, h, inB] at hA; omega
  have hd1 : 0 ≤ d - 1 := by simp [takesN, h] at hf; omega
  have HW3 := hide ((unhide HW).lead o.a.toNat (d - 1) hd1)
  have h22 : (o.d == 17) = true := by simp [h]
  clear h
  rw [htk] at hf
  try rw [htk, huk]
  clear htk huk h28 h29 h30 HO HK HOO hA
  go_enter Try.func34, Try.ntmps34
  go_wp2_with (first
    | (go_at_call 55; refine (takes_any' o.d o.a o.b _ (unhide HT) tk uk (unhide HTK) (unhide HUK)).mono ?_; rintro e w2 ⟨rfl, hb2⟩; obtain ⟨hc2, hf2⟩ := bcell hb2; have hz2 := hb2.size; simp only [heap_size_alloc] at hz2; have hst2 := (((unhide HI).alloc _).alloc _).below hb2; obtain ⟨r0, r1, r2, r3, r4, r5⟩ := hst2.cells; have hfz2 := hst2.free 5; have HI2 := hide hst2; have HB2 := hide (show Below p w w2 from ((((Below.refl p w).alloc (by omega) _).alloc (by simp; omega) _).trans (hb2.mono (by simp; omega)))); clear hst2 hb2)
    | (go_at_call 33; refine (lead_any' p g B c.ops.length _ c1 cap fv kv _ _ _ (unhide HI3) (unhide HW3) hsz (k + 1) ((k : Int) + 1) (by omega) (d - 1)).mono ?_; rintro e w4 ⟨rfl, ⟨rv4, hst4⟩, hb4⟩; have HI4 := hide hst4; have HB4 := hide hb4; clear hst4 hb4)
    | (go_at_call 33; refine (lead_any' p g B c.ops.length _ c1 cap fv kv _ _ _ (unhide HI2) (unhide HW) hsz (o.a.toNat) (o.a) (by omega) (d - 1)).mono ?_; rintro e w3 ⟨rfl, ⟨rv3, hst3⟩, hb3⟩; have HI3 := hide hst3; have HB3 := hide hb3; clear hst3 hb3)
    )
  go_end0
  exact ⟨rfl, ⟨_, unhide HI4⟩, ((unhide HB2).trans (unhide HB3)).trans (unhide HB4)⟩
end
end Go.Proofs.Ytdemnolanlfblaa
