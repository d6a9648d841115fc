import Derived.Test.YtdemnolanlfblaaGreatDoorYPTypB
set_option linter.all false
namespace Go.Proofs.YtdemnolanlfblaaGreatDoor
section
open Go.RowKit
set_option maxHeartbeats 4000000 in
theorem channel_any {p T tv E r A s w}(h:PSt p T tv E r A s w) {lo:Rd}(hlo:Los p T tv E r lo) :
  Calls Tryz.prog 175 #[.pointer (some ⟨p,0,none⟩)] w (Out p T tv E r A w.heap.size 5 s w (channel E r lo s) RPair):=by
 have hp:=h.lt
 have hroom:=h.room
 have hcap:=h.cap
 obtain⟨res,hres⟩:∃ res,res=channel E r lo s:=⟨_,rfl⟩
 rw [← hres]
 unfold channel at hres
 have HM:=hide hres
 have hf:=Fr.refl (p:=p) (Nat.le_refl w.heap.size) hp
 have hst:=h
 clear h hres
 have hff1:=field_text
 have hff2:=field_pos
 have hff3:=field_kind
 have hff4:=field_num
 go_enter Tryz.func175,Tryz.ntmps175
 go_wp2_with (first
  | (go_at_call 164;refine ((hlo _ rfl).typ _ _ _ hst).mono ?_;clear hst;intro e w1 ho;rcases ho.elim with⟨a,s1,v,hq,rfl,hR,hst,hf1,hd⟩ | ⟨c,q,hq,rfl,hb⟩;rotate_left;(first | exact⟨rfl,Out.ill (bind_bad (uh HM) hq) (hf.below' hb)⟩ | exact⟨rfl,Out.ill ((uh HM).trans hq) (hf.below' hb)⟩);(first | (replace HM:=hide (bind_ok (uh HM) hq)) | (replace HM:=hide ((uh HM).trans hq)));replace hf:=hf.step hf1;unfold RNat at hR;subst hR;clear ho hf1 hq)
  | (go_at_call_of 146 (1:Nat);refine (open1 hst (by decide)).mono ?_;clear hst;intro e w1 ho;rcases ho with⟨r',a,s1,rfl,hq,rfl,hst,hf1,hd⟩ | ⟨c,q,hq,rfl,hb⟩;rotate_left;exact⟨rfl,Out.ill (bind_bad (uh HM) hq) (hf.below' hb)⟩;replace HM:=hide (bind_ok (uh HM) hq);replace hf:=hf.step hf1;clear hf1 hq)
  | (go_at_call 165;refine (leave_any hst (by omega)).mono ?_;clear hst;rintro e w1 ⟨rfl,hst,hf1⟩;(try (replace hI:=own_fr hI hf1 (by decide) (by decide)));replace hf:=hf.step hf1;clear hf1))
 go_returns
 exact Out.good (uh HM) rfl hst hf (by omega)
set_option maxHeartbeats 4000000 in
theorem funcType_any {p T tv E r A s w}(h:PSt p T tv E r A s w) {lo:Rd}(hlo:Los p T tv E r lo) :
  Calls Tryz.prog 176 #[.pointer (some ⟨p,0,none⟩)] w (Out p T tv E r A w.heap.size 2 s w (funcType E r lo s) RNat):=by
 have HA:=h.sep
 have hp:=h.lt
 have hroom:=h.room
 have hcap:=h.cap
 obtain⟨res,hres⟩:∃ res,res=funcType E r lo s:=⟨_,rfl⟩
 rw [← hres]
 unfold funcType at hres
 have HM:=hide hres
 have hf:=Fr.refl (p:=p) (Nat.le_refl w.heap.size) hp
 have hst:=h
 clear h hres
 have hff1:=field_text
 have hff2:=field_pos
 have hff3:=field_kind
 have hff4:=field_num
 go_enter Tryz.func176,Tryz.ntmps176
 go_wp2_with (first
  | (go_at_call 150;refine ((hlo _ rfl).typs _ _ _ hst).mono ?_;intro e w1 ho;clear hst;rcases ho with⟨ks,s1,kv,hq,rfl,hI,hst,hf1,hd,hkl⟩ | ⟨c,q,hq,rfl,hb⟩;rotate_left;exact⟨rfl,Out.ill (bind_bad (uh HM) hq) (hf.below' hb)⟩;replace HM:=hide (bind_ok (uh HM) hq);replace hI:=own_lower hI hf.size;replace hf:=hf.step hf1;obtain⟨kva,kvc,rfl⟩:=own_len hI;clear hq hf1)
  | (go_at_call 152;refine (withResult_any hst _ ((hlo _ rfl).typ) w.heap.size 900000 _ hI hf.size hp (by omega) (by omega)).mono ?_;intro e w1 ho;clear hst;rcases ho with⟨ks2,s1,kv,hq,rfl,hI2,hst,hf1,hd2,hkl2⟩ | ⟨c,q,hq,rfl,hb⟩;rotate_left;exact⟨rfl,Out.ill (bind_bad (uh HM) hq) (hf.below' hb)⟩;replace HM:=hide (bind_ok (uh HM) hq);replace hI:=hI2;replace hf:=hf.trans hf1 (Nat.le_refl _);clear hq hf1 hI2)
  | (go_at_call_of 146 (1:Nat);refine (open1 hst (by decide)).mono ?_;clear hst;intro e w1 ho;rcases ho with⟨r',a,s1,rfl,hq,rfl,hst,hf1,hd⟩ | ⟨c,q,hq,rfl,hb⟩;rotate_left;exact⟨rfl,Out.ill (bind_bad (uh HM) hq) (hf.below' hb)⟩;replace HM:=hide (bind_ok (uh HM) hq);replace hf:=hf.step hf1;clear hf1 hq)
  | (go_at_call 165;refine (leave_any hst (by omega)).mono ?_;clear hst;rintro e w1 ⟨rfl,hst,hf1⟩;(try (replace hI:=own_fr hI hf1 (by decide) (by decide)));replace hf:=hf.step hf1;clear hf1)
  | (go_at_call 69;refine (putL hst.unlist (by omega) hI hp HA).mono ?_;clear hst;intro e w1 ho;rcases ho with⟨k,s1,hq,rfl,hst,hf1,hd⟩ | hfalse;rotate_left;exact hfalse.elim;(first | (replace HM:=hide (bind_ok (uh HM) hq)) | (replace HM:=hide ((uh HM).trans hq)));replace hf:=hf.step hf1;clear hf1 hq))
 go_returns
 exact Out.good (uh HM) rfl hst hf (by omega)
set_option maxHeartbeats 8000000 in
theorem typ_any {p T tv E r A s w}(h:PSt p T tv E r A s w) {lo:Rd}(hlo:Los p T tv E r lo) :
  Calls Tryz.prog 164 #[.pointer (some ⟨p,0,none⟩)] w (Out p T tv E r A w.heap.size 2 s w (typ E r lo s) RNat):=by
 have hp:=h.lt
 have hroom:=h.room
 have hcap:=h.cap
 obtain⟨res,hres⟩:∃ res,res=typ E r lo s:=⟨_,rfl⟩
 rw [← hres]
 unfold typ at hres
 have HM:=hide hres
 have hf:=Fr.refl (p:=p) (Nat.le_refl w.heap.size) hp
 have hst:=h
 clear h hres
 have hff1:=field_text
 have hff2:=field_pos
 have hff3:=field_kind
 have hff4:=field_num
 go_enter Tryz.func164,Tryz.ntmps164
 go_wp2_with (first
  | (go_at_call 149;refine (pointer_any hst).mono ?_;clear hst;intro e w1 ho;rcases ho.elim with⟨a,s1,v,hq,rfl,hR,hst,hf1,hd⟩ | ⟨c,q,hq,rfl,hb⟩;rotate_left;(first | exact⟨rfl,Out.ill (bind_bad (uh HM) hq) (hf.below' hb)⟩ | exact⟨rfl,Out.ill ((uh HM).trans hq) (hf.below' hb)⟩);(first | (replace HM:=hide (bind_ok (uh HM) hq)) | (replace HM:=hide ((uh HM).trans hq)));replace hf:=hf.step hf1;unfold RNat at hR;subst hR;clear ho hf1 hq)
  | (go_at_call 176;refine (funcType_any hst hlo).mono ?_;clear hst;intro e w1 ho;rcases ho.elim with⟨a,s1,v,hq,rfl,hR,hst,hf1,hd⟩ | ⟨c,q,hq,rfl,hb⟩;rotate_left;(first | exact⟨rfl,Out.ill (bind_bad (uh HM) hq) (hf.below' hb)⟩ | exact⟨rfl,Out.ill ((uh HM).trans hq) (hf.below' hb)⟩);(first | (replace HM:=hide (bind_ok (uh HM) hq)) | (replace HM:=hide ((uh HM).trans hq)));replace hf:=hf.step hf1;unfold RNat at hR;subst hR;clear ho hf1 hq)
  | (go_at_call 175;refine (channel_any hst hlo).mono ?_;clear hst;intro e w1 ho;rcases ho.elim with⟨a,s1,v,hq,rfl,hR,hst,hf1,hd⟩ | ⟨c,q,hq,rfl,hb⟩;rotate_left;(first | exact⟨rfl,Out.ill (bind_bad (uh HM) hq) (hf.below' hb)⟩ | exact⟨rfl,Out.ill ((uh HM).trans hq) (hf.below' hb)⟩);(first | (replace HM:=hide (bind_ok (uh HM) hq)) | (replace HM:=hide ((uh HM).trans hq)));replace hf:=hf.step hf1;unfold RPair at hR;subst hR;clear ho hf1 hq)
  | (go_at_call_of 98 (1:Nat);refine (is1b hst).mono ?_;rintro e w1 ⟨y,rfl,hy,hb1⟩;replace hst:=hst.new hb1;replace hf:=hf.new hb1;replace HM:=hide (bind_is (uh HM) hy);clear hb1;cases y;(try (replace HM:=hide (ite_no (uh HM) rfl)));rotate_left;(try (replace HM:=hide (ite_yes (uh HM) rfl)));(try (have hne:=hide (rest_ne_is hy (by decide))));(try (clear hy));rotate_left;(try (clear hy)))
  | (go_at_call 102;refine (next_any hst (uh hne)).mono ?_;clear hst;intro e w1 ho;rcases ho.elim with⟨a,s1,v,hq,rfl,hR,hst,hf1,hd⟩ | ⟨c,q,hq,rfl,hb⟩;rotate_left;(first | exact⟨rfl,Out.ill (bind_bad (uh HM) hq) (hf.below' hb)⟩ | exact⟨rfl,Out.ill ((uh HM).trans hq) (hf.below' hb)⟩);(first | (replace HM:=hide (bind_ok (uh HM) hq)) | (replace HM:=hide ((uh HM).trans hq)));replace hf:=hf.step hf1;unfold RTok at hR;subst hR;clear ho hf1 hq)
  | (go_at_call 144;refine (wantKind_any hst _ (by decide)).mono ?_;clear hst;intro e w1 ho;rcases ho.elim with⟨a,s1,v,hq,rfl,hR,hst,hf1,hd⟩ | ⟨c,q,hq,rfl,hb⟩;rotate_left;(first | exact⟨rfl,Out.ill (bind_bad (uh HM) hq) (hf.below' hb)⟩ | exact⟨rfl,Out.ill ((uh HM).trans hq) (hf.below' hb)⟩);(first | (replace HM:=hide (bind_ok (uh HM) hq)) | (replace HM:=hide ((uh HM).trans hq)));replace hf:=hf.step hf1;unfold RTok at hR;subst hR;clear ho hf1 hq)
  | (go_at_call_of 69 (1:Nat);refine (put1 hst (by omega)).mono ?_;clear hst;intro e w1 ho;rcases ho with⟨k,s1,hq,rfl,hst,hf1,hd⟩ | hfalse;rotate_left;exact hfalse.elim;(first | (replace HM:=hide (bind_ok (uh HM) hq)) | (replace HM:=hide ((uh HM).trans hq)));replace hf:=hf.step hf1;clear hf1 hq)
  | (go_at_call 69;refine (put0 hst (by omega)).mono ?_;clear hst;intro e w1 ho;rcases ho with⟨k,s1,hq,rfl,hst,hf1,hd⟩ | hfalse;rotate_left;exact hfalse.elim;(first | (replace HM:=hide (bind_ok (uh HM) hq)) | (replace HM:=hide ((uh HM).trans hq)));replace hf:=hf.step hf1;clear hf1 hq)
  | (go_at_call 69;refine (put0 (hst.alloc _) (by omega)).mono ?_;clear hst;intro e w1 ho;rcases ho with⟨k,s1,hq,rfl,hst,hf1,hd⟩ | hfalse;rotate_left;exact hfalse.elim;(first | (replace HM:=hide (bind_ok (uh HM) hq)) | (replace HM:=hide ((uh HM).trans hq)));replace hf:=(hf.new (blA _ _)).step hf1;clear hf1 hq))
 all_goals
  go_returns
  exact Out.good (uh HM) rfl hst hf (by omega)
set_option maxHeartbeats 4000000 in
theorem param_any {p T tv E r A s w}(h:PSt p T tv E r A s w) {ty:M Nat}(hty:∀ A,Reads p T tv E r A 2 164 ty) :
  Calls Tryz.prog 151 #[.pointer (some ⟨p,0,none⟩)] w (Out p T tv E r A w.heap.size 2 s w (typed E ty 7 s) RNat):=by
 go_enter Tryz.func151,Tryz.ntmps151
 go_wp2_with (go_at_call 145;refine (typed_any h ty (hty _) 7).mono ?_;intro e w1 ho;rcases ho.elim with⟨a,s1,v,hq,rfl,hR,hst,hf1,hd⟩ | ⟨c,q,hq,rfl,hb⟩;rotate_left;exact⟨rfl,Out.ill hq hb⟩;have HM:=hide hq;clear hq)
 go_returns
 exact Out.good (uh HM) hR hst hf1 hd
set_option maxHeartbeats 4000000 in
theorem field_any {p T tv E r A s w}(h:PSt p T tv E r A s w) {ty:M Nat}(hty:∀ A,Reads p T tv E r A 2 164 ty) :
  Calls Tryz.prog 128 #[.pointer (some ⟨p,0,none⟩)] w (Out p T tv E r A w.heap.size 2 s w (typed E ty 9 s) RNat):=by
 go_enter Tryz.func128,Tryz.ntmps128
 go_wp2_with (go_at_call 145;refine (typed_any h ty (hty _) 9).mono ?_;intro e w1 ho;rcases ho.elim with⟨a,s1,v,hq,rfl,hR,hst,hf1,hd⟩ | ⟨c,q,hq,rfl,hb⟩;rotate_left;exact⟨rfl,Out.ill hq hb⟩;have HM:=hide hq;clear hq)
 go_returns
 exact Out.good (uh HM) hR hst hf1 hd
set_option maxHeartbeats 4000000 in
theorem sig_any {p T tv E r A s w}(h:PSt p T tv E r A s w) {lo:Rd}(hlo:Los p T tv E r lo) :
  Calls Tryz.prog 132 #[.pointer (some ⟨p,0,none⟩)] w (Out p T tv E r A w.heap.size 2 s w (sig E r lo s) RNat):=by
 have HA:=h.sep
 have hp:=h.lt
 have hroom:=h.room
 have hcap:=h.cap
 obtain⟨res,hres⟩:∃ res,res=sig E r lo s:=⟨_,rfl⟩
 rw [← hres]
 unfold sig at hres
 have HM:=hide hres
 have hf:=Fr.refl (p:=p) (Nat.le_refl w.heap.size) hp
 have hst:=h
 clear h hres
 have hff1:=field_text
 have hff2:=field_pos
 have hff3:=field_kind
 have hff4:=field_num
 have hzz:∀ (n:Nat),n≤900000→(0:Int)≤(n:Int):=fun n _=>by omega
 go_enter Tryz.func132,Tryz.ntmps132
 go_wp2_with (first
  | (go_at_call 150;refine (listed_param hst _ fun r' A' hr s' w' hs'=>(param_any hs' (hlo r' hr).typ).mono fun _ _ ho=>ho.mono (by decide)).mono ?_;intro e w1 ho;clear hst;rcases ho with⟨ks,s1,kv,hq,rfl,hI,hst,hf1,hd,hkl⟩ | ⟨c,q,hq,rfl,hb⟩;rotate_left;exact⟨rfl,Out.ill (bind_bad (uh HM) hq) (hf.below' hb)⟩;replace HM:=hide (bind_ok (uh HM) hq);replace hI:=own_lower hI hf.size;replace hf:=hf.step hf1;obtain⟨kva,kvc,rfl⟩:=own_len hI;clear hq hf1)
  | (go_at_call 152;refine (withResult_any hst _ (fun A' s' w' hs'=>typ_any hs' hlo) w.heap.size 900000 _ hI hf.size hp (by omega) (by omega)).mono ?_;intro e w1 ho;clear hst;rcases ho with⟨ks2,s1,kv,hq,rfl,hI2,hst,hf1,hd2,hkl2⟩ | ⟨c,q,hq,rfl,hb⟩;rotate_left;exact⟨rfl,Out.ill (bind_bad (uh HM) hq) (hf.below' hb)⟩;replace HM:=hide (bind_ok (uh HM) hq);replace hI:=hI2;replace hf:=hf.trans hf1 (Nat.le_refl _);clear hq hf1 hI2)
  | (go_at_call 126;refine (look0_any hst).mono ?_;rintro e w1 ⟨rfl,hb1⟩;replace hst:=hst.new hb1;replace hf:=hf.new hb1;replace HM:=hide (bind_look (uh HM));clear hb1)
  | (go_at_call 69;refine (putL hst.unlist (by omega) hI hp HA).mono ?_;clear hst;intro e w1 ho;rcases ho with⟨k,s1,hq,rfl,hst,hf1,hd⟩ | hfalse;rotate_left;exact hfalse.elim;(first | (replace HM:=hide (bind_ok (uh HM) hq)) | (replace HM:=hide ((uh HM).trans hq)));replace hf:=hf.step hf1;clear hf1 hq))
 go_returns
 exact Out.good (uh HM) rfl hst hf (by omega)
end
section
open Go.RowKit
def OutBr (p:Nat) (T:List Tok) (tv:Value) (E r:Nat) (A:Nat→Prop) (s:PS) (w:World) (res:Res (Int × List Nat)) (e:Ending) (w':World):Prop :=
 (∃ x ks s' v,res=.ok (x,ks) s'∧e=.returned (.tuple #[.int .i64 x,v])∧Ints w' w.heap.size v ks∧PSt p T tv E r (Au A v) s' w'∧Fr p w.heap.size w w'∧phi s'+6≤phi s∧ks.length≤900000) ∨
 (∃ c q,res=.bad c q∧e=.panicked [{ v:=.iface (ft c) (.agg #[.int .i64 q]),recovered:=false }]∧Ill c p w w')
set_option maxHeartbeats 4000000 in
theorem braced_field {p T tv E r A s w}(h:PSt p T tv E r A s w) (it:M Nat) (hit:∀ r',r=r'+1→∀ A',Reads p T tv E r' A' 1 128 it) :
  Calls Tryz.prog 130 #[.pointer (some ⟨p,0,none⟩),.func (.func 128) #[.pointer (some ⟨p,0,none⟩)] #[]] w (OutBr p T tv E r A s w (braced E r it s)):=by
 have hp:=h.lt
 have hroom:=h.room
 have hcap:=h.cap
 obtain⟨res,hres⟩:∃ res,res=braced E r it s:=⟨_,rfl⟩
 rw [← hres]
 unfold braced at hres
 have HM:=hide hres
 have hf:=Fr.refl (p:=p) (Nat.le_refl w.heap.size) hp
 have hst:=h
 clear h hres
 have hff1:=field_text
 have hff2:=field_pos
 have hff3:=field_kind
 have hff4:=field_num
 have HIT:=hide hit
 clear hit
 go_enter Tryz.func130,Tryz.ntmps130
 go_wp2_with (first
  | (go_at_call 146;refine (open1 hst (by decide)).mono ?_;clear hst;intro e w1 ho;rcases ho with⟨r',a,s1,rfl,hq,rfl,hst,hf1,hd⟩ | ⟨c,q,hq,rfl,hb⟩;rotate_left;exact⟨rfl,Or.inr ⟨c,q,bind_bad (uh HM) hq,rfl,hf.below' hb⟩⟩;replace HM:=hide (bind_ok (uh HM) hq);replace hf:=hf.step hf1;clear hf1 hq)
  | (go_at_call 147;refine (rows_field (hst.alloc _) it (uh HIT r' rfl) _ 1 [⟨#[125]⟩] (heap_alloc_new _ _) (by simp)).mono ?_;intro e w2 ho;clear hst;rcases ho with⟨ks,s2,kv,hq,rfl,hI,hst,hf1,hd2,hkl⟩ | ⟨c,q,hq,rfl,hb⟩;rotate_left;exact⟨rfl,Or.inr ⟨c,q,bind_bad (uh HM) hq,rfl,(hf.new (blA _ _)).below' hb⟩⟩;replace HM:=hide (bind_ok (uh HM) hq);replace hI:=own_lower hI (hf.new (blA _ _)).size;replace hf:=(hf.new (blA _ _)).step hf1;obtain⟨kva,kvc,rfl⟩:=own_len hI;clear hq hf1)
  | (go_at_call 148;refine (shut_any hst (by omega) _ (by decide)).mono ?_;clear hst;intro e w4 ho;rcases ho.elim with⟨a4,s4,v4,hq,rfl,hR,hst,hf4,hd4⟩ | ⟨c,q,hq,rfl,hb⟩;rotate_left;exact⟨rfl,Or.inr ⟨c,q,bind_bad (uh HM) hq,rfl,hf.below' hb⟩⟩;replace HM:=hide (bind_ok (uh HM) hq);unfold RUnit at hR;subst hR;replace hI:=own_fr hI hf4 (by decide) (by decide);replace hf:=hf.step hf4;clear ho hq hf4))
 go_returns
 exact Or.inl ⟨_,ks,_,_,uh HM,rfl,hI,hst,hf,by omega,hkl⟩
set_option maxHeartbeats 4000000 in
theorem braced_methodSig {p T tv E r A s w}(h:PSt p T tv E r A s w) (it:M Nat) (hit:∀ r',r=r'+1→∀ A',Reads p T tv E r' A' 1 129 it) :
  Calls Tryz.prog 130 #[.pointer (some ⟨p,0,none⟩),.func (.func 129) #[.pointer (some ⟨p,0,none⟩)] #[]] w (OutBr p T tv E r A s w (braced E r it s)):=by
 have hp:=h.lt
 have hroom:=h.room
 have hcap:=h.cap
 obtain⟨res,hres⟩:∃ res,res=braced E r it s:=⟨_,rfl⟩
 rw [← hres]
 unfold braced at hres
 have HM:=hide hres
 have hf:=Fr.refl (p:=p) (Nat.le_refl w.heap.size) hp
 have hst:=h
 clear h hres
 have hff1:=field_text
 have hff2:=field_pos
 have hff3:=field_kind
 have hff4:=field_num
 have HIT:=hide hit
 clear hit
 go_enter Tryz.func130,Tryz.ntmps130
 go_wp2_with (first
  | (go_at_call 146;refine (open1 hst (by decide)).mono ?_;clear hst;intro e w1 ho;rcases ho with⟨r',a,s1,rfl,hq,rfl,hst,hf1,hd⟩ | ⟨c,q,hq,rfl,hb⟩;rotate_left;exact⟨rfl,Or.inr ⟨c,q,bind_bad (uh HM) hq,rfl,hf.below' hb⟩⟩;replace HM:=hide (bind_ok (uh HM) hq);replace hf:=hf.step hf1;clear hf1 hq)
  | (go_at_call 147;refine (rows_methodSig (hst.alloc _) it (uh HIT r' rfl) _ 1 [⟨#[125]⟩] (heap_alloc_new _ _) (by simp)).mono ?_;intro e w2 ho;clear hst;rcases ho with⟨ks,s2,kv,hq,rfl,hI,hst,hf1,hd2,hkl⟩ | ⟨c,q,hq,rfl,hb⟩;rotate_left;exact⟨rfl,Or.inr ⟨c,q,bind_bad (uh HM) hq,rfl,(hf.new (blA _ _)).below' hb⟩⟩;replace HM:=hide (bind_ok (uh HM) hq);replace hI:=own_lower hI (hf.new (blA _ _)).size;replace hf:=(hf.new (blA _ _)).step hf1;obtain⟨kva,kvc,rfl⟩:=own_len hI;clear hq hf1)
  | (go_at_call 148;refine (shut_any hst (by omega) _ (by decide)).mono ?_;clear hst;intro e w4 ho;rcases ho.elim with⟨a4,s4,v4,hq,rfl,hR,hst,hf4,hd4⟩ | ⟨c,q,hq,rfl,hb⟩;rotate_left;exact⟨rfl,Or.inr ⟨c,q,bind_bad (uh HM) hq,rfl,hf.below' hb⟩⟩;replace HM:=hide (bind_ok (uh HM) hq);unfold RUnit at hR;subst hR;replace hI:=own_fr hI hf4 (by decide) (by decide);replace hf:=hf.step hf4;clear ho hq hf4))
 go_returns
 exact Or.inl ⟨_,ks,_,_,uh HM,rfl,hI,hst,hf,by omega,hkl⟩
set_option maxHeartbeats 4000000 in
theorem braced_stmt {p T tv E r A s w}(h:PSt p T tv E r A s w) (it:M Nat) (hit:∀ r',r=r'+1→∀ A',Reads p T tv E r' A' 1 153 it) :
  Calls Tryz.prog 130 #[.pointer (some ⟨p,0,none⟩),.func (.func 153) #[.pointer (some ⟨p,0,none⟩)] #[]] w (OutBr p T tv E r A s w (braced E r it s)):=by
 have hp:=h.lt
 have hroom:=h.room
 have hcap:=h.cap
 obtain⟨res,hres⟩:∃ res,res=braced E r it s:=⟨_,rfl⟩
 rw [← hres]
 unfold braced at hres
 have HM:=hide hres
 have hf:=Fr.refl (p:=p) (Nat.le_refl w.heap.size) hp
 have hst:=h
 clear h hres
 have hff1:=field_text
 have hff2:=field_pos
 have hff3:=field_kind
 have hff4:=field_num
 have HIT:=hide hit
 clear hit
 go_enter Tryz.func130,Tryz.ntmps130
 go_wp2_with (first
  | (go_at_call 146;refine (open1 hst (by decide)).mono ?_;clear hst;intro e w1 ho;rcases ho with⟨r',a,s1,rfl,hq,rfl,hst,hf1,hd⟩ | ⟨c,q,hq,rfl,hb⟩;rotate_left;exact⟨rfl,Or.inr ⟨c,q,bind_bad (uh HM) hq,rfl,hf.below' hb⟩⟩;replace HM:=hide (bind_ok (uh HM) hq);replace hf:=hf.step hf1;clear hf1 hq)
  | (go_at_call 147;refine (rows_stmt (hst.alloc _) it (uh HIT r' rfl) _ 1 [⟨#[125]⟩] (heap_alloc_new _ _) (by simp)).mono ?_;intro e w2 ho;clear hst;rcases ho with⟨ks,s2,kv,hq,rfl,hI,hst,hf1,hd2,hkl⟩ | ⟨c,q,hq,rfl,hb⟩;rotate_left;exact⟨rfl,Or.inr ⟨c,q,bind_bad (uh HM) hq,rfl,(hf.new (blA _ _)).below' hb⟩⟩;replace HM:=hide (bind_ok (uh HM) hq);replace hI:=own_lower hI (hf.new (blA _ _)).size;replace hf:=(hf.new (blA _ _)).step hf1;obtain⟨kva,kvc,rfl⟩:=own_len hI;clear hq hf1)
  | (go_at_call 148;refine (shut_any hst (by omega) _ (by decide)).mono ?_;clear hst;intro e w4 ho;rcases ho.elim with⟨a4,s4,v4,hq,rfl,hR,hst,hf4,hd4⟩ | ⟨c,q,hq,rfl,hb⟩;rotate_left;exact⟨rfl,Or.inr ⟨c,q,bind_bad (uh HM) hq,rfl,hf.below' hb⟩⟩;replace HM:=hide (bind_ok (uh HM) hq);unfold RUnit at hR;subst hR;replace hI:=own_fr hI hf4 (by decide) (by decide);replace hf:=hf.step hf4;clear ho hq hf4))
 go_returns
 exact Or.inl ⟨_,ks,_,_,uh HM,rfl,hI,hst,hf,by omega,hkl⟩
set_option maxHeartbeats 4000000 in
theorem block_any {p T tv E r A s w}(h:PSt p T tv E r A s w) {lo:Rd}(hlo:Los p T tv E r lo) :
  Calls Tryz.prog 133 #[.pointer (some ⟨p,0,none⟩)] w (Out p T tv E r A w.heap.size 2 s w (block E r lo s) RNat):=by
 have HA:=h.sep
 have hp:=h.lt
 have hroom:=h.room
 have hcap:=h.cap
 obtain⟨res,hres⟩:∃ res,res=block E r lo s:=⟨_,rfl⟩
 rw [← hres]
 unfold block at hres
 have HM:=hide hres
 have hf:=Fr.refl (p:=p) (Nat.le_refl w.heap.size) hp
 have hst:=h
 clear h hres
 have hff1:=field_text
 have hff2:=field_pos
 have hff3:=field_kind
 have hff4:=field_num
 go_enter Tryz.func133,Tryz.ntmps133
 go_wp2_with (first
  | (go_at_call 130;refine (braced_stmt hst _ fun r' hr=>(hlo r' hr).stmt).mono ?_;intro e w1 ho;clear hst;rcases ho with⟨bx,ks,s1,kv,hq,rfl,hI,hst,hf1,hd,hkl⟩ | ⟨c,q,hq,rfl,hb⟩;rotate_left;exact⟨rfl,Out.ill (bind_bad (uh HM) hq) (hf.below' hb)⟩;replace HM:=hide (bind_ok (uh HM) hq);replace hI:=own_lower hI hf.size;replace hf:=hf.step hf1;obtain⟨kva,kvc,rfl⟩:=own_len hI;clear hq hf1)
  | (go_at_call 69;refine (putL hst.unlist (by omega) hI hp HA).mono ?_;clear hst;intro e w1 ho;rcases ho with⟨k,s1,hq,rfl,hst,hf1,hd⟩ | hfalse;rotate_left;exact hfalse.elim;(first | (replace HM:=hide (bind_ok (uh HM) hq)) | (replace HM:=hide ((uh HM).trans hq)));replace hf:=hf.step hf1;clear hf1 hq))
 go_returns
 exact Out.good (uh HM) rfl hst hf (by omega)
set_option maxHeartbeats 4000000 in
theorem newOf_any {p T tv E r A s w}(h:PSt p T tv E r A s w) :
  Calls Tryz.prog 202 #[.pointer (some ⟨p,0,none⟩)] w (Out p T tv E r A w.heap.size 2 s w (newOf E r s) RNat):=by
 have hp:=h.lt
 have hroom:=h.room
 have hcap:=h.cap
 obtain⟨res,hres⟩:∃ res,res=newOf E r s:=⟨_,rfl⟩
 rw [← hres]
 unfold newOf at hres
 have HM:=hide hres
 have hf:=Fr.refl (p:=p) (Nat.le_refl w.heap.size) hp
 have hst:=h
 clear h hres
 have hff1:=field_text
 have hff2:=field_pos
 have hff3:=field_kind
 have hff4:=field_num
 go_enter Tryz.func202,Tryz.ntmps202
 go_wp2_with (first
  | (go_at_call_of 68 (1:Nat);refine (want1 hst (by decide)).mono ?_;clear hst;intro e w1 ho;rcases ho.elim with⟨a,s1,v,hq,rfl,hR,hst,hf1,hd⟩ | ⟨c,q,hq,rfl,hb⟩;rotate_left;(first | exact⟨rfl,Out.ill (bind_bad (uh HM) hq) (hf.below' hb)⟩ | exact⟨rfl,Out.ill ((uh HM).trans hq) (hf.below' hb)⟩);(first | (replace HM:=hide (bind_ok (uh HM) hq)) | (replace HM:=hide ((uh HM).trans hq)));replace hf:=hf.step hf1;unfold RTok at hR;subst hR;clear ho hf1 hq)
  | (go_at_call_of 146 (1:Nat);refine (open1 hst (by decide)).mono ?_;clear hst;intro e w1 ho;rcases ho with⟨r',a,s1,rfl,hq,rfl,hst,hf1,hd⟩ | ⟨c,q,hq,rfl,hb⟩;rotate_left;exact⟨rfl,Out.ill (bind_bad (uh HM) hq) (hf.below' hb)⟩;replace HM:=hide (bind_ok (uh HM) hq);replace hf:=hf.step hf1;clear hf1 hq)
  | (go_at_call 127;refine (wantName_any hst).mono ?_;clear hst;intro e w1 ho;rcases ho.elim with⟨a,s1,v,hq,rfl,hR,hst,hf1,hd⟩ | ⟨c,q,hq,rfl,hb⟩;rotate_left;(first | exact⟨rfl,Out.ill (bind_bad (uh HM) hq) (hf.below' hb)⟩ | exact⟨rfl,Out.ill ((uh HM).trans hq) (hf.below' hb)⟩);(first | (replace HM:=hide (bind_ok (uh HM) hq)) | (replace HM:=hide ((uh HM).trans hq)));replace hf:=hf.step hf1;unfold RStr at hR;subst hR;clear ho hf1 hq)
  | (go_at_call 148;refine (shut_any hst (by omega) _ (by decide)).mono ?_;clear hst;intro e w1 ho;rcases ho.elim with⟨a,s1,v,hq,rfl,hR,hst,hf1,hd⟩ | ⟨c,q,hq,rfl,hb⟩;rotate_left;(first | exact⟨rfl,Out.ill (bind_bad (uh HM) hq) (hf.below' hb)⟩ | exact⟨rfl,Out.ill ((uh HM).trans hq) (hf.below' hb)⟩);(first | (replace HM:=hide (bind_ok (uh HM) hq)) | (replace HM:=hide ((uh HM).trans hq)));replace hf:=hf.step hf1;unfold RUnit at hR;subst hR;clear ho hf1 hq)
  | (go_at_call 69;refine (put0 hst (by omega)).mono ?_;clear hst;intro e w1 ho;rcases ho with⟨k,s1,hq,rfl,hst,hf1,hd⟩ | hfalse;rotate_left;exact hfalse.elim;(first | (replace HM:=hide (bind_ok (uh HM) hq)) | (replace HM:=hide ((uh HM).trans hq)));replace hf:=hf.step hf1;clear hf1 hq))
 go_returns
 exact Out.good (uh HM) rfl hst hf (by omega)
set_option maxHeartbeats 8000000 in
theorem makeOf_any {p T tv E r A s w}(h:PSt p T tv E r A s w) {lo:Rd}(hlo:Los p T tv E r lo) :
  Calls Tryz.prog 203 #[.pointer (some ⟨p,0,none⟩)] w (Out p T tv E r A w.heap.size 2 s w (makeOf E r lo s) RNat):=by
 have hp:=h.lt
 have hroom:=h.room
 have hcap:=h.cap
 obtain⟨res,hres⟩:∃ res,res=makeOf E r lo s:=⟨_,rfl⟩
 rw [← hres]
 unfold makeOf at hres
 have HM:=hide hres
 have hf:=Fr.refl (p:=p) (Nat.le_refl w.heap.size) hp
 have hst:=h
 clear h hres
 have hff1:=field_text
 have hff2:=field_pos
 have hff3:=field_kind
 have hff4:=field_num
 go_enter Tryz.func203,Tryz.ntmps203
 go_wp2_with (first
  | (go_at_call_of 68 (1:Nat);refine (want1 hst (by decide)).mono ?_;clear hst;intro e w1 ho;rcases ho.elim with⟨a,s1,v,hq,rfl,hR,hst,hf1,hd⟩ | ⟨c,q,hq,rfl,hb⟩;rotate_left;(first | exact⟨rfl,Out.ill (bind_bad (uh HM) hq) (hf.below' hb)⟩ | exact⟨rfl,Out.ill ((uh HM).trans hq) (hf.below' hb)⟩);(first | (replace HM:=hide (bind_ok (uh HM) hq)) | (replace HM:=hide ((uh HM).trans hq)));replace hf:=hf.step hf1;unfold RTok at hR;subst hR;clear ho hf1 hq)
  | (go_at_call_of 146 (1:Nat);refine (open1 hst (by decide)).mono ?_;clear hst;intro e w1 ho;rcases ho with⟨r',a,s1,rfl,hq,rfl,hst,hf1,hd⟩ | ⟨c,q,hq,rfl,hb⟩;rotate_left;exact⟨rfl,Out.ill (bind_bad (uh HM) hq) (hf.below' hb)⟩;replace HM:=hide (bind_ok (uh HM) hq);replace hf:=hf.step hf1;clear hf1 hq)
  | (go_at_call 175;refine ((hlo _ rfl).chan _ _ _ hst).mono ?_;clear hst;intro e w1 ho;rcases ho.elim with⟨a,s1,v,hq,rfl,hR,hst,hf1,hd⟩ | ⟨c,q,hq,rfl,hb⟩;rotate_left;(first | exact⟨rfl,Out.ill (bind_bad (uh HM) hq) (hf.below' hb)⟩ | exact⟨rfl,Out.ill ((uh HM).trans hq) (hf.below' hb)⟩);(first | (replace HM:=hide (bind_ok (uh HM) hq)) | (replace HM:=hide ((uh HM).trans hq)));replace hf:=hf.step hf1;unfold RPair at hR;subst hR;clear ho hf1 hq)
  | (go_at_call_of 98 (1:Nat);refine (is1b hst).mono ?_;rintro e w1 ⟨y,rfl,hy,hb1⟩;replace hst:=hst.new hb1;replace hf:=hf.new hb1;replace HM:=hide (bind_is (uh HM) hy);clear hb1;cases y;(try (replace HM:=hide (ite_no (uh HM) rfl)));rotate_left;(try (replace HM:=hide (ite_yes (uh HM) rfl)));(try (have hne:=hide (rest_ne_is hy (by decide))));(try (clear hy));rotate_left;(try (clear hy)))
  | (go_at_call 102;refine (next_any hst (uh hne)).mono ?_;clear hst;intro e w1 ho;rcases ho.elim with⟨a,s1,v,hq,rfl,hR,hst,hf1,hd⟩ | ⟨c,q,hq,rfl,hb⟩;rotate_left;(first | exact⟨rfl,Out.ill (bind_bad (uh HM) hq) (hf.below' hb)⟩ | exact⟨rfl,Out.ill ((uh HM).trans hq) (hf.below' hb)⟩);(first | (replace HM:=hide (bind_ok (uh HM) hq)) | (replace HM:=hide ((uh HM).trans hq)));replace hf:=hf.step hf1;unfold RTok at hR;subst hR;clear ho hf1 hq)
  | (go_at_call 144;refine (wantKind_any hst _ (by decide)).mono ?_;clear hst;intro e w1 ho;rcases ho.elim with⟨a,s1,v,hq,rfl,hR,hst,hf1,hd⟩ | ⟨c,q,hq,rfl,hb⟩;rotate_left;(first | exact⟨rfl,Out.ill (bind_bad (uh HM) hq) (hf.below' hb)⟩ | exact⟨rfl,Out.ill ((uh HM).trans hq) (hf.below' hb)⟩);(first | (replace HM:=hide (bind_ok (uh HM) hq)) | (replace HM:=hide ((uh HM).trans hq)));replace hf:=hf.step hf1;unfold RTok at hR;subst hR;clear ho hf1 hq)
  | (go_at_call 148;refine (shut_any hst (by omega) _ (by decide)).mono ?_;clear hst;intro e w1 ho;rcases ho.elim with⟨a,s1,v,hq,rfl,hR,hst,hf1,hd⟩ | ⟨c,q,hq,rfl,hb⟩;rotate_left;(first | exact⟨rfl,Out.ill (bind_bad (uh HM) hq) (hf.below' hb)⟩ | exact⟨rfl,Out.ill ((uh HM).trans hq) (hf.below' hb)⟩);(first | (replace HM:=hide (bind_ok (uh HM) hq)) | (replace HM:=hide ((uh HM).trans hq)));replace hf:=hf.step hf1;unfold RUnit at hR;subst hR;clear ho hf1 hq)
  | (go_at_call_of 69 (1:Nat);refine (put1 hst (by omega)).mono ?_;clear hst;intro e w1 ho;rcases ho with⟨k,s1,hq,rfl,hst,hf1,hd⟩ | hfalse;rotate_left;exact hfalse.elim;(first | (replace HM:=hide (bind_ok (uh HM) hq)) | (replace HM:=hide ((uh HM).trans hq)));replace hf:=hf.step hf1;clear hf1 hq))
 all_goals
  go_returns
  exact Out.good (uh HM) rfl hst hf (by omega)
set_option maxHeartbeats 8000000 in
theorem dot_any {p T tv E r A s w}(h:PSt p T tv E r A s w) {lo:Rd}(hlo:Los p T tv E r lo) (left:Nat) :
  Calls Tryz.prog 197 #[.pointer (some ⟨p,0,none⟩),.int .i64 (left:Int)] w (Out p T tv E r A w.heap.size 2 s w (dot E r lo left s) RNat):=by
 have hp:=h.lt
 have hroom:=h.room
 have hcap:=h.cap
 obtain⟨res,hres⟩:∃ res,res=dot E r lo left s:=⟨_,rfl⟩
 rw [← hres]
 unfold dot at hres
 have HM:=hide hres
 have hf:=Fr.refl (p:=p) (Nat.le_refl w.heap.size) hp
 have hst:=h
 clear h hres
 have hff1:=field_text
 have hff2:=field_pos
 have hff3:=field_kind
 have hff4:=field_num
 go_enter Tryz.func197,Tryz.ntmps197
 go_wp2_with (first
  | (go_at_call_of 68 (1:Nat);refine (want1 hst (by decide)).mono ?_;clear hst;intro e w1 ho;rcases ho.elim with⟨a,s1,v,hq,rfl,hR,hst,hf1,hd⟩ | ⟨c,q,hq,rfl,hb⟩;rotate_left;(first | exact⟨rfl,Out.ill (bind_bad (uh HM) hq) (hf.below' hb)⟩ | exact⟨rfl,Out.ill ((uh HM).trans hq) (hf.below' hb)⟩);(first | (replace HM:=hide (bind_ok (uh HM) hq)) | (replace HM:=hide ((uh HM).trans hq)));replace hf:=hf.step hf1;unfold RTok at hR;subst hR;clear ho hf1 hq)
  | (go_at_call_of 146 (1:Nat);refine (open1 hst (by decide)).mono ?_;clear hst;intro e w1 ho;rcases ho with⟨r',a,s1,rfl,hq,rfl,hst,hf1,hd⟩ | ⟨c,q,hq,rfl,hb⟩;rotate_left;exact⟨rfl,Out.ill (bind_bad (uh HM) hq) (hf.below' hb)⟩;replace HM:=hide (bind_ok (uh HM) hq);replace hf:=hf.step hf1;clear hf1 hq)
  | (go_at_call 163;refine (isKindb hst).mono ?_;rintro e w1 ⟨y,rfl,hy,hb1⟩;replace hst:=hst.new hb1;replace hf:=hf.new hb1;replace HM:=hide (bind_isKind (uh HM) hy);clear hb1;cases y;(try (replace HM:=hide (ite_no (uh HM) rfl)));rotate_left;(try (replace HM:=hide (ite_yes (uh HM) rfl)));(try (have hne:=hide (rest_ne_kind (of_decide_eq_true hy) (by decide))));(try (clear hy));rotate_left;(try (clear hy)))
  | (go_at_call 127;refine (wantName_any hst).mono ?_;clear hst;intro e w1 ho;rcases ho.elim with⟨a,s1,v,hq,rfl,hR,hst,hf1,hd⟩ | ⟨c,q,hq,rfl,hb⟩;rotate_left;(first | exact⟨rfl,Out.ill (bind_bad (uh HM) hq) (hf.below' hb)⟩ | exact⟨rfl,Out.ill ((uh HM).trans hq) (hf.below' hb)⟩);(first | (replace HM:=hide (bind_ok (uh HM) hq)) | (replace HM:=hide ((uh HM).trans hq)));replace hf:=hf.step hf1;unfold RStr at hR;subst hR;clear ho hf1 hq)
  | (go_at_call 164;refine ((hlo _ rfl).typ _ _ _ hst).mono ?_;clear hst;intro e w1 ho;rcases ho.elim with⟨a,s1,v,hq,rfl,hR,hst,hf1,hd⟩ | ⟨c,q,hq,rfl,hb⟩;rotate_left;(first | exact⟨rfl,Out.ill (bind_bad (uh HM) hq) (hf.below' hb)⟩ | exact⟨rfl,Out.ill ((uh HM).trans hq) (hf.below' hb)⟩);(first | (replace HM:=hide (bind_ok (uh HM) hq)) | (replace HM:=hide ((uh HM).trans hq)));replace hf:=hf.step hf1;unfold RNat at hR;subst hR;clear ho hf1 hq)
  | (go_at_call 148;refine (shut_any hst (by omega) _ (by decide)).mono ?_;clear hst;intro e w1 ho;rcases ho.elim with⟨a,s1,v,hq,rfl,hR,hst,hf1,hd⟩ | ⟨c,q,hq,rfl,hb⟩;rotate_left;(first | exact⟨rfl,Out.ill (bind_bad (uh HM) hq) (hf.below' hb)⟩ | exact⟨rfl,Out.ill ((uh HM).trans hq) (hf.below' hb)⟩);(first | (replace HM:=hide (bind_ok (uh HM) hq)) | (replace HM:=hide ((uh HM).trans hq)));replace hf:=hf.step hf1;unfold RUnit at hR;subst hR;clear ho hf1 hq)
  | (go_at_call_of 69 (2:Nat);refine (put2 hst (by omega)).mono ?_;clear hst;intro e w1 ho;rcases ho with⟨k,s1,hq,rfl,hst,hf1,hd⟩ | hfalse;rotate_left;exact hfalse.elim;(first | (replace HM:=hide (bind_ok (uh HM) hq)) | (replace HM:=hide ((uh HM).trans hq)));replace hf:=hf.step hf1;clear hf1 hq)
  | (go_at_call_of 69 (1:Nat);refine (put1 hst (by omega)).mono ?_;clear hst;intro e w1 ho;rcases ho with⟨k,s1,hq,rfl,hst,hf1,hd⟩ | hfalse;rotate_left;exact hfalse.elim;(first | (replace HM:=hide (bind_ok (uh HM) hq)) | (replace HM:=hide ((uh HM).trans hq)));replace hf:=hf.step hf1;clear hf1 hq))
 all_goals
  go_returns
  exact Out.good (uh HM) rfl hst hf (by omega)
end
end Go.Proofs.YtdemnolanlfblaaGreatDoor
