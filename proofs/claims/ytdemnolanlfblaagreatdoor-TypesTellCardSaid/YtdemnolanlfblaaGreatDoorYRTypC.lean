import Derived.Test.YtdemnolanlfblaaGreatDoorYRWrong
set_option linter.all false
namespace Go.Proofs.YtdemnolanlfblaaGreatDoor
section
open Go.RowKit
theorem nd4 {w:World}{k:Nat}{a b c d e:Value}(h:BoxAt w k [a,b,c,d,e] 36) (u:Value):BoxAt (w.setCell ⟨k,4,none⟩ u) k [a,b,c,d,u] 36:=h.set u
theorem nd2 {w:World}{k:Nat}{a b c d e:Value}(h:BoxAt w k [a,b,c,d,e] 36) (u:Value):BoxAt (w.setCell ⟨k,2,none⟩ u) k [a,b,u,d,e] 36:=h.set u
theorem nd0 {w:World}{k:Nat}{a b c d e:Value}(h:BoxAt w k [a,b,c,d,e] 36) (u:Value):BoxAt (w.setCell ⟨k,0,none⟩ u) k [u,b,c,d,e] 36:=h.set u
theorem nd3 {w:World}{k:Nat}{a b c d e:Value}(h:BoxAt w k [a,b,c,d,e] 36) (u:Value):BoxAt (w.setCell ⟨k,3,none⟩ u) k [a,b,c,u,e] 36:=h.set u
theorem RSt.nd {p X T tv r A s w}(h:RSt p X T tv r A s w) {k:Nat}{cs:List Value}(hb:BoxAt w k cs 36) (hA:A k) (j:Nat) (u:Value):RSt p X T tv r A s (w.setCell ⟨k,j,none⟩ u):=h.setApart (a:=⟨k,j,none⟩) hb hA u
theorem RBad.nd {p X T tv c q N A w}(h:RBad p X T tv c q N A w) {k:Nat}{cs:List Value}(hb:BoxAt w k cs 36) (hA:A k) (j:Nat) (u:Value):RBad p X T tv c q N A (w.setCell ⟨k,j,none⟩ u):=h.setApart (a:=⟨k,j,none⟩) hb hA u
theorem Ints.nd {w:World}{B:Nat}{v:Value}{ks:List Nat}(h:Ints w B v ks) {k:Nat}{cs:List Value}(hb:BoxAt w k cs 36) (j:Nat) (u:Value):Ints (w.setCell ⟨k,j,none⟩ u) B v ks:=own_set_ne h (a:=⟨k,j,none⟩) (own_ne h hb (by decide)) u
theorem RFr.setNd {p B:Nat}{w w1:World}(h:RFr p B w w1) {g:Nat}{cs:List Value}(_:BoxAt w1 g cs 36) (hp:p≤g) (hB:B≤g) (j:Nat) (u:Value):RFr p B w (w1.setCell ⟨g,j,none⟩ u):=h.set (a:=⟨g,j,none⟩) hp hB u
theorem withResult_at {E:Nat}{ty:M Nat}{ks:List Nat}{s:PS}:withResult E ty ks s=if beginsT E s=true then M.bind ty (fun k=>M.ret (ks++[k])) s else .ok ks s:=by
 unfold beginsT
 cases h1:isB E s [⟨#[105,110,116]⟩,⟨#[98,111,111,108]⟩,⟨#[99,104,97,110]⟩,⟨#[102,117,110,99]⟩,⟨#[42]⟩] with
 | true=>rw [if_pos (by simp),withResult_yes h1]
 | false =>
  cases h2:decide ((look E s 0).kind=1) with
  | true=>rw [if_pos (by simp),withResult_kind h1 h2]
  | false=>rw [if_neg (by simp),withResult_none h1 h2]
theorem typed_close {E:Nat}{ty:M Nat}{k:Int}{s:PS}(h3:(look E s 0).kind=3):typed E ty k s=.bad 3 (look E s 0).pos:=by
 unfold typed
 rw [bind_at]
 unfold wantKind
 rw [if_neg (by rw [h3];decide)];rfl
theorem typed_at {E:Nat}{ty:M Nat}{k:Int}{s:PS}:typed E ty k s=((wantName E).bind fun n=>ty.bind fun a=>put ⟨k,(look E s 0).pos,0,n,[a]⟩) s:=by
 unfold typed
 by_cases h:(look E s 0).kind=1
 ·rw [bindOk (wantName_yes h)]
  have:wantKind E 1 s=.ok (look E s 0) { s with rest:=s.rest.tail }:=by unfold wantKind;rw [if_pos h];rfl
  rw [bindOk this]
 ·rw [bindBad (wantName_no h)]
  have:wantKind E 1 s=.bad 3 (look E s 0).pos:=by unfold wantKind;rw [if_neg h];rfl
  rw [bindBad this]
set_option maxHeartbeats 4000000 in
theorem rparam_ok {p X T tv r A s w}(h:RSt p X T tv r A s w) (ty:M Nat) (K:Nat) (hK:K≤90) (hty:∀ A',RReads p X T tv r A' 2 K 85 #[.pointer (some ⟨p,0,none⟩)] ty) (k:Int) :
  Calls Tryz.prog 58 #[.pointer (some ⟨p,0,none⟩),.int .i64 k] w (ROut p X T tv r A w.heap.size 2 (phi s+100 * r+(K+2)) s w (typed X.size ty k s) RNat BNat):=by
 have hp:=h.lt
 have hroom:=h.room
 have hcap:=h.cap
 obtain⟨res,hres⟩:∃ res,res=typed X.size ty k s:=⟨_,rfl⟩
 rw [← hres]
 rw [typed_at] at hres
 obtain⟨t,HT⟩:∃ t,Hid (look X.size s 0=t):=⟨_,rfl⟩
 rw [uh HT] at hres
 have HM:=hide hres
 have HTY:=hide hty
 have hf:=RFr.refl (p:=p) (Nat.le_refl w.heap.size) hp
 have hst:=h
 clear h hres hty
 go_enter Tryz.func58,Tryz.ntmps58
 go_wp2_with (first
  | (go_at_call 35;have hnow:=rnow_ok hst;rw [uh HT] at hnow;refine hnow.mono ?_;rintro e w1 ⟨rfl,hb1⟩;have tB:=(hf.new hb1).size;have bt:=BoxAt.made w1 [.int .i64 t.kind,.string t.text,.int .i64 t.num,.int .i64 t.pos] 66;obtain⟨t0,t1,t2,t3,tl⟩:=bt4 bt;replace hst:=(hst.new hb1).alloc (Obj.cells #[.int .i64 t.kind,.string t.text,.int .i64 t.num,.int .i64 t.pos] 66);replace hf:=(hf.new hb1).new (blA _ (Obj.cells #[.int .i64 t.kind,.string t.text,.int .i64 t.num,.int .i64 t.pos] 66));clear hb1 hnow)
  | (go_at_call 55;refine (rname_ok hst).mono ?_;intro e w1 ho;clear hst;rcases ho with⟨a,s1,v,hq,rfl,hR,hst,hf1,hd⟩ | ⟨c,q,v,hq,rfl,hR,hbd,hf1⟩;((first | (replace HM:=hide (bind_ok (uh HM) hq)) | (replace HM:=hide ((uh HM).trans hq)));replace bt:=BoxAt.tk bt hf1;clear t0 t1 t2 t3 tl;obtain⟨t0,t1,t2,t3,tl⟩:=bt4 bt;replace hf:=hf.step hf1;unfold RStr at hR;subst hR;clear hf1 hq);rotate_left;((first | (replace HM:=hide (bind_bad (uh HM) hq)) | (replace HM:=hide ((uh HM).trans hq)));replace bt:=BoxAt.tk bt hf1;clear t0 t1 t2 t3 tl;obtain⟨t0,t1,t2,t3,tl⟩:=bt4 bt;replace hf:=hf.step hf1;obtain⟨kb,rfl⟩:=hR;clear hf1 hq);rotate_left)
          | (go_at_call 55;refine (rname_bad hbd).mono ?_;clear hbd;rintro e w1 ⟨v,rfl,hR,hbd,hf1⟩;replace bt:=BoxAt.tk bt hf1;clear t0 t1 t2 t3 tl;obtain⟨t0,t1,t2,t3,tl⟩:=bt4 bt;replace hf:=hf.step hf1;obtain⟨kb,rfl⟩:=hR;clear hf1)
  | (go_at_call 85;refine (uh HTY _ _ _ hst).mono ?_;intro e w1 ho;clear hst;rcases ho with⟨a,s1,v,hq,rfl,hR,hst,hf1,hd⟩ | ⟨c,q,v,hq,rfl,hR,hbd,hf1⟩;((first | (replace HM:=hide (bind_ok (uh HM) hq)) | (replace HM:=hide ((uh HM).trans hq)));replace bt:=BoxAt.tk bt hf1;clear t0 t1 t2 t3 tl;obtain⟨t0,t1,t2,t3,tl⟩:=bt4 bt;replace hf:=hf.step hf1;unfold RNat at hR;subst hR;clear hf1 hq);rotate_left;((first | (replace HM:=hide (bind_bad (uh HM) hq)) | (replace HM:=hide ((uh HM).trans hq)));replace bt:=BoxAt.tk bt hf1;clear t0 t1 t2 t3 tl;obtain⟨t0,t1,t2,t3,tl⟩:=bt4 bt;replace hf:=hf.step hf1;obtain⟨kb,rfl⟩:=hR;clear hf1 hq);rotate_left)
          | (go_at_call 85;refine (rtyp_bad hbd (by omega)).mono ?_;clear hbd;rintro e w1 ⟨v,rfl,hR,hbd,hf1⟩;replace bt:=BoxAt.tk bt hf1;clear t0 t1 t2 t3 tl;obtain⟨t0,t1,t2,t3,tl⟩:=bt4 bt;replace hf:=hf.step hf1;obtain⟨kb,rfl⟩:=hR;clear hf1)
  | (go_at_call_of 38 (1:Nat);refine (rput1 hst (by omega) (by first | rfl | (simp only [size_set]))).mono ?_;intro e w1 ho;clear hst;obtain⟨k,s1,hq,rfl,hst,hf1,hd⟩:=ho;(first | (replace HM:=hide (bind_ok (uh HM) hq)) | (replace HM:=hide ((uh HM).trans hq)));replace bt:=BoxAt.tk bt hf1;clear t0 t1 t2 t3 tl;obtain⟨t0,t1,t2,t3,tl⟩:=bt4 bt;replace hf:=hf.step hf1;clear hf1 hq)
          | (go_at_call 38;have hlt5:=hbd.lt;refine (rput_bad (hbd.alloc _) (by omega) _ _ _ _ _ _ _).mono ?_;clear hbd;rintro e w1 ⟨v,rfl,hR,hbd,hf1⟩;replace hf1:=RFr.drop hf1 hlt5;replace bt:=BoxAt.tk bt hf1;clear t0 t1 t2 t3 tl;obtain⟨t0,t1,t2,t3,tl⟩:=bt4 bt;replace hf:=hf.step hf1;obtain⟨kb,rfl⟩:=hR;clear hf1 hlt5))
 all_goals
  go_returns
  first
   | exact Or.inl ⟨_,_,_,uh HM,rfl,rfl,hst,hf,by omega⟩
   | exact Or.inr ⟨_,_,_,uh HM,rfl,⟨_,rfl⟩,hbd.more (by omega),hf⟩
end
section
open Go.RowKit
theorem rputL {p X T tv r A s w}(h:RSt p X T tv r A s w) (hc:phi s+1≤900000) {k n q:Int}{x:ByteArray}{kv:Value}{ks:List Nat}{B:Nat}(hI:Ints w B kv ks) (hpB:p<B) (hA:∀ k,A k→k<B) :
  Calls Tryz.prog 38 #[.pointer (some ⟨p,0,none⟩),.agg #[.int .i64 k,.int .i64 q,.int .i64 n,.string x,kv]] w (ROutP p X T tv r A s w ⟨k,q,n,x,ks⟩) :=
 rputK h hc (own_lower hI hpB) fun j hj hAj=>by
  have h1:=(World.ownsRow.lt hI j hj).1
  have h2:=hA j hAj
  omega
theorem own_snoc {w:World}{B a:Nat}{v:Value}{ks:List Nat}(h:Ints w B v (ks++[a])):∃ b c,v=.slice b (ks.length+1) c:=by
 obtain⟨b,c,hv⟩:=own_len h
 exact⟨b,c,by rw [hv];simp⟩
theorem bn_iapp {w w6:World}{k B:Nat}{cs:List Value}{v:Value}{ks:List Nat}{o:Obj}(h:BoxAt w k cs 36) (hI:Ints w B v ks) (hg:(w.alloc o).grownBy w6 v.ownBlock):BoxAt w6 k cs 36:=by
 unfold BoxAt
 have hlt:=h.lt
 rw [hg.block k (by rw [szA];omega) ?_,Below.heap_alloc _ _ _ hlt];exact h
 intro he
 obtain⟨c2,h2⟩:=own_type hI he.symm
 unfold BoxAt at h
 rw [h] at h2
 simp at h2
theorem wr_step {E:Nat}{ty:M Nat}{ks:List Nat}{s:PS}{res:Res Nat}{f:List Nat→M Nat}{y:Bool}(h:res=M.bind (withResult E ty ks) f s) (hy:beginsT E s=y):res=if y=true then M.bind ty (fun k=>f (ks++[k])) s else f ks s:=by
 rw [h,bind_at,withResult_at,hy]
 cases y
 ·rfl
 ·simp only [if_pos]
  rw [bind_at,bind_at]
  cases ty s <;> rfl
theorem res_yes {β:Type}{res a b:Res β}(h:res=if true=true then a else b):res=a:=by rw [h,if_pos rfl]
theorem res_no {β:Type}{res a b:Res β}(h:res=if false=true then a else b):res=b:=by rw [h,if_neg (by decide)]
set_option maxHeartbeats 4000000 in
theorem rsig_bad {p X T tv c q N A w}(h:RBad p X T tv c q N A w) (hN:N≤1900000):Calls Tryz.prog 59 #[.pointer (some ⟨p,0,none⟩)] w (WOut p X T tv w.heap.size c q (N+1) A w BNat):=by
 have hp:=h.lt
 have hf:=RFr.refl (p:=p) (Nat.le_refl w.heap.size) hp
 have hbd:=h
 clear h
 go_enter Tryz.func59,Tryz.ntmps59
 go_wp2_with (first
  | (go_at_call 35;refine (rnow_bad hbd).mono ?_;rintro e w1 ⟨rfl,hb1⟩;have tB:=(hf.new hb1).size;have bt:=BoxAt.made w1 [.int .i64 0,.string ⟨#[]⟩,.int .i64 0,.int .i64 (X.size:Int)] 66;obtain⟨t0,t1,t2,t3,tl⟩:=bt4 bt;replace hbd:=(hbd.new hb1).alloc (Obj.cells #[.int .i64 0,.string ⟨#[]⟩,.int .i64 0,.int .i64 (X.size:Int)] 66);replace hf:=(hf.new hb1).new (blA _ (Obj.cells #[.int .i64 0,.string ⟨#[]⟩,.int .i64 0,.int .i64 (X.size:Int)] 66));have nB:=hf.size;have bn:=BoxAt.made (w1.alloc (Obj.cells #[.int .i64 0,.string ⟨#[]⟩,.int .i64 0,.int .i64 (X.size:Int)] 66)) [.int .i64 8,.int .i64 (X.size:Int),.int .i64 0,.string ⟨#[]⟩,.slice none 0 0] 36;rw [szA] at nB bn;obtain⟨n0,n1,n2,n3,n4,nf0,nf1,nf2,nf3,nf4,nl⟩:=bn5 bn;clear t0 t1 t2 t3 tl bt;replace hbd:=hbd.box (Obj.cells #[.int .i64 8,.int .i64 (X.size:Int),.int .i64 0,.string ⟨#[]⟩,.slice none 0 0] 36);rw [szA] at hbd;replace hf:=hf.new (blA _ (Obj.cells #[.int .i64 8,.int .i64 (X.size:Int),.int .i64 0,.string ⟨#[]⟩,.slice none 0 0] 36));clear hb1)
  | (go_at_call 86;refine (rlist_bad hbd _).mono ?_;clear hbd;rintro e w1 ⟨v,rfl,hR,hbd,hf1⟩;replace bn:=BoxAt.nd bn hf1;clear n0 n1 n2 n3 n4 nf0 nf1 nf2 nf3 nf4 nl;obtain⟨n0,n1,n2,n3,n4,nf0,nf1,nf2,nf3,nf4,nl⟩:=bn5 bn;replace hf:=hf.step hf1;subst hR;replace hbd:=hbd.nd bn (Or.inr rfl) 4 (.slice none 0 0);replace hf:=hf.setNd bn (by omega) (by omega) 4 (.slice none 0 0);replace bn:=nd4 bn (.slice none 0 0);replace hbd:=hbd.nd bn (Or.inr rfl) 2 (.int .i64 0);replace hf:=hf.setNd bn (by omega) (by omega) 2 (.int .i64 0);replace bn:=nd2 bn (.int .i64 0);clear hf1)
  | (go_at_call 87;refine (rbegins_bad hbd).mono ?_;rintro e w1 ⟨rfl,hb1⟩;replace hbd:=hbd.new hb1;replace bn:=bn.new hb1;clear n0 n1 n2 n3 n4 nf0 nf1 nf2 nf3 nf4 nl;obtain⟨n0,n1,n2,n3,n4,nf0,nf1,nf2,nf3,nf4,nl⟩:=bn5 bn;replace hf:=hf.new hb1;clear hb1)
  | (go_at_call 38;refine (rput_bad hbd.unbox (by omega) _ _ _ _ _ _ _).mono ?_;clear hbd;rintro e w1 ⟨v,rfl,hR,hbd,hf1⟩;replace hf:=hf.step hf1;obtain⟨kb,rfl⟩:=hR;clear hf1))
 go_returns
 exact⟨_,rfl,⟨_,rfl⟩,hbd,hf⟩
set_option maxHeartbeats 8000000 in
theorem rsig_ok {p X T tv r A s w}(h:RSt p X T tv r A s w) (lo:Rd) (hlo:∀ r',r=r'+1→∀ A',RReads p X T tv r' A' 2 10 85 #[.pointer (some ⟨p,0,none⟩)] lo.typ) (hty:∀ A',RReads p X T tv r A' 2 10 85 #[.pointer (some ⟨p,0,none⟩)] (typ X.size r lo)) :
  Calls Tryz.prog 59 #[.pointer (some ⟨p,0,none⟩)] w (ROut p X T tv r A w.heap.size 2 (phi s+100 * r+12) s w (sig X.size r lo s) RNat BNat):=by
 have HA:=h.sep
 have hp:=h.lt
 have hroom:=h.room
 have hcap:=h.cap
 obtain⟨res,hres⟩:∃ res,res=sig X.size r lo s:=⟨_,rfl⟩
 rw [← hres]
 unfold sig at hres
 replace hres:=bind_look hres
 obtain⟨t,HT⟩:∃ t,Hid (look X.size s 0=t):=⟨_,rfl⟩
 rw [uh HT] at hres
 have HM:=hide hres
 have HTY:=hide hty
 have HLO:=hide hlo
 have hf:=RFr.refl (p:=p) (Nat.le_refl w.heap.size) hp
 have hst:=h
 clear h hres hty hlo
 go_enter Tryz.func59,Tryz.ntmps59
 go_wp2_with (first
  | (go_at_call 35;have hnow:=rnow_ok hst;rw [uh HT] at hnow;refine hnow.mono ?_;rintro e w1 ⟨rfl,hb1⟩;have tB:=(hf.new hb1).size;have bt:=BoxAt.made w1 [.int .i64 t.kind,.string t.text,.int .i64 t.num,.int .i64 t.pos] 66;obtain⟨t0,t1,t2,t3,tl⟩:=bt4 bt;replace hst:=(hst.new hb1).alloc (Obj.cells #[.int .i64 t.kind,.string t.text,.int .i64 t.num,.int .i64 t.pos] 66);replace hf:=(hf.new hb1).new (blA _ (Obj.cells #[.int .i64 t.kind,.string t.text,.int .i64 t.num,.int .i64 t.pos] 66));have nB:=hf.size;have bn:=BoxAt.made (w1.alloc (Obj.cells #[.int .i64 t.kind,.string t.text,.int .i64 t.num,.int .i64 t.pos] 66)) [.int .i64 8,.int .i64 t.pos,.int .i64 0,.string ⟨#[]⟩,.slice none 0 0] 36;rw [szA] at nB bn;obtain⟨n0,n1,n2,n3,n4,nf0,nf1,nf2,nf3,nf4,nl⟩:=bn5 bn;clear t0 t1 t2 t3 tl bt;replace hst:=hst.box (Obj.cells #[.int .i64 8,.int .i64 t.pos,.int .i64 0,.string ⟨#[]⟩,.slice none 0 0] 36);rw [szA] at hst;replace hf:=hf.new (blA _ (Obj.cells #[.int .i64 8,.int .i64 t.pos,.int .i64 0,.string ⟨#[]⟩,.slice none 0 0] 36));clear hb1 hnow)
  | (go_at_call 86;refine (rlist_param hst _ 12 (by omega) (fun r' hr A' s2 w2 h2=>rparam_ok h2 _ 10 (by omega) (uh HLO r' hr) 7) (fun _ _ s2 _ h3=>typed_close h3)).mono ?_;intro e w1 ho;clear hst;rcases ho with⟨ks,s1,v,hq,rfl,hI,hst,hf1,hd,hkl⟩ | ⟨c,q,ks,v,hq,rfl,hI,hbd,hf1,hkl⟩;(obtain⟨va,vc,rfl⟩:=own_len hI;replace HM:=hide (bind_ok (uh HM) hq);replace hI:=own_lower hI hf.size;replace bn:=BoxAt.nd bn hf1;clear n0 n1 n2 n3 n4 nf0 nf1 nf2 nf3 nf4 nl;obtain⟨n0,n1,n2,n3,n4,nf0,nf1,nf2,nf3,nf4,nl⟩:=bn5 bn;replace hf:=hf.step hf1;replace hst:=hst.nd bn (Or.inl (Or.inr rfl)) 4 (.slice va ks.length vc);replace hf:=hf.setNd bn (by omega) (by omega) 4 (.slice va ks.length vc);replace hI:=Ints.nd hI bn 4 (.slice va ks.length vc);replace bn:=nd4 bn (.slice va ks.length vc);replace hst:=hst.nd bn (Or.inl (Or.inr rfl)) 2 (.int .i64 (ks.length:Int));replace hf:=hf.setNd bn (by omega) (by omega) 2 (.int .i64 (ks.length:Int));replace hI:=Ints.nd hI bn 2 (.int .i64 (ks.length:Int));replace bn:=nd2 bn (.int .i64 (ks.length:Int));clear hf1 hq);rotate_left;(obtain⟨va,vc,rfl⟩:=own_len hI;replace HM:=hide (bind_bad (uh HM) hq);replace hI:=own_lower hI hf.size;replace bn:=BoxAt.nd bn hf1;clear n0 n1 n2 n3 n4 nf0 nf1 nf2 nf3 nf4 nl;obtain⟨n0,n1,n2,n3,n4,nf0,nf1,nf2,nf3,nf4,nl⟩:=bn5 bn;replace hf:=hf.step hf1;replace hbd:=hbd.nd bn (Or.inr rfl) 4 (.slice va ks.length vc);replace hf:=hf.setNd bn (by omega) (by omega) 4 (.slice va ks.length vc);replace hI:=Ints.nd hI bn 4 (.slice va ks.length vc);replace bn:=nd4 bn (.slice va ks.length vc);replace hbd:=hbd.nd bn (Or.inr rfl) 2 (.int .i64 (ks.length:Int));replace hf:=hf.setNd bn (by omega) (by omega) 2 (.int .i64 (ks.length:Int));replace hI:=Ints.nd hI bn 2 (.int .i64 (ks.length:Int));replace bn:=nd2 bn (.int .i64 (ks.length:Int));clear hf1 hq);rotate_left)
  | (go_at_call 87;refine (rbegins_ok hst).mono ?_;rintro e w1 ⟨y,rfl,hy,hb1⟩;replace hst:=hst.new hb1;replace bn:=bn.new hb1;clear n0 n1 n2 n3 n4 nf0 nf1 nf2 nf3 nf4 nl;obtain⟨n0,n1,n2,n3,n4,nf0,nf1,nf2,nf3,nf4,nl⟩:=bn5 bn;replace hI:=own_below hI hb1;replace hf:=hf.new hb1;replace HM:=hide (wr_step (uh HM) hy);clear hb1 hy;cases y;(replace HM:=hide (res_no (uh HM)));rotate_left;(replace HM:=hide (res_yes (uh HM)));rotate_left)
  | (go_at_call 87;refine (rbegins_bad hbd).mono ?_;rintro e w1 ⟨rfl,hb1⟩;replace hbd:=hbd.new hb1;replace bn:=bn.new hb1;clear n0 n1 n2 n3 n4 nf0 nf1 nf2 nf3 nf4 nl;obtain⟨n0,n1,n2,n3,n4,nf0,nf1,nf2,nf3,nf4,nl⟩:=bn5 bn;replace hI:=own_below hI hb1;replace hf:=hf.new hb1;clear hb1)
  | (go_at_call 85;have hcc:=uh HTY;have hcd:=hcc _ _ _ hst;clear hcc;refine hcd.mono ?_;clear hcd;intro e w1 ho;clear hst;rcases ho with⟨a,s1,v,hq,rfl,hR,hst,hf1,hd⟩ | ⟨c,q,v,hq,rfl,hR,hbd,hf1⟩;(replace HM:=hide (bind_ok (uh HM) hq);replace bn:=BoxAt.nd bn hf1;clear n0 n1 n2 n3 n4 nf0 nf1 nf2 nf3 nf4 nl;obtain⟨n0,n1,n2,n3,n4,nf0,nf1,nf2,nf3,nf4,nl⟩:=bn5 bn;replace hI:=own_rfr hI hf1 (by decide) (by decide);replace hf:=hf.step hf1;unfold RNat at hR;subst hR;clear hf1 hq);rotate_left;(replace hbd:=hbd.unlist;replace HM:=hide (bind_bad (uh HM) hq);replace bn:=BoxAt.nd bn hf1;clear n0 n1 n2 n3 n4 nf0 nf1 nf2 nf3 nf4 nl;obtain⟨n0,n1,n2,n3,n4,nf0,nf1,nf2,nf3,nf4,nl⟩:=bn5 bn;replace hI:=own_rfr hI hf1 (by decide) (by decide);replace hf:=hf.step hf1;obtain⟨a,rfl⟩:=hR;clear hf1 hq);rotate_left)
  | (at_builtin;refine wpList_iapp rfl (.tmp 25) (.tmp 27) rfl w.heap.size _ ks rfl (hI.alloc _) _ a rfl (by simp [go_sem]) (by omega) (by rw [szA];have:=hf.size;omega) ?_;intro v6 w6 hI6 hg6 hv6;replace bn:=bn_iapp bn hI hg6;clear n0 n1 n2 n3 n4 nf0 nf1 nf2 nf3 nf4 nl;obtain⟨n0,n1,n2,n3,n4,nf0,nf1,nf2,nf3,nf4,nl⟩:=bn5 bn;obtain⟨va6,vc6,rfl⟩:=own_snoc hI6;(first | (replace hst:=hst.iapp hI hg6 (hv6.imp id fun hh j hj=>by have:=hh j hj;rw [szA] at this;omega) hI6;replace hf:=hf.iapp hI hp hg6;replace hst:=hst.nd bn (Or.inl (Or.inr rfl)) 4 (.slice va6 (ks.length+1) vc6);replace hf:=hf.setNd bn (by omega) (by omega) 4 (.slice va6 (ks.length+1) vc6);replace hI6:=Ints.nd hI6 bn 4 (.slice va6 (ks.length+1) vc6);replace bn:=nd4 bn (.slice va6 (ks.length+1) vc6);) | (replace hbd:=hbd.iapp hI hg6;replace hf:=hf.iapp hI hp hg6;replace hbd:=hbd.nd bn (Or.inr rfl) 4 (.slice va6 (ks.length+1) vc6);replace hf:=hf.setNd bn (by omega) (by omega) 4 (.slice va6 (ks.length+1) vc6);replace hI6:=Ints.nd hI6 bn 4 (.slice va6 (ks.length+1) vc6);replace bn:=nd4 bn (.slice va6 (ks.length+1) vc6);));clear hg6 hv6)
  | (go_at_call 38;have hz6:=hI6;refine (rputL hst.unlist.unbox (by omega) (ks:=ks++[a]) hI6 hp HA).mono ?_;intro e w1 ho;clear hst;obtain⟨k,s1,hq,rfl,hst,hf1,hd⟩:=ho;replace HM:=hide ((uh HM).trans hq);replace hf:=hf.step hf1;clear hf1 hq)
  | (go_at_call 38;refine (rputL hst.unlist.unbox (by omega) (ks:=ks) hI hp HA).mono ?_;intro e w1 ho;clear hst;obtain⟨k,s1,hq,rfl,hst,hf1,hd⟩:=ho;replace HM:=hide ((uh HM).trans hq);replace hf:=hf.step hf1;clear hf1 hq)
  | (go_at_call 38;refine (rput_bad hbd.unbox (by omega) _ _ _ _ _ _ _).mono ?_;clear hbd;rintro e w1 ⟨v,rfl,hR,hbd,hf1⟩;replace hf:=hf.step hf1;obtain⟨kb,rfl⟩:=hR;clear hf1))
 all_goals
  go_returns
  first
   | exact Or.inl ⟨_,_,_,uh HM,rfl,rfl,hst,hf,by omega⟩
   | exact Or.inr ⟨_,_,_,uh HM,rfl,⟨_,rfl⟩,hbd.more (by omega),hf⟩
end
section
open Go.RowKit
theorem RSt.up {p X T tv r' A s w}(h:RSt p X T tv r' A s w) (hr:r'+1≤30):RSt p X T tv (r'+1) A s (w.setCell ⟨p,3,none⟩ (.int .i64 (((30 - r':Nat):Int) - 1)))∧RFr p w.heap.size w (w.setCell ⟨p,3,none⟩ (.int .i64 (((30 - r':Nat):Int) - 1))):=by
 have e:((30 - r':Nat):Int) - 1=((30 - (r'+1):Nat):Int):=by omega
 rw [e]
 exact h.deeper (r'+1) hr
theorem Ints.up {p X T tv r' A s w}{B:Nat}{v:Value}{ks:List Nat}(h:Ints w B v ks) (hs:RSt p X T tv r' A s w) (u:Value):Ints (w.setCell ⟨p,3,none⟩ u) B v ks:=by
 obtain⟨v1,kvs,hblk,_⟩:=hs.own
 exact own_set_ne h (a:=⟨p,3,none⟩) (own_ne h hblk (by decide)) u
theorem opens_tok {E r:Nat}{s s1:PS}{x:ByteArray}{t:Tok}(h:opens E r [x] s=.ok t s1):t=look E s 0:=by
 unfold opens at h
 cases hy:isB E s [x] with
 | true =>
  rw [bindOk (want_yes hy)] at h
  by_cases hr:r=0
  ·rw [if_pos hr] at h;cases h
  ·rw [if_neg hr] at h;cases h;rfl
 | false=>rw [bindBad (want_no hy)] at h;cases h
theorem chan_open {E r:Nat}{lo:Rd}{s s1:PS}{t t0:Tok}{f:Int × Nat→M Nat}{res:Res Nat}(h:res=M.bind (channel E r lo) f s) (hq:opens E r [⟨#[99,104,97,110]⟩] s=.ok t s1) (ht:look E s 0=t0):res=M.bind lo.typ (fun k=>f (t0.pos,k)) s1:=by
 rw [h]
 unfold channel
 rw [bindBind,bindOk hq,bindBind,opens_tok hq,ht]
 rfl
theorem chan_bad {E r:Nat}{lo:Rd}{s:PS}{f:Int × Nat→M Nat}{res:Res Nat}{c q:Int}(h:res=M.bind (channel E r lo) f s) (hq:opens E r [⟨#[99,104,97,110]⟩] s=.bad c q):res=.bad c q:=by
 rw [h]
 unfold channel
 rw [bindBind,bindBad hq]
theorem func_open {E r:Nat}{lo:Rd}{s s1:PS}{t t0:Tok}{res:Res Nat}(h:res=funcType E r lo s) (hq:opens E r [⟨#[102,117,110,99]⟩] s=.ok t s1) (ht:look E s 0=t0):res=M.bind lo.typs (fun ks=>(withResult E lo.typ ks).bind fun ks'=>put ⟨6,t0.pos,ks.length,⟨#[]⟩,ks'⟩) s1:=by
 rw [h]
 unfold funcType
 rw [bindOk hq,opens_tok hq,ht]
theorem func_bad {E r:Nat}{lo:Rd}{s:PS}{res:Res Nat}{c q:Int}(h:res=funcType E r lo s) (hq:opens E r [⟨#[102,117,110,99]⟩] s=.bad c q):res=.bad c q:=by
 rw [h]
 unfold funcType
 rw [bindBad hq]
structure RLo (p:Nat) (X:ByteArray) (T:List Tok) (tv:Value) (r:Nat) (lo:Rd):Prop where
 typ:∀ A,RReads p X T tv r A 2 10 85 #[.pointer (some ⟨p,0,none⟩)] lo.typ
 typs:∀ A s w,RSt p X T tv r A s w→Calls Tryz.prog 86 #[.pointer (some ⟨p,0,none⟩),.int .i64 0] w (ROutL p X T tv r A w.heap.size 6 (phi s+100 * r) 900001 s w (lo.typs s))
 chan:∃ lo2,lo.chan=channel X.size r lo2∧∀ r',r=r'+1→∀ A,RReads p X T tv r' A 2 10 85 #[.pointer (some ⟨p,0,none⟩)] lo2.typ
 one:∀ A,RReads p X T tv r A 2 40 137 #[.pointer (some ⟨p,0,none⟩)] lo.one
 expr:∀ A,RReads p X T tv r A 2 60 112 #[.pointer (some ⟨p,0,none⟩),.int .i64 0] lo.expr
 stmt:∀ A,RReads p X T tv r A 1 80 88 #[.pointer (some ⟨p,0,none⟩)] lo.stmt
 ifs:∀ A,RReads p X T tv r A 2 70 114 #[.pointer (some ⟨p,0,none⟩)] lo.ifs
 sel:lo.sel=selectCase X.size lo.expr lo.stmt
 close:∀ s,isB X.size s [⟨#[41]⟩]=true→(look X.size s 0).kind=3→lo.expr s=.bad 3 (look X.size s 0).pos
 tclose:∀ s,isB X.size s [⟨#[41]⟩]=true→(look X.size s 0).kind=3→lo.typ s=.bad 3 (look X.size s 0).pos
def RLos (p:Nat) (X:ByteArray) (T:List Tok) (tv:Value) (r:Nat) (lo:Rd):Prop:=∀ r',r=r'+1→RLo p X T tv r' lo
theorem named_at {E:Nat}{s:PS}:M.bind (wantKind E 1) (fun t=>put ⟨3,t.pos,0,t.text,[]⟩) s=M.bind (wantName E) (fun n=>put ⟨3,(look E s 0).pos,0,n,[]⟩) s:=by
 by_cases h:(look E s 0).kind=1
 ·rw [bindOk (wantName_yes h)]
  have:wantKind E 1 s=.ok (look E s 0) { s with rest:=s.rest.tail }:=by unfold wantKind;rw [if_pos h];rfl
  rw [bindOk this]
 ·rw [bindBad (wantName_no h)]
  have:wantKind E 1 s=.bad 3 (look E s 0).pos:=by unfold wantKind;rw [if_neg h];rfl
  rw [bindBad this]
set_option maxHeartbeats 16000000 in
theorem rtyp_ok {p X T tv r A s w}(h:RSt p X T tv r A s w) (lo:Rd) (hlo:RLos p X T tv r lo) :
  Calls Tryz.prog 85 #[.pointer (some ⟨p,0,none⟩)] w (ROut p X T tv r A w.heap.size 2 (phi s+100 * r+10) s w (typ X.size r lo s) RNat BNat):=by
 have HA:=h.sep
 have hp:=h.lt
 have hroom:=h.room
 have hcap:=h.cap
 obtain⟨res,hres⟩:∃ res,res=typ X.size r lo s:=⟨_,rfl⟩
 rw [← hres]
 unfold typ at hres
 obtain⟨t,HT⟩:∃ t,Hid (look X.size s 0=t):=⟨_,rfl⟩
 have HM:=hide hres
 have HLO:=hide hlo
 have hf:=RFr.refl (p:=p) (Nat.le_refl w.heap.size) hp
 have hst:=h
 clear h hres hlo
 go_enter Tryz.func85,Tryz.ntmps85
 go_wp2_with (first
  | (go_at_call 35;have hnow:=rnow_ok hst;rw [uh HT] at hnow;refine hnow.mono ?_;rintro e w1 ⟨rfl,hb1⟩;have tB:=(hf.new hb1).size;have bt:=BoxAt.made w1 [.int .i64 t.kind,.string t.text,.int .i64 t.num,.int .i64 t.pos] 66;obtain⟨t0,t1,t2,t3,tl⟩:=bt4 bt;replace hst:=(hst.new hb1).alloc (Obj.cells #[.int .i64 t.kind,.string t.text,.int .i64 t.num,.int .i64 t.pos] 66);replace hf:=(hf.new hb1).new (blA _ (Obj.cells #[.int .i64 t.kind,.string t.text,.int .i64 t.num,.int .i64 t.pos] 66));clear hb1 hnow)
  | (go_at_call 54;refine (rtookb hst _ (by decide)).mono ?_;intro e w1 ho;clear hst;rcases ho with⟨hy,rfl,hst,hf1,hd⟩ | ⟨hy,rfl,hst,hf1⟩;((first | (replace HM:=hide (ite_yes (bind_is (uh HM) hy) rfl);replace HM:=hide (bind_next (uh HM));(try (rw [uh HT] at HM)))| skip);replace bt:=BoxAt.tk bt hf1;clear t0 t1 t2 t3 tl;obtain⟨t0,t1,t2,t3,tl⟩:=bt4 bt;replace hf:=hf.step hf1;clear hf1 hy);rotate_left;(replace HM:=hide (ite_no (bind_is (uh HM) hy) rfl);replace bt:=BoxAt.tk bt hf1;clear t0 t1 t2 t3 tl;obtain⟨t0,t1,t2,t3,tl⟩:=bt4 bt;replace hf:=hf.step hf1;clear hf1 hy);rotate_left)
          | (go_at_call 54;refine (rtook_bad hbd _).mono ?_;rintro e w1 ⟨rfl,hb1⟩;replace hbd:=hbd.new hb1;replace bt:=bt.new hb1;clear t0 t1 t2 t3 tl;obtain⟨t0,t1,t2,t3,tl⟩:=bt4 bt;replace hf:=hf.new hb1;clear hb1)
  | (go_at_call 57;refine (risb hst _ (by decide)).mono ?_;rintro e w1 ⟨y,rfl,hy,hb1⟩;replace hst:=hst.new hb1;replace bt:=bt.new hb1;clear t0 t1 t2 t3 tl;obtain⟨t0,t1,t2,t3,tl⟩:=bt4 bt;replace hf:=hf.new hb1;replace HM:=hide (bind_is (uh HM) hy);clear hb1;cases y;(try (replace HM:=hide (ite_no (uh HM) rfl)));rotate_left;(try (replace HM:=hide (ite_yes (uh HM) rfl)));(try (have hne:=hide (isB_rest hy (by decide))));(try (clear hy));rotate_left;(try (clear hy)))
          | (go_at_call 57;refine (ris_bad hbd _).mono ?_;rintro e w1 ⟨rfl,hb1⟩;replace hbd:=hbd.new hb1;replace bt:=bt.new hb1;clear t0 t1 t2 t3 tl;obtain⟨t0,t1,t2,t3,tl⟩:=bt4 bt;replace hf:=hf.new hb1;clear hb1)
  | (go_at_call 61;refine (rpointer_ok hst).mono ?_;intro e w1 ho;clear hst;rcases ho with⟨a,s1,v,hq,rfl,hR,hst,hf1,hd⟩ | ⟨c,q,v,hq,rfl,hR,hbd,hf1⟩;((first | (replace HM:=hide (bind_ok (uh HM) hq)) | (replace HM:=hide ((uh HM).trans hq)));replace bt:=BoxAt.tk bt hf1;clear t0 t1 t2 t3 tl;obtain⟨t0,t1,t2,t3,tl⟩:=bt4 bt;replace hf:=hf.step hf1;unfold RNat at hR;subst hR;clear hf1 hq);rotate_left;((first | (replace HM:=hide (bind_bad (uh HM) hq)) | (replace HM:=hide ((uh HM).trans hq)));replace bt:=BoxAt.tk bt hf1;clear t0 t1 t2 t3 tl;obtain⟨t0,t1,t2,t3,tl⟩:=bt4 bt;replace hf:=hf.step hf1;obtain⟨kb,rfl⟩:=hR;clear hf1 hq);rotate_left)
          | (go_at_call 61;refine (rpointer_bad hbd (by omega)).mono ?_;clear hbd;rintro e w1 ⟨v,rfl,hR,hbd,hf1⟩;replace bt:=BoxAt.tk bt hf1;clear t0 t1 t2 t3 tl;obtain⟨t0,t1,t2,t3,tl⟩:=bt4 bt;replace hf:=hf.step hf1;obtain⟨kb,rfl⟩:=hR;clear hf1)
  | (go_at_call_of 56 (⟨#[99,104,97,110]⟩:ByteArray);refine (renterb hst _ (by decide)).mono ?_;intro e w1 ho;clear hst;rcases ho with⟨r',t9,s1,rfl,hq,rfl,hst,hf1,hd⟩ | ⟨c,q,kb,hq,rfl,hbd,hf1⟩;(replace HM:=hide (chan_open (uh HM) hq (uh HT));replace bt:=BoxAt.tk bt hf1;clear t0 t1 t2 t3 tl;obtain⟨t0,t1,t2,t3,tl⟩:=bt4 bt;replace hf:=hf.step hf1;clear hf1 hq;skip);rotate_left;(replace HM:=hide (chan_bad (uh HM) hq);replace bt:=BoxAt.tk bt hf1;clear t0 t1 t2 t3 tl;obtain⟨t0,t1,t2,t3,tl⟩:=bt4 bt;replace hf:=hf.step hf1;clear hf1 hq;skip);rotate_left)
  | (go_at_call_of 56 (⟨#[102,117,110,99]⟩:ByteArray);refine (renterb hst _ (by decide)).mono ?_;intro e w1 ho;clear hst;rcases ho with⟨r',t9,s1,rfl,hq,rfl,hst,hf1,hd⟩ | ⟨c,q,kb,hq,rfl,hbd,hf1⟩;(replace HM:=hide (func_open (uh HM) hq (uh HT));replace bt:=BoxAt.tk bt hf1;clear t0 t1 t2 t3 tl;obtain⟨t0,t1,t2,t3,tl⟩:=bt4 bt;replace hf:=hf.step hf1;clear hf1 hq;have nB:=hf.size;have bn:=BoxAt.made w1 [.int .i64 6,.int .i64 t.pos,.int .i64 0,.string ⟨#[]⟩,.slice none 0 0] 36;obtain⟨n0,n1,n2,n3,n4,nf0,nf1,nf2,nf3,nf4,nl⟩:=bn5 bn;replace hst:=hst.box (Obj.cells #[.int .i64 6,.int .i64 t.pos,.int .i64 0,.string ⟨#[]⟩,.slice none 0 0] 36);replace hf:=hf.new (blA _ (Obj.cells #[.int .i64 6,.int .i64 t.pos,.int .i64 0,.string ⟨#[]⟩,.slice none 0 0] 36));skip);rotate_left;(replace HM:=hide (func_bad (uh HM) hq);replace bt:=BoxAt.tk bt hf1;clear t0 t1 t2 t3 tl;obtain⟨t0,t1,t2,t3,tl⟩:=bt4 bt;replace hf:=hf.step hf1;clear hf1 hq;have nB:=hf.size;have bn:=BoxAt.made w1 [.int .i64 6,.int .i64 t.pos,.int .i64 0,.string ⟨#[]⟩,.slice none 0 0] 36;obtain⟨n0,n1,n2,n3,n4,nf0,nf1,nf2,nf3,nf4,nl⟩:=bn5 bn;replace hbd:=hbd.box (Obj.cells #[.int .i64 6,.int .i64 t.pos,.int .i64 0,.string ⟨#[]⟩,.slice none 0 0] 36);replace hf:=hf.new (blA _ (Obj.cells #[.int .i64 6,.int .i64 t.pos,.int .i64 0,.string ⟨#[]⟩,.slice none 0 0] 36));skip);rotate_left)
  | (go_at_call 85;have hz:=hI;have hcc:=uh HLO _ rfl;have hcd:=hcc.typ _ _ _ hst;clear hcc hz;refine hcd.mono ?_;clear hcd;intro e w1 ho;clear hst;rcases ho with⟨a,s1,v,hq,rfl,hR,hst,hf1,hd⟩ | ⟨c,q,v,hq,rfl,hR,hbd,hf1⟩;(replace HM:=hide (bind_ok (uh HM) hq);replace bn:=BoxAt.nd bn hf1;clear n0 n1 n2 n3 n4 nf0 nf1 nf2 nf3 nf4 nl;obtain⟨n0,n1,n2,n3,n4,nf0,nf1,nf2,nf3,nf4,nl⟩:=bn5 bn;replace hI:=own_rfr hI hf1 (by decide) (by decide);replace hf:=hf.step hf1;unfold RNat at hR;subst hR;clear hf1 hq);rotate_left;(replace hbd:=hbd.unlist;replace HM:=hide (bind_bad (uh HM) hq);replace bn:=BoxAt.nd bn hf1;clear n0 n1 n2 n3 n4 nf0 nf1 nf2 nf3 nf4 nl;obtain⟨n0,n1,n2,n3,n4,nf0,nf1,nf2,nf3,nf4,nl⟩:=bn5 bn;replace hI:=own_rfr hI hf1 (by decide) (by decide);replace hf:=hf.step hf1;obtain⟨a,rfl⟩:=hR;clear hf1 hq);rotate_left)
  | (go_at_call 85;have hcc:=uh HLO _ rfl;have hcd:=hcc.typ _ _ _ hst;clear hcc;refine hcd.mono ?_;clear hcd;intro e w1 ho;clear hst;rcases ho with⟨a,s1,v,hq,rfl,hR,hst,hf1,hd⟩ | ⟨c,q,v,hq,rfl,hR,hbd,hf1⟩;(replace HM:=hide (bind_ok (uh HM) hq);replace bt:=BoxAt.tk bt hf1;clear t0 t1 t2 t3 tl;obtain⟨t0,t1,t2,t3,tl⟩:=bt4 bt;replace hf:=hf.step hf1;unfold RNat at hR;subst hR;clear hf1 hq;obtain⟨v1,nq9,d0,d1,d2,d3,d4,d5,d6,d7,e2,e3,e4,e5,e6,e7,hp1,va1,vk1,rfl⟩:=hst.g.facts;have hu0:1≤((30 - r':Nat):Int):=(by omega);have hu1:((30 - r':Nat):Int)≤30:=(by omega);replace bt:=bt.setOther (a:=⟨p,3,none⟩) (by show _≠p;omega) (.int .i64 (((30 - r':Nat):Int) - 1));replace hf:=hf.step (hst.up (by omega)).2;replace hst:=(hst.up (by omega)).1;skip);rotate_left;(replace HM:=hide (bind_bad (uh HM) hq);replace bt:=BoxAt.tk bt hf1;clear t0 t1 t2 t3 tl;obtain⟨t0,t1,t2,t3,tl⟩:=bt4 bt;replace hf:=hf.step hf1;obtain⟨a,rfl⟩:=hR;clear hf1 hq;obtain⟨dd,hgg⟩:=id hbd;obtain⟨v1,nq9,d0,d1,d2,d3,d4,d5,d6,d7,e2,e3,e4,e5,e6,e7,hp1,va1,vk1,rfl⟩:=hgg.facts;clear hgg;replace bt:=bt.setOther (a:=⟨p,3,none⟩) (by show _≠p;omega) (.int .i64 (wrap64 (dd - 1)));replace hf:=hf.step (hbd.deeper (wrap64 (dd - 1))).2;replace hbd:=(hbd.deeper (wrap64 (dd - 1))).1;skip);rotate_left)
  | (go_at_call 85;refine (rtyp_bad hbd (by omega)).mono ?_;clear hbd;rintro e w1 ⟨v,rfl,hR,hbd,hf1⟩;replace bt:=BoxAt.tk bt hf1;clear t0 t1 t2 t3 tl;obtain⟨t0,t1,t2,t3,tl⟩:=bt4 bt;replace hf:=hf.step hf1;obtain⟨a,rfl⟩:=hR;clear hf1;obtain⟨dd,hgg⟩:=id hbd;obtain⟨v1,nq9,d0,d1,d2,d3,d4,d5,d6,d7,e2,e3,e4,e5,e6,e7,hp1,va1,vk1,rfl⟩:=hgg.facts;clear hgg;replace bt:=bt.setOther (a:=⟨p,3,none⟩) (by show _≠p;omega) (.int .i64 (wrap64 (dd - 1)));replace hf:=hf.step (hbd.deeper (wrap64 (dd - 1))).2;replace hbd:=(hbd.deeper (wrap64 (dd - 1))).1;skip)
  | (go_at_call 86;refine ((uh HLO _ rfl).typs _ _ _ hst).mono ?_;intro e w1 ho;clear hst;rcases ho with⟨ks,s1,v,hq,rfl,hI,hst,hf1,hd,hkl⟩ | ⟨c,q,ks,v,hq,rfl,hI,hbd,hf1,hkl⟩;(obtain⟨va,vc,rfl⟩:=own_len hI;replace HM:=hide (bind_ok (uh HM) hq);replace hI:=own_lower hI hf.size;replace bn:=BoxAt.nd bn hf1;clear n0 n1 n2 n3 n4 nf0 nf1 nf2 nf3 nf4 nl;obtain⟨n0,n1,n2,n3,n4,nf0,nf1,nf2,nf3,nf4,nl⟩:=bn5 bn;replace hf:=hf.step hf1;replace hst:=hst.nd bn (Or.inl (Or.inr rfl)) 4 (.slice va ks.length vc);replace hf:=hf.setNd bn (by omega) (by omega) 4 (.slice va ks.length vc);replace hI:=Ints.nd hI bn 4 (.slice va ks.length vc);replace bn:=nd4 bn (.slice va ks.length vc);replace hst:=hst.nd bn (Or.inl (Or.inr rfl)) 2 (.int .i64 (ks.length:Int));replace hf:=hf.setNd bn (by omega) (by omega) 2 (.int .i64 (ks.length:Int));replace hI:=Ints.nd hI bn 2 (.int .i64 (ks.length:Int));replace bn:=nd2 bn (.int .i64 (ks.length:Int));clear hf1 hq);rotate_left;(obtain⟨va,vc,rfl⟩:=own_len hI;replace HM:=hide (bind_bad (uh HM) hq);replace hI:=own_lower hI hf.size;replace bn:=BoxAt.nd bn hf1;clear n0 n1 n2 n3 n4 nf0 nf1 nf2 nf3 nf4 nl;obtain⟨n0,n1,n2,n3,n4,nf0,nf1,nf2,nf3,nf4,nl⟩:=bn5 bn;replace hf:=hf.step hf1;replace hbd:=hbd.nd bn (Or.inr rfl) 4 (.slice va ks.length vc);replace hf:=hf.setNd bn (by omega) (by omega) 4 (.slice va ks.length vc);replace hI:=Ints.nd hI bn 4 (.slice va ks.length vc);replace bn:=nd4 bn (.slice va ks.length vc);replace hbd:=hbd.nd bn (Or.inr rfl) 2 (.int .i64 (ks.length:Int));replace hf:=hf.setNd bn (by omega) (by omega) 2 (.int .i64 (ks.length:Int));replace hI:=Ints.nd hI bn 2 (.int .i64 (ks.length:Int));replace bn:=nd2 bn (.int .i64 (ks.length:Int));clear hf1 hq);rotate_left)
  | (go_at_call 86;refine (rlist_bad hbd _).mono ?_;clear hbd;rintro e w1 ⟨v,rfl,hR,hbd,hf1⟩;replace bn:=BoxAt.nd bn hf1;clear n0 n1 n2 n3 n4 nf0 nf1 nf2 nf3 nf4 nl;obtain⟨n0,n1,n2,n3,n4,nf0,nf1,nf2,nf3,nf4,nl⟩:=bn5 bn;replace hf:=hf.step hf1;subst hR;replace hbd:=hbd.nd bn (Or.inr rfl) 4 (.slice none 0 0);replace hf:=hf.setNd bn (by omega) (by omega) 4 (.slice none 0 0);replace bn:=nd4 bn (.slice none 0 0);replace hbd:=hbd.nd bn (Or.inr rfl) 2 (.int .i64 0);replace hf:=hf.setNd bn (by omega) (by omega) 2 (.int .i64 0);replace bn:=nd2 bn (.int .i64 0);clear hf1)
  | (go_at_call 87;refine (rbegins_ok hst).mono ?_;rintro e w1 ⟨y,rfl,hy,hb1⟩;replace hst:=hst.new hb1;replace bn:=bn.new hb1;clear n0 n1 n2 n3 n4 nf0 nf1 nf2 nf3 nf4 nl;obtain⟨n0,n1,n2,n3,n4,nf0,nf1,nf2,nf3,nf4,nl⟩:=bn5 bn;replace hI:=own_below hI hb1;replace hf:=hf.new hb1;replace HM:=hide (wr_step (uh HM) hy);clear hb1 hy;cases y;(replace HM:=hide (res_no (uh HM));obtain⟨v1,nq9,d0,d1,d2,d3,d4,d5,d6,d7,e2,e3,e4,e5,e6,e7,hp1,va1,vk1,rfl⟩:=hst.g.facts;have hu0:1≤((30 - r':Nat):Int):=(by omega);have hu1:((30 - r':Nat):Int)≤30:=(by omega);replace bn:=bn.setOther (a:=⟨p,3,none⟩) (by show _≠p;omega) (.int .i64 (((30 - r':Nat):Int) - 1));replace hI:=Ints.up hI hst (.int .i64 (((30 - r':Nat):Int) - 1));replace hf:=hf.step (hst.up (by omega)).2;replace hst:=(hst.up (by omega)).1;skip);rotate_left;(replace HM:=hide (res_yes (uh HM)));rotate_left)
  | (go_at_call 87;refine (rbegins_bad hbd).mono ?_;rintro e w1 ⟨rfl,hb1⟩;replace hbd:=hbd.new hb1;replace bn:=bn.new hb1;clear n0 n1 n2 n3 n4 nf0 nf1 nf2 nf3 nf4 nl;obtain⟨n0,n1,n2,n3,n4,nf0,nf1,nf2,nf3,nf4,nl⟩:=bn5 bn;replace hf:=hf.new hb1;clear hb1;obtain⟨dd,hgg⟩:=id hbd;obtain⟨v1,nq9,d0,d1,d2,d3,d4,d5,d6,d7,e2,e3,e4,e5,e6,e7,hp1,va1,vk1,rfl⟩:=hgg.facts;clear hgg;replace bn:=bn.setOther (a:=⟨p,3,none⟩) (by show _≠p;omega) (.int .i64 (wrap64 (dd - 1)));replace hf:=hf.step (hbd.deeper (wrap64 (dd - 1))).2;replace hbd:=(hbd.deeper (wrap64 (dd - 1))).1;skip)
  | (at_builtin;refine wpList_iapp rfl (.tmp 75) (.tmp 77) rfl w.heap.size _ ks rfl (hI.alloc _) _ a rfl (by simp [go_sem]) (by omega) (by rw [szA];have:=hf.size;omega) ?_;intro v6 w6 hI6 hg6 hv6;replace bn:=bn_iapp bn hI hg6;clear n0 n1 n2 n3 n4 nf0 nf1 nf2 nf3 nf4 nl;obtain⟨n0,n1,n2,n3,n4,nf0,nf1,nf2,nf3,nf4,nl⟩:=bn5 bn;obtain⟨va6,vc6,rfl⟩:=own_snoc hI6;(first | (replace hst:=hst.iapp hI hg6 (hv6.imp id fun hh j hj=>by have:=hh j hj;rw [szA] at this;omega) hI6;replace hf:=hf.iapp hI hp hg6;obtain⟨v7,nq9,d0,d1,d2,d3,d4,d5,d6,d7,e2,e3,e4,e5,e6,e7,hp7,va7,vk7,rfl⟩:=hst.g.facts;replace hst:=hst.nd bn (Or.inl (Or.inr rfl)) 4 (.slice va6 (ks.length+1) vc6);replace hf:=hf.setNd bn (by omega) (by omega) 4 (.slice va6 (ks.length+1) vc6);replace hI6:=Ints.nd hI6 bn 4 (.slice va6 (ks.length+1) vc6);replace bn:=nd4 bn (.slice va6 (ks.length+1) vc6);obtain⟨v1,nq9,d0,d1,d2,d3,d4,d5,d6,d7,e2,e3,e4,e5,e6,e7,hp1,va1,vk1,rfl⟩:=hst.g.facts;have hu0:1≤((30 - r':Nat):Int):=(by omega);have hu1:((30 - r':Nat):Int)≤30:=(by omega);replace bn:=bn.setOther (a:=⟨p,3,none⟩) (by show _≠p;omega) (.int .i64 (((30 - r':Nat):Int) - 1));replace hI6:=Ints.up hI6 hst (.int .i64 (((30 - r':Nat):Int) - 1));replace hf:=hf.step (hst.up (by omega)).2;replace hst:=(hst.up (by omega)).1;skip) | (replace hbd:=hbd.iapp hI hg6;replace hf:=hf.iapp hI hp hg6;obtain⟨dd0,hgg0⟩:=id hbd;obtain⟨v7,nq9,d0,d1,d2,d3,d4,d5,d6,d7,e2,e3,e4,e5,e6,e7,hp7,va7,vk7,rfl⟩:=hgg0.facts;clear hgg0;replace hbd:=hbd.nd bn (Or.inr rfl) 4 (.slice va6 (ks.length+1) vc6);replace hf:=hf.setNd bn (by omega) (by omega) 4 (.slice va6 (ks.length+1) vc6);replace hI6:=Ints.nd hI6 bn 4 (.slice va6 (ks.length+1) vc6);replace bn:=nd4 bn (.slice va6 (ks.length+1) vc6);obtain⟨dd,hgg⟩:=id hbd;obtain⟨v1,nq9,d0,d1,d2,d3,d4,d5,d6,d7,e2,e3,e4,e5,e6,e7,hp1,va1,vk1,rfl⟩:=hgg.facts;clear hgg;replace bn:=bn.setOther (a:=⟨p,3,none⟩) (by show _≠p;omega) (.int .i64 (wrap64 (dd - 1)));replace hf:=hf.step (hbd.deeper (wrap64 (dd - 1))).2;replace hbd:=(hbd.deeper (wrap64 (dd - 1))).1;skip));clear hg6 hv6)
  | (go_at_call 55;replace HM:=hide ((uh HM).trans named_at);rw [uh HT] at HM;refine (rname_ok hst).mono ?_;intro e w1 ho;clear hst;rcases ho with⟨a,s1,v,hq,rfl,hR,hst,hf1,hd⟩ | ⟨c,q,v,hq,rfl,hR,hbd,hf1⟩;(replace HM:=hide (bind_ok (uh HM) hq);replace bt:=BoxAt.tk bt hf1;clear t0 t1 t2 t3 tl;obtain⟨t0,t1,t2,t3,tl⟩:=bt4 bt;replace hf:=hf.step hf1;unfold RStr at hR;subst hR;clear hf1 hq);rotate_left;(replace HM:=hide (bind_bad (uh HM) hq);replace bt:=BoxAt.tk bt hf1;clear t0 t1 t2 t3 tl;obtain⟨t0,t1,t2,t3,tl⟩:=bt4 bt;replace hf:=hf.step hf1;obtain⟨x9,rfl⟩:=hR;clear hf1 hq);rotate_left)
  | (go_at_call 38;have hz6:=hI6;refine (rputL hst.unlist.unbox (by omega) (ks:=ks++[a]) hI6 hp HA).mono ?_;intro e w1 ho;clear hst;obtain⟨k,s1,hq,rfl,hst,hf1,hd⟩:=ho;replace HM:=hide ((uh HM).trans hq);replace hf:=hf.step hf1;clear hf1 hq)
  | (go_at_call 38;refine (rputL hst.unlist.unbox (by omega) (ks:=ks) hI hp HA).mono ?_;intro e w1 ho;clear hst;obtain⟨k,s1,hq,rfl,hst,hf1,hd⟩:=ho;replace HM:=hide ((uh HM).trans hq);replace hf:=hf.step hf1;clear hf1 hq)
  | (go_at_call_of 38 (1:Nat);refine (rput1 hst (by omega) (by first | rfl | (simp only [size_set]))).mono ?_;intro e w1 ho;clear hst;obtain⟨k,s1,hq,rfl,hst,hf1,hd⟩:=ho;(first | (replace HM:=hide (bind_ok (uh HM) hq)) | (replace HM:=hide ((uh HM).trans hq)));replace bt:=BoxAt.tk bt hf1;clear t0 t1 t2 t3 tl;obtain⟨t0,t1,t2,t3,tl⟩:=bt4 bt;replace hf:=hf.step hf1;clear hf1 hq)
          | (go_at_call 38;have hlt5:=hbd.lt;refine (rput_bad (hbd.alloc _) (by omega) _ _ _ _ _ _ _).mono ?_;clear hbd;rintro e w1 ⟨v,rfl,hR,hbd,hf1⟩;replace hf1:=RFr.drop hf1 hlt5;replace bt:=BoxAt.tk bt hf1;clear t0 t1 t2 t3 tl;obtain⟨t0,t1,t2,t3,tl⟩:=bt4 bt;replace hf:=hf.step hf1;obtain⟨kb,rfl⟩:=hR;clear hf1 hlt5)
  | (go_at_call 38;refine (rput0 hst (by omega)).mono ?_;intro e w1 ho;clear hst;obtain⟨k,s1,hq,rfl,hst,hf1,hd⟩:=ho;(first | (replace HM:=hide (bind_ok (uh HM) hq)) | (replace HM:=hide ((uh HM).trans hq)));replace bt:=BoxAt.tk bt hf1;clear t0 t1 t2 t3 tl;obtain⟨t0,t1,t2,t3,tl⟩:=bt4 bt;replace hf:=hf.step hf1;clear hf1 hq)
          | (go_at_call 38;have hlt5:=hbd.lt;refine (rput_bad hbd (by omega) _ _ _ _ _ _ _).mono ?_;clear hbd;rintro e w1 ⟨v,rfl,hR,hbd,hf1⟩; replace bt:=BoxAt.tk bt hf1;clear t0 t1 t2 t3 tl;obtain⟨t0,t1,t2,t3,tl⟩:=bt4 bt;replace hf:=hf.step hf1;obtain⟨kb,rfl⟩:=hR;clear hf1 hlt5)
  | (go_at_call 38;refine (rput_bad hbd.unbox (by omega) _ _ _ _ _ _ _).mono ?_;clear hbd;rintro e w1 ⟨v,rfl,hR,hbd,hf1⟩;replace hf:=hf.step hf1;obtain⟨kb,rfl⟩:=hR;clear hf1))
 all_goals
  go_returns
  first
   | exact Or.inl ⟨_,_,_,uh HM,rfl,rfl,hst,hf,by omega⟩
   | exact Or.inr ⟨_,_,_,uh HM,rfl,⟨_,rfl⟩,hbd.more (by omega),hf⟩
end
end Go.Proofs.YtdemnolanlfblaaGreatDoor
