import Derived.Test.YtdemnolanlfblaaGreatDoorYRSelect
import Derived.Test.YtdemnolanlfblaaGreatDoorYPCatchB
set_option linter.all false
namespace Go.Proofs.YtdemnolanlfblaaGreatDoor
section
open Go.RowKit
theorem RHead.go {E:Nat}{m:M Nat}{ends:List ByteArray}{res:Res Nat}{cont:List Nat→M Nat}{n:Nat}{ks:List Nat}{s:PS}(h:RHead E m ends res cont false n ks s):res=M.bind m (fun a s2=>((semiOf E s2).andThen fun _ s3=>rowsGo E m ends n (ks++[a]) s3).andThen cont) s:=by
 unfold RHead at h
 rw [if_neg (by decide)] at h
 rw [h]
 unfold M.bind
 cases m s using Res.parts with
 | ok a s2=>rfl
 | bad c q=>rfl
theorem braced_at {E r:Nat}{m:M Nat}{f:Int × List Nat→M Nat}{s s3:PS}{t:Tok}{res:Res Nat}(h:res=M.bind (braced E r m) f s) (hq:opens E r [⟨#[123]⟩] s=.ok t s3):res=(rowsGo E m [⟨#[125]⟩] (phi s3+1) [] s3).andThen fun ks=>(want E [⟨#[125]⟩]).bind fun _=>f (t.pos,ks):=by
 rw [h]
 unfold braced
 rw [bindBind,bindOk hq,bindBind]
 have e:rows E m [⟨#[125]⟩] s3=rowsGo E m [⟨#[125]⟩] (phi s3+1) [] s3:=rfl
 rw [← e]
 cases h4:rows E m [⟨#[125]⟩] s3 using Res.parts with
 | bad c q=>rw [bindBad h4];rfl
 | ok ks s4 =>
  rw [bindOk h4,bindBind]
  rfl
theorem braced_bad {E r:Nat}{m:M Nat}{f:Int × List Nat→M Nat}{s:PS}{res:Res Nat}{c q:Int}(h:res=M.bind (braced E r m) f s) (hq:opens E r [⟨#[123]⟩] s=.bad c q):res=.bad c q:=by
 rw [h]
 unfold braced
 rw [bindBind,bindBad hq]
theorem methodSig_at {E r:Nat}{lo:Rd}{K:Nat→M Nat}{s:PS}{res:Res Nat}{t:Tok}(h:res=M.bind (methodSig E r lo) K s) (ht:look E s 0=t):res=((wantName E).bind fun n=>(sig E r lo).bind fun k=>(put ⟨11,t.pos,0,n,[k]⟩).bind K) s:=by
 rw [h]
 unfold methodSig
 subst ht
 rw [bindBind]
 by_cases h1:(look E s 0).kind=1
 ·rw [bindOk (wantName_yes h1)]
  have:wantKind E 1 s=.ok (look E s 0) { s with rest:=s.rest.tail }:=by unfold wantKind;rw [if_pos h1];rfl
  rw [bindOk this,bindBind]
 ·rw [bindBad (wantName_no h1)]
  have:wantKind E 1 s=.bad 3 (look E s 0).pos:=by unfold wantKind;rw [if_neg h1];rfl
  rw [bindBad this]
theorem receiver_at {E r:Nat}{K:Nat→M Nat}{s s1:PS}{res:Res Nat}{t t9:Tok}(h:res=M.bind (receiver E r) K s) (hq:opens E r [⟨#[40]⟩] s=.ok t9 s1) (ht:look E s1 0=t):res=((wantName E).bind fun n=>(pointer E).bind fun k=>(want E [⟨#[41]⟩]).bind fun _=>(put ⟨7,t.pos,0,n,[k]⟩).bind K) s1:=by
 rw [h]
 unfold receiver
 subst ht
 rw [bindBind,bindOk hq,bindBind]
 by_cases h1:(look E s1 0).kind=1
 ·rw [bindOk (wantName_yes h1)]
  have:wantKind E 1 s1=.ok (look E s1 0) { s1 with rest:=s1.rest.tail }:=by unfold wantKind;rw [if_pos h1];rfl
  rw [bindOk this,bindBind]
  congr 1
  funext a
  funext s2
  rw [bindBind]
 ·rw [bindBad (wantName_no h1)]
  have:wantKind E 1 s1=.bad 3 (look E s1 0).pos:=by unfold wantKind;rw [if_neg h1];rfl
  rw [bindBad this]
theorem receiver_bad {E r:Nat}{K:Nat→M Nat}{s:PS}{res:Res Nat}{c q:Int}(h:res=M.bind (receiver E r) K s) (hq:opens E r [⟨#[40]⟩] s=.bad c q):res=.bad c q:=by
 rw [h]
 unfold receiver
 rw [bindBind,bindBad hq]
def typeRest (E r:Nat) (lo:Rd) (pos:Int) (n:ByteArray):M Nat:=fun s =>
 if isB E s [⟨#[115,116,114,117,99,116]⟩]=true then ((braced E r (typed E lo.typ 9)).bind fun c=>put ⟨10,pos,0,n,c.2⟩) { s with rest:=s.rest.tail }
 else ((want E [⟨#[105,110,116,101,114,102,97,99,101]⟩]).bind fun _=>(braced E r (methodSig E (r - 1) (lower E (r - 1)))).bind fun c=>put ⟨12,pos,0,n,c.2⟩) s
theorem typeDecl_at {E r:Nat}{lo:Rd}{s:PS}{res:Res Nat}{t:Tok}(h:res=typeDecl E r lo s) (ht:look E s 0=t) (hy:isB E s [⟨#[116,121,112,101]⟩]=true):res=((wantName E).bind fun n=>typeRest E r lo t.pos n) { s with rest:=s.rest.tail }:=by
 rw [h]
 unfold typeDecl
 rw [bindOk (want_yes hy),ht]
 congr 1
 funext n
 funext s1
 unfold typeRest
 cases h1:isB E s1 [⟨#[115,116,114,117,99,116]⟩] with
 | true =>
  have h0:(look E s1 0).text=⟨#[115,116,114,117,99,116]⟩:=by rw [isB_one,decide_eq_true_eq] at h1;exact h1
  have h3:want E [⟨#[115,116,114,117,99,116]⟩,⟨#[105,110,116,101,114,102,97,99,101]⟩] s1=.ok (look E s1 0) { s1 with rest:=s1.rest.tail }:=by
   unfold want
   rw [if_pos (by simp [isB,h0])]
   rfl
  rw [if_pos rfl,bindOk h3,if_neg (by rw [h0];decide)]
 | false =>
  have h0:(look E s1 0).text≠⟨#[115,116,114,117,99,116]⟩:=by rw [isB_one,decide_eq_false_iff_not] at h1;exact h1
  rw [if_neg (by decide)]
  cases h2:isB E s1 [⟨#[105,110,116,101,114,102,97,99,101]⟩] with
  | true =>
   have h4:(look E s1 0).text=⟨#[105,110,116,101,114,102,97,99,101]⟩:=by rw [isB_one,decide_eq_true_eq] at h2;exact h2
   have h3:want E [⟨#[115,116,114,117,99,116]⟩,⟨#[105,110,116,101,114,102,97,99,101]⟩] s1=.ok (look E s1 0) { s1 with rest:=s1.rest.tail }:=by
    unfold want
    rw [if_pos (by simp [isB,h4])]
    rfl
   rw [bindOk h3,if_pos h4,bindOk (want_yes h2)]
  | false =>
   have h4:(look E s1 0).text≠⟨#[105,110,116,101,114,102,97,99,101]⟩:=by rw [isB_one,decide_eq_false_iff_not] at h2;exact h2
   have h3:want E [⟨#[115,116,114,117,99,116]⟩,⟨#[105,110,116,101,114,102,97,99,101]⟩] s1=.bad 3 (look E s1 0).pos:=by
    unfold want
    rw [if_neg (by simp [isB,h0,h4])]
    rfl
   rw [bindBad h3,bindBad (want_no h2)]
theorem typeRest_struct {E r:Nat}{lo:Rd}{pos:Int}{n:ByteArray}{s:PS}{res:Res Nat}(h:res=typeRest E r lo pos n s) (hy:isB E s [⟨#[115,116,114,117,99,116]⟩]=true):res=((braced E r (typed E lo.typ 9)).bind fun c=>put ⟨10,pos,0,n,c.2⟩) { s with rest:=s.rest.tail }:=by
 rw [h];unfold typeRest;rw [if_pos hy]
theorem typeRest_iface {E r:Nat}{lo:Rd}{pos:Int}{n:ByteArray}{s:PS}{res:Res Nat}(h:res=typeRest E r lo pos n s) (hy:isB E s [⟨#[115,116,114,117,99,116]⟩]=false):res=((want E [⟨#[105,110,116,101,114,102,97,99,101]⟩]).bind fun _=>(braced E r (methodSig E (r - 1) (lower E (r - 1)))).bind fun c=>put ⟨12,pos,0,n,c.2⟩) s:=by
 rw [h];unfold typeRest;rw [if_neg (by rw [hy];decide)]
set_option maxHeartbeats 32000000 in
set_option maxRecDepth 100000 in
theorem rdecl_type {p X T tv r A s w}(h:RSt p X T tv r A s w) (hty:isB X.size s [⟨#[116,121,112,101]⟩]=true) :
  Calls Tryz.prog 36 #[.pointer (some ⟨p,0,none⟩)] w (ROut p X T tv r A w.heap.size 2 (phi s+100 * r+90) s w (typeDecl X.size r (lower X.size r) s) RNat BNat):=by
 have HA:=h.sep
 have hp:=h.lt
 have hroom:=h.room
 have hcap:=h.cap
 obtain⟨res,hres⟩:∃ res,res=typeDecl X.size r (lower X.size r) s:=⟨_,rfl⟩
 rw [← hres]
 obtain⟨t,HT⟩:∃ t,Hid (look X.size s 0=t):=⟨_,rfl⟩
 have HTY:=hide hty
 replace hres:=typeDecl_at hres (uh HT) hty
 have HM:=hide hres
 have hf:=RFr.refl (p:=p) (Nat.le_refl w.heap.size) hp
 have hst:=h
 clear h hres hty
 go_enter Tryz.func36,Tryz.ntmps36
 go_wp2_with (first
  | (go_at_call 35;have hnow:=rnow_ok hst;rw [uh HT] at hnow;refine hnow.mono ?_;rintro e w1 ⟨rfl,hb1⟩;have tB:=(hf.new hb1).size;have bt:=BoxAt.made w1 [.int .i64 t.kind,.string t.text,.int .i64 t.num,.int .i64 t.pos] 66;obtain⟨t0,t1,t2,t3,tl⟩:=bt4 bt;replace hst:=(hst.new hb1).alloc (Obj.cells #[.int .i64 t.kind,.string t.text,.int .i64 t.num,.int .i64 t.pos] 66);replace hf:=(hf.new hb1).new (blA _ (Obj.cells #[.int .i64 t.kind,.string t.text,.int .i64 t.num,.int .i64 t.pos] 66));have nB:=hf.size;have bn:=BoxAt.made (w1.alloc (Obj.cells #[.int .i64 t.kind,.string t.text,.int .i64 t.num,.int .i64 t.pos] 66)) [.int .i64 0,.int .i64 t.pos,.int .i64 0,.string ⟨#[]⟩,.slice none 0 0] 36;rw [szA] at nB bn;obtain⟨n0,n1,n2,n3,n4,nf0,nf1,nf2,nf3,nf4,nl⟩:=bn5 bn;clear t0 t1 t2 t3 tl bt;replace hst:=hst.box (Obj.cells #[.int .i64 0,.int .i64 t.pos,.int .i64 0,.string ⟨#[]⟩,.slice none 0 0] 36);rw [szA] at hst;replace hf:=hf.new (blA _ (Obj.cells #[.int .i64 0,.int .i64 t.pos,.int .i64 0,.string ⟨#[]⟩,.slice none 0 0] 36));clear hb1 hnow)
  | (go_at_call_of 54 (⟨#[116,121,112,101]⟩:ByteArray);refine (rtookb hst _ (by decide)).mono ?_;intro e w1 ho;clear hst;rcases ho with⟨hy,rfl,hst,hf1,hd⟩ | ⟨hy,rfl,hst,hf1⟩;rotate_left;(exact absurd (hy.symm.trans (uh HTY)) (by decide));replace bn:=BoxAt.nd bn hf1;clear n0 n1 n2 n3 n4 nf0 nf1 nf2 nf3 nf4 nl;obtain⟨n0,n1,n2,n3,n4,nf0,nf1,nf2,nf3,nf4,nl⟩:=bn5 bn;replace hf:=hf.step hf1;clear hf1 hy)
  | (go_at_call 55;refine (rname_ok hst).mono ?_;intro e w1 ho;clear hst;rcases ho with⟨a,s1,v,hq,rfl,hR,hst,hf1,hd⟩ | ⟨c,q,v,hq,rfl,hR,hbd,hf1⟩;((first | (replace HM:=hide (bind_ok (uh HM) hq)) | (replace HM:=hide ((uh HM).trans hq)));replace bn:=BoxAt.nd bn hf1;clear n0 n1 n2 n3 n4 nf0 nf1 nf2 nf3 nf4 nl;obtain⟨n0,n1,n2,n3,n4,nf0,nf1,nf2,nf3,nf4,nl⟩:=bn5 bn;replace hf:=hf.step hf1;unfold RStr at hR;subst hR;clear hf1 hq;replace hst:=hst.nd bn (Or.inr rfl) 3 (.string a);replace hf:=hf.setNd bn (by omega) (by omega) 3 (.string a);replace bn:=nd3 bn (.string a);replace hst:=hst.nd bn (Or.inr rfl) 0 (.int .i64 10);replace hf:=hf.setNd bn (by omega) (by omega) 0 (.int .i64 10);replace bn:=nd0 bn (.int .i64 10);skip);rotate_left;((first | (replace HM:=hide (bind_bad (uh HM) hq)) | (replace HM:=hide ((uh HM).trans hq)));replace bn:=BoxAt.nd bn hf1;clear n0 n1 n2 n3 n4 nf0 nf1 nf2 nf3 nf4 nl;obtain⟨n0,n1,n2,n3,n4,nf0,nf1,nf2,nf3,nf4,nl⟩:=bn5 bn;replace hf:=hf.step hf1;obtain⟨x9,rfl⟩:=hR;clear hf1 hq;replace hbd:=hbd.nd bn (Or.inr rfl) 3 (.string x9);replace hf:=hf.setNd bn (by omega) (by omega) 3 (.string x9);replace bn:=nd3 bn (.string x9);replace hbd:=hbd.nd bn (Or.inr rfl) 0 (.int .i64 10);replace hf:=hf.setNd bn (by omega) (by omega) 0 (.int .i64 10);replace bn:=nd0 bn (.int .i64 10);skip);rotate_left)
  | (go_at_call 55;refine (rname_bad hbd).mono ?_;clear hbd;rintro e w1 ⟨v,rfl,hR,hbd,hf1⟩;replace bn:=BoxAt.nd bn hf1;clear n0 n1 n2 n3 n4 nf0 nf1 nf2 nf3 nf4 nl;obtain⟨n0,n1,n2,n3,n4,nf0,nf1,nf2,nf3,nf4,nl⟩:=bn5 bn;replace hf:=hf.step hf1;obtain⟨x9,rfl⟩:=hR;clear hf1;replace hbd:=hbd.nd bn (Or.inr rfl) 3 (.string x9);replace hf:=hf.setNd bn (by omega) (by omega) 3 (.string x9);replace bn:=nd3 bn (.string x9);replace hbd:=hbd.nd bn (Or.inr rfl) 0 (.int .i64 10);replace hf:=hf.setNd bn (by omega) (by omega) 0 (.int .i64 10);replace bn:=nd0 bn (.int .i64 10);skip)
  | (go_at_call 54;refine (rtookb hst _ (by decide)).mono ?_;intro e w1 ho;clear hst;rcases ho with⟨hy,rfl,hst,hf1,hd⟩ | ⟨hy,rfl,hst,hf1⟩;(replace HM:=hide (typeRest_struct (uh HM) hy);replace bn:=BoxAt.nd bn hf1;clear n0 n1 n2 n3 n4 nf0 nf1 nf2 nf3 nf4 nl;obtain⟨n0,n1,n2,n3,n4,nf0,nf1,nf2,nf3,nf4,nl⟩:=bn5 bn;replace hf:=hf.step hf1;clear hf1 hy);rotate_left;(replace HM:=hide (typeRest_iface (uh HM) hy);replace bn:=BoxAt.nd bn hf1;clear n0 n1 n2 n3 n4 nf0 nf1 nf2 nf3 nf4 nl;obtain⟨n0,n1,n2,n3,n4,nf0,nf1,nf2,nf3,nf4,nl⟩:=bn5 bn;replace hf:=hf.step hf1;clear hf1 hy);rotate_left)
  | (go_at_call 54;refine (rtook_bad hbd _).mono ?_;rintro e w1 ⟨rfl,hb1⟩;replace hbd:=hbd.new hb1;replace bn:=bn.new hb1;clear n0 n1 n2 n3 n4 nf0 nf1 nf2 nf3 nf4 nl;obtain⟨n0,n1,n2,n3,n4,nf0,nf1,nf2,nf3,nf4,nl⟩:=bn5 bn;replace hf:=hf.new hb1;clear hb1)
  | (go_at_call 37;refine (rtakeb hst _ (by decide)).mono ?_;intro e w1 ho;clear hst;rcases ho with⟨a,s1,v,hq,rfl,hR,hst,hf1,hd⟩ | ⟨c,q,v,hq,rfl,hR,hbd,hf1⟩;((first | (replace HM:=hide (bind_ok (uh HM) hq)) | (replace HM:=hide ((uh HM).trans hq)));replace bn:=BoxAt.nd bn hf1;clear n0 n1 n2 n3 n4 nf0 nf1 nf2 nf3 nf4 nl;obtain⟨n0,n1,n2,n3,n4,nf0,nf1,nf2,nf3,nf4,nl⟩:=bn5 bn;replace hf:=hf.step hf1;unfold RPos at hR;subst hR;clear hf1 hq;replace hst:=hst.nd bn (Or.inr rfl) 0 (.int .i64 12);replace hf:=hf.setNd bn (by omega) (by omega) 0 (.int .i64 12);replace bn:=nd0 bn (.int .i64 12);skip);rotate_left;((first | (replace HM:=hide (bind_bad (uh HM) hq)) | (replace HM:=hide ((uh HM).trans hq)));replace bn:=BoxAt.nd bn hf1;clear n0 n1 n2 n3 n4 nf0 nf1 nf2 nf3 nf4 nl;obtain⟨n0,n1,n2,n3,n4,nf0,nf1,nf2,nf3,nf4,nl⟩:=bn5 bn;replace hf:=hf.step hf1;obtain⟨kb,rfl⟩:=hR;clear hf1 hq;replace hbd:=hbd.nd bn (Or.inr rfl) 0 (.int .i64 12);replace hf:=hf.setNd bn (by omega) (by omega) 0 (.int .i64 12);replace bn:=nd0 bn (.int .i64 12);skip);rotate_left)
  | (go_at_call 37;refine (rtake_bad hbd _).mono ?_;clear hbd;rintro e w1 ⟨v,rfl,hR,hbd,hf1⟩;replace bn:=BoxAt.nd bn hf1;clear n0 n1 n2 n3 n4 nf0 nf1 nf2 nf3 nf4 nl;obtain⟨n0,n1,n2,n3,n4,nf0,nf1,nf2,nf3,nf4,nl⟩:=bn5 bn;replace hf:=hf.step hf1;obtain⟨kb,rfl⟩:=hR;clear hf1;replace hbd:=hbd.nd bn (Or.inr rfl) 0 (.int .i64 12);replace hf:=hf.setNd bn (by omega) (by omega) 0 (.int .i64 12);replace bn:=nd0 bn (.int .i64 12);skip)
  | (go_at_call 56;refine (renterb hst _ (by decide)).mono ?_;intro e w3 ho;clear hst;rcases ho with⟨r',t9,s3,rfl,hq,rfl,hst,hf1,hd3⟩ | ⟨c,q,kb,hq,rfl,hbd,hf1⟩;(replace HM:=hide (braced_at (uh HM) hq);replace bn:=BoxAt.nd bn hf1;clear n0 n1 n2 n3 n4 nf0 nf1 nf2 nf3 nf4 nl;obtain⟨n0,n1,n2,n3,n4,nf0,nf1,nf2,nf3,nf4,nl⟩:=bn5 bn;replace hf:=hf.step hf1;clear hf1 hq);rotate_left;(replace HM:=hide (braced_bad (uh HM) hq);replace bn:=BoxAt.nd bn hf1;clear n0 n1 n2 n3 n4 nf0 nf1 nf2 nf3 nf4 nl;obtain⟨n0,n1,n2,n3,n4,nf0,nf1,nf2,nf3,nf4,nl⟩:=bn5 bn;replace hf:=hf.step hf1;clear hf1 hq);rotate_left)
  | (go_at_call 56;refine (renter_bad hbd _).mono ?_;clear hbd;rintro e w1 ⟨v,rfl,hR,hbd,hf1⟩;replace bn:=BoxAt.nd bn hf1;clear n0 n1 n2 n3 n4 nf0 nf1 nf2 nf3 nf4 nl;obtain⟨n0,n1,n2,n3,n4,nf0,nf1,nf2,nf3,nf4,nl⟩:=bn5 bn;replace hf:=hf.step hf1;obtain⟨kb,rfl⟩:=hR;clear hf1)
  | (go_at_call 57;refine (risb hst _ (by decide)).mono ?_;rintro e w1 ⟨y,rfl,hy,hb1⟩;replace hst:=hst.new hb1;replace bn:=bn.new hb1;clear n0 n1 n2 n3 n4 nf0 nf1 nf2 nf3 nf4 nl;obtain⟨n0,n1,n2,n3,n4,nf0,nf1,nf2,nf3,nf4,nl⟩:=bn5 bn;replace hf:=hf.new hb1;have HL:=RHead.of (uh HM) hy;clear HM hy hb1)
  | (go_at_call 57;refine (ris_bad hbd _).mono ?_;rintro e w1 ⟨rfl,hb1⟩;replace hbd:=hbd.new hb1;replace bn:=bn.new hb1;clear n0 n1 n2 n3 n4 nf0 nf1 nf2 nf3 nf4 nl;obtain⟨n0,n1,n2,n3,n4,nf0,nf1,nf2,nf3,nf4,nl⟩:=bn5 bn;replace hf:=hf.new hb1;clear hb1))
 all_goals first
  | (have hz:=hbd
     clear hz
     obtain⟨dd,hg⟩:=id hbd
     obtain⟨v1,n9,d0,d1,d2,d3,d4,d5,d6,d7,e2,e3,e4,e5,e6,e7,hp1,va1,vk1,rfl⟩:=hg.facts
     clear hg
     go_loopg [7] 1 (fun k e wr=>e=.bool false∧wr=w1)
     case atStart=>exact⟨rfl,rfl⟩
     case round =>
      obtain⟨rfl,rfl⟩:=hrel
      go_wp2_with (first
       | (go_at_call 60;refine (rleave_bad hbd _).mono ?_;clear hbd;rintro e w1 ⟨v,rfl,hR,hbd,hf1⟩;replace bn:=BoxAt.nd bn hf1;clear n0 n1 n2 n3 n4 nf0 nf1 nf2 nf3 nf4 nl;obtain⟨n0,n1,n2,n3,n4,nf0,nf1,nf2,nf3,nf4,nl⟩:=bn5 bn;replace hf:=hf.step hf1;clear hf1 hR)
       | (go_at_call 38;refine (rput_bad hbd.unbox (by omega) _ _ _ _ _ _ _).mono ?_;clear hbd;rintro e w1 ⟨v,rfl,hR,hbd,hf1⟩;replace hf:=hf.step hf1;obtain⟨kb,rfl⟩:=hR;clear hf1))
      go_returns
      exact Or.inr ⟨_,_,_,uh HM,rfl,⟨_,rfl⟩,hbd.more (by omega),hf⟩
     done)
  | skip
 ·have h0:Hid (BRel p X T tv r' A w s3 (phi s+100 * (r'+1)+9) (typed X.size (lower X.size (r'+1)).typ 9) [⟨#[125]⟩] res _ _ _ _ _ _ (phi s3+1) (.bool y) w1):=Or.inl ⟨[],s3,y,_,rfl,by omega,by simp,bn,World.ownsRow_nil _ _ _ _,hst.empty,hf,HL⟩
  clear hst hf HL bn n0 n1 n2 n3 n4 nf0 nf1 nf2 nf3 nf4 nl
  go_loopg [7] (phi s3+1) (fun k e wr=>BRel p X T tv r' A w s3 (phi s+100 * (r'+1)+9) (typed X.size (lower X.size (r'+1)).typ 9) [⟨#[125]⟩] res (_) (_) _ _ _ _ k e wr)
  case atStart=>exact uh h0
  case round =>
   clear h0
   rcases hrel with⟨ks,s2,y,v,rfl,hk,hkl,bn,hI,hst,hf,HL⟩ | ⟨ks,c,q,y,v,rfl,hkl,bn,hI,hbd,hf,hbad⟩
   ·obtain⟨n,rfl⟩:∃ n,gk=n+1:=⟨gk - 1,by omega⟩
    obtain⟨va,vc,rfl⟩:=own_len hI
    obtain⟨v1,n9,d0,d1,d2,d3,d4,d5,d6,d7,e2,e3,e4,e5,e6,e7,hp1,va1,vk1,rfl⟩:=hst.g.facts
    obtain⟨n0,n1,n2,n3,n4,nf0,nf1,nf2,nf3,nf4,nl⟩:=bn5 bn
    cases y with
    | true =>
     have HM:=hide (RHead.shut HL)
     clear HL
     go_wp2_with (first
      | (go_at_call 60;refine (rleaveb hst (by omega) _ (by decide)).mono ?_;intro e w1 ho;clear hst;rcases ho with⟨a,s1,v,hq,rfl,hR,hst,hf1,hd⟩ | ⟨c,q,v,hq,rfl,hR,hbd,hf1⟩;(replace HM:=hide (bind_ok (uh HM) hq);replace bn:=BoxAt.nd bn hf1;clear n0 n1 n2 n3 n4 nf0 nf1 nf2 nf3 nf4 nl;obtain⟨n0,n1,n2,n3,n4,nf0,nf1,nf2,nf3,nf4,nl⟩:=bn5 bn;replace hI:=own_rfr hI hf1 (by decide) (by decide);replace hf:=hf.step hf1;clear hf1 hq hR);rotate_left;(replace hbd:=hbd.unlist;replace HM:=hide (bind_bad (uh HM) hq);replace bn:=BoxAt.nd bn hf1;clear n0 n1 n2 n3 n4 nf0 nf1 nf2 nf3 nf4 nl;obtain⟨n0,n1,n2,n3,n4,nf0,nf1,nf2,nf3,nf4,nl⟩:=bn5 bn;replace hI:=own_rfr hI hf1 (by decide) (by decide);replace hf:=hf.step hf1;clear hf1 hq hR);rotate_left)
      | (go_at_call 38;refine (rputL hst.unlist.unbox (by omega) (ks:=ks) hI hp HA).mono ?_;intro e w1 ho;clear hst;obtain⟨k,s1,hq,rfl,hst,hf1,hd⟩:=ho;replace HM:=hide ((uh HM).trans hq);replace hf:=hf.step hf1;clear hf1 hq)
      | (go_at_call 38;refine (rput_bad hbd.unbox (by omega) _ _ _ _ _ _ _).mono ?_;clear hbd;rintro e w1 ⟨v,rfl,hR,hbd,hf1⟩;replace hf:=hf.step hf1;obtain⟨kb,rfl⟩:=hR;clear hf1))
     all_goals
      go_returns
      first
       | exact Or.inl ⟨_,_,_,uh HM,rfl,rfl,hst,hf,by omega⟩
       | exact Or.inr ⟨_,_,_,uh HM,rfl,⟨_,rfl⟩,hbd.more (by omega),hf⟩
    | false =>
     go_wp2_with (first
      | (go_at_call 58;refine (rparam_ok hst _ 10 (by omega) (rlos_all p X T tv _ _ rfl).typ 9).mono ?_;intro e w1 ho;clear hst;rcases ho with⟨a,s5,v,hq,rfl,hR,hst,hf1,hd⟩ | ⟨c,q,v,hq,rfl,hR,hbd,hf1⟩;(have HM:=hide (RHead.item HL hq);clear HL;replace bn:=BoxAt.nd bn hf1;clear n0 n1 n2 n3 n4 nf0 nf1 nf2 nf3 nf4 nl;obtain⟨n0,n1,n2,n3,n4,nf0,nf1,nf2,nf3,nf4,nl⟩:=bn5 bn;replace hI:=own_rfr hI hf1 (by decide) (by decide);replace hf:=hf.step hf1;unfold RNat at hR;subst hR;clear hf1 hq;skip);rotate_left;(replace hbd:=hbd.unlist;have HM:=hide (RHead.bad HL hq);clear HL;replace bn:=BoxAt.nd bn hf1;clear n0 n1 n2 n3 n4 nf0 nf1 nf2 nf3 nf4 nl;obtain⟨n0,n1,n2,n3,n4,nf0,nf1,nf2,nf3,nf4,nl⟩:=bn5 bn;replace hI:=own_rfr hI hf1 (by decide) (by decide);replace hf:=hf.step hf1;obtain⟨a,rfl⟩:=hR;clear hf1 hq;skip);rotate_left)
      | (at_builtin;refine wpList_iapp rfl (.tmp 70) (.tmp 72) rfl w.heap.size _ ks rfl (hI.alloc _) _ a rfl (by simp [go_sem]) (by omega) (by rw [szA];have:=hf.size;omega) ?_;intro v6 w6 hI6 hg6 hv6;replace bn:=bn_iapp bn hI hg6;clear n0 n1 n2 n3 n4 nf0 nf1 nf2 nf3 nf4 nl;obtain⟨n0,n1,n2,n3,n4,nf0,nf1,nf2,nf3,nf4,nl⟩:=bn5 bn;obtain⟨va6,vc6,rfl⟩:=own_snoc hI6;(first | (replace hst:=hst.iapp hI hg6 (hv6.imp id fun hh j hj=>by have:=hh j hj;rw [szA] at this;omega) hI6;replace hf:=hf.iapp hI hp hg6;replace hst:=hst.nd bn (Or.inl (Or.inr rfl)) 4 (.slice va6 (ks.length+1) vc6);replace hf:=hf.setNd bn (by omega) (by omega) 4 (.slice va6 (ks.length+1) vc6);replace hI6:=Ints.nd hI6 bn 4 (.slice va6 (ks.length+1) vc6);replace bn:=nd4 bn (.slice va6 (ks.length+1) vc6);skip) | (replace hbd:=hbd.iapp hI hg6;replace hf:=hf.iapp hI hp hg6;replace hbd:=hbd.nd bn (Or.inr rfl) 4 (.slice va6 (ks.length+1) vc6);replace hf:=hf.setNd bn (by omega) (by omega) 4 (.slice va6 (ks.length+1) vc6);replace hI6:=Ints.nd hI6 bn 4 (.slice va6 (ks.length+1) vc6);replace bn:=nd4 bn (.slice va6 (ks.length+1) vc6);skip));clear hg6 hv6)
      | (go_at_call 57;have hdone:=hwant;refine (risb hst _ (by decide)).mono ?_;rintro e w8 ⟨y,rfl,hy2,hb1⟩;replace hst:=hst.new hb1;replace bn:=bn.new hb1;clear n0 n1 n2 n3 n4 nf0 nf1 nf2 nf3 nf4 nl;obtain⟨n0,n1,n2,n3,n4,nf0,nf1,nf2,nf3,nf4,nl⟩:=bn5 bn;replace hI6:=own_below hI6 hb1;replace hf:=hf.new hb1;clear hb1 hdone)
      | (go_at_call 57;refine (risb hst _ (by decide)).mono ?_;rintro e w8 ⟨y,rfl,hy,hb1⟩;replace hst:=hst.new hb1;replace bn:=bn.new hb1;clear n0 n1 n2 n3 n4 nf0 nf1 nf2 nf3 nf4 nl;obtain⟨n0,n1,n2,n3,n4,nf0,nf1,nf2,nf3,nf4,nl⟩:=bn5 bn;replace hI6:=own_below hI6 hb1;replace hf:=hf.new hb1;clear hb1;cases y)
      | (go_at_call 57;refine (ris_bad hbd _).mono ?_;rintro e w8 ⟨rfl,hb1⟩;replace hbd:=hbd.new hb1;replace bn:=bn.new hb1;clear n0 n1 n2 n3 n4 nf0 nf1 nf2 nf3 nf4 nl;obtain⟨n0,n1,n2,n3,n4,nf0,nf1,nf2,nf3,nf4,nl⟩:=bn5 bn;replace hI6:=own_below hI6 hb1;replace hf:=hf.new hb1;clear hb1)
      | (go_at_call 37;refine (rtakeb hst _ (by decide)).mono ?_;intro e w9 ho;clear hst;rcases ho with⟨a9,s9,v9,hwant,rfl,hR,hst,hf1,hd9⟩ | ⟨c,q,v9,hq,rfl,hR,hbd,hf1⟩;( replace bn:=BoxAt.nd bn hf1;clear n0 n1 n2 n3 n4 nf0 nf1 nf2 nf3 nf4 nl;obtain⟨n0,n1,n2,n3,n4,nf0,nf1,nf2,nf3,nf4,nl⟩:=bn5 bn;replace hI6:=own_rfr hI6 hf1 (by decide) (by decide);replace hf:=hf.step hf1;unfold RPos at hR;subst hR;clear hf1);rotate_left;(replace hbd:=hbd.unlist;replace HM:=hide (mid_bad (uh HM) hy hq);replace bn:=BoxAt.nd bn hf1;clear n0 n1 n2 n3 n4 nf0 nf1 nf2 nf3 nf4 nl;obtain⟨n0,n1,n2,n3,n4,nf0,nf1,nf2,nf3,nf4,nl⟩:=bn5 bn;replace hI6:=own_rfr hI6 hf1 (by decide) (by decide);replace hf:=hf.step hf1;obtain⟨kb,rfl⟩:=hR;clear hf1 hq hy);rotate_left)
      | (go_at_call 37;refine (rtake_bad hbd _).mono ?_;clear hbd;rintro e w9 ⟨v9,rfl,hR,hbd,hf1⟩;replace bn:=BoxAt.nd bn hf1;clear n0 n1 n2 n3 n4 nf0 nf1 nf2 nf3 nf4 nl;obtain⟨n0,n1,n2,n3,n4,nf0,nf1,nf2,nf3,nf4,nl⟩:=bn5 bn;replace hI6:=own_rfr hI6 hf1 (by decide) (by decide);replace hf:=hf.step hf1;obtain⟨kb,rfl⟩:=hR;clear hf1))
     all_goals
      go_roundg n
      case measure=>omega
      case rel =>
       first
        | exact Or.inl ⟨ks++[a],_,true,_,rfl,by omega,by simp;omega,bn,hI6,hst,hf,by obtain⟨nn,hnn⟩:∃ nn,n=nn+1:=⟨n - 1,by omega⟩;subst hnn;exact RHead.of (mid_yes (uh HM) hy) hy⟩
        | exact Or.inl ⟨ks++[a],_,_,_,rfl,by omega,by simp;omega,bn,hI6,hst,hf,by obtain⟨nn,hnn⟩:∃ nn,n=nn+1:=⟨n - 1,by omega⟩;subst hnn;exact RHead.of (mid_no (uh HM) hy hwant) hy2⟩
        | exact Or.inr ⟨ks++[a],_,_,_,_,rfl,by simp;omega,bn,hI6,hbd.more (by omega),hf,uh HM⟩
   ·obtain⟨va,vc,rfl⟩:=own_len hI
    obtain⟨dd,hg⟩:=id hbd
    obtain⟨v1,n9,d0,d1,d2,d3,d4,d5,d6,d7,e2,e3,e4,e5,e6,e7,hp1,va1,vk1,rfl⟩:=hg.facts
    obtain⟨n0,n1,n2,n3,n4,nf0,nf1,nf2,nf3,nf4,nl⟩:=bn5 bn
    clear hg
    have HM:=hide hbad
    clear hbad
    cases y
    all_goals
     go_wp2_with (first
      | (go_at_call 60;refine (rleave_bad hbd _).mono ?_;clear hbd;rintro e w1 ⟨v,rfl,hR,hbd,hf1⟩;replace bn:=BoxAt.nd bn hf1;clear n0 n1 n2 n3 n4 nf0 nf1 nf2 nf3 nf4 nl;obtain⟨n0,n1,n2,n3,n4,nf0,nf1,nf2,nf3,nf4,nl⟩:=bn5 bn;replace hI:=own_rfr hI hf1 (by decide) (by decide);replace hf:=hf.step hf1;clear hf1 hR)
      | (go_at_call 38;refine (rput_bad hbd.unbox (by omega) _ _ _ _ _ _ _).mono ?_;clear hbd;rintro e w1 ⟨v,rfl,hR,hbd,hf1⟩;replace hf:=hf.step hf1;obtain⟨kb,rfl⟩:=hR;clear hf1))
     go_returns
     exact Or.inr ⟨_,_,_,uh HM,rfl,⟨_,rfl⟩,hbd.more (by omega),hf⟩
 ·have h0:Hid (BRel p X T tv r' A w s3 (phi s+100 * (r'+1)+9) (methodSig X.size r' (lower X.size r')) [⟨#[125]⟩] res _ _ _ _ _ _ (phi s3+1) (.bool y) w1):=Or.inl ⟨[],s3,y,_,rfl,by omega,by simp,bn,World.ownsRow_nil _ _ _ _,hst.empty,hf,HL⟩
  clear hst hf HL bn n0 n1 n2 n3 n4 nf0 nf1 nf2 nf3 nf4 nl
  go_loopg [7] (phi s3+1) (fun k e wr=>BRel p X T tv r' A w s3 (phi s+100 * (r'+1)+9) (methodSig X.size r' (lower X.size r')) [⟨#[125]⟩] res (_) (_) _ _ _ _ k e wr)
  case atStart=>exact uh h0
  case round =>
   clear h0
   rcases hrel with⟨ks,s2,y,v,rfl,hk,hkl,bn,hI,hst,hf,HL⟩ | ⟨ks,c,q,y,v,rfl,hkl,bn,hI,hbd,hf,hbad⟩
   ·obtain⟨n,rfl⟩:∃ n,gk=n+1:=⟨gk - 1,by omega⟩
    obtain⟨va,vc,rfl⟩:=own_len hI
    obtain⟨v1,n9,d0,d1,d2,d3,d4,d5,d6,d7,e2,e3,e4,e5,e6,e7,hp1,va1,vk1,rfl⟩:=hst.g.facts
    obtain⟨n0,n1,n2,n3,n4,nf0,nf1,nf2,nf3,nf4,nl⟩:=bn5 bn
    cases y with
    | true =>
     have HM:=hide (RHead.shut HL)
     clear HL
     go_wp2_with (first
      | (go_at_call 60;refine (rleaveb hst (by omega) _ (by decide)).mono ?_;intro e w1 ho;clear hst;rcases ho with⟨a,s1,v,hq,rfl,hR,hst,hf1,hd⟩ | ⟨c,q,v,hq,rfl,hR,hbd,hf1⟩;(replace HM:=hide (bind_ok (uh HM) hq);replace bn:=BoxAt.nd bn hf1;clear n0 n1 n2 n3 n4 nf0 nf1 nf2 nf3 nf4 nl;obtain⟨n0,n1,n2,n3,n4,nf0,nf1,nf2,nf3,nf4,nl⟩:=bn5 bn;replace hI:=own_rfr hI hf1 (by decide) (by decide);replace hf:=hf.step hf1;clear hf1 hq hR);rotate_left;(replace hbd:=hbd.unlist;replace HM:=hide (bind_bad (uh HM) hq);replace bn:=BoxAt.nd bn hf1;clear n0 n1 n2 n3 n4 nf0 nf1 nf2 nf3 nf4 nl;obtain⟨n0,n1,n2,n3,n4,nf0,nf1,nf2,nf3,nf4,nl⟩:=bn5 bn;replace hI:=own_rfr hI hf1 (by decide) (by decide);replace hf:=hf.step hf1;clear hf1 hq hR);rotate_left)
      | (go_at_call 38;refine (rputL hst.unlist.unbox (by omega) (ks:=ks) hI hp HA).mono ?_;intro e w1 ho;clear hst;obtain⟨k,s1,hq,rfl,hst,hf1,hd⟩:=ho;replace HM:=hide ((uh HM).trans hq);replace hf:=hf.step hf1;clear hf1 hq)
      | (go_at_call 38;refine (rput_bad hbd.unbox (by omega) _ _ _ _ _ _ _).mono ?_;clear hbd;rintro e w1 ⟨v,rfl,hR,hbd,hf1⟩;replace hf:=hf.step hf1;obtain⟨kb,rfl⟩:=hR;clear hf1))
     all_goals
      go_returns
      first
       | exact Or.inl ⟨_,_,_,uh HM,rfl,rfl,hst,hf,by omega⟩
       | exact Or.inr ⟨_,_,_,uh HM,rfl,⟨_,rfl⟩,hbd.more (by omega),hf⟩
    | false =>
     have HM:=hide (RHead.go HL)
     clear HL
     obtain⟨u,HU⟩:∃ u,Hid (look X.size s2 0=u):=⟨_,rfl⟩
     replace HM:=hide (methodSig_at (uh HM) (uh HU))
     go_wp2_with (first
      | (go_at_call 35;have hnow:=rnow_ok hst;rw [uh HU] at hnow;refine hnow.mono ?_;rintro e w1 ⟨rfl,hb1⟩;replace bn:=bn.new hb1;clear n0 n1 n2 n3 n4 nf0 nf1 nf2 nf3 nf4 nl;obtain⟨n0,n1,n2,n3,n4,nf0,nf1,nf2,nf3,nf4,nl⟩:=bn5 bn;replace hI:=own_below hI hb1;have uB:=(hf.new hb1).size;have bu:=BoxAt.made w1 [.int .i64 u.kind,.string u.text,.int .i64 u.num,.int .i64 u.pos] 66;obtain⟨u0,u1,u2,u3,ul⟩:=bt4 bu;replace bn:=bn.new (blA _ (Obj.cells #[.int .i64 u.kind,.string u.text,.int .i64 u.num,.int .i64 u.pos] 66));clear n0 n1 n2 n3 n4 nf0 nf1 nf2 nf3 nf4 nl;obtain⟨n0,n1,n2,n3,n4,nf0,nf1,nf2,nf3,nf4,nl⟩:=bn5 bn;replace hI:=own_below hI (blA _ (Obj.cells #[.int .i64 u.kind,.string u.text,.int .i64 u.num,.int .i64 u.pos] 66));replace hst:=(hst.new hb1).alloc (Obj.cells #[.int .i64 u.kind,.string u.text,.int .i64 u.num,.int .i64 u.pos] 66);replace hf:=(hf.new hb1).new (blA _ (Obj.cells #[.int .i64 u.kind,.string u.text,.int .i64 u.num,.int .i64 u.pos] 66));clear hb1 hnow)
      | (go_at_call 55;refine (rname_ok hst).mono ?_;intro e w1 ho;clear hst;rcases ho with⟨x,s5,v,hq,rfl,hR,hst,hf1,hd⟩ | ⟨c,q,v,hq,rfl,hR,hbd,hf1⟩;((first | (replace HM:=hide (bind_ok (uh HM) hq)) | (replace HM:=hide ((uh HM).trans hq)));replace bu:=BoxAt.tk bu hf1;clear u0 u1 u2 u3 ul;obtain⟨u0,u1,u2,u3,ul⟩:=bt4 bu;replace bn:=BoxAt.nd bn hf1;clear n0 n1 n2 n3 n4 nf0 nf1 nf2 nf3 nf4 nl;obtain⟨n0,n1,n2,n3,n4,nf0,nf1,nf2,nf3,nf4,nl⟩:=bn5 bn;replace hI:=own_rfr hI hf1 (by decide) (by decide);replace hf:=hf.step hf1;unfold RStr at hR;subst hR;clear hf1 hq;skip);rotate_left;(replace hbd:=hbd.unlist;replace HM:=hide (bind_bad (uh HM) hq);replace bu:=BoxAt.tk bu hf1;clear u0 u1 u2 u3 ul;obtain⟨u0,u1,u2,u3,ul⟩:=bt4 bu;replace bn:=BoxAt.nd bn hf1;clear n0 n1 n2 n3 n4 nf0 nf1 nf2 nf3 nf4 nl;obtain⟨n0,n1,n2,n3,n4,nf0,nf1,nf2,nf3,nf4,nl⟩:=bn5 bn;replace hI:=own_rfr hI hf1 (by decide) (by decide);replace hf:=hf.step hf1;obtain⟨x,rfl⟩:=hR;clear hf1 hq;skip);rotate_left)
      | (go_at_call 55;refine (rname_bad hbd).mono ?_;clear hbd;rintro e w1 ⟨v,rfl,hR,hbd,hf1⟩;replace bu:=BoxAt.tk bu hf1;clear u0 u1 u2 u3 ul;obtain⟨u0,u1,u2,u3,ul⟩:=bt4 bu;replace bn:=BoxAt.nd bn hf1;clear n0 n1 n2 n3 n4 nf0 nf1 nf2 nf3 nf4 nl;obtain⟨n0,n1,n2,n3,n4,nf0,nf1,nf2,nf3,nf4,nl⟩:=bn5 bn;replace hI:=own_rfr hI hf1 (by decide) (by decide);replace hf:=hf.step hf1;obtain⟨x,rfl⟩:=hR;clear hf1;skip)
      | (go_at_call 59;refine (rsig_ok hst _ (fun r2 hr2=>(rlos_all p X T tv _ r2 hr2).typ) (fun A2 s2 w2 h2=>rtyp_ok h2 _ (rlos_all p X T tv _))).mono ?_;intro e w1 ho;clear hst;rcases ho with⟨b,s5,v,hq,rfl,hR,hst,hf1,hd⟩ | ⟨c,q,v,hq,rfl,hR,hbd,hf1⟩;((first | (replace HM:=hide (bind_ok (uh HM) hq)) | (replace HM:=hide ((uh HM).trans hq)));replace bu:=BoxAt.tk bu hf1;clear u0 u1 u2 u3 ul;obtain⟨u0,u1,u2,u3,ul⟩:=bt4 bu;replace bn:=BoxAt.nd bn hf1;clear n0 n1 n2 n3 n4 nf0 nf1 nf2 nf3 nf4 nl;obtain⟨n0,n1,n2,n3,n4,nf0,nf1,nf2,nf3,nf4,nl⟩:=bn5 bn;replace hI:=own_rfr hI hf1 (by decide) (by decide);replace hf:=hf.step hf1;unfold RNat at hR;subst hR;clear hf1 hq;skip);rotate_left;(replace hbd:=hbd.unlist;replace HM:=hide (bind_bad (uh HM) hq);replace bu:=BoxAt.tk bu hf1;clear u0 u1 u2 u3 ul;obtain⟨u0,u1,u2,u3,ul⟩:=bt4 bu;replace bn:=BoxAt.nd bn hf1;clear n0 n1 n2 n3 n4 nf0 nf1 nf2 nf3 nf4 nl;obtain⟨n0,n1,n2,n3,n4,nf0,nf1,nf2,nf3,nf4,nl⟩:=bn5 bn;replace hI:=own_rfr hI hf1 (by decide) (by decide);replace hf:=hf.step hf1;obtain⟨b,rfl⟩:=hR;clear hf1 hq;skip);rotate_left)
      | (go_at_call 59;refine (rsig_bad hbd (by omega)).mono ?_;clear hbd;rintro e w1 ⟨v,rfl,hR,hbd,hf1⟩;replace bu:=BoxAt.tk bu hf1;clear u0 u1 u2 u3 ul;obtain⟨u0,u1,u2,u3,ul⟩:=bt4 bu;replace bn:=BoxAt.nd bn hf1;clear n0 n1 n2 n3 n4 nf0 nf1 nf2 nf3 nf4 nl;obtain⟨n0,n1,n2,n3,n4,nf0,nf1,nf2,nf3,nf4,nl⟩:=bn5 bn;replace hI:=own_rfr hI hf1 (by decide) (by decide);replace hf:=hf.step hf1;obtain⟨b,rfl⟩:=hR;clear hf1;skip)
      | (go_at_call_of 38 (1:Nat);refine (rput1 hst (by omega) (by first | rfl | (simp only [size_set]))).mono ?_;intro e w1 ho;clear hst;obtain⟨a,s6,hq,rfl,hst,hf1,hd⟩:=ho;(first | (replace HM:=hide (bind_ok (uh HM) hq)) | (replace HM:=hide ((uh HM).trans hq)));replace bu:=BoxAt.tk bu hf1;clear u0 u1 u2 u3 ul;obtain⟨u0,u1,u2,u3,ul⟩:=bt4 bu;replace bn:=BoxAt.nd bn hf1;clear n0 n1 n2 n3 n4 nf0 nf1 nf2 nf3 nf4 nl;obtain⟨n0,n1,n2,n3,n4,nf0,nf1,nf2,nf3,nf4,nl⟩:=bn5 bn;replace hI:=own_rfr hI hf1 (by decide) (by decide);replace hf:=hf.step hf1;clear hf1 hq)
      | (go_at_call 38;have hlt5:=hbd.lt;refine (rput_bad (hbd.alloc _) (by omega) _ _ _ _ _ _ _).mono ?_;clear hbd;rintro e w1 ⟨v,rfl,hR,hbd,hf1⟩;replace hf1:=RFr.drop hf1 hlt5;replace bu:=BoxAt.tk bu hf1;clear u0 u1 u2 u3 ul;obtain⟨u0,u1,u2,u3,ul⟩:=bt4 bu;replace bn:=BoxAt.nd bn hf1;clear n0 n1 n2 n3 n4 nf0 nf1 nf2 nf3 nf4 nl;obtain⟨n0,n1,n2,n3,n4,nf0,nf1,nf2,nf3,nf4,nl⟩:=bn5 bn;replace hI:=own_rfr hI hf1 (by decide) (by decide);replace hf:=hf.step hf1;obtain⟨a,rfl⟩:=hR;clear hf1 hlt5)
      | (at_builtin;refine wpList_iapp rfl (.tmp 70) (.tmp 72) rfl w.heap.size _ ks rfl (hI.alloc _) _ a rfl (by simp [go_sem]) (by omega) (by rw [szA];have:=hf.size;omega) ?_;intro v6 w6 hI6 hg6 hv6;replace bn:=bn_iapp bn hI hg6;clear n0 n1 n2 n3 n4 nf0 nf1 nf2 nf3 nf4 nl;obtain⟨n0,n1,n2,n3,n4,nf0,nf1,nf2,nf3,nf4,nl⟩:=bn5 bn;obtain⟨va6,vc6,rfl⟩:=own_snoc hI6;(first | (replace hst:=hst.iapp hI hg6 (hv6.imp id fun hh j hj=>by have:=hh j hj;rw [szA] at this;omega) hI6;replace hf:=hf.iapp hI hp hg6;replace hst:=hst.nd bn (Or.inl (Or.inr rfl)) 4 (.slice va6 (ks.length+1) vc6);replace hf:=hf.setNd bn (by omega) (by omega) 4 (.slice va6 (ks.length+1) vc6);replace hI6:=Ints.nd hI6 bn 4 (.slice va6 (ks.length+1) vc6);replace bn:=nd4 bn (.slice va6 (ks.length+1) vc6);skip) | (replace hbd:=hbd.iapp hI hg6;replace hf:=hf.iapp hI hp hg6;replace hbd:=hbd.nd bn (Or.inr rfl) 4 (.slice va6 (ks.length+1) vc6);replace hf:=hf.setNd bn (by omega) (by omega) 4 (.slice va6 (ks.length+1) vc6);replace hI6:=Ints.nd hI6 bn 4 (.slice va6 (ks.length+1) vc6);replace bn:=nd4 bn (.slice va6 (ks.length+1) vc6);skip));clear hg6 hv6)
      | (go_at_call 57;have hdone:=hwant;refine (risb hst _ (by decide)).mono ?_;rintro e w8 ⟨y,rfl,hy2,hb1⟩;replace hst:=hst.new hb1;replace bn:=bn.new hb1;clear n0 n1 n2 n3 n4 nf0 nf1 nf2 nf3 nf4 nl;obtain⟨n0,n1,n2,n3,n4,nf0,nf1,nf2,nf3,nf4,nl⟩:=bn5 bn;replace hI6:=own_below hI6 hb1;replace hf:=hf.new hb1;clear hb1 hdone)
      | (go_at_call 57;refine (risb hst _ (by decide)).mono ?_;rintro e w8 ⟨y,rfl,hy,hb1⟩;replace hst:=hst.new hb1;replace bn:=bn.new hb1;clear n0 n1 n2 n3 n4 nf0 nf1 nf2 nf3 nf4 nl;obtain⟨n0,n1,n2,n3,n4,nf0,nf1,nf2,nf3,nf4,nl⟩:=bn5 bn;replace hI6:=own_below hI6 hb1;replace hf:=hf.new hb1;clear hb1;cases y)
      | (go_at_call 57;refine (ris_bad hbd _).mono ?_;rintro e w8 ⟨rfl,hb1⟩;replace hbd:=hbd.new hb1;replace bn:=bn.new hb1;clear n0 n1 n2 n3 n4 nf0 nf1 nf2 nf3 nf4 nl;obtain⟨n0,n1,n2,n3,n4,nf0,nf1,nf2,nf3,nf4,nl⟩:=bn5 bn;replace hI6:=own_below hI6 hb1;replace hf:=hf.new hb1;clear hb1)
      | (go_at_call 37;refine (rtakeb hst _ (by decide)).mono ?_;intro e w9 ho;clear hst;rcases ho with⟨a9,s9,v9,hwant,rfl,hR,hst,hf1,hd9⟩ | ⟨c,q,v9,hq,rfl,hR,hbd,hf1⟩;( replace bn:=BoxAt.nd bn hf1;clear n0 n1 n2 n3 n4 nf0 nf1 nf2 nf3 nf4 nl;obtain⟨n0,n1,n2,n3,n4,nf0,nf1,nf2,nf3,nf4,nl⟩:=bn5 bn;replace hI6:=own_rfr hI6 hf1 (by decide) (by decide);replace hf:=hf.step hf1;unfold RPos at hR;subst hR;clear hf1);rotate_left;(replace hbd:=hbd.unlist;replace HM:=hide (mid_bad (uh HM) hy hq);replace bn:=BoxAt.nd bn hf1;clear n0 n1 n2 n3 n4 nf0 nf1 nf2 nf3 nf4 nl;obtain⟨n0,n1,n2,n3,n4,nf0,nf1,nf2,nf3,nf4,nl⟩:=bn5 bn;replace hI6:=own_rfr hI6 hf1 (by decide) (by decide);replace hf:=hf.step hf1;obtain⟨kb,rfl⟩:=hR;clear hf1 hq hy);rotate_left)
      | (go_at_call 37;refine (rtake_bad hbd _).mono ?_;clear hbd;rintro e w9 ⟨v9,rfl,hR,hbd,hf1⟩;replace bn:=BoxAt.nd bn hf1;clear n0 n1 n2 n3 n4 nf0 nf1 nf2 nf3 nf4 nl;obtain⟨n0,n1,n2,n3,n4,nf0,nf1,nf2,nf3,nf4,nl⟩:=bn5 bn;replace hI6:=own_rfr hI6 hf1 (by decide) (by decide);replace hf:=hf.step hf1;obtain⟨kb,rfl⟩:=hR;clear hf1))
     all_goals
      go_roundg n
      case measure=>omega
      case rel =>
       first
        | exact Or.inl ⟨ks++[a],_,true,_,rfl,by omega,by simp;omega,bn,hI6,hst,hf,by obtain⟨nn,hnn⟩:∃ nn,n=nn+1:=⟨n - 1,by omega⟩;subst hnn;exact RHead.of (mid_yes (uh HM) hy) hy⟩
        | exact Or.inl ⟨ks++[a],_,_,_,rfl,by omega,by simp;omega,bn,hI6,hst,hf,by obtain⟨nn,hnn⟩:∃ nn,n=nn+1:=⟨n - 1,by omega⟩;subst hnn;exact RHead.of (mid_no (uh HM) hy hwant) hy2⟩
        | exact Or.inr ⟨ks++[a],_,_,_,_,rfl,by simp;omega,bn,hI6,hbd.more (by omega),hf,uh HM⟩
   ·obtain⟨va,vc,rfl⟩:=own_len hI
    obtain⟨dd,hg⟩:=id hbd
    obtain⟨v1,n9,d0,d1,d2,d3,d4,d5,d6,d7,e2,e3,e4,e5,e6,e7,hp1,va1,vk1,rfl⟩:=hg.facts
    obtain⟨n0,n1,n2,n3,n4,nf0,nf1,nf2,nf3,nf4,nl⟩:=bn5 bn
    clear hg
    have HM:=hide hbad
    clear hbad
    cases y
    all_goals
     go_wp2_with (first
      | (go_at_call 60;refine (rleave_bad hbd _).mono ?_;clear hbd;rintro e w1 ⟨v,rfl,hR,hbd,hf1⟩;replace bn:=BoxAt.nd bn hf1;clear n0 n1 n2 n3 n4 nf0 nf1 nf2 nf3 nf4 nl;obtain⟨n0,n1,n2,n3,n4,nf0,nf1,nf2,nf3,nf4,nl⟩:=bn5 bn;replace hI:=own_rfr hI hf1 (by decide) (by decide);replace hf:=hf.step hf1;clear hf1 hR)
      | (go_at_call 38;refine (rput_bad hbd.unbox (by omega) _ _ _ _ _ _ _).mono ?_;clear hbd;rintro e w1 ⟨v,rfl,hR,hbd,hf1⟩;replace hf:=hf.step hf1;obtain⟨kb,rfl⟩:=hR;clear hf1))
     go_returns
     exact Or.inr ⟨_,_,_,uh HM,rfl,⟨_,rfl⟩,hbd.more (by omega),hf⟩
theorem BoxAt.nilInts {w:World}{k:Nat}{c:List Value}{t:TypeId}(_:BoxAt w k c t) (B:Nat):Ints w B (.slice none 0 0) ([]:List Nat):=World.ownsRow_nil _ _ _ _
theorem own_num {w:World}{B n:Nat}{v:Value}{ks:List Nat}(h:Ints w B v ks) (hn:ks.length=n):∃ b c,v=.slice b n c:=by subst hn;exact own_len h
theorem funcDecl_at {E r:Nat}{lo:Rd}{s s1:PS}{res:Res Nat}{t t9:Tok}(h:res=M.bind (want E [⟨#[102,117,110,99]⟩]) (fun t=>(is E [⟨#[40]⟩]).bind fun yes=>if yes then (receiver E r).bind fun v=>(wantName E).bind fun n=>(sig E r lo).bind fun g=>(block E r lo).bind fun b=>put ⟨14,t.pos,0,n,[v,g,b]⟩ else (wantName E).bind fun n=>(sig E r lo).bind fun g=>(block E r lo).bind fun b=>put ⟨13,t.pos,0,n,[g,b]⟩) s) (hq:want E [⟨#[102,117,110,99]⟩] s=.ok t9 s1) (ht:look E s 0=t):res=((is E [⟨#[40]⟩]).bind fun yes=>if yes then (receiver E r).bind fun v=>(wantName E).bind fun n=>(sig E r lo).bind fun g=>(block E r lo).bind fun b=>put ⟨14,t.pos,0,n,[v,g,b]⟩ else (wantName E).bind fun n=>(sig E r lo).bind fun g=>(block E r lo).bind fun b=>put ⟨13,t.pos,0,n,[g,b]⟩) s1:=by
 have h9:t9=t:=by
  rw [← ht]
  cases hy:isB E s [⟨#[102,117,110,99]⟩] with
  | true=>rw [want_yes hy] at hq;cases hq;rfl
  | false=>rw [want_no hy] at hq;cases hq
 rw [h,bindOk hq,h9]
set_option maxHeartbeats 64000000 in
set_option maxRecDepth 100000 in
theorem rdecl_func {p X T tv r A s w}(h:RSt p X T tv r A s w) (hty:isB X.size s [⟨#[116,121,112,101]⟩]=false) :
  Calls Tryz.prog 36 #[.pointer (some ⟨p,0,none⟩)] w (ROut p X T tv r A w.heap.size 2 (phi s+100 * r+90) s w (funcDecl X.size r (lower X.size r) s) RNat BNat):=by
 have HA:=h.sep
 have hp:=h.lt
 have hroom:=h.room
 have hcap:=h.cap
 obtain⟨res,hres⟩:∃ res,res=funcDecl X.size r (lower X.size r) s:=⟨_,rfl⟩
 rw [← hres]
 obtain⟨t,HT⟩:∃ t,Hid (look X.size s 0=t):=⟨_,rfl⟩
 have HTY:=hide hty
 unfold funcDecl at hres
 have HM:=hide hres
 have hf:=RFr.refl (p:=p) (Nat.le_refl w.heap.size) hp
 have hst:=h
 clear h hres hty
 go_enter Tryz.func36,Tryz.ntmps36
 go_wp2_with (first
  | (go_at_call 35;have hnow:=rnow_ok hst;rw [uh HT] at hnow;refine hnow.mono ?_;rintro e w1 ⟨rfl,hb1⟩;have tB:=(hf.new hb1).size;have bt:=BoxAt.made w1 [.int .i64 t.kind,.string t.text,.int .i64 t.num,.int .i64 t.pos] 66;obtain⟨t0,t1,t2,t3,tl⟩:=bt4 bt;replace hst:=(hst.new hb1).alloc (Obj.cells #[.int .i64 t.kind,.string t.text,.int .i64 t.num,.int .i64 t.pos] 66);replace hf:=(hf.new hb1).new (blA _ (Obj.cells #[.int .i64 t.kind,.string t.text,.int .i64 t.num,.int .i64 t.pos] 66));have nB:=hf.size;have bn:=BoxAt.made (w1.alloc (Obj.cells #[.int .i64 t.kind,.string t.text,.int .i64 t.num,.int .i64 t.pos] 66)) [.int .i64 0,.int .i64 t.pos,.int .i64 0,.string ⟨#[]⟩,.slice none 0 0] 36;rw [szA] at nB bn;obtain⟨n0,n1,n2,n3,n4,nf0,nf1,nf2,nf3,nf4,nl⟩:=bn5 bn;clear t0 t1 t2 t3 tl bt;replace hst:=hst.box (Obj.cells #[.int .i64 0,.int .i64 t.pos,.int .i64 0,.string ⟨#[]⟩,.slice none 0 0] 36);rw [szA] at hst;replace hf:=hf.new (blA _ (Obj.cells #[.int .i64 0,.int .i64 t.pos,.int .i64 0,.string ⟨#[]⟩,.slice none 0 0] 36));clear hb1 hnow)
  | (go_at_call 54;refine (rtookb hst _ (by decide)).mono ?_;intro e w1 ho;clear hst;rcases ho with⟨hy,rfl,hst,hf1,hd⟩ | ⟨hy,rfl,hst,hf1⟩;(exact absurd (hy.symm.trans (uh HTY)) (by decide));replace bn:=BoxAt.nd bn hf1;clear n0 n1 n2 n3 n4 nf0 nf1 nf2 nf3 nf4 nl;obtain⟨n0,n1,n2,n3,n4,nf0,nf1,nf2,nf3,nf4,nl⟩:=bn5 bn;replace hf:=hf.step hf1;clear hf1 hy)
  | (go_at_call 37;refine (rtakeb hst _ (by decide)).mono ?_;intro e w1 ho;clear hst;rcases ho with⟨a,s1,v,hq,rfl,hR,hst,hf1,hd⟩ | ⟨c,q,v,hq,rfl,hR,hbd,hf1⟩;(replace HM:=hide (funcDecl_at (uh HM) hq (uh HT));replace bn:=BoxAt.nd bn hf1;clear n0 n1 n2 n3 n4 nf0 nf1 nf2 nf3 nf4 nl;obtain⟨n0,n1,n2,n3,n4,nf0,nf1,nf2,nf3,nf4,nl⟩:=bn5 bn;replace hf:=hf.step hf1;unfold RPos at hR;subst hR;clear hf1 hq;skip);rotate_left;((first | (replace HM:=hide (bind_bad (uh HM) hq)) | (replace HM:=hide ((uh HM).trans hq)));replace bn:=BoxAt.nd bn hf1;clear n0 n1 n2 n3 n4 nf0 nf1 nf2 nf3 nf4 nl;obtain⟨n0,n1,n2,n3,n4,nf0,nf1,nf2,nf3,nf4,nl⟩:=bn5 bn;replace hf:=hf.step hf1;obtain⟨kb,rfl⟩:=hR;clear hf1 hq;skip);rotate_left)
  | (go_at_call 37;refine (rtake_bad hbd _).mono ?_;clear hbd;rintro e w1 ⟨v,rfl,hR,hbd,hf1⟩;replace bn:=BoxAt.nd bn hf1;clear n0 n1 n2 n3 n4 nf0 nf1 nf2 nf3 nf4 nl;obtain⟨n0,n1,n2,n3,n4,nf0,nf1,nf2,nf3,nf4,nl⟩:=bn5 bn;replace hf:=hf.step hf1;obtain⟨kb,rfl⟩:=hR;clear hf1;skip)
  | (go_at_call 57;refine (risb hst _ (by decide)).mono ?_;rintro e w1 ⟨y,rfl,hy,hb1⟩;replace hst:=hst.new hb1;replace bn:=bn.new hb1;clear n0 n1 n2 n3 n4 nf0 nf1 nf2 nf3 nf4 nl;obtain⟨n0,n1,n2,n3,n4,nf0,nf1,nf2,nf3,nf4,nl⟩:=bn5 bn;replace hf:=hf.new hb1;replace HM:=hide (bind_is (uh HM) hy);clear hb1 hy;cases y;(replace HM:=hide (ite_no (uh HM) rfl);replace hst:=hst.nd bn (Or.inr rfl) 0 (.int .i64 13);replace hf:=hf.setNd bn (by omega) (by omega) 0 (.int .i64 13);replace bn:=nd0 bn (.int .i64 13);have hI:=bn.nilInts w.heap.size;replace hst:=hst.empty;skip);rotate_left;(replace HM:=hide (ite_yes (uh HM) rfl);replace hst:=hst.nd bn (Or.inr rfl) 0 (.int .i64 13);replace hf:=hf.setNd bn (by omega) (by omega) 0 (.int .i64 13);replace bn:=nd0 bn (.int .i64 13);replace hst:=hst.nd bn (Or.inr rfl) 0 (.int .i64 14);replace hf:=hf.setNd bn (by omega) (by omega) 0 (.int .i64 14);replace bn:=nd0 bn (.int .i64 14);skip);rotate_left)
  | (go_at_call 57;refine (ris_bad hbd _).mono ?_;rintro e w1 ⟨rfl,hb1⟩;replace hbd:=hbd.new hb1;replace bn:=bn.new hb1;clear n0 n1 n2 n3 n4 nf0 nf1 nf2 nf3 nf4 nl;obtain⟨n0,n1,n2,n3,n4,nf0,nf1,nf2,nf3,nf4,nl⟩:=bn5 bn;replace hf:=hf.new hb1;clear hb1;replace hbd:=hbd.nd bn (Or.inr rfl) 0 (.int .i64 13);replace hf:=hf.setNd bn (by omega) (by omega) 0 (.int .i64 13);replace bn:=nd0 bn (.int .i64 13);have hI:=bn.nilInts w.heap.size;skip)
  | (go_at_call 56;refine (renterb hst _ (by decide)).mono ?_;intro e w3 ho;clear hst;rcases ho with⟨r',t9,s3,rfl,hq,rfl,hst,hf1,hd3⟩ | ⟨c,q,kb,hq,rfl,hbd,hf1⟩;(obtain⟨u,HU⟩:∃ u,Hid (look X.size s3 0=u):=⟨_,rfl⟩;replace HM:=hide (receiver_at (uh HM) hq (uh HU));replace bn:=BoxAt.nd bn hf1;clear n0 n1 n2 n3 n4 nf0 nf1 nf2 nf3 nf4 nl;obtain⟨n0,n1,n2,n3,n4,nf0,nf1,nf2,nf3,nf4,nl⟩:=bn5 bn;replace hf:=hf.step hf1;clear hf1 hq);rotate_left;(replace HM:=hide (receiver_bad (uh HM) hq);replace bn:=BoxAt.nd bn hf1;clear n0 n1 n2 n3 n4 nf0 nf1 nf2 nf3 nf4 nl;obtain⟨n0,n1,n2,n3,n4,nf0,nf1,nf2,nf3,nf4,nl⟩:=bn5 bn;replace hf:=hf.step hf1;clear hf1 hq);rotate_left)
  | (go_at_call 56;refine (renter_bad hbd _).mono ?_;clear hbd;rintro e w1 ⟨v,rfl,hR,hbd,hf1⟩;replace bn:=BoxAt.nd bn hf1;clear n0 n1 n2 n3 n4 nf0 nf1 nf2 nf3 nf4 nl;obtain⟨n0,n1,n2,n3,n4,nf0,nf1,nf2,nf3,nf4,nl⟩:=bn5 bn;replace hf:=hf.step hf1;obtain⟨kb,rfl⟩:=hR;clear hf1)
  | (go_at_call 35;have hnow:=rnow_ok hst;rw [uh HU] at hnow;refine hnow.mono ?_;rintro e w1 ⟨rfl,hb1⟩;replace bn:=bn.new hb1;clear n0 n1 n2 n3 n4 nf0 nf1 nf2 nf3 nf4 nl;obtain⟨n0,n1,n2,n3,n4,nf0,nf1,nf2,nf3,nf4,nl⟩:=bn5 bn;have uB:=(hf.new hb1).size;have bu:=BoxAt.made w1 [.int .i64 u.kind,.string u.text,.int .i64 u.num,.int .i64 u.pos] 66;obtain⟨u0,u1,u2,u3,ul⟩:=bt4 bu;replace bn:=bn.new (blA _ (Obj.cells #[.int .i64 u.kind,.string u.text,.int .i64 u.num,.int .i64 u.pos] 66));clear n0 n1 n2 n3 n4 nf0 nf1 nf2 nf3 nf4 nl;obtain⟨n0,n1,n2,n3,n4,nf0,nf1,nf2,nf3,nf4,nl⟩:=bn5 bn;replace hst:=(hst.new hb1).alloc (Obj.cells #[.int .i64 u.kind,.string u.text,.int .i64 u.num,.int .i64 u.pos] 66);replace hf:=(hf.new hb1).new (blA _ (Obj.cells #[.int .i64 u.kind,.string u.text,.int .i64 u.num,.int .i64 u.pos] 66));clear hb1 hnow)
  | (go_at_call 35;refine (rnow_bad hbd).mono ?_;rintro e w1 ⟨rfl,hb1⟩;replace bn:=bn.new hb1;clear n0 n1 n2 n3 n4 nf0 nf1 nf2 nf3 nf4 nl;obtain⟨n0,n1,n2,n3,n4,nf0,nf1,nf2,nf3,nf4,nl⟩:=bn5 bn;have uB:=(hf.new hb1).size;have bu:=BoxAt.made w1 [.int .i64 0,.string ⟨#[]⟩,.int .i64 0,.int .i64 (X.size:Int)] 66;obtain⟨u0,u1,u2,u3,ul⟩:=bt4 bu;replace bn:=bn.new (blA _ (Obj.cells #[.int .i64 0,.string ⟨#[]⟩,.int .i64 0,.int .i64 (X.size:Int)] 66));clear n0 n1 n2 n3 n4 nf0 nf1 nf2 nf3 nf4 nl;obtain⟨n0,n1,n2,n3,n4,nf0,nf1,nf2,nf3,nf4,nl⟩:=bn5 bn;replace hbd:=(hbd.new hb1).alloc (Obj.cells #[.int .i64 0,.string ⟨#[]⟩,.int .i64 0,.int .i64 (X.size:Int)] 66);replace hf:=(hf.new hb1).new (blA _ (Obj.cells #[.int .i64 0,.string ⟨#[]⟩,.int .i64 0,.int .i64 (X.size:Int)] 66));clear hb1)
  | (go_at_call 55;have hz:=bu;clear hz;refine (rname_ok hst).mono ?_;intro e w1 ho;clear hst;rcases ho with⟨x,s5,v,hq,rfl,hR,hst,hf1,hd⟩ | ⟨c,q,v,hq,rfl,hR,hbd,hf1⟩;((first | (replace HM:=hide (bind_ok (uh HM) hq)) | (replace HM:=hide ((uh HM).trans hq)));replace bu:=BoxAt.tk bu hf1;clear u0 u1 u2 u3 ul;obtain⟨u0,u1,u2,u3,ul⟩:=bt4 bu;replace bn:=BoxAt.nd bn hf1;clear n0 n1 n2 n3 n4 nf0 nf1 nf2 nf3 nf4 nl;obtain⟨n0,n1,n2,n3,n4,nf0,nf1,nf2,nf3,nf4,nl⟩:=bn5 bn;replace hf:=hf.step hf1;unfold RStr at hR;subst hR;clear hf1 hq;skip);rotate_left;((first | (replace HM:=hide (bind_bad (uh HM) hq)) | (replace HM:=hide ((uh HM).trans hq)));replace bu:=BoxAt.tk bu hf1;clear u0 u1 u2 u3 ul;obtain⟨u0,u1,u2,u3,ul⟩:=bt4 bu;replace bn:=BoxAt.nd bn hf1;clear n0 n1 n2 n3 n4 nf0 nf1 nf2 nf3 nf4 nl;obtain⟨n0,n1,n2,n3,n4,nf0,nf1,nf2,nf3,nf4,nl⟩:=bn5 bn;replace hf:=hf.step hf1;obtain⟨x,rfl⟩:=hR;clear hf1 hq;skip);rotate_left)
  | (go_at_call 55;have hz:=bu;clear hz;refine (rname_bad hbd).mono ?_;clear hbd;rintro e w1 ⟨v,rfl,hR,hbd,hf1⟩;replace bu:=BoxAt.tk bu hf1;clear u0 u1 u2 u3 ul;obtain⟨u0,u1,u2,u3,ul⟩:=bt4 bu;replace bn:=BoxAt.nd bn hf1;clear n0 n1 n2 n3 n4 nf0 nf1 nf2 nf3 nf4 nl;obtain⟨n0,n1,n2,n3,n4,nf0,nf1,nf2,nf3,nf4,nl⟩:=bn5 bn;replace hf:=hf.step hf1;obtain⟨x,rfl⟩:=hR;clear hf1;skip)
  | (go_at_call 61;refine (rpointer_ok hst).mono ?_;intro e w1 ho;clear hst;rcases ho with⟨b,s5,v,hq,rfl,hR,hst,hf1,hd⟩ | ⟨c,q,v,hq,rfl,hR,hbd,hf1⟩;((first | (replace HM:=hide (bind_ok (uh HM) hq)) | (replace HM:=hide ((uh HM).trans hq)));replace bu:=BoxAt.tk bu hf1;clear u0 u1 u2 u3 ul;obtain⟨u0,u1,u2,u3,ul⟩:=bt4 bu;replace bn:=BoxAt.nd bn hf1;clear n0 n1 n2 n3 n4 nf0 nf1 nf2 nf3 nf4 nl;obtain⟨n0,n1,n2,n3,n4,nf0,nf1,nf2,nf3,nf4,nl⟩:=bn5 bn;replace hf:=hf.step hf1;unfold RNat at hR;subst hR;clear hf1 hq;skip);rotate_left;((first | (replace HM:=hide (bind_bad (uh HM) hq)) | (replace HM:=hide ((uh HM).trans hq)));replace bu:=BoxAt.tk bu hf1;clear u0 u1 u2 u3 ul;obtain⟨u0,u1,u2,u3,ul⟩:=bt4 bu;replace bn:=BoxAt.nd bn hf1;clear n0 n1 n2 n3 n4 nf0 nf1 nf2 nf3 nf4 nl;obtain⟨n0,n1,n2,n3,n4,nf0,nf1,nf2,nf3,nf4,nl⟩:=bn5 bn;replace hf:=hf.step hf1;obtain⟨b,rfl⟩:=hR;clear hf1 hq;skip);rotate_left)
  | (go_at_call 61;refine (rpointer_bad hbd (by omega)).mono ?_;clear hbd;rintro e w1 ⟨v,rfl,hR,hbd,hf1⟩;replace bu:=BoxAt.tk bu hf1;clear u0 u1 u2 u3 ul;obtain⟨u0,u1,u2,u3,ul⟩:=bt4 bu;replace bn:=BoxAt.nd bn hf1;clear n0 n1 n2 n3 n4 nf0 nf1 nf2 nf3 nf4 nl;obtain⟨n0,n1,n2,n3,n4,nf0,nf1,nf2,nf3,nf4,nl⟩:=bn5 bn;replace hf:=hf.step hf1;obtain⟨b,rfl⟩:=hR;clear hf1;skip)
  | (go_at_call 60;refine (rleaveb hst (by omega) _ (by decide)).mono ?_;intro e w1 ho;clear hst;rcases ho with⟨a8,s1,v,hq,rfl,hR,hst,hf1,hd⟩ | ⟨c,q,v,hq,rfl,hR,hbd,hf1⟩;(replace HM:=hide (bind_ok (uh HM) hq);replace bu:=BoxAt.tk bu hf1;clear u0 u1 u2 u3 ul;obtain⟨u0,u1,u2,u3,ul⟩:=bt4 bu;replace bn:=BoxAt.nd bn hf1;clear n0 n1 n2 n3 n4 nf0 nf1 nf2 nf3 nf4 nl;obtain⟨n0,n1,n2,n3,n4,nf0,nf1,nf2,nf3,nf4,nl⟩:=bn5 bn;replace hf:=hf.step hf1;clear hf1 hq hR);rotate_left;(replace HM:=hide (bind_bad (uh HM) hq);replace bu:=BoxAt.tk bu hf1;clear u0 u1 u2 u3 ul;obtain⟨u0,u1,u2,u3,ul⟩:=bt4 bu;replace bn:=BoxAt.nd bn hf1;clear n0 n1 n2 n3 n4 nf0 nf1 nf2 nf3 nf4 nl;obtain⟨n0,n1,n2,n3,n4,nf0,nf1,nf2,nf3,nf4,nl⟩:=bn5 bn;replace hf:=hf.step hf1;clear hf1 hq hR);rotate_left)
  | (go_at_call 60;refine (rleave_bad hbd _).mono ?_;clear hbd;rintro e w1 ⟨v,rfl,hR,hbd,hf1⟩;replace bu:=BoxAt.tk bu hf1;clear u0 u1 u2 u3 ul;obtain⟨u0,u1,u2,u3,ul⟩:=bt4 bu;replace bn:=BoxAt.nd bn hf1;clear n0 n1 n2 n3 n4 nf0 nf1 nf2 nf3 nf4 nl;obtain⟨n0,n1,n2,n3,n4,nf0,nf1,nf2,nf3,nf4,nl⟩:=bn5 bn;replace hf:=hf.step hf1;clear hf1 hR)
  | (go_at_call_of 38 (1:Nat);have hz:=bu;clear hz;refine (rput1 hst (by omega) (by first | rfl | (simp only [size_set]))).mono ?_;intro e w1 ho;clear hst;obtain⟨kp,s6,hq,rfl,hst,hf1,hd⟩:=ho;(first | (replace HM:=hide (bind_ok (uh HM) hq)) | (replace HM:=hide ((uh HM).trans hq)));replace bn:=BoxAt.nd bn hf1;clear n0 n1 n2 n3 n4 nf0 nf1 nf2 nf3 nf4 nl;obtain⟨n0,n1,n2,n3,n4,nf0,nf1,nf2,nf3,nf4,nl⟩:=bn5 bn;replace hf:=hf.step hf1;clear hf1 hq;have hI:Ints w1 w.heap.size (.slice none 0 0) ([]:List Nat):=World.ownsRow_nil _ _ _ _;clear bu u0 u1 u2 u3 ul;skip)
  | (go_at_call 38;have hz:=bu;clear hz;have hlt5:=hbd.lt;refine (rput_bad (hbd.alloc _) (by omega) _ _ _ _ _ _ _).mono ?_;clear hbd;rintro e w1 ⟨v,rfl,hR,hbd,hf1⟩;replace hf1:=RFr.drop hf1 hlt5;replace bn:=BoxAt.nd bn hf1;clear n0 n1 n2 n3 n4 nf0 nf1 nf2 nf3 nf4 nl;obtain⟨n0,n1,n2,n3,n4,nf0,nf1,nf2,nf3,nf4,nl⟩:=bn5 bn;replace hf:=hf.step hf1;obtain⟨kp,rfl⟩:=hR;clear hf1 hlt5;have hI:Ints w1 w.heap.size (.slice none 0 0) ([]:List Nat):=World.ownsRow_nil _ _ _ _;clear bu u0 u1 u2 u3 ul;skip)
  | (at_builtin;refine wpList_iapp rfl (.tmp 114) (.tmp 116) rfl w.heap.size _ ([]:List Nat) rfl (hI.alloc _) _ kp rfl (by simp [go_sem]) (by simp) (by rw [szA];have:=hf.size;omega) ?_;intro v6 w6 hI6 hg6 hv6;replace bn:=bn_iapp bn hI hg6;clear n0 n1 n2 n3 n4 nf0 nf1 nf2 nf3 nf4 nl;obtain⟨n0,n1,n2,n3,n4,nf0,nf1,nf2,nf3,nf4,nl⟩:=bn5 bn;obtain⟨va6,vc6,rfl⟩:=own_one hI6;(first | (replace hst:=hst.empty.iapp hI hg6 (hv6.imp id fun hh j hj=>by have:=hh j hj;rw [szA] at this;omega) hI6;replace hf:=hf.iapp hI hp hg6;replace hst:=hst.nd bn (Or.inl (Or.inr rfl)) 4 (.slice va6 1 vc6);replace hf:=hf.setNd bn (by omega) (by omega) 4 (.slice va6 1 vc6);replace hI6:=Ints.nd hI6 bn 4 (.slice va6 1 vc6);replace bn:=nd4 bn (.slice va6 1 vc6);skip) | (replace hbd:=hbd.iapp hI hg6;replace hf:=hf.iapp hI hp hg6;replace hbd:=hbd.nd bn (Or.inr rfl) 4 (.slice va6 1 vc6);replace hf:=hf.setNd bn (by omega) (by omega) 4 (.slice va6 1 vc6);replace hI6:=Ints.nd hI6 bn 4 (.slice va6 1 vc6);replace bn:=nd4 bn (.slice va6 1 vc6);skip));clear hg6 hv6 hI;have hI:=hI6;clear hI6;change Ints _ _ _ [kp] at hI)
  | (go_at_call 55;refine (rname_ok hst).mono ?_;intro e w1 ho;clear hst;rcases ho with⟨x2,s5,v,hq,rfl,hR,hst,hf1,hd⟩ | ⟨c,q,v,hq,rfl,hR,hbd,hf1⟩;((first | (replace HM:=hide (bind_ok (uh HM) hq)) | (replace HM:=hide ((uh HM).trans hq)));replace bn:=BoxAt.nd bn hf1;clear n0 n1 n2 n3 n4 nf0 nf1 nf2 nf3 nf4 nl;obtain⟨n0,n1,n2,n3,n4,nf0,nf1,nf2,nf3,nf4,nl⟩:=bn5 bn;replace hI:=own_rfr hI hf1 (by decide) (by decide);replace hf:=hf.step hf1;unfold RStr at hR;subst hR;clear hf1 hq;replace hst:=hst.nd bn (by first | exact Or.inr rfl | exact Or.inl (Or.inr rfl)) 3 (.string x2);replace hf:=hf.setNd bn (by omega) (by omega) 3 (.string x2);replace hI:=Ints.nd hI bn 3 (.string x2);replace bn:=nd3 bn (.string x2);skip);rotate_left;(replace hbd:=hbd.unlist;(first | (replace HM:=hide (bind_bad (uh HM) hq)) | (replace HM:=hide ((uh HM).trans hq)));replace bn:=BoxAt.nd bn hf1;clear n0 n1 n2 n3 n4 nf0 nf1 nf2 nf3 nf4 nl;obtain⟨n0,n1,n2,n3,n4,nf0,nf1,nf2,nf3,nf4,nl⟩:=bn5 bn;replace hI:=own_rfr hI hf1 (by decide) (by decide);replace hf:=hf.step hf1;obtain⟨x2,rfl⟩:=hR;clear hf1 hq;replace hbd:=hbd.nd bn (by first | exact Or.inr rfl | exact Or.inl (Or.inr rfl)) 3 (.string x2);replace hf:=hf.setNd bn (by omega) (by omega) 3 (.string x2);replace hI:=Ints.nd hI bn 3 (.string x2);replace bn:=nd3 bn (.string x2);skip);rotate_left)
  | (go_at_call 55;refine (rname_bad hbd).mono ?_;clear hbd;rintro e w1 ⟨v,rfl,hR,hbd,hf1⟩;replace bn:=BoxAt.nd bn hf1;clear n0 n1 n2 n3 n4 nf0 nf1 nf2 nf3 nf4 nl;obtain⟨n0,n1,n2,n3,n4,nf0,nf1,nf2,nf3,nf4,nl⟩:=bn5 bn;replace hI:=own_rfr hI hf1 (by decide) (by decide);replace hf:=hf.step hf1;obtain⟨x2,rfl⟩:=hR;clear hf1;replace hbd:=hbd.nd bn (by first | exact Or.inr rfl | exact Or.inl (Or.inr rfl)) 3 (.string x2);replace hf:=hf.setNd bn (by omega) (by omega) 3 (.string x2);replace hI:=Ints.nd hI bn 3 (.string x2);replace bn:=nd3 bn (.string x2);skip)
  | (go_at_call 59;refine (rsig_ok hst _ (fun r2 hr2=>(rlos_all p X T tv _ r2 hr2).typ) (fun A2 s2 w2 h2=>rtyp_ok h2 _ (rlos_all p X T tv _))).mono ?_;intro e w1 ho;clear hst;rcases ho with⟨k1,s5,v,hq,rfl,hR,hst,hf1,hd⟩ | ⟨c,q,v,hq,rfl,hR,hbd,hf1⟩;((first | (replace HM:=hide (bind_ok (uh HM) hq)) | (replace HM:=hide ((uh HM).trans hq)));replace bn:=BoxAt.nd bn hf1;clear n0 n1 n2 n3 n4 nf0 nf1 nf2 nf3 nf4 nl;obtain⟨n0,n1,n2,n3,n4,nf0,nf1,nf2,nf3,nf4,nl⟩:=bn5 bn;replace hI:=own_rfr hI hf1 (by decide) (by decide);replace hf:=hf.step hf1;unfold RNat at hR;subst hR;clear hf1 hq;skip);rotate_left;(replace hbd:=hbd.unlist;(first | (replace HM:=hide (bind_bad (uh HM) hq)) | (replace HM:=hide ((uh HM).trans hq)));replace bn:=BoxAt.nd bn hf1;clear n0 n1 n2 n3 n4 nf0 nf1 nf2 nf3 nf4 nl;obtain⟨n0,n1,n2,n3,n4,nf0,nf1,nf2,nf3,nf4,nl⟩:=bn5 bn;replace hI:=own_rfr hI hf1 (by decide) (by decide);replace hf:=hf.step hf1;obtain⟨k1,rfl⟩:=hR;clear hf1 hq;skip);rotate_left)
  | (go_at_call 59;refine (rsig_bad hbd (by omega)).mono ?_;clear hbd;rintro e w1 ⟨v,rfl,hR,hbd,hf1⟩;replace bn:=BoxAt.nd bn hf1;clear n0 n1 n2 n3 n4 nf0 nf1 nf2 nf3 nf4 nl;obtain⟨n0,n1,n2,n3,n4,nf0,nf1,nf2,nf3,nf4,nl⟩:=bn5 bn;replace hI:=own_rfr hI hf1 (by decide) (by decide);replace hf:=hf.step hf1;obtain⟨k1,rfl⟩:=hR;clear hf1;skip)
  | (go_at_call 62;refine (rblock_ok hst _ (rlos_all p X T tv _)).mono ?_;intro e w1 ho;clear hst;rcases ho with⟨k2,s5,v,hq,rfl,hR,hst,hf1,hd⟩ | ⟨c,q,v,hq,rfl,hR,hbd,hf1⟩;((first | (replace HM:=hide (bind_ok (uh HM) hq)) | (replace HM:=hide ((uh HM).trans hq)));replace bn:=BoxAt.nd bn hf1;clear n0 n1 n2 n3 n4 nf0 nf1 nf2 nf3 nf4 nl;obtain⟨n0,n1,n2,n3,n4,nf0,nf1,nf2,nf3,nf4,nl⟩:=bn5 bn;replace hI:=own_rfr hI hf1 (by decide) (by decide);replace hf:=hf.step hf1;unfold RNat at hR;subst hR;clear hf1 hq;skip);rotate_left;(replace hbd:=hbd.unlist;(first | (replace HM:=hide (bind_bad (uh HM) hq)) | (replace HM:=hide ((uh HM).trans hq)));replace bn:=BoxAt.nd bn hf1;clear n0 n1 n2 n3 n4 nf0 nf1 nf2 nf3 nf4 nl;obtain⟨n0,n1,n2,n3,n4,nf0,nf1,nf2,nf3,nf4,nl⟩:=bn5 bn;replace hI:=own_rfr hI hf1 (by decide) (by decide);replace hf:=hf.step hf1;obtain⟨k2,rfl⟩:=hR;clear hf1 hq;skip);rotate_left)
  | (go_at_call 62;refine (rblock_bad hbd (by omega)).mono ?_;clear hbd;rintro e w1 ⟨v,rfl,hR,hbd,hf1⟩;replace bn:=BoxAt.nd bn hf1;clear n0 n1 n2 n3 n4 nf0 nf1 nf2 nf3 nf4 nl;obtain⟨n0,n1,n2,n3,n4,nf0,nf1,nf2,nf3,nf4,nl⟩:=bn5 bn;replace hI:=own_rfr hI hf1 (by decide) (by decide);replace hf:=hf.step hf1;obtain⟨k2,rfl⟩:=hR;clear hf1;skip)
  | (at_builtin;have hz:=kp;clear hz;refine wpList_iapp2 rfl (.tmp 127) (.tmp 130) rfl w.heap.size _ [kp] rfl (hI.alloc _) _ k1 k2 rfl (by simp [go_sem]) (by simp [go_sem]) (by simp) (by rw [szA];have:=hf.size;omega) ?_;intro v8 w8 hI8 hg8 hv8;replace bn:=bn_iapp bn hI hg8;clear n0 n1 n2 n3 n4 nf0 nf1 nf2 nf3 nf4 nl;obtain⟨n0,n1,n2,n3,n4,nf0,nf1,nf2,nf3,nf4,nl⟩:=bn5 bn;obtain⟨va8,vc8,rfl⟩:=own_num hI8 (n:=3) rfl;(first | (replace hst:=hst.iapp hI hg8 (hv8.imp id fun hh j hj=>by have:=hh j hj;rw [szA] at this;omega) hI8;replace hf:=hf.iapp hI hp hg8;replace hst:=hst.nd bn (Or.inl (Or.inr rfl)) 4 (.slice va8 3 vc8);replace hf:=hf.setNd bn (by omega) (by omega) 4 (.slice va8 3 vc8);replace hI8:=Ints.nd hI8 bn 4 (.slice va8 3 vc8);replace bn:=nd4 bn (.slice va8 3 vc8);skip) | (replace hbd:=hbd.iapp hI hg8;replace hf:=hf.iapp hI hp hg8;replace hbd:=hbd.nd bn (Or.inr rfl) 4 (.slice va8 3 vc8);replace hf:=hf.setNd bn (by omega) (by omega) 4 (.slice va8 3 vc8);replace hI8:=Ints.nd hI8 bn 4 (.slice va8 3 vc8);replace bn:=nd4 bn (.slice va8 3 vc8);skip));clear hg8 hv8 hI)
  | (at_builtin;refine wpList_iapp2 rfl (.tmp 127) (.tmp 130) rfl w.heap.size _ ([]:List Nat) rfl (hI.alloc _) _ k1 k2 rfl (by simp [go_sem]) (by simp [go_sem]) (by simp) (by rw [szA];have:=hf.size;omega) ?_;intro v8 w8 hI8 hg8 hv8;replace bn:=bn_iapp bn hI hg8;clear n0 n1 n2 n3 n4 nf0 nf1 nf2 nf3 nf4 nl;obtain⟨n0,n1,n2,n3,n4,nf0,nf1,nf2,nf3,nf4,nl⟩:=bn5 bn;obtain⟨va8,vc8,rfl⟩:=own_num hI8 (n:=2) rfl;(first | (replace hst:=hst.iapp hI hg8 (hv8.imp id fun hh j hj=>by have:=hh j hj;rw [szA] at this;omega) hI8;replace hf:=hf.iapp hI hp hg8;replace hst:=hst.nd bn (Or.inl (Or.inr rfl)) 4 (.slice va8 2 vc8);replace hf:=hf.setNd bn (by omega) (by omega) 4 (.slice va8 2 vc8);replace hI8:=Ints.nd hI8 bn 4 (.slice va8 2 vc8);replace bn:=nd4 bn (.slice va8 2 vc8);skip) | (replace hbd:=hbd.iapp hI hg8;replace hf:=hf.iapp hI hp hg8;replace hbd:=hbd.nd bn (Or.inr rfl) 4 (.slice va8 2 vc8);replace hf:=hf.setNd bn (by omega) (by omega) 4 (.slice va8 2 vc8);replace hI8:=Ints.nd hI8 bn 4 (.slice va8 2 vc8);replace bn:=nd4 bn (.slice va8 2 vc8);skip));clear hg8 hv8 hI)
  | (go_at_call 38;have hz:=hI8;refine (rputL hst.unlist.unbox (by omega) hI8 hp HA).mono ?_;intro e w9 ho;clear hst hz;obtain⟨k,s9,hq,rfl,hst,hf1,hd9⟩:=ho;replace HM:=hide ((uh HM).trans hq);replace hf:=hf.step hf1;clear hf1 hq)
  | (go_at_call 38;have hz:=hI8;refine (rput_bad hbd.unbox (by omega) _ _ _ _ _ _ _).mono ?_;clear hbd hz;rintro e w9 ⟨v,rfl,hR,hbd,hf1⟩;replace hf:=hf.step hf1;obtain⟨kb,rfl⟩:=hR;clear hf1))
 all_goals
  go_returns
  first
   | exact Or.inl ⟨_,_,_,uh HM,rfl,rfl,hst,hf,by omega⟩
   | exact Or.inr ⟨_,_,_,uh HM,rfl,⟨_,rfl⟩,hbd.more (by omega),hf⟩
theorem rdecl_ok {p X T tv r A s w}(h:RSt p X T tv r A s w) :
  Calls Tryz.prog 36 #[.pointer (some ⟨p,0,none⟩)] w (ROut p X T tv r A w.heap.size 2 (phi s+100 * r+90) s w (decl X.size r s) RNat BNat):=by
 cases hty:isB X.size s [⟨#[116,121,112,101]⟩] with
 | true =>
  have e:decl X.size r s=typeDecl X.size r (lower X.size r) s:=by
   show (if isB X.size s [⟨#[116,121,112,101]⟩]=true then _ else _:M Nat) s=_
   rw [if_pos hty]
  rw [e];exact rdecl_type h hty
 | false =>
  have e:decl X.size r s=funcDecl X.size r (lower X.size r) s:=by
   show (if isB X.size s [⟨#[116,121,112,101]⟩]=true then _ else _:M Nat) s=_
   rw [if_neg (by rw [hty];decide)]
  rw [e];exact rdecl_func h hty
end
end Go.Proofs.YtdemnolanlfblaaGreatDoor
