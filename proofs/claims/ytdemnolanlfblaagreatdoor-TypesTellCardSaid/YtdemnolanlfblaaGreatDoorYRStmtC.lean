import Derived.Test.YtdemnolanlfblaaGreatDoorYRStmt
set_option linter.all false
namespace Go.Proofs.YtdemnolanlfblaaGreatDoor
section
open Go.RowKit
theorem return_yes {E r:Nat}{lo:Rd}{s:PS}{res:Res Nat}{t:Tok}(h:res=returnStmt E r lo s) (ht:look E s 0=t) (htx:t.text=⟨#[114,101,116,117,114,110]⟩):res=((is E [⟨#[59]⟩,⟨#[125]⟩]).bind fun yes=>if yes then put ⟨24,t.pos,0,⟨#[]⟩,[]⟩ else (expr E r lo).bind fun k=>put ⟨24,t.pos,0,⟨#[]⟩,[k]⟩) { s with rest:=s.rest.tail }:=by
 rw [h]
 unfold returnStmt
 rw [bindOk (want_yes (by rw [isB_one,ht,htx];decide)),ht]
theorem isB_two {E:Nat}{s:PS}{y1 y2:Bool}(h1:isB E s [⟨#[59]⟩]=y1) (h2:isB E s [⟨#[125]⟩]=y2):isB E s [⟨#[59]⟩,⟨#[125]⟩]=(y1 || y2):=by
 rw [← h1,← h2]
 simp [isB]
set_option maxHeartbeats 16000000 in
set_option maxRecDepth 100000 in
theorem rstmt_return {p X T tv r A s w}(h:RSt p X T tv r A s w) (lo:Rd) (hdec:DecRd lo) (hlo:RLos p X T tv r lo) (htx:(look X.size s 0).text=⟨#[114,101,116,117,114,110]⟩) :
  Calls Tryz.prog 88 #[.pointer (some ⟨p,0,none⟩)] w (ROut p X T tv r A w.heap.size 1 (phi s+100 * r+80) s w (stmt X.size r lo s) RNat BNat):=by
 have HA:=h.sep
 have hp:=h.lt
 have hroom:=h.room
 have hcap:=h.cap
 obtain⟨res,hres⟩:∃ res,res=stmt X.size r lo s:=⟨_,rfl⟩
 rw [← hres]
 have hpu:stmt X.size r lo s=(returnStmt X.size r lo) s:=by
  unfold stmt
  show (if (look X.size s 0).text=⟨#[103,111]⟩ then _ else _:M Nat) s=_
  rw [if_neg (by rw [htx];decide),if_neg (by rw [htx];decide),if_neg (by rw [htx];decide),if_neg (by rw [htx];decide),if_neg (by rw [htx];decide),if_neg (by rw [htx];decide),if_pos htx]
 rw [hpu] at hres
 obtain⟨t,HT⟩:∃ t,Hid (look X.size s 0=t):=⟨_,rfl⟩
 rw [uh HT] at htx
 try (rw [uh HT] at hres)
 have HM:=hide hres
 have HLO:=hide hlo
 have hf:=RFr.refl (p:=p) (Nat.le_refl w.heap.size) hp
 have hst:=h
 have HNE:Hid (s.rest≠[]):=(by intro hr;rw [show t=look X.size s 0 from (uh HT).symm,look_nil hr] at htx;simp at htx)
 clear h hres hpu hlo
 have HDEC:=hide hdec
 clear hdec
 have hok:=rlook_ok hst (uh HNE)
 rw [uh HT] at hok
 have HTK:Hid (t.kind=4):=hok.word (by rw [htx];simp)
 have HTX:=hide htx
 clear hok htx
 replace HM:=hide (return_yes (uh HM) (uh HT) (uh HTX))
 go_enter Tryz.func88,Tryz.ntmps88
 go_wp2_with (first
  | (go_at_call 35;have hnow:=rnow_ok hst;rw [uh HT] at hnow;rw [uh HTK] at hnow;rw [uh HTX] at hnow;refine hnow.mono ?_;rintro e w1 ⟨rfl,hb1⟩;have tB:=(hf.new hb1).size;have bt:=BoxAt.made w1 [.int .i64 4,.string ⟨#[114,101,116,117,114,110]⟩,.int .i64 t.num,.int .i64 t.pos] 66;obtain⟨t0,t1,t2,t3,tl⟩:=bt4 bt;replace hst:=(hst.new hb1).alloc (Obj.cells #[.int .i64 4,.string ⟨#[114,101,116,117,114,110]⟩,.int .i64 t.num,.int .i64 t.pos] 66);replace hf:=(hf.new hb1).new (blA _ (Obj.cells #[.int .i64 4,.string ⟨#[114,101,116,117,114,110]⟩,.int .i64 t.num,.int .i64 t.pos] 66));clear hb1 hnow;obtain⟨v1,nq9,d0,d1,d2,d3,d4,d5,d6,d7,e2,e3,e4,e5,e6,e7,hp1,va1,vk1,rfl⟩:=hst.g.facts;have hi1:0≤((T.length - s.rest.length:Nat):Int):=(by omega);have hi2:((T.length - s.rest.length:Nat):Int)≤100000:=(by have:=hst.few;omega);obtain⟨hst3,hf3,hd3⟩:=hst.onto (uh HNE);replace bt:=bt.setOther (a:=⟨p,2,none⟩) (by show _≠p;omega) (.int .i64 (((T.length - s.rest.length:Nat):Int)+1));replace hf:=hf.step hf3;replace hst:=hst3;clear hst3 hf3;skip)
  | (go_at_call_of 57 (⟨#[59]⟩:ByteArray);refine (risb hst _ (by decide)).mono ?_;rintro e w1 ⟨y1,rfl,hyy1,hb1⟩;replace hst:=hst.new hb1;replace bt:=bt.new hb1;clear t0 t1 t2 t3 tl;obtain⟨t0,t1,t2,t3,tl⟩:=bt4 bt;replace hf:=hf.new hb1;clear hb1;cases y1)
  | (go_at_call_of 57 (⟨#[125]⟩:ByteArray);refine (risb hst _ (by decide)).mono ?_;rintro e w1 ⟨y2,rfl,hyy2,hb1⟩;replace hst:=hst.new hb1;replace bt:=bt.new hb1;clear t0 t1 t2 t3 tl;obtain⟨t0,t1,t2,t3,tl⟩:=bt4 bt;replace hf:=hf.new hb1;clear hb1;cases y2;(first | (replace HM:=hide (ite_no (bind_is (uh HM) (isB_two hyy1 hyy2)) rfl)) | (replace HM:=hide (ite_yes (bind_is (uh HM) (isB_two hyy1 hyy2)) rfl)));rotate_left;(first | (replace HM:=hide (ite_no (bind_is (uh HM) (isB_two hyy1 hyy2)) rfl)) | (replace HM:=hide (ite_yes (bind_is (uh HM) (isB_two hyy1 hyy2)) rfl)));rotate_left)
  | (go_at_call 112;refine (rexpr0_ok hst lo (uh HDEC) (uh HLO)).mono ?_;intro e w1 ho;clear hst;rcases ho with⟨a,s1,v,hq,rfl,hR,hst,hf1,hd⟩ | ⟨c,q,v,hq,rfl,hR,hbd,hf1⟩;((first | (replace HM:=hide (bind_ok (uh HM) hq)) | (replace HM:=hide ((uh HM).trans hq)));replace bt:=BoxAt.tk bt hf1;clear t0 t1 t2 t3 tl;obtain⟨t0,t1,t2,t3,tl⟩:=bt4 bt;replace hf:=hf.step hf1;unfold RNat at hR;subst hR;clear hf1 hq);rotate_left;((first | (replace HM:=hide (bind_bad (uh HM) hq)) | (replace HM:=hide ((uh HM).trans hq)));replace bt:=BoxAt.tk bt hf1;clear t0 t1 t2 t3 tl;obtain⟨t0,t1,t2,t3,tl⟩:=bt4 bt;replace hf:=hf.step hf1;obtain⟨a,rfl⟩:=hR;clear hf1 hq);rotate_left)
  | (go_at_call 112;refine (rexpr_bad hbd (by omega) _).mono ?_;clear hbd;rintro e w1 ⟨v,rfl,hR,hbd,hf1⟩;replace bt:=BoxAt.tk bt hf1;clear t0 t1 t2 t3 tl;obtain⟨t0,t1,t2,t3,tl⟩:=bt4 bt;replace hf:=hf.step hf1;obtain⟨a,rfl⟩:=hR;clear hf1)
  | (go_at_call_of 113 (1:Nat);refine (rwith1 hst (by omega) (by first | rfl | (simp only [size_set]))).mono ?_;intro e w1 ho;clear hst;obtain⟨k,s1,hq,rfl,hst,hf1,hd⟩:=ho;(first | (replace HM:=hide (bind_ok (uh HM) hq)) | (replace HM:=hide ((uh HM).trans hq)));replace bt:=BoxAt.tk bt hf1;clear t0 t1 t2 t3 tl;obtain⟨t0,t1,t2,t3,tl⟩:=bt4 bt;replace hf:=hf.step hf1;clear hf1 hq)
          | (go_at_call 113;have hlt5:=hbd.lt;refine (rwith_bad (hbd.alloc _) (by omega) _ _ _ _ _).mono ?_;clear hbd;rintro e w1 ⟨v,rfl,hR,hbd,hf1⟩;replace hf1:=RFr.drop hf1 hlt5;replace bt:=BoxAt.tk bt hf1;clear t0 t1 t2 t3 tl;obtain⟨t0,t1,t2,t3,tl⟩:=bt4 bt;replace hf:=hf.step hf1;obtain⟨kb,rfl⟩:=hR;clear hf1 hlt5)
  | (go_at_call 113;refine (rwith0 hst (by omega)).mono ?_;intro e w1 ho;clear hst;obtain⟨k,s1,hq,rfl,hst,hf1,hd⟩:=ho;(first | (replace HM:=hide (bind_ok (uh HM) hq)) | (replace HM:=hide ((uh HM).trans hq)));replace bt:=BoxAt.tk bt hf1;clear t0 t1 t2 t3 tl;obtain⟨t0,t1,t2,t3,tl⟩:=bt4 bt;replace hf:=hf.step hf1;clear hf1 hq)
          | (go_at_call 113;have hlt5:=hbd.lt;refine (rwith_bad hbd (by omega) _ _ _ _ _).mono ?_;clear hbd;rintro e w1 ⟨v,rfl,hR,hbd,hf1⟩; replace bt:=BoxAt.tk bt hf1;clear t0 t1 t2 t3 tl;obtain⟨t0,t1,t2,t3,tl⟩:=bt4 bt;replace hf:=hf.step hf1;obtain⟨kb,rfl⟩:=hR;clear hf1 hlt5))
 all_goals
  go_returns
  first
   | exact Or.inl ⟨_,_,_,uh HM,rfl,rfl,hst,hf,by omega⟩
   | exact Or.inr ⟨_,_,_,uh HM,rfl,⟨_,rfl⟩,hbd.more (by omega),hf⟩
theorem RSt.onto2 {p X T tv r A s w}(h:RSt p X T tv r A s w) (hne:s.rest≠[]) (hne2:s.rest.tail≠[]):RSt p X T tv r A { s with rest:=s.rest.tail.tail } (w.setCell ⟨p,2,none⟩ (.int .i64 (((T.length - s.rest.length:Nat):Int)+2)))∧RFr p w.heap.size w (w.setCell ⟨p,2,none⟩ (.int .i64 (((T.length - s.rest.length:Nat):Int)+2)))∧phi { s with rest:=s.rest.tail.tail }+6≤phi s:=by
 obtain⟨a,l,hl⟩:=List.exists_cons_of_ne_nil hne
 have hl2:l≠[]:=by rw [hl] at hne2;exact hne2
 obtain⟨b,m,hm⟩:=List.exists_cons_of_ne_nil hl2
 subst hm
 have hp:=h.lt
 have hs:=h.suffix
 have hle:s.rest.length≤T.length:=by
  have:=congrArg List.length hs
  simp at this
  omega
 have hlen:s.rest.length=m.length+2:=by rw [hl];rfl
 have htt:s.rest.tail.tail=m:=by rw [hl];rfl
 rw [htt]
 have hsuf:m=T.drop (T.length - m.length):=by
  have e:T.length - m.length=T.length - s.rest.length+2:=by omega
  rw [e,← List.drop_drop,← hs,hl]
  rfl
 have hphi:phi { s with rest:=m }+6≤phi s:=by
  unfold phi
  rw [hl]
  simp
  omega
 have hnum:((T.length - s.rest.length:Nat):Int)+2=((T.length - m.length:Nat):Int):=by omega
 rw [hnum]
 have:=h.moved (w':=w.setCell ⟨p,2,none⟩ (.int .i64 ((T.length - m.length:Nat):Int))) (by (repeat (first | exact Off.refl _ _ | with_reducible assumption | (refine Off.set ?_ (by first | exact Or.inl rfl | (right;simp;done) | (right;simp;omega))) | refine Off.drewN ?_ | refine Off.drew ?_ | refine Off.alloc ?_))) r { s with rest:=m } h.room rfl hsuf (by omega) (fun v' hv'=>by (apply blk_eq;(case h=>(repeat (first | with_reducible assumption | with_reducible apply blk_alloc | with_reducible apply block_set | (with_reducible refine blk_other ?_ (by first | (show p≠_;omega) | (simp;omega))))));rfl))
 exact⟨this.1,this.2,hphi⟩
def plainOf (E r:Nat) (lo:Rd) (t:Tok):M Nat:=(expr E r lo).bind fun left=>(is E [⟨#[61]⟩]).bind fun yes=>if yes then (next E).bind fun _=>(expr E r lo).bind fun k=>put ⟨18,t.pos,0,⟨#[]⟩,[left,k]⟩ else (is E [⟨#[60,45]⟩]).bind fun yes=>if yes then (next E).bind fun _=>(expr E r lo).bind fun k=>put ⟨20,t.pos,0,⟨#[]⟩,[left,k]⟩ else put ⟨19,t.pos,0,⟨#[]⟩,[left]⟩
theorem plain_at {E r:Nat}{lo:Rd}{s:PS}(hd:defines E s=false):plainStmt E r lo s=plainOf E r lo (look E s 0) s:=by
 show (if defines E s=true then _ else _:M Nat) s=_
 rw [if_neg (by rw [hd];decide)]
 rfl
theorem define_at {E r:Nat}{lo:Rd}{s:PS}(hd:defines E s=true):plainStmt E r lo s=((expr E r lo).bind fun k=>put ⟨17,(look E s 0).pos,0,(look E s 0).text,[k]⟩) { s with rest:=s.rest.tail.tail }:=by
 have h1:(look E s 0).kind=1:=by unfold defines at hd;simp at hd;exact hd.1
 have h2:(look E s 1).text=⟨#[58,61]⟩:=by unfold defines at hd;simp at hd;exact hd.2
 show (if defines E s=true then _ else _:M Nat) s=_
 rw [if_pos hd,bindOk (wantName_yes h1)]
 have h3:isB E { s with rest:=s.rest.tail } [⟨#[58,61]⟩]=true:=by
  rw [isB_one]
  have:look E { s with rest:=s.rest.tail } 0=look E s 1:=by
   unfold look
   cases s.rest with
   | nil=>rfl
   | cons a l=>rfl
  rw [this,h2]
  decide
 rw [bindOk (want_yes h3)]
set_option maxHeartbeats 32000000 in
set_option maxRecDepth 100000 in
theorem rstmt_plain {p X T tv r A s w}(h:RSt p X T tv r A s w) (lo:Rd) (hdec:DecRd lo) (hlo:RLos p X T tv r lo) (hnx:∀ x ∈ [⟨#[103,111]⟩,⟨#[99,108,111,115,101]⟩,⟨#[112,97,110,105,99]⟩,⟨#[112,114,105,110,116]⟩,⟨#[105,102]⟩,⟨#[102,111,114]⟩,⟨#[114,101,116,117,114,110]⟩,⟨#[98,114,101,97,107]⟩,⟨#[115,101,108,101,99,116]⟩],(look X.size s 0).text≠x) (hdf:defines X.size s=false) :
  Calls Tryz.prog 88 #[.pointer (some ⟨p,0,none⟩)] w (ROut p X T tv r A w.heap.size 1 (phi s+100 * r+80) s w (stmt X.size r lo s) RNat BNat):=by
 have HA:=h.sep
 have hp:=h.lt
 have hroom:=h.room
 have hcap:=h.cap
 obtain⟨res,hres⟩:∃ res,res=stmt X.size r lo s:=⟨_,rfl⟩
 rw [← hres]
 have hpu:stmt X.size r lo s=(plainStmt X.size r lo) s:=by
  unfold stmt
  show (if (look X.size s 0).text=⟨#[103,111]⟩ then _ else _:M Nat) s=_
  rw [if_neg (hnx _ (by simp)),if_neg (hnx _ (by simp)),if_neg (hnx _ (by simp)),if_neg (hnx _ (by simp)),if_neg (hnx _ (by simp)),if_neg (hnx _ (by simp)),if_neg (hnx _ (by simp)),if_neg (hnx _ (by simp)),if_neg (hnx _ (by simp))]
 rw [hpu] at hres
 obtain⟨t,HT⟩:∃ t,Hid (look X.size s 0=t):=⟨_,rfl⟩
 rw [uh HT] at hnx
 try (rw [uh HT] at hres)
 have HM:=hide hres
 have HLO:=hide hlo
 have hf:=RFr.refl (p:=p) (Nat.le_refl w.heap.size) hp
 have hst:=h
 clear h hres hpu hlo
 have HDEC:=hide hdec
 clear hdec
 have hx0:=text_ne (x:=t.text) (a:=[103,111]) (hnx _ (by simp))
 have hx1:=text_ne (x:=t.text) (a:=[99,108,111,115,101]) (hnx _ (by simp))
 have hx2:=text_ne (x:=t.text) (a:=[112,97,110,105,99]) (hnx _ (by simp))
 have hx3:=text_ne (x:=t.text) (a:=[112,114,105,110,116]) (hnx _ (by simp))
 have hx4:=text_ne (x:=t.text) (a:=[105,102]) (hnx _ (by simp))
 have hx5:=text_ne (x:=t.text) (a:=[102,111,114]) (hnx _ (by simp))
 have hx6:=text_ne (x:=t.text) (a:=[114,101,116,117,114,110]) (hnx _ (by simp))
 have hx7:=text_ne (x:=t.text) (a:=[98,114,101,97,107]) (hnx _ (by simp))
 have hx8:=text_ne (x:=t.text) (a:=[115,101,108,101,99,116]) (hnx _ (by simp))
 clear hnx
 replace HM:=hide ((uh HM).trans (plain_at hdf))
 rw [uh HT] at HM
 unfold plainOf at HM
 obtain⟨yn,HNX⟩:∃ yn,Hid (decide ((look X.size s 1).text=⟨#[58,61]⟩)=yn):=⟨_,rfl⟩
 have hkd:((t.kind == 1) && yn)=false:=by
  unfold defines at hdf
  rw [uh HNX,uh HT] at hdf
  rw [← hdf]
  congr 1
 clear hdf
 cases hk1:(t.kind == 1) <;> cases yn <;> (try (rw [hk1] at hkd;exact absurd hkd (by decide)))
 all_goals clear hkd
 all_goals cases hk4:(t.kind == 4)
 all_goals
  go_enter Tryz.func88,Tryz.ntmps88
  go_wp2_with (first
   | (go_at_call 35;have hnow:=rnow_ok hst;rw [uh HT] at hnow;refine hnow.mono ?_;rintro e w1 ⟨rfl,hb1⟩;have tB:=(hf.new hb1).size;have bt:=BoxAt.made w1 [.int .i64 t.kind,.string t.text,.int .i64 t.num,.int .i64 t.pos] 66;obtain⟨t0,t1,t2,t3,tl⟩:=bt4 bt;replace hst:=(hst.new hb1).alloc (Obj.cells #[.int .i64 t.kind,.string t.text,.int .i64 t.num,.int .i64 t.pos] 66);replace hf:=(hf.new hb1).new (blA _ (Obj.cells #[.int .i64 t.kind,.string t.text,.int .i64 t.num,.int .i64 t.pos] 66));clear hb1 hnow;obtain⟨v1,nq9,d0,d1,d2,d3,d4,d5,d6,d7,e2,e3,e4,e5,e6,e7,hp1,va1,vk1,rfl⟩:=hst.g.facts;have hi1:0≤((T.length - s.rest.length:Nat):Int):=(by omega);have hi2:((T.length - s.rest.length:Nat):Int)≤100000:=(by have:=hst.few;omega))
   | (go_at_call 116;have hnx:=rnext_ok hst ⟨#[58,61]⟩ (by decide);rw [uh HNX] at hnx;refine hnx.mono ?_;rintro e w1 ⟨rfl,hb1⟩;replace hst:=hst.new hb1;replace bt:=bt.new hb1;clear t0 t1 t2 t3 tl;obtain⟨t0,t1,t2,t3,tl⟩:=bt4 bt;replace hf:=hf.new hb1;clear hb1 hnx;skip)
   | (go_at_call 112;have hz:=a;clear hz;refine (rexpr0_ok hst lo (uh HDEC) (uh HLO)).mono ?_;intro e w1 ho;clear hst;rcases ho with⟨a2,s1,v,hq,rfl,hR,hst,hf1,hd⟩ | ⟨c,q,v,hq,rfl,hR,hbd,hf1⟩;((first | (replace HM:=hide (bind_ok (uh HM) hq)) | (replace HM:=hide ((uh HM).trans hq)));replace bt:=BoxAt.tk bt hf1;clear t0 t1 t2 t3 tl;obtain⟨t0,t1,t2,t3,tl⟩:=bt4 bt;replace hf:=hf.step hf1;unfold RNat at hR;subst hR;clear hf1 hq);rotate_left;((first | (replace HM:=hide (bind_bad (uh HM) hq)) | (replace HM:=hide ((uh HM).trans hq)));replace bt:=BoxAt.tk bt hf1;clear t0 t1 t2 t3 tl;obtain⟨t0,t1,t2,t3,tl⟩:=bt4 bt;replace hf:=hf.step hf1;obtain⟨a2,rfl⟩:=hR;clear hf1 hq);rotate_left)
        | (go_at_call 112;have hz:=a;clear hz;refine (rexpr_bad hbd (by omega) _).mono ?_;clear hbd;rintro e w1 ⟨v,rfl,hR,hbd,hf1⟩;replace bt:=BoxAt.tk bt hf1;clear t0 t1 t2 t3 tl;obtain⟨t0,t1,t2,t3,tl⟩:=bt4 bt;replace hf:=hf.step hf1;obtain⟨a2,rfl⟩:=hR;clear hf1)
   | (go_at_call 112;refine (rexpr0_ok hst lo (uh HDEC) (uh HLO)).mono ?_;intro e w1 ho;clear hst;rcases ho with⟨a,s1,v,hq,rfl,hR,hst,hf1,hd⟩ | ⟨c,q,v,hq,rfl,hR,hbd,hf1⟩;((first | (replace HM:=hide (bind_ok (uh HM) hq)) | (replace HM:=hide ((uh HM).trans hq)));replace bt:=BoxAt.tk bt hf1;clear t0 t1 t2 t3 tl;obtain⟨t0,t1,t2,t3,tl⟩:=bt4 bt;replace hf:=hf.step hf1;unfold RNat at hR;subst hR;clear hf1 hq);rotate_left;((first | (replace HM:=hide (bind_bad (uh HM) hq)) | (replace HM:=hide ((uh HM).trans hq)));replace bt:=BoxAt.tk bt hf1;clear t0 t1 t2 t3 tl;obtain⟨t0,t1,t2,t3,tl⟩:=bt4 bt;replace hf:=hf.step hf1;obtain⟨a,rfl⟩:=hR;clear hf1 hq);rotate_left)
        | (go_at_call 112;refine (rexpr_bad hbd (by omega) _).mono ?_;clear hbd;rintro e w1 ⟨v,rfl,hR,hbd,hf1⟩;replace bt:=BoxAt.tk bt hf1;clear t0 t1 t2 t3 tl;obtain⟨t0,t1,t2,t3,tl⟩:=bt4 bt;replace hf:=hf.step hf1;obtain⟨a,rfl⟩:=hR;clear hf1)
   | (go_at_call 54;refine (rtookb hst _ (by decide)).mono ?_;intro e w1 ho;clear hst;rcases ho with⟨hy,rfl,hst,hf1,hd⟩ | ⟨hy,rfl,hst,hf1⟩;(replace HM:=hide (bind_next (ite_yes (bind_is (uh HM) hy) rfl));replace bt:=BoxAt.tk bt hf1;clear t0 t1 t2 t3 tl;obtain⟨t0,t1,t2,t3,tl⟩:=bt4 bt;replace hf:=hf.step hf1;clear hf1 hy);rotate_left;(replace HM:=hide (ite_no (bind_is (uh HM) hy) rfl);replace bt:=BoxAt.tk bt hf1;clear t0 t1 t2 t3 tl;obtain⟨t0,t1,t2,t3,tl⟩:=bt4 bt;replace hf:=hf.step hf1;clear hf1 hy);rotate_left)
        | (go_at_call 54;refine (rtook_bad hbd _).mono ?_;rintro e w1 ⟨rfl,hb1⟩;replace hbd:=hbd.new hb1;replace bt:=bt.new hb1;clear t0 t1 t2 t3 tl;obtain⟨t0,t1,t2,t3,tl⟩:=bt4 bt;replace hf:=hf.new hb1;clear hb1)
   | (go_at_call_of 113 (2:Nat);refine (rwith2 hst (by omega) (by first | rfl | (simp only [size_set]))).mono ?_;intro e w1 ho;clear hst;obtain⟨k,s1,hq,rfl,hst,hf1,hd⟩:=ho;(first | (replace HM:=hide (bind_ok (uh HM) hq)) | (replace HM:=hide ((uh HM).trans hq)));replace bt:=BoxAt.tk bt hf1;clear t0 t1 t2 t3 tl;obtain⟨t0,t1,t2,t3,tl⟩:=bt4 bt;replace hf:=hf.step hf1;clear hf1 hq)
          | (go_at_call 113;have hlt5:=hbd.lt;refine (rwith_bad (hbd.alloc _) (by omega) _ _ _ _ _).mono ?_;clear hbd;rintro e w1 ⟨v,rfl,hR,hbd,hf1⟩;replace hf1:=RFr.drop hf1 hlt5;replace bt:=BoxAt.tk bt hf1;clear t0 t1 t2 t3 tl;obtain⟨t0,t1,t2,t3,tl⟩:=bt4 bt;replace hf:=hf.step hf1;obtain⟨kb,rfl⟩:=hR;clear hf1 hlt5)
   | (go_at_call_of 113 (1:Nat);refine (rwith1 hst (by omega) (by first | rfl | (simp only [size_set]))).mono ?_;intro e w1 ho;clear hst;obtain⟨k,s1,hq,rfl,hst,hf1,hd⟩:=ho;(first | (replace HM:=hide (bind_ok (uh HM) hq)) | (replace HM:=hide ((uh HM).trans hq)));replace bt:=BoxAt.tk bt hf1;clear t0 t1 t2 t3 tl;obtain⟨t0,t1,t2,t3,tl⟩:=bt4 bt;replace hf:=hf.step hf1;clear hf1 hq)
          | (go_at_call 113;have hlt5:=hbd.lt;refine (rwith_bad (hbd.alloc _) (by omega) _ _ _ _ _).mono ?_;clear hbd;rintro e w1 ⟨v,rfl,hR,hbd,hf1⟩;replace hf1:=RFr.drop hf1 hlt5;replace bt:=BoxAt.tk bt hf1;clear t0 t1 t2 t3 tl;obtain⟨t0,t1,t2,t3,tl⟩:=bt4 bt;replace hf:=hf.step hf1;obtain⟨kb,rfl⟩:=hR;clear hf1 hlt5))
  all_goals
   go_returns
   first
    | exact Or.inl ⟨_,_,_,uh HM,rfl,rfl,hst,hf,by omega⟩
    | exact Or.inr ⟨_,_,_,uh HM,rfl,⟨_,rfl⟩,hbd.more (by omega),hf⟩
end
section
open Go.RowKit
set_option maxHeartbeats 32000000 in
set_option maxRecDepth 100000 in
theorem rstmt_define {p X T tv r A s w}(h:RSt p X T tv r A s w) (lo:Rd) (hdec:DecRd lo) (hlo:RLos p X T tv r lo) (hnx:∀ x ∈ [⟨#[103,111]⟩,⟨#[99,108,111,115,101]⟩,⟨#[112,97,110,105,99]⟩,⟨#[112,114,105,110,116]⟩,⟨#[105,102]⟩,⟨#[102,111,114]⟩,⟨#[114,101,116,117,114,110]⟩,⟨#[98,114,101,97,107]⟩,⟨#[115,101,108,101,99,116]⟩],(look X.size s 0).text≠x) (hdf:defines X.size s=true) :
  Calls Tryz.prog 88 #[.pointer (some ⟨p,0,none⟩)] w (ROut p X T tv r A w.heap.size 1 (phi s+100 * r+80) s w (stmt X.size r lo s) RNat BNat):=by
 have HA:=h.sep
 have hp:=h.lt
 have hroom:=h.room
 have hcap:=h.cap
 obtain⟨res,hres⟩:∃ res,res=stmt X.size r lo s:=⟨_,rfl⟩
 rw [← hres]
 have hpu:stmt X.size r lo s=(plainStmt X.size r lo) s:=by
  unfold stmt
  show (if (look X.size s 0).text=⟨#[103,111]⟩ then _ else _:M Nat) s=_
  rw [if_neg (hnx _ (by simp)),if_neg (hnx _ (by simp)),if_neg (hnx _ (by simp)),if_neg (hnx _ (by simp)),if_neg (hnx _ (by simp)),if_neg (hnx _ (by simp)),if_neg (hnx _ (by simp)),if_neg (hnx _ (by simp)),if_neg (hnx _ (by simp))]
 rw [hpu] at hres
 obtain⟨t,HT⟩:∃ t,Hid (look X.size s 0=t):=⟨_,rfl⟩
 rw [uh HT] at hnx
 try (rw [uh HT] at hres)
 have HM:=hide hres
 have HLO:=hide hlo
 have hf:=RFr.refl (p:=p) (Nat.le_refl w.heap.size) hp
 have hst:=h
 clear h hres hpu hlo
 have HDEC:=hide hdec
 clear hdec
 have hx0:=text_ne (x:=t.text) (a:=[103,111]) (hnx _ (by simp))
 have hx1:=text_ne (x:=t.text) (a:=[99,108,111,115,101]) (hnx _ (by simp))
 have hx2:=text_ne (x:=t.text) (a:=[112,97,110,105,99]) (hnx _ (by simp))
 have hx3:=text_ne (x:=t.text) (a:=[112,114,105,110,116]) (hnx _ (by simp))
 have hx4:=text_ne (x:=t.text) (a:=[105,102]) (hnx _ (by simp))
 have hx5:=text_ne (x:=t.text) (a:=[102,111,114]) (hnx _ (by simp))
 have hx6:=text_ne (x:=t.text) (a:=[114,101,116,117,114,110]) (hnx _ (by simp))
 have hx7:=text_ne (x:=t.text) (a:=[98,114,101,97,107]) (hnx _ (by simp))
 have hx8:=text_ne (x:=t.text) (a:=[115,101,108,101,99,116]) (hnx _ (by simp))
 clear hnx
 have HTK:Hid (t.kind=1):=by
  unfold defines at hdf
  rw [uh HT] at hdf
  simp at hdf
  exact hdf.1
 have HNX:Hid (decide ((look X.size s 1).text=⟨#[58,61]⟩)=true):=by
  unfold defines at hdf
  rw [uh HT] at hdf
  simp at hdf
  show _=_
  rw [hdf.2]
  decide
 have HNE:Hid (s.rest≠[]):=kind_ne (E:=X.size) (k:=1) (by rw [uh HT];exact uh HTK) (by decide)
 have HNE2:Hid (s.rest.tail≠[]):=by
  intro h9
  have h8:=uh HNX
  have h7:look X.size s 1=⟨0,⟨#[]⟩,0,X.size⟩:=by
   obtain⟨a,l,hl⟩:=List.exists_cons_of_ne_nil (uh HNE)
   rw [hl] at h9
   have h6:l = []:=h9
   simp [look,hl,h6]
  rw [h7] at h8
  simp at h8
 replace HM:=hide ((uh HM).trans (define_at hdf))
 rw [uh HT] at HM
 clear hdf
 all_goals
  go_enter Tryz.func88,Tryz.ntmps88
  go_wp2_with (first
   | (go_at_call 35;have hnow:=rnow_ok hst;rw [uh HT] at hnow;rw [uh HTK] at hnow;refine hnow.mono ?_;rintro e w1 ⟨rfl,hb1⟩;have tB:=(hf.new hb1).size;have bt:=BoxAt.made w1 [.int .i64 1,.string t.text,.int .i64 t.num,.int .i64 t.pos] 66;obtain⟨t0,t1,t2,t3,tl⟩:=bt4 bt;replace hst:=(hst.new hb1).alloc (Obj.cells #[.int .i64 1,.string t.text,.int .i64 t.num,.int .i64 t.pos] 66);replace hf:=(hf.new hb1).new (blA _ (Obj.cells #[.int .i64 1,.string t.text,.int .i64 t.num,.int .i64 t.pos] 66));clear hb1 hnow;obtain⟨v1,nq9,d0,d1,d2,d3,d4,d5,d6,d7,e2,e3,e4,e5,e6,e7,hp1,va1,vk1,rfl⟩:=hst.g.facts;have hi1:0≤((T.length - s.rest.length:Nat):Int):=(by omega);have hi2:((T.length - s.rest.length:Nat):Int)≤100000:=(by have:=hst.few;omega))
   | (go_at_call 116;have hnx:=rnext_ok hst ⟨#[58,61]⟩ (by decide);rw [uh HNX] at hnx;refine hnx.mono ?_;rintro e w1 ⟨rfl,hb1⟩;replace hst:=hst.new hb1;replace bt:=bt.new hb1;clear t0 t1 t2 t3 tl;obtain⟨t0,t1,t2,t3,tl⟩:=bt4 bt;replace hf:=hf.new hb1;clear hb1 hnx;obtain⟨v1,nq9,d0,d1,d2,d3,d4,d5,d6,d7,e2,e3,e4,e5,e6,e7,hp1,va1,vk1,rfl⟩:=hst.g.facts;obtain⟨hst3,hf3,hd3⟩:=hst.onto2 (uh HNE) (uh HNE2);replace bt:=bt.setOther (a:=⟨p,2,none⟩) (by show _≠p;omega) (.int .i64 (((T.length - s.rest.length:Nat):Int)+2));replace hf:=hf.step hf3;replace hst:=hst3;clear hst3 hf3;skip)
   | (go_at_call 112;refine (rexpr0_ok hst lo (uh HDEC) (uh HLO)).mono ?_;intro e w1 ho;clear hst;rcases ho with⟨a,s1,v,hq,rfl,hR,hst,hf1,hd⟩ | ⟨c,q,v,hq,rfl,hR,hbd,hf1⟩;((first | (replace HM:=hide (bind_ok (uh HM) hq)) | (replace HM:=hide ((uh HM).trans hq)));replace bt:=BoxAt.tk bt hf1;clear t0 t1 t2 t3 tl;obtain⟨t0,t1,t2,t3,tl⟩:=bt4 bt;replace hf:=hf.step hf1;unfold RNat at hR;subst hR;clear hf1 hq);rotate_left;((first | (replace HM:=hide (bind_bad (uh HM) hq)) | (replace HM:=hide ((uh HM).trans hq)));replace bt:=BoxAt.tk bt hf1;clear t0 t1 t2 t3 tl;obtain⟨t0,t1,t2,t3,tl⟩:=bt4 bt;replace hf:=hf.step hf1;obtain⟨a,rfl⟩:=hR;clear hf1 hq);rotate_left)
        | (go_at_call 112;refine (rexpr_bad hbd (by omega) _).mono ?_;clear hbd;rintro e w1 ⟨v,rfl,hR,hbd,hf1⟩;replace bt:=BoxAt.tk bt hf1;clear t0 t1 t2 t3 tl;obtain⟨t0,t1,t2,t3,tl⟩:=bt4 bt;replace hf:=hf.step hf1;obtain⟨a,rfl⟩:=hR;clear hf1)
   | (go_at_call_of 38 (1:Nat);refine (rput1 hst (by omega) (by first | rfl | (simp only [size_set]))).mono ?_;intro e w1 ho;clear hst;obtain⟨k,s1,hq,rfl,hst,hf1,hd⟩:=ho;(first | (replace HM:=hide (bind_ok (uh HM) hq)) | (replace HM:=hide ((uh HM).trans hq)));replace bt:=BoxAt.tk bt hf1;clear t0 t1 t2 t3 tl;obtain⟨t0,t1,t2,t3,tl⟩:=bt4 bt;replace hf:=hf.step hf1;clear hf1 hq)
          | (go_at_call 38;have hlt5:=hbd.lt;refine (rput_bad (hbd.alloc _) (by omega) _ _ _ _ _ _ _).mono ?_;clear hbd;rintro e w1 ⟨v,rfl,hR,hbd,hf1⟩;replace hf1:=RFr.drop hf1 hlt5;replace bt:=BoxAt.tk bt hf1;clear t0 t1 t2 t3 tl;obtain⟨t0,t1,t2,t3,tl⟩:=bt4 bt;replace hf:=hf.step hf1;obtain⟨kb,rfl⟩:=hR;clear hf1 hlt5))
  all_goals
   go_returns
   first
    | exact Or.inl ⟨_,_,_,uh HM,rfl,rfl,hst,hf,by omega⟩
    | exact Or.inr ⟨_,_,_,uh HM,rfl,⟨_,rfl⟩,hbd.more (by omega),hf⟩
end
end Go.Proofs.YtdemnolanlfblaaGreatDoor
