import Derived.Test.YtdemnolanlfblaaGreatDoorYRExpr
set_option linter.all false
namespace Go.Proofs.YtdemnolanlfblaaGreatDoor
section
open Go.RowKit
theorem new_at {E r:Nat}{s:PS}{res:Res Nat}(h:res=newOf E r s) (ht:(look E s 0).text=⟨#[110,101,119]⟩):res=((opens E r [⟨#[40]⟩]).bind fun _=>(wantName E).bind fun n=>(want E [⟨#[41]⟩]).bind fun _=>put ⟨41,(look E s 0).pos,0,n,[]⟩) { s with rest:=s.rest.tail }:=by
 rw [h]
 unfold newOf
 rw [bindOk (want_yes (by rw [isB_one,ht];decide))]
set_option maxHeartbeats 16000000 in
set_option maxRecDepth 100000 in
theorem rfirst_nil {p X T tv r A s w}(h:RSt p X T tv r A s w) (lo:Rd) (hlo:RLos p X T tv r lo) (htx:(look X.size s 0).text=⟨#[110,105,108]⟩) :
  Calls Tryz.prog 156 #[.pointer (some ⟨p,0,none⟩)] w (ROut p X T tv r A w.heap.size 2 (phi s+100 * r+30) s w (first X.size r lo s) RNat BNat):=by
 have HA:=h.sep
 have hp:=h.lt
 have hroom:=h.room
 have hcap:=h.cap
 obtain⟨res,hres⟩:∃ res,res=first X.size r lo s:=⟨_,rfl⟩
 rw [← hres]
 have hpu:first X.size r lo s=((next X.size).bind fun _=>put ⟨35,(look X.size s 0).pos,0,⟨#[]⟩,[]⟩) s:=by
  unfold first
  show (if (look X.size s 0).text=⟨#[116,114,117,101]⟩ then _ else _:M Nat) s=_
  rw [if_neg (by rw [htx];decide),if_neg (by rw [htx];decide),if_pos htx]
 rw [hpu] at hres
 obtain⟨t,HT⟩:∃ t,Hid (look X.size s 0=t):=⟨_,rfl⟩
 rw [uh HT] at htx
 try (rw [uh HT] at hres)
 have HM:=hide hres
 have HLO:=hide hlo
 have hf:=RFr.refl (p:=p) (Nat.le_refl w.heap.size) hp
 have hst:=h
 have HNE:Hid (s.rest≠[]):=(by intro hr;rw [show t=look X.size s 0 from (uh HT).symm,look_nil hr] at htx;simp at htx)
 clear h hres hpu hlo
 have hok:=rlook_ok hst (uh HNE)
 rw [uh HT] at hok
 have HTK:Hid (t.kind=4):=hok.word (by rw [htx];simp)
 have HTX:=hide htx
 clear hok htx
 replace HM:=hide (bind_next (uh HM))
 go_enter Tryz.func156,Tryz.ntmps156
 go_wp2_with (first
  | (go_at_call 35;have hnow:=rnow_ok hst;rw [uh HT] at hnow;rw [uh HTK] at hnow;rw [uh HTX] at hnow;refine hnow.mono ?_;rintro e w1 ⟨rfl,hb1⟩;have tB:=(hf.new hb1).size;have bt:=BoxAt.made w1 [.int .i64 4,.string ⟨#[110,105,108]⟩,.int .i64 t.num,.int .i64 t.pos] 66;obtain⟨t0,t1,t2,t3,tl⟩:=bt4 bt;replace hst:=(hst.new hb1).alloc (Obj.cells #[.int .i64 4,.string ⟨#[110,105,108]⟩,.int .i64 t.num,.int .i64 t.pos] 66);replace hf:=(hf.new hb1).new (blA _ (Obj.cells #[.int .i64 4,.string ⟨#[110,105,108]⟩,.int .i64 t.num,.int .i64 t.pos] 66));clear hb1 hnow;obtain⟨v1,nq9,d0,d1,d2,d3,d4,d5,d6,d7,e2,e3,e4,e5,e6,e7,hp1,va1,vk1,rfl⟩:=hst.g.facts;have hi1:0≤((T.length - s.rest.length:Nat):Int):=(by omega);have hi2:((T.length - s.rest.length:Nat):Int)≤100000:=(by have:=hst.few;omega);obtain⟨hst3,hf3,hd3⟩:=hst.onto (uh HNE);replace bt:=bt.setOther (a:=⟨p,2,none⟩) (by show _≠p;omega) (.int .i64 (((T.length - s.rest.length:Nat):Int)+1));replace hf:=hf.step hf3;replace hst:=hst3;clear hst3 hf3;skip)
  | (go_at_call 38;refine (rput0 hst (by omega)).mono ?_;intro e w1 ho;clear hst;obtain⟨k,s1,hq,rfl,hst,hf1,hd⟩:=ho;(first | (replace HM:=hide (bind_ok (uh HM) hq)) | (replace HM:=hide ((uh HM).trans hq)));replace bt:=BoxAt.tk bt hf1;clear t0 t1 t2 t3 tl;obtain⟨t0,t1,t2,t3,tl⟩:=bt4 bt;replace hf:=hf.step hf1;clear hf1 hq)
          | (go_at_call 38;have hlt5:=hbd.lt;refine (rput_bad hbd (by omega) _ _ _ _ _ _ _).mono ?_;clear hbd;rintro e w1 ⟨v,rfl,hR,hbd,hf1⟩; replace bt:=BoxAt.tk bt hf1;clear t0 t1 t2 t3 tl;obtain⟨t0,t1,t2,t3,tl⟩:=bt4 bt;replace hf:=hf.step hf1;obtain⟨kb,rfl⟩:=hR;clear hf1 hlt5))
 all_goals
  go_returns
  first
   | exact Or.inl ⟨_,_,_,uh HM,rfl,rfl,hst,hf,by omega⟩
   | exact Or.inr ⟨_,_,_,uh HM,rfl,⟨_,rfl⟩,hbd.more (by omega),hf⟩
set_option maxHeartbeats 16000000 in
set_option maxRecDepth 100000 in
theorem rfirst_new {p X T tv r A s w}(h:RSt p X T tv r A s w) (lo:Rd) (hlo:RLos p X T tv r lo) (htx:(look X.size s 0).text=⟨#[110,101,119]⟩) :
  Calls Tryz.prog 156 #[.pointer (some ⟨p,0,none⟩)] w (ROut p X T tv r A w.heap.size 2 (phi s+100 * r+30) s w (first X.size r lo s) RNat BNat):=by
 have HA:=h.sep
 have hp:=h.lt
 have hroom:=h.room
 have hcap:=h.cap
 obtain⟨res,hres⟩:∃ res,res=first X.size r lo s:=⟨_,rfl⟩
 rw [← hres]
 have hpu:first X.size r lo s=(newOf X.size r) s:=by
  unfold first
  show (if (look X.size s 0).text=⟨#[116,114,117,101]⟩ then _ else _:M Nat) s=_
  rw [if_neg (by rw [htx];decide),if_neg (by rw [htx];decide),if_neg (by rw [htx];decide),if_neg (by rw [htx];decide),if_neg (by rw [htx];decide),if_pos htx]
 rw [hpu] at hres
 obtain⟨t,HT⟩:∃ t,Hid (look X.size s 0=t):=⟨_,rfl⟩
 rw [uh HT] at htx
 try (rw [uh HT] at hres)
 have HM:=hide hres
 have HLO:=hide hlo
 have hf:=RFr.refl (p:=p) (Nat.le_refl w.heap.size) hp
 have hst:=h
 have HNE:Hid (s.rest≠[]):=(by intro hr;rw [show t=look X.size s 0 from (uh HT).symm,look_nil hr] at htx;simp at htx)
 clear h hres hpu hlo
 have hok:=rlook_ok hst (uh HNE)
 rw [uh HT] at hok
 have HTK:Hid (t.kind=4):=hok.word (by rw [htx];simp)
 have HTX:=hide htx
 clear hok htx
 replace HM:=hide (new_at (uh HM) (by rw [uh HT];exact uh HTX))
 rw [uh HT] at HM
 go_enter Tryz.func156,Tryz.ntmps156
 go_wp2_with (first
  | (go_at_call 35;have hnow:=rnow_ok hst;rw [uh HT] at hnow;rw [uh HTK] at hnow;rw [uh HTX] at hnow;refine hnow.mono ?_;rintro e w1 ⟨rfl,hb1⟩;have tB:=(hf.new hb1).size;have bt:=BoxAt.made w1 [.int .i64 4,.string ⟨#[110,101,119]⟩,.int .i64 t.num,.int .i64 t.pos] 66;obtain⟨t0,t1,t2,t3,tl⟩:=bt4 bt;replace hst:=(hst.new hb1).alloc (Obj.cells #[.int .i64 4,.string ⟨#[110,101,119]⟩,.int .i64 t.num,.int .i64 t.pos] 66);replace hf:=(hf.new hb1).new (blA _ (Obj.cells #[.int .i64 4,.string ⟨#[110,101,119]⟩,.int .i64 t.num,.int .i64 t.pos] 66));clear hb1 hnow;obtain⟨v1,nq9,d0,d1,d2,d3,d4,d5,d6,d7,e2,e3,e4,e5,e6,e7,hp1,va1,vk1,rfl⟩:=hst.g.facts;have hi1:0≤((T.length - s.rest.length:Nat):Int):=(by omega);have hi2:((T.length - s.rest.length:Nat):Int)≤100000:=(by have:=hst.few;omega);obtain⟨hst3,hf3,hd3⟩:=hst.onto (uh HNE);replace bt:=bt.setOther (a:=⟨p,2,none⟩) (by show _≠p;omega) (.int .i64 (((T.length - s.rest.length:Nat):Int)+1));replace hf:=hf.step hf3;replace hst:=hst3;clear hst3 hf3;skip)
  | (go_at_call 56;refine (renterb hst _ (by decide)).mono ?_;intro e w1 ho;clear hst;rcases ho with⟨r',t9,s1,rfl,hq,rfl,hst,hf1,hd⟩ | ⟨c,q,kb,hq,rfl,hbd,hf1⟩;(replace HM:=hide (bind_ok (uh HM) hq);replace bt:=BoxAt.tk bt hf1;clear t0 t1 t2 t3 tl;obtain⟨t0,t1,t2,t3,tl⟩:=bt4 bt;replace hf:=hf.step hf1;clear hf1 hq);rotate_left;(replace HM:=hide (bind_bad (uh HM) hq);replace bt:=BoxAt.tk bt hf1;clear t0 t1 t2 t3 tl;obtain⟨t0,t1,t2,t3,tl⟩:=bt4 bt;replace hf:=hf.step hf1;clear hf1 hq);rotate_left)
  | (go_at_call 56;refine (renter_bad hbd _).mono ?_;clear hbd;rintro e w1 ⟨v,rfl,hR,hbd,hf1⟩;replace bt:=BoxAt.tk bt hf1;clear t0 t1 t2 t3 tl;obtain⟨t0,t1,t2,t3,tl⟩:=bt4 bt;replace hf:=hf.step hf1;clear hf1 hR)
  | (go_at_call 55;refine (rname_ok hst).mono ?_;intro e w1 ho;clear hst;rcases ho with⟨a,s1,v,hq,rfl,hR,hst,hf1,hd⟩ | ⟨c,q,v,hq,rfl,hR,hbd,hf1⟩;((first | (replace HM:=hide (bind_ok (uh HM) hq)) | (replace HM:=hide ((uh HM).trans hq)));replace bt:=BoxAt.tk bt hf1;clear t0 t1 t2 t3 tl;obtain⟨t0,t1,t2,t3,tl⟩:=bt4 bt;replace hf:=hf.step hf1;unfold RStr at hR;subst hR;clear hf1 hq);rotate_left;((first | (replace HM:=hide (bind_bad (uh HM) hq)) | (replace HM:=hide ((uh HM).trans hq)));replace bt:=BoxAt.tk bt hf1;clear t0 t1 t2 t3 tl;obtain⟨t0,t1,t2,t3,tl⟩:=bt4 bt;replace hf:=hf.step hf1;obtain⟨kb,rfl⟩:=hR;clear hf1 hq);rotate_left)
          | (go_at_call 55;refine (rname_bad hbd).mono ?_;clear hbd;rintro e w1 ⟨v,rfl,hR,hbd,hf1⟩;replace bt:=BoxAt.tk bt hf1;clear t0 t1 t2 t3 tl;obtain⟨t0,t1,t2,t3,tl⟩:=bt4 bt;replace hf:=hf.step hf1;obtain⟨kb,rfl⟩:=hR;clear hf1)
  | (go_at_call 60;refine (rleaveb hst (by omega) _ (by decide)).mono ?_;intro e w1 ho;clear hst;rcases ho with⟨a9,s1,v,hq,rfl,hR,hst,hf1,hd⟩ | ⟨c,q,v,hq,rfl,hR,hbd,hf1⟩;(replace HM:=hide (bind_ok (uh HM) hq);replace bt:=BoxAt.tk bt hf1;clear t0 t1 t2 t3 tl;obtain⟨t0,t1,t2,t3,tl⟩:=bt4 bt;replace hf:=hf.step hf1;clear hf1 hq hR);rotate_left;(replace HM:=hide (bind_bad (uh HM) hq);replace bt:=BoxAt.tk bt hf1;clear t0 t1 t2 t3 tl;obtain⟨t0,t1,t2,t3,tl⟩:=bt4 bt;replace hf:=hf.step hf1;clear hf1 hq hR);rotate_left)
  | (go_at_call 60;refine (rleave_bad hbd _).mono ?_;clear hbd;rintro e w1 ⟨v,rfl,hR,hbd,hf1⟩;replace bt:=BoxAt.tk bt hf1;clear t0 t1 t2 t3 tl;obtain⟨t0,t1,t2,t3,tl⟩:=bt4 bt;replace hf:=hf.step hf1;clear hf1 hR)
  | (go_at_call 38;refine (rput0 hst (by omega)).mono ?_;intro e w1 ho;clear hst;obtain⟨k,s1,hq,rfl,hst,hf1,hd⟩:=ho;(first | (replace HM:=hide (bind_ok (uh HM) hq)) | (replace HM:=hide ((uh HM).trans hq)));replace bt:=BoxAt.tk bt hf1;clear t0 t1 t2 t3 tl;obtain⟨t0,t1,t2,t3,tl⟩:=bt4 bt;replace hf:=hf.step hf1;clear hf1 hq)
          | (go_at_call 38;have hlt5:=hbd.lt;refine (rput_bad hbd (by omega) _ _ _ _ _ _ _).mono ?_;clear hbd;rintro e w1 ⟨v,rfl,hR,hbd,hf1⟩; replace bt:=BoxAt.tk bt hf1;clear t0 t1 t2 t3 tl;obtain⟨t0,t1,t2,t3,tl⟩:=bt4 bt;replace hf:=hf.step hf1;obtain⟨kb,rfl⟩:=hR;clear hf1 hlt5))
 all_goals
  go_returns
  first
   | exact Or.inl ⟨_,_,_,uh HM,rfl,rfl,hst,hf,by omega⟩
   | exact Or.inr ⟨_,_,_,uh HM,rfl,⟨_,rfl⟩,hbd.more (by omega),hf⟩
set_option maxHeartbeats 16000000 in
set_option maxRecDepth 100000 in
theorem rfirst_true {p X T tv r A s w}(h:RSt p X T tv r A s w) (lo:Rd) (hlo:RLos p X T tv r lo) (htx:(look X.size s 0).text=⟨#[116,114,117,101]⟩) :
  Calls Tryz.prog 156 #[.pointer (some ⟨p,0,none⟩)] w (ROut p X T tv r A w.heap.size 2 (phi s+100 * r+30) s w (first X.size r lo s) RNat BNat):=by
 have HA:=h.sep
 have hp:=h.lt
 have hroom:=h.room
 have hcap:=h.cap
 obtain⟨res,hres⟩:∃ res,res=first X.size r lo s:=⟨_,rfl⟩
 rw [← hres]
 have hpu:first X.size r lo s=((next X.size).bind fun _=>put ⟨34,(look X.size s 0).pos,1,⟨#[]⟩,[]⟩) s:=by
  unfold first
  show (if (look X.size s 0).text=⟨#[116,114,117,101]⟩ then _ else _:M Nat) s=_
  rw [if_pos htx]
 rw [hpu] at hres
 obtain⟨t,HT⟩:∃ t,Hid (look X.size s 0=t):=⟨_,rfl⟩
 rw [uh HT] at htx
 try (rw [uh HT] at hres)
 have HM:=hide hres
 have HLO:=hide hlo
 have hf:=RFr.refl (p:=p) (Nat.le_refl w.heap.size) hp
 have hst:=h
 have HNE:Hid (s.rest≠[]):=(by intro hr;rw [show t=look X.size s 0 from (uh HT).symm,look_nil hr] at htx;simp at htx)
 clear h hres hpu hlo
 have hok:=rlook_ok hst (uh HNE)
 rw [uh HT] at hok
 have HTK:Hid (t.kind=4):=hok.word (by rw [htx];simp)
 have HTX:=hide htx
 clear hok htx
 replace HM:=hide (bind_next (uh HM))
 go_enter Tryz.func156,Tryz.ntmps156
 go_wp2_with (first
  | (go_at_call 35;have hnow:=rnow_ok hst;rw [uh HT] at hnow;rw [uh HTK] at hnow;rw [uh HTX] at hnow;refine hnow.mono ?_;rintro e w1 ⟨rfl,hb1⟩;have tB:=(hf.new hb1).size;have bt:=BoxAt.made w1 [.int .i64 4,.string ⟨#[116,114,117,101]⟩,.int .i64 t.num,.int .i64 t.pos] 66;obtain⟨t0,t1,t2,t3,tl⟩:=bt4 bt;replace hst:=(hst.new hb1).alloc (Obj.cells #[.int .i64 4,.string ⟨#[116,114,117,101]⟩,.int .i64 t.num,.int .i64 t.pos] 66);replace hf:=(hf.new hb1).new (blA _ (Obj.cells #[.int .i64 4,.string ⟨#[116,114,117,101]⟩,.int .i64 t.num,.int .i64 t.pos] 66));clear hb1 hnow;obtain⟨v1,nq9,d0,d1,d2,d3,d4,d5,d6,d7,e2,e3,e4,e5,e6,e7,hp1,va1,vk1,rfl⟩:=hst.g.facts;have hi1:0≤((T.length - s.rest.length:Nat):Int):=(by omega);have hi2:((T.length - s.rest.length:Nat):Int)≤100000:=(by have:=hst.few;omega);obtain⟨hst3,hf3,hd3⟩:=hst.onto (uh HNE);replace bt:=bt.setOther (a:=⟨p,2,none⟩) (by show _≠p;omega) (.int .i64 (((T.length - s.rest.length:Nat):Int)+1));replace hf:=hf.step hf3;replace hst:=hst3;clear hst3 hf3;skip)
  | (go_at_call 38;have hplt:=hst.lt;refine (rput0 (hst.alloc _) (by omega)).mono ?_;intro e w1 ho;clear hst;obtain⟨k,s1,hq,rfl,hst,hf1,hd⟩:=ho;replace HM:=hide ((uh HM).trans hq);replace hf:=hf.step (RFr.drop hf1 hplt);clear hf1 hq))
 all_goals
  go_returns
  first
   | exact Or.inl ⟨_,_,_,uh HM,rfl,rfl,hst,hf,by omega⟩
   | exact Or.inr ⟨_,_,_,uh HM,rfl,⟨_,rfl⟩,hbd.more (by omega),hf⟩
set_option maxHeartbeats 16000000 in
set_option maxRecDepth 100000 in
theorem rfirst_false {p X T tv r A s w}(h:RSt p X T tv r A s w) (lo:Rd) (hlo:RLos p X T tv r lo) (htx:(look X.size s 0).text=⟨#[102,97,108,115,101]⟩) :
  Calls Tryz.prog 156 #[.pointer (some ⟨p,0,none⟩)] w (ROut p X T tv r A w.heap.size 2 (phi s+100 * r+30) s w (first X.size r lo s) RNat BNat):=by
 have HA:=h.sep
 have hp:=h.lt
 have hroom:=h.room
 have hcap:=h.cap
 obtain⟨res,hres⟩:∃ res,res=first X.size r lo s:=⟨_,rfl⟩
 rw [← hres]
 have hpu:first X.size r lo s=((next X.size).bind fun _=>put ⟨34,(look X.size s 0).pos,0,⟨#[]⟩,[]⟩) s:=by
  unfold first
  show (if (look X.size s 0).text=⟨#[116,114,117,101]⟩ then _ else _:M Nat) s=_
  rw [if_neg (by rw [htx];decide),if_pos htx]
 rw [hpu] at hres
 obtain⟨t,HT⟩:∃ t,Hid (look X.size s 0=t):=⟨_,rfl⟩
 rw [uh HT] at htx
 try (rw [uh HT] at hres)
 have HM:=hide hres
 have HLO:=hide hlo
 have hf:=RFr.refl (p:=p) (Nat.le_refl w.heap.size) hp
 have hst:=h
 have HNE:Hid (s.rest≠[]):=(by intro hr;rw [show t=look X.size s 0 from (uh HT).symm,look_nil hr] at htx;simp at htx)
 clear h hres hpu hlo
 have hok:=rlook_ok hst (uh HNE)
 rw [uh HT] at hok
 have HTK:Hid (t.kind=4):=hok.word (by rw [htx];simp)
 have HTX:=hide htx
 clear hok htx
 replace HM:=hide (bind_next (uh HM))
 go_enter Tryz.func156,Tryz.ntmps156
 go_wp2_with (first
  | (go_at_call 35;have hnow:=rnow_ok hst;rw [uh HT] at hnow;rw [uh HTK] at hnow;rw [uh HTX] at hnow;refine hnow.mono ?_;rintro e w1 ⟨rfl,hb1⟩;have tB:=(hf.new hb1).size;have bt:=BoxAt.made w1 [.int .i64 4,.string ⟨#[102,97,108,115,101]⟩,.int .i64 t.num,.int .i64 t.pos] 66;obtain⟨t0,t1,t2,t3,tl⟩:=bt4 bt;replace hst:=(hst.new hb1).alloc (Obj.cells #[.int .i64 4,.string ⟨#[102,97,108,115,101]⟩,.int .i64 t.num,.int .i64 t.pos] 66);replace hf:=(hf.new hb1).new (blA _ (Obj.cells #[.int .i64 4,.string ⟨#[102,97,108,115,101]⟩,.int .i64 t.num,.int .i64 t.pos] 66));clear hb1 hnow;obtain⟨v1,nq9,d0,d1,d2,d3,d4,d5,d6,d7,e2,e3,e4,e5,e6,e7,hp1,va1,vk1,rfl⟩:=hst.g.facts;have hi1:0≤((T.length - s.rest.length:Nat):Int):=(by omega);have hi2:((T.length - s.rest.length:Nat):Int)≤100000:=(by have:=hst.few;omega);obtain⟨hst3,hf3,hd3⟩:=hst.onto (uh HNE);replace bt:=bt.setOther (a:=⟨p,2,none⟩) (by show _≠p;omega) (.int .i64 (((T.length - s.rest.length:Nat):Int)+1));replace hf:=hf.step hf3;replace hst:=hst3;clear hst3 hf3;skip)
  | (go_at_call 38;have hplt:=hst.lt;refine (rput0 (hst.alloc _) (by omega)).mono ?_;intro e w1 ho;clear hst;obtain⟨k,s1,hq,rfl,hst,hf1,hd⟩:=ho;replace HM:=hide ((uh HM).trans hq);replace hf:=hf.step (RFr.drop hf1 hplt);clear hf1 hq))
 all_goals
  go_returns
  first
   | exact Or.inl ⟨_,_,_,uh HM,rfl,rfl,hst,hf,by omega⟩
   | exact Or.inr ⟨_,_,_,uh HM,rfl,⟨_,rfl⟩,hbd.more (by omega),hf⟩
set_option maxHeartbeats 16000000 in
set_option maxRecDepth 100000 in
theorem rfirst_func {p X T tv r A s w}(h:RSt p X T tv r A s w) (lo:Rd) (hlo:RLos p X T tv r lo) (htx:(look X.size s 0).text=⟨#[102,117,110,99]⟩) :
  Calls Tryz.prog 156 #[.pointer (some ⟨p,0,none⟩)] w (ROut p X T tv r A w.heap.size 2 (phi s+100 * r+30) s w (first X.size r lo s) RNat BNat):=by
 have HA:=h.sep
 have hp:=h.lt
 have hroom:=h.room
 have hcap:=h.cap
 obtain⟨res,hres⟩:∃ res,res=first X.size r lo s:=⟨_,rfl⟩
 rw [← hres]
 have hpu:first X.size r lo s=((next X.size).bind fun _=>(sig X.size r lo).bind fun g=>(block X.size r lo).bind fun b=>put ⟨40,(look X.size s 0).pos,0,⟨#[]⟩,[g,b]⟩) s:=by
  unfold first
  show (if (look X.size s 0).text=⟨#[116,114,117,101]⟩ then _ else _:M Nat) s=_
  rw [if_neg (by rw [htx];decide),if_neg (by rw [htx];decide),if_neg (by rw [htx];decide),if_neg (by rw [htx];decide),if_pos htx]
 rw [hpu] at hres
 obtain⟨t,HT⟩:∃ t,Hid (look X.size s 0=t):=⟨_,rfl⟩
 rw [uh HT] at htx
 try (rw [uh HT] at hres)
 have HM:=hide hres
 have HLO:=hide hlo
 have hf:=RFr.refl (p:=p) (Nat.le_refl w.heap.size) hp
 have hst:=h
 have HNE:Hid (s.rest≠[]):=(by intro hr;rw [show t=look X.size s 0 from (uh HT).symm,look_nil hr] at htx;simp at htx)
 clear h hres hpu hlo
 have hok:=rlook_ok hst (uh HNE)
 rw [uh HT] at hok
 have HTK:Hid (t.kind=4):=hok.word (by rw [htx];simp)
 have HTX:=hide htx
 clear hok htx
 replace HM:=hide (bind_next (uh HM))
 go_enter Tryz.func156,Tryz.ntmps156
 go_wp2_with (first
  | (go_at_call 35;have hnow:=rnow_ok hst;rw [uh HT] at hnow;rw [uh HTK] at hnow;rw [uh HTX] at hnow;refine hnow.mono ?_;rintro e w1 ⟨rfl,hb1⟩;have tB:=(hf.new hb1).size;have bt:=BoxAt.made w1 [.int .i64 4,.string ⟨#[102,117,110,99]⟩,.int .i64 t.num,.int .i64 t.pos] 66;obtain⟨t0,t1,t2,t3,tl⟩:=bt4 bt;replace hst:=(hst.new hb1).alloc (Obj.cells #[.int .i64 4,.string ⟨#[102,117,110,99]⟩,.int .i64 t.num,.int .i64 t.pos] 66);replace hf:=(hf.new hb1).new (blA _ (Obj.cells #[.int .i64 4,.string ⟨#[102,117,110,99]⟩,.int .i64 t.num,.int .i64 t.pos] 66));clear hb1 hnow;obtain⟨v1,nq9,d0,d1,d2,d3,d4,d5,d6,d7,e2,e3,e4,e5,e6,e7,hp1,va1,vk1,rfl⟩:=hst.g.facts;have hi1:0≤((T.length - s.rest.length:Nat):Int):=(by omega);have hi2:((T.length - s.rest.length:Nat):Int)≤100000:=(by have:=hst.few;omega);obtain⟨hst3,hf3,hd3⟩:=hst.onto (uh HNE);replace bt:=bt.setOther (a:=⟨p,2,none⟩) (by show _≠p;omega) (.int .i64 (((T.length - s.rest.length:Nat):Int)+1));replace hf:=hf.step hf3;replace hst:=hst3;clear hst3 hf3;skip)
  | (go_at_call 59;refine (rsig_ok hst lo (fun r' hr=>(uh HLO r' hr).typ) (fun A' s2 w2 h2=>rtyp_ok h2 lo (uh HLO))).mono ?_;intro e w1 ho;clear hst;rcases ho with⟨a,s1,v,hq,rfl,hR,hst,hf1,hd⟩ | ⟨c,q,v,hq,rfl,hR,hbd,hf1⟩;((first | (replace HM:=hide (bind_ok (uh HM) hq)) | (replace HM:=hide ((uh HM).trans hq)));replace bt:=BoxAt.tk bt hf1;clear t0 t1 t2 t3 tl;obtain⟨t0,t1,t2,t3,tl⟩:=bt4 bt;replace hf:=hf.step hf1;unfold RNat at hR;subst hR;clear hf1 hq);rotate_left;((first | (replace HM:=hide (bind_bad (uh HM) hq)) | (replace HM:=hide ((uh HM).trans hq)));replace bt:=BoxAt.tk bt hf1;clear t0 t1 t2 t3 tl;obtain⟨t0,t1,t2,t3,tl⟩:=bt4 bt;replace hf:=hf.step hf1;obtain⟨kb,rfl⟩:=hR;clear hf1 hq);rotate_left)
          | (go_at_call 59;refine (rsig_bad hbd (by omega)).mono ?_;clear hbd;rintro e w1 ⟨v,rfl,hR,hbd,hf1⟩;replace bt:=BoxAt.tk bt hf1;clear t0 t1 t2 t3 tl;obtain⟨t0,t1,t2,t3,tl⟩:=bt4 bt;replace hf:=hf.step hf1;obtain⟨kb,rfl⟩:=hR;clear hf1)
  | (go_at_call 62;refine (rblock_ok hst lo (uh HLO)).mono ?_;intro e w1 ho;clear hst;rcases ho with⟨a,s1,v,hq,rfl,hR,hst,hf1,hd⟩ | ⟨c,q,v,hq,rfl,hR,hbd,hf1⟩;((first | (replace HM:=hide (bind_ok (uh HM) hq)) | (replace HM:=hide ((uh HM).trans hq)));replace bt:=BoxAt.tk bt hf1;clear t0 t1 t2 t3 tl;obtain⟨t0,t1,t2,t3,tl⟩:=bt4 bt;replace hf:=hf.step hf1;unfold RNat at hR;subst hR;clear hf1 hq);rotate_left;((first | (replace HM:=hide (bind_bad (uh HM) hq)) | (replace HM:=hide ((uh HM).trans hq)));replace bt:=BoxAt.tk bt hf1;clear t0 t1 t2 t3 tl;obtain⟨t0,t1,t2,t3,tl⟩:=bt4 bt;replace hf:=hf.step hf1;obtain⟨kb,rfl⟩:=hR;clear hf1 hq);rotate_left)
          | (go_at_call 62;refine (rblock_bad hbd (by omega)).mono ?_;clear hbd;rintro e w1 ⟨v,rfl,hR,hbd,hf1⟩;replace bt:=BoxAt.tk bt hf1;clear t0 t1 t2 t3 tl;obtain⟨t0,t1,t2,t3,tl⟩:=bt4 bt;replace hf:=hf.step hf1;obtain⟨kb,rfl⟩:=hR;clear hf1)
  | (go_at_call_of 113 (2:Nat);refine (rwith2 hst (by omega) (by first | rfl | (simp only [size_set]))).mono ?_;intro e w1 ho;clear hst;obtain⟨k,s1,hq,rfl,hst,hf1,hd⟩:=ho;(first | (replace HM:=hide (bind_ok (uh HM) hq)) | (replace HM:=hide ((uh HM).trans hq)));replace bt:=BoxAt.tk bt hf1;clear t0 t1 t2 t3 tl;obtain⟨t0,t1,t2,t3,tl⟩:=bt4 bt;replace hf:=hf.step hf1;clear hf1 hq)
          | (go_at_call 113;have hlt5:=hbd.lt;refine (rwith_bad (hbd.alloc _) (by omega) _ _ _ _ _).mono ?_;clear hbd;rintro e w1 ⟨v,rfl,hR,hbd,hf1⟩;replace hf1:=RFr.drop hf1 hlt5;replace bt:=BoxAt.tk bt hf1;clear t0 t1 t2 t3 tl;obtain⟨t0,t1,t2,t3,tl⟩:=bt4 bt;replace hf:=hf.step hf1;obtain⟨kb,rfl⟩:=hR;clear hf1 hlt5))
 all_goals
  go_returns
  first
   | exact Or.inl ⟨_,_,_,uh HM,rfl,rfl,hst,hf,by omega⟩
   | exact Or.inr ⟨_,_,_,uh HM,rfl,⟨_,rfl⟩,hbd.more (by omega),hf⟩
set_option maxHeartbeats 16000000 in
set_option maxRecDepth 100000 in
theorem rfirst_par {p X T tv r A s w}(h:RSt p X T tv r A s w) (lo:Rd) (hlo:RLos p X T tv r lo) (htx:(look X.size s 0).text=⟨#[40]⟩) :
  Calls Tryz.prog 156 #[.pointer (some ⟨p,0,none⟩)] w (ROut p X T tv r A w.heap.size 2 (phi s+100 * r+30) s w (first X.size r lo s) RNat BNat):=by
 have HA:=h.sep
 have hp:=h.lt
 have hroom:=h.room
 have hcap:=h.cap
 obtain⟨res,hres⟩:∃ res,res=first X.size r lo s:=⟨_,rfl⟩
 rw [← hres]
 have hpu:first X.size r lo s=((opens X.size r [⟨#[40]⟩]).bind fun _=>(lo.expr).bind fun k=>(want X.size [⟨#[41]⟩]).bind fun _=>M.ret k) s:=by
  unfold first
  show (if (look X.size s 0).text=⟨#[116,114,117,101]⟩ then _ else _:M Nat) s=_
  rw [if_neg (by rw [htx];decide),if_neg (by rw [htx];decide),if_neg (by rw [htx];decide),if_pos htx]
 rw [hpu] at hres
 obtain⟨t,HT⟩:∃ t,Hid (look X.size s 0=t):=⟨_,rfl⟩
 rw [uh HT] at htx
 try (rw [uh HT] at hres)
 have HM:=hide hres
 have HLO:=hide hlo
 have hf:=RFr.refl (p:=p) (Nat.le_refl w.heap.size) hp
 have hst:=h
 have HNE:Hid (s.rest≠[]):=(by intro hr;rw [show t=look X.size s 0 from (uh HT).symm,look_nil hr] at htx;simp at htx)
 clear h hres hpu hlo
 have hok:=rlook_ok hst (uh HNE)
 rw [uh HT] at hok
 have HTK:Hid (t.kind=3):=hok.sign (by rw [htx];simp)
 have HTX:=hide htx
 clear hok htx
 have HISB:Hid (isB X.size s [⟨#[40]⟩]=true):=by show _=_;rw [isB_one,uh HT,uh HTX];decide
 go_enter Tryz.func156,Tryz.ntmps156
 go_wp2_with (first
  | (go_at_call 35;have hnow:=rnow_ok hst;rw [uh HT] at hnow;rw [uh HTK] at hnow;rw [uh HTX] at hnow;refine hnow.mono ?_;rintro e w1 ⟨rfl,hb1⟩;have tB:=(hf.new hb1).size;have bt:=BoxAt.made w1 [.int .i64 3,.string ⟨#[40]⟩,.int .i64 t.num,.int .i64 t.pos] 66;obtain⟨t0,t1,t2,t3,tl⟩:=bt4 bt;replace hst:=(hst.new hb1).alloc (Obj.cells #[.int .i64 3,.string ⟨#[40]⟩,.int .i64 t.num,.int .i64 t.pos] 66);replace hf:=(hf.new hb1).new (blA _ (Obj.cells #[.int .i64 3,.string ⟨#[40]⟩,.int .i64 t.num,.int .i64 t.pos] 66));clear hb1 hnow;obtain⟨v1,nq9,d0,d1,d2,d3,d4,d5,d6,d7,e2,e3,e4,e5,e6,e7,hp1,va1,vk1,rfl⟩:=hst.g.facts;have hi1:0≤((T.length - s.rest.length:Nat):Int):=(by omega);have hi2:((T.length - s.rest.length:Nat):Int)≤100000:=(by have:=hst.few;omega);skip)
  | (go_at_call 57;have hisb:=ris_ok hst _ (kw_mem (x:=⟨#[40]⟩) (by decide)).1 (kw_mem (x:=⟨#[40]⟩) (by decide)).2;rw [uh HISB] at hisb;refine hisb.mono ?_;rintro e w1 ⟨rfl,hb1⟩;replace hst:=hst.new hb1;replace bt:=bt.new hb1;clear t0 t1 t2 t3 tl;obtain⟨t0,t1,t2,t3,tl⟩:=bt4 bt;replace hf:=hf.new hb1;clear hb1 hisb)
  | (go_at_call 56;refine (renterb hst _ (by decide)).mono ?_;intro e w1 ho;clear hst;rcases ho with⟨r',t9,s1,rfl,hq,rfl,hst,hf1,hd⟩ | ⟨c,q,kb,hq,rfl,hbd,hf1⟩;(replace HM:=hide (bind_ok (uh HM) hq);replace bt:=BoxAt.tk bt hf1;clear t0 t1 t2 t3 tl;obtain⟨t0,t1,t2,t3,tl⟩:=bt4 bt;replace hf:=hf.step hf1;clear hf1 hq);rotate_left;(replace HM:=hide (bind_bad (uh HM) hq);replace bt:=BoxAt.tk bt hf1;clear t0 t1 t2 t3 tl;obtain⟨t0,t1,t2,t3,tl⟩:=bt4 bt;replace hf:=hf.step hf1;clear hf1 hq);rotate_left)
  | (go_at_call 56;refine (renter_bad hbd _).mono ?_;clear hbd;rintro e w1 ⟨v,rfl,hR,hbd,hf1⟩;replace bt:=BoxAt.tk bt hf1;clear t0 t1 t2 t3 tl;obtain⟨t0,t1,t2,t3,tl⟩:=bt4 bt;replace hf:=hf.step hf1;clear hf1 hR)
  | (go_at_call 112;have hcc:=uh HLO _ rfl;have hcd:=hcc.expr _ _ _ hst;clear hcc;refine hcd.mono ?_;clear hcd;intro e w1 ho;clear hst;rcases ho with⟨a,s1,v,hq,rfl,hR,hst,hf1,hd⟩ | ⟨c,q,v,hq,rfl,hR,hbd,hf1⟩;(replace HM:=hide (bind_ok (uh HM) hq);replace bt:=BoxAt.tk bt hf1;clear t0 t1 t2 t3 tl;obtain⟨t0,t1,t2,t3,tl⟩:=bt4 bt;replace hf:=hf.step hf1;unfold RNat at hR;subst hR;clear hf1 hq);rotate_left;(replace HM:=hide (bind_bad (uh HM) hq);replace bt:=BoxAt.tk bt hf1;clear t0 t1 t2 t3 tl;obtain⟨t0,t1,t2,t3,tl⟩:=bt4 bt;replace hf:=hf.step hf1;obtain⟨a,rfl⟩:=hR;clear hf1 hq);rotate_left)
  | (go_at_call 112;refine (rexpr_bad hbd (by omega) _).mono ?_;clear hbd;rintro e w1 ⟨v,rfl,hR,hbd,hf1⟩;replace bt:=BoxAt.tk bt hf1;clear t0 t1 t2 t3 tl;obtain⟨t0,t1,t2,t3,tl⟩:=bt4 bt;replace hf:=hf.step hf1;obtain⟨a,rfl⟩:=hR;clear hf1)
  | (go_at_call 60;refine (rleaveb hst (by omega) _ (by decide)).mono ?_;intro e w1 ho;clear hst;rcases ho with⟨a9,s1,v,hq,rfl,hR,hst,hf1,hd⟩ | ⟨c,q,v,hq,rfl,hR,hbd,hf1⟩;(replace HM:=hide (bind_ok (uh HM) hq);replace bt:=BoxAt.tk bt hf1;clear t0 t1 t2 t3 tl;obtain⟨t0,t1,t2,t3,tl⟩:=bt4 bt;replace hf:=hf.step hf1;clear hf1 hq hR);rotate_left;(replace HM:=hide (bind_bad (uh HM) hq);replace bt:=BoxAt.tk bt hf1;clear t0 t1 t2 t3 tl;obtain⟨t0,t1,t2,t3,tl⟩:=bt4 bt;replace hf:=hf.step hf1;clear hf1 hq hR);rotate_left)
  | (go_at_call 60;refine (rleave_bad hbd _).mono ?_;clear hbd;rintro e w1 ⟨v,rfl,hR,hbd,hf1⟩;replace bt:=BoxAt.tk bt hf1;clear t0 t1 t2 t3 tl;obtain⟨t0,t1,t2,t3,tl⟩:=bt4 bt;replace hf:=hf.step hf1;clear hf1 hR))
 all_goals
  go_returns
  first
   | exact Or.inl ⟨_,_,_,uh HM,rfl,rfl,hst,hf,by omega⟩
   | exact Or.inr ⟨_,_,_,uh HM,rfl,⟨_,rfl⟩,hbd.more (by omega),hf⟩
set_option maxHeartbeats 16000000 in
set_option maxRecDepth 100000 in
theorem rfirst_num {p X T tv r A s w}(h:RSt p X T tv r A s w) (lo:Rd) (hlo:RLos p X T tv r lo) (hnx:∀ x ∈ [⟨#[116,114,117,101]⟩,⟨#[102,97,108,115,101]⟩,⟨#[110,105,108]⟩,⟨#[40]⟩,⟨#[102,117,110,99]⟩,⟨#[110,101,119]⟩,⟨#[109,97,107,101]⟩],(look X.size s 0).text≠x) (htk:(look X.size s 0).kind=2) :
  Calls Tryz.prog 156 #[.pointer (some ⟨p,0,none⟩)] w (ROut p X T tv r A w.heap.size 2 (phi s+100 * r+30) s w (first X.size r lo s) RNat BNat):=by
 have HA:=h.sep
 have hp:=h.lt
 have hroom:=h.room
 have hcap:=h.cap
 obtain⟨res,hres⟩:∃ res,res=first X.size r lo s:=⟨_,rfl⟩
 rw [← hres]
 have hpu:first X.size r lo s=((next X.size).bind fun _=>put ⟨33,(look X.size s 0).pos,(look X.size s 0).num,⟨#[]⟩,[]⟩) s:=by
  unfold first
  show (if (look X.size s 0).text=⟨#[116,114,117,101]⟩ then _ else _:M Nat) s=_
  rw [if_neg (hnx _ (by simp)),if_neg (hnx _ (by simp)),if_neg (hnx _ (by simp)),if_neg (hnx _ (by simp)),if_neg (hnx _ (by simp)),if_neg (hnx _ (by simp)),if_neg (hnx _ (by simp)),if_pos htk]
 rw [hpu] at hres
 obtain⟨t,HT⟩:∃ t,Hid (look X.size s 0=t):=⟨_,rfl⟩
 rw [uh HT] at htk
 try (rw [uh HT] at hres)
 have HM:=hide hres
 have HLO:=hide hlo
 have hf:=RFr.refl (p:=p) (Nat.le_refl w.heap.size) hp
 have hst:=h
 have HNE:Hid (s.rest≠[]):=(kind_ne (E:=X.size) (k:=2) (by rw [uh HT];exact htk) (by decide))
 clear h hres hpu hlo
 have HTK:=hide htk
 clear htk hnx
 replace HM:=hide (bind_next (uh HM))
 go_enter Tryz.func156,Tryz.ntmps156
 go_wp2_with (first
  | (go_at_call 35;have hnow:=rnow_ok hst;rw [uh HT] at hnow;rw [uh HTK] at hnow;refine hnow.mono ?_;rintro e w1 ⟨rfl,hb1⟩;have tB:=(hf.new hb1).size;have bt:=BoxAt.made w1 [.int .i64 2,.string t.text,.int .i64 t.num,.int .i64 t.pos] 66;obtain⟨t0,t1,t2,t3,tl⟩:=bt4 bt;replace hst:=(hst.new hb1).alloc (Obj.cells #[.int .i64 2,.string t.text,.int .i64 t.num,.int .i64 t.pos] 66);replace hf:=(hf.new hb1).new (blA _ (Obj.cells #[.int .i64 2,.string t.text,.int .i64 t.num,.int .i64 t.pos] 66));clear hb1 hnow;obtain⟨v1,nq9,d0,d1,d2,d3,d4,d5,d6,d7,e2,e3,e4,e5,e6,e7,hp1,va1,vk1,rfl⟩:=hst.g.facts;have hi1:0≤((T.length - s.rest.length:Nat):Int):=(by omega);have hi2:((T.length - s.rest.length:Nat):Int)≤100000:=(by have:=hst.few;omega);obtain⟨hst3,hf3,hd3⟩:=hst.onto (uh HNE);replace bt:=bt.setOther (a:=⟨p,2,none⟩) (by show _≠p;omega) (.int .i64 (((T.length - s.rest.length:Nat):Int)+1));replace hf:=hf.step hf3;replace hst:=hst3;clear hst3 hf3;skip)
  | (go_at_call 38;refine (rput0 hst (by omega)).mono ?_;intro e w1 ho;clear hst;obtain⟨k,s1,hq,rfl,hst,hf1,hd⟩:=ho;(first | (replace HM:=hide (bind_ok (uh HM) hq)) | (replace HM:=hide ((uh HM).trans hq)));replace bt:=BoxAt.tk bt hf1;clear t0 t1 t2 t3 tl;obtain⟨t0,t1,t2,t3,tl⟩:=bt4 bt;replace hf:=hf.step hf1;clear hf1 hq)
          | (go_at_call 38;have hlt5:=hbd.lt;refine (rput_bad hbd (by omega) _ _ _ _ _ _ _).mono ?_;clear hbd;rintro e w1 ⟨v,rfl,hR,hbd,hf1⟩; replace bt:=BoxAt.tk bt hf1;clear t0 t1 t2 t3 tl;obtain⟨t0,t1,t2,t3,tl⟩:=bt4 bt;replace hf:=hf.step hf1;obtain⟨kb,rfl⟩:=hR;clear hf1 hlt5))
 all_goals
  go_returns
  first
   | exact Or.inl ⟨_,_,_,uh HM,rfl,rfl,hst,hf,by omega⟩
   | exact Or.inr ⟨_,_,_,uh HM,rfl,⟨_,rfl⟩,hbd.more (by omega),hf⟩
set_option maxHeartbeats 16000000 in
set_option maxRecDepth 100000 in
theorem rfirst_name {p X T tv r A s w}(h:RSt p X T tv r A s w) (lo:Rd) (hlo:RLos p X T tv r lo) (hnx:∀ x ∈ [⟨#[116,114,117,101]⟩,⟨#[102,97,108,115,101]⟩,⟨#[110,105,108]⟩,⟨#[40]⟩,⟨#[102,117,110,99]⟩,⟨#[110,101,119]⟩,⟨#[109,97,107,101]⟩],(look X.size s 0).text≠x) (htk:¬ (look X.size s 0).kind=2) :
  Calls Tryz.prog 156 #[.pointer (some ⟨p,0,none⟩)] w (ROut p X T tv r A w.heap.size 2 (phi s+100 * r+30) s w (first X.size r lo s) RNat BNat):=by
 have HA:=h.sep
 have hp:=h.lt
 have hroom:=h.room
 have hcap:=h.cap
 obtain⟨res,hres⟩:∃ res,res=first X.size r lo s:=⟨_,rfl⟩
 rw [← hres]
 have hpu:first X.size r lo s=((wantName X.size).bind fun n=>put ⟨36,(look X.size s 0).pos,0,n,[]⟩) s:=by
  unfold first
  show (if (look X.size s 0).text=⟨#[116,114,117,101]⟩ then _ else _:M Nat) s=_
  rw [if_neg (hnx _ (by simp)),if_neg (hnx _ (by simp)),if_neg (hnx _ (by simp)),if_neg (hnx _ (by simp)),if_neg (hnx _ (by simp)),if_neg (hnx _ (by simp)),if_neg (hnx _ (by simp)),if_neg htk]
 rw [hpu] at hres
 obtain⟨t,HT⟩:∃ t,Hid (look X.size s 0=t):=⟨_,rfl⟩
 rw [uh HT] at htk hnx
 try (rw [uh HT] at hres)
 have HM:=hide hres
 have HLO:=hide hlo
 have hf:=RFr.refl (p:=p) (Nat.le_refl w.heap.size) hp
 have hst:=h
 clear h hres hpu hlo
 have HISB:Hid (isB X.size s [⟨#[40]⟩]=false):=by show _=_;rw [isB_one,uh HT,decide_eq_false_iff_not];exact hnx _ (by simp)
 have hk2:(t.kind == 2)=false:=by simp [htk]
 have hx0:=text_ne (x:=t.text) (a:=[116,114,117,101]) (hnx _ (by simp))
 have hx1:=text_ne (x:=t.text) (a:=[102,97,108,115,101]) (hnx _ (by simp))
 have hx2:=text_ne (x:=t.text) (a:=[110,105,108]) (hnx _ (by simp))
 have hx4:=text_ne (x:=t.text) (a:=[102,117,110,99]) (hnx _ (by simp))
 have hx5:=text_ne (x:=t.text) (a:=[110,101,119]) (hnx _ (by simp))
 have hx6:=text_ne (x:=t.text) (a:=[109,97,107,101]) (hnx _ (by simp))
 clear htk hnx
 cases hk4:(t.kind == 4)
 all_goals
  go_enter Tryz.func156,Tryz.ntmps156
  go_wp2_with (first
   | (go_at_call 35;have hnow:=rnow_ok hst;rw [uh HT] at hnow;refine hnow.mono ?_;rintro e w1 ⟨rfl,hb1⟩;have tB:=(hf.new hb1).size;have bt:=BoxAt.made w1 [.int .i64 t.kind,.string t.text,.int .i64 t.num,.int .i64 t.pos] 66;obtain⟨t0,t1,t2,t3,tl⟩:=bt4 bt;replace hst:=(hst.new hb1).alloc (Obj.cells #[.int .i64 t.kind,.string t.text,.int .i64 t.num,.int .i64 t.pos] 66);replace hf:=(hf.new hb1).new (blA _ (Obj.cells #[.int .i64 t.kind,.string t.text,.int .i64 t.num,.int .i64 t.pos] 66));clear hb1 hnow;obtain⟨v1,nq9,d0,d1,d2,d3,d4,d5,d6,d7,e2,e3,e4,e5,e6,e7,hp1,va1,vk1,rfl⟩:=hst.g.facts;have hi1:0≤((T.length - s.rest.length:Nat):Int):=(by omega);have hi2:((T.length - s.rest.length:Nat):Int)≤100000:=(by have:=hst.few;omega))
   | (go_at_call 57;have hisb:=ris_ok hst _ (kw_mem (x:=⟨#[40]⟩) (by decide)).1 (kw_mem (x:=⟨#[40]⟩) (by decide)).2;rw [uh HISB] at hisb;refine hisb.mono ?_;rintro e w1 ⟨rfl,hb1⟩;replace hst:=hst.new hb1;replace bt:=bt.new hb1;clear t0 t1 t2 t3 tl;obtain⟨t0,t1,t2,t3,tl⟩:=bt4 bt;replace hf:=hf.new hb1;clear hb1 hisb)
   | (go_at_call 55;refine (rname_ok hst).mono ?_;intro e w1 ho;clear hst;rcases ho with⟨a,s1,v,hq,rfl,hR,hst,hf1,hd⟩ | ⟨c,q,v,hq,rfl,hR,hbd,hf1⟩;((first | (replace HM:=hide (bind_ok (uh HM) hq)) | (replace HM:=hide ((uh HM).trans hq)));replace bt:=BoxAt.tk bt hf1;clear t0 t1 t2 t3 tl;obtain⟨t0,t1,t2,t3,tl⟩:=bt4 bt;replace hf:=hf.step hf1;unfold RStr at hR;subst hR;clear hf1 hq);rotate_left;((first | (replace HM:=hide (bind_bad (uh HM) hq)) | (replace HM:=hide ((uh HM).trans hq)));replace bt:=BoxAt.tk bt hf1;clear t0 t1 t2 t3 tl;obtain⟨t0,t1,t2,t3,tl⟩:=bt4 bt;replace hf:=hf.step hf1;obtain⟨kb,rfl⟩:=hR;clear hf1 hq);rotate_left)
          | (go_at_call 55;refine (rname_bad hbd).mono ?_;clear hbd;rintro e w1 ⟨v,rfl,hR,hbd,hf1⟩;replace bt:=BoxAt.tk bt hf1;clear t0 t1 t2 t3 tl;obtain⟨t0,t1,t2,t3,tl⟩:=bt4 bt;replace hf:=hf.step hf1;obtain⟨kb,rfl⟩:=hR;clear hf1)
   | (go_at_call 38;refine (rput0 hst (by omega)).mono ?_;intro e w1 ho;clear hst;obtain⟨k,s1,hq,rfl,hst,hf1,hd⟩:=ho;(first | (replace HM:=hide (bind_ok (uh HM) hq)) | (replace HM:=hide ((uh HM).trans hq)));replace bt:=BoxAt.tk bt hf1;clear t0 t1 t2 t3 tl;obtain⟨t0,t1,t2,t3,tl⟩:=bt4 bt;replace hf:=hf.step hf1;clear hf1 hq)
          | (go_at_call 38;have hlt5:=hbd.lt;refine (rput_bad hbd (by omega) _ _ _ _ _ _ _).mono ?_;clear hbd;rintro e w1 ⟨v,rfl,hR,hbd,hf1⟩; replace bt:=BoxAt.tk bt hf1;clear t0 t1 t2 t3 tl;obtain⟨t0,t1,t2,t3,tl⟩:=bt4 bt;replace hf:=hf.step hf1;obtain⟨kb,rfl⟩:=hR;clear hf1 hlt5))
  all_goals
   go_returns
   first
    | exact Or.inl ⟨_,_,_,uh HM,rfl,rfl,hst,hf,by omega⟩
    | exact Or.inr ⟨_,_,_,uh HM,rfl,⟨_,rfl⟩,hbd.more (by omega),hf⟩
end
end Go.Proofs.YtdemnolanlfblaaGreatDoor
