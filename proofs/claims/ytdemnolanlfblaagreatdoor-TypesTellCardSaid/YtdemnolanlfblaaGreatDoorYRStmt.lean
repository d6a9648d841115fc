import Derived.Test.YtdemnolanlfblaaGreatDoorYRBranch
set_option linter.all false
namespace Go.Proofs.YtdemnolanlfblaaGreatDoor
section
open Go.RowKit
set_option maxHeartbeats 16000000 in
set_option maxRecDepth 100000 in
theorem rstmt_go {p X T tv r A s w}(h:RSt p X T tv r A s w) (lo:Rd) (hdec:DecRd lo) (hlo:RLos p X T tv r lo) (htx:(look X.size s 0).text=⟨#[103,111]⟩) :
  Calls Tryz.prog 88 #[.pointer (some ⟨p,0,none⟩)] w (ROut p X T tv r A w.heap.size 1 (phi s+100 * r+80) s w (stmt X.size r lo s) RNat BNat):=by
 have HA:=h.sep
 have hp:=h.lt
 have hroom:=h.room
 have hcap:=h.cap
 obtain⟨res,hres⟩:∃ res,res=stmt X.size r lo s:=⟨_,rfl⟩
 rw [← hres]
 have hpu:stmt X.size r lo s=((next X.size).bind fun _=>(expr X.size r lo).bind fun k=>put ⟨21,(look X.size s 0).pos,0,⟨#[]⟩,[k]⟩) s:=by
  unfold stmt
  show (if (look X.size s 0).text=⟨#[103,111]⟩ then _ else _:M Nat) s=_
  rw [if_pos htx]
 rw [hpu] at hres
 obtain⟨t,HT⟩:∃ t,Hid (look X.size s 0=t):=⟨_,rfl⟩
 rw [uh HT] at htx
 try (rw [uh HT] at hres)
 have HM:=hide hres
 have HLO:=hide hlo
 have hf:=RFr.refl (p:=p) (Nat.le_refl w.heap.size) hp
 have hst:=h
 have HNE:Hid (s.rest≠[]):=(by intro hr;rw [show t=look X.size s 0 from (uh HT).symm,look_nil hr] at htx;simp at htx)
 clear h hres hpu hlo
 have HDEC:=hide hdec
 clear hdec
 have hok:=rlook_ok hst (uh HNE)
 rw [uh HT] at hok
 have HTK:Hid (t.kind=4):=hok.word (by rw [htx];simp)
 have HTX:=hide htx
 clear hok htx
 replace HM:=hide (bind_next (uh HM))
 try (rw [uh HT] at HM)
 go_enter Tryz.func88,Tryz.ntmps88
 go_wp2_with (first
  | (go_at_call 35;have hnow:=rnow_ok hst;rw [uh HT] at hnow;rw [uh HTK] at hnow;rw [uh HTX] at hnow;refine hnow.mono ?_;rintro e w1 ⟨rfl,hb1⟩;have tB:=(hf.new hb1).size;have bt:=BoxAt.made w1 [.int .i64 4,.string ⟨#[103,111]⟩,.int .i64 t.num,.int .i64 t.pos] 66;obtain⟨t0,t1,t2,t3,tl⟩:=bt4 bt;replace hst:=(hst.new hb1).alloc (Obj.cells #[.int .i64 4,.string ⟨#[103,111]⟩,.int .i64 t.num,.int .i64 t.pos] 66);replace hf:=(hf.new hb1).new (blA _ (Obj.cells #[.int .i64 4,.string ⟨#[103,111]⟩,.int .i64 t.num,.int .i64 t.pos] 66));clear hb1 hnow;obtain⟨v1,nq9,d0,d1,d2,d3,d4,d5,d6,d7,e2,e3,e4,e5,e6,e7,hp1,va1,vk1,rfl⟩:=hst.g.facts;have hi1:0≤((T.length - s.rest.length:Nat):Int):=(by omega);have hi2:((T.length - s.rest.length:Nat):Int)≤100000:=(by have:=hst.few;omega);obtain⟨hst3,hf3,hd3⟩:=hst.onto (uh HNE);replace bt:=bt.setOther (a:=⟨p,2,none⟩) (by show _≠p;omega) (.int .i64 (((T.length - s.rest.length:Nat):Int)+1));replace hf:=hf.step hf3;replace hst:=hst3;clear hst3 hf3;skip)
  | (go_at_call 112;refine (rexpr0_ok hst lo (uh HDEC) (uh HLO)).mono ?_;intro e w1 ho;clear hst;rcases ho with⟨a,s1,v,hq,rfl,hR,hst,hf1,hd⟩ | ⟨c,q,v,hq,rfl,hR,hbd,hf1⟩;((first | (replace HM:=hide (bind_ok (uh HM) hq)) | (replace HM:=hide ((uh HM).trans hq)));replace bt:=BoxAt.tk bt hf1;clear t0 t1 t2 t3 tl;obtain⟨t0,t1,t2,t3,tl⟩:=bt4 bt;replace hf:=hf.step hf1;unfold RNat at hR;subst hR;clear hf1 hq);rotate_left;((first | (replace HM:=hide (bind_bad (uh HM) hq)) | (replace HM:=hide ((uh HM).trans hq)));replace bt:=BoxAt.tk bt hf1;clear t0 t1 t2 t3 tl;obtain⟨t0,t1,t2,t3,tl⟩:=bt4 bt;replace hf:=hf.step hf1;obtain⟨a,rfl⟩:=hR;clear hf1 hq);rotate_left)
  | (go_at_call 112;refine (rexpr_bad hbd (by omega) _).mono ?_;clear hbd;rintro e w1 ⟨v,rfl,hR,hbd,hf1⟩;replace bt:=BoxAt.tk bt hf1;clear t0 t1 t2 t3 tl;obtain⟨t0,t1,t2,t3,tl⟩:=bt4 bt;replace hf:=hf.step hf1;obtain⟨a,rfl⟩:=hR;clear hf1)
  | (go_at_call_of 113 (1:Nat);refine (rwith1 hst (by omega) (by first | rfl | (simp only [size_set]))).mono ?_;intro e w1 ho;clear hst;obtain⟨k,s1,hq,rfl,hst,hf1,hd⟩:=ho;(first | (replace HM:=hide (bind_ok (uh HM) hq)) | (replace HM:=hide ((uh HM).trans hq)));replace bt:=BoxAt.tk bt hf1;clear t0 t1 t2 t3 tl;obtain⟨t0,t1,t2,t3,tl⟩:=bt4 bt;replace hf:=hf.step hf1;clear hf1 hq)
          | (go_at_call 113;have hlt5:=hbd.lt;refine (rwith_bad (hbd.alloc _) (by omega) _ _ _ _ _).mono ?_;clear hbd;rintro e w1 ⟨v,rfl,hR,hbd,hf1⟩;replace hf1:=RFr.drop hf1 hlt5;replace bt:=BoxAt.tk bt hf1;clear t0 t1 t2 t3 tl;obtain⟨t0,t1,t2,t3,tl⟩:=bt4 bt;replace hf:=hf.step hf1;obtain⟨kb,rfl⟩:=hR;clear hf1 hlt5))
 all_goals
  go_returns
  first
   | exact Or.inl ⟨_,_,_,uh HM,rfl,rfl,hst,hf,by omega⟩
   | exact Or.inr ⟨_,_,_,uh HM,rfl,⟨_,rfl⟩,hbd.more (by omega),hf⟩
set_option maxHeartbeats 16000000 in
set_option maxRecDepth 100000 in
theorem rstmt_close {p X T tv r A s w}(h:RSt p X T tv r A s w) (lo:Rd) (hdec:DecRd lo) (hlo:RLos p X T tv r lo) (htx:(look X.size s 0).text=⟨#[99,108,111,115,101]⟩) :
  Calls Tryz.prog 88 #[.pointer (some ⟨p,0,none⟩)] w (ROut p X T tv r A w.heap.size 1 (phi s+100 * r+80) s w (stmt X.size r lo s) RNat BNat):=by
 have HA:=h.sep
 have hp:=h.lt
 have hroom:=h.room
 have hcap:=h.cap
 obtain⟨res,hres⟩:∃ res,res=stmt X.size r lo s:=⟨_,rfl⟩
 rw [← hres]
 have hpu:stmt X.size r lo s=(wordStmt X.size r lo 30) s:=by
  unfold stmt
  show (if (look X.size s 0).text=⟨#[103,111]⟩ then _ else _:M Nat) s=_
  rw [if_neg (by rw [htx];decide),if_pos htx]
 rw [hpu] at hres
 obtain⟨t,HT⟩:∃ t,Hid (look X.size s 0=t):=⟨_,rfl⟩
 rw [uh HT] at htx
 try (rw [uh HT] at hres)
 have HM:=hide hres
 have HLO:=hide hlo
 have hf:=RFr.refl (p:=p) (Nat.le_refl w.heap.size) hp
 have hst:=h
 have HNE:Hid (s.rest≠[]):=(by intro hr;rw [show t=look X.size s 0 from (uh HT).symm,look_nil hr] at htx;simp at htx)
 clear h hres hpu hlo
 have HDEC:=hide hdec
 clear hdec
 have hok:=rlook_ok hst (uh HNE)
 rw [uh HT] at hok
 have HTK:Hid (t.kind=4):=hok.word (by rw [htx];simp)
 have HTX:=hide htx
 clear hok htx
 unfold wordStmt at HM
 replace HM:=hide (bind_next (uh HM))
 try (rw [uh HT] at HM)
 go_enter Tryz.func88,Tryz.ntmps88
 go_wp2_with (first
  | (go_at_call 35;have hnow:=rnow_ok hst;rw [uh HT] at hnow;rw [uh HTK] at hnow;rw [uh HTX] at hnow;refine hnow.mono ?_;rintro e w1 ⟨rfl,hb1⟩;have tB:=(hf.new hb1).size;have bt:=BoxAt.made w1 [.int .i64 4,.string ⟨#[99,108,111,115,101]⟩,.int .i64 t.num,.int .i64 t.pos] 66;obtain⟨t0,t1,t2,t3,tl⟩:=bt4 bt;replace hst:=(hst.new hb1).alloc (Obj.cells #[.int .i64 4,.string ⟨#[99,108,111,115,101]⟩,.int .i64 t.num,.int .i64 t.pos] 66);replace hf:=(hf.new hb1).new (blA _ (Obj.cells #[.int .i64 4,.string ⟨#[99,108,111,115,101]⟩,.int .i64 t.num,.int .i64 t.pos] 66));clear hb1 hnow;obtain⟨v1,nq9,d0,d1,d2,d3,d4,d5,d6,d7,e2,e3,e4,e5,e6,e7,hp1,va1,vk1,rfl⟩:=hst.g.facts;have hi1:0≤((T.length - s.rest.length:Nat):Int):=(by omega);have hi2:((T.length - s.rest.length:Nat):Int)≤100000:=(by have:=hst.few;omega);obtain⟨hst3,hf3,hd3⟩:=hst.onto (uh HNE);replace bt:=bt.setOther (a:=⟨p,2,none⟩) (by show _≠p;omega) (.int .i64 (((T.length - s.rest.length:Nat):Int)+1));replace hf:=hf.step hf3;replace hst:=hst3;clear hst3 hf3;skip)
  | (go_at_call 56;refine (renterb hst _ (by decide)).mono ?_;intro e w1 ho;clear hst;rcases ho with⟨r',t9,s1,rfl,hq,rfl,hst,hf1,hd⟩ | ⟨c,q,kb,hq,rfl,hbd,hf1⟩;(replace HM:=hide (bind_ok (uh HM) hq);replace bt:=BoxAt.tk bt hf1;clear t0 t1 t2 t3 tl;obtain⟨t0,t1,t2,t3,tl⟩:=bt4 bt;replace hf:=hf.step hf1;clear hf1 hq);rotate_left;(replace HM:=hide (bind_bad (uh HM) hq);replace bt:=BoxAt.tk bt hf1;clear t0 t1 t2 t3 tl;obtain⟨t0,t1,t2,t3,tl⟩:=bt4 bt;replace hf:=hf.step hf1;clear hf1 hq);rotate_left)
  | (go_at_call 56;refine (renter_bad hbd _).mono ?_;clear hbd;rintro e w1 ⟨v,rfl,hR,hbd,hf1⟩;replace bt:=BoxAt.tk bt hf1;clear t0 t1 t2 t3 tl;obtain⟨t0,t1,t2,t3,tl⟩:=bt4 bt;replace hf:=hf.step hf1;clear hf1 hR)
  | (go_at_call 112;have hcc:=uh HLO _ rfl;have hcd:=hcc.expr _ _ _ hst;clear hcc;refine hcd.mono ?_;clear hcd;intro e w1 ho;clear hst;rcases ho with⟨a,s1,v,hq,rfl,hR,hst,hf1,hd⟩ | ⟨c,q,v,hq,rfl,hR,hbd,hf1⟩;((first | (replace HM:=hide (bind_ok (uh HM) hq)) | (replace HM:=hide ((uh HM).trans hq)));replace bt:=BoxAt.tk bt hf1;clear t0 t1 t2 t3 tl;obtain⟨t0,t1,t2,t3,tl⟩:=bt4 bt;replace hf:=hf.step hf1;unfold RNat at hR;subst hR;clear hf1 hq);rotate_left;((first | (replace HM:=hide (bind_bad (uh HM) hq)) | (replace HM:=hide ((uh HM).trans hq)));replace bt:=BoxAt.tk bt hf1;clear t0 t1 t2 t3 tl;obtain⟨t0,t1,t2,t3,tl⟩:=bt4 bt;replace hf:=hf.step hf1;obtain⟨a,rfl⟩:=hR;clear hf1 hq);rotate_left)
  | (go_at_call 112;refine (rexpr_bad hbd (by omega) _).mono ?_;clear hbd;rintro e w1 ⟨v,rfl,hR,hbd,hf1⟩;replace bt:=BoxAt.tk bt hf1;clear t0 t1 t2 t3 tl;obtain⟨t0,t1,t2,t3,tl⟩:=bt4 bt;replace hf:=hf.step hf1;obtain⟨a,rfl⟩:=hR;clear hf1)
  | (go_at_call 60;refine (rleaveb hst (by omega) _ (by decide)).mono ?_;intro e w1 ho;clear hst;rcases ho with⟨a9,s1,v,hq,rfl,hR,hst,hf1,hd⟩ | ⟨c,q,v,hq,rfl,hR,hbd,hf1⟩;(replace HM:=hide (bind_ok (uh HM) hq);replace bt:=BoxAt.tk bt hf1;clear t0 t1 t2 t3 tl;obtain⟨t0,t1,t2,t3,tl⟩:=bt4 bt;replace hf:=hf.step hf1;clear hf1 hq hR);rotate_left;(replace HM:=hide (bind_bad (uh HM) hq);replace bt:=BoxAt.tk bt hf1;clear t0 t1 t2 t3 tl;obtain⟨t0,t1,t2,t3,tl⟩:=bt4 bt;replace hf:=hf.step hf1;clear hf1 hq hR);rotate_left)
  | (go_at_call 60;refine (rleave_bad hbd _).mono ?_;clear hbd;rintro e w1 ⟨v,rfl,hR,hbd,hf1⟩;replace bt:=BoxAt.tk bt hf1;clear t0 t1 t2 t3 tl;obtain⟨t0,t1,t2,t3,tl⟩:=bt4 bt;replace hf:=hf.step hf1;clear hf1 hR)
  | (go_at_call_of 113 (1:Nat);refine (rwith1 hst (by omega) (by first | rfl | (simp only [size_set]))).mono ?_;intro e w1 ho;clear hst;obtain⟨k,s1,hq,rfl,hst,hf1,hd⟩:=ho;(first | (replace HM:=hide (bind_ok (uh HM) hq)) | (replace HM:=hide ((uh HM).trans hq)));replace bt:=BoxAt.tk bt hf1;clear t0 t1 t2 t3 tl;obtain⟨t0,t1,t2,t3,tl⟩:=bt4 bt;replace hf:=hf.step hf1;clear hf1 hq)
          | (go_at_call 113;have hlt5:=hbd.lt;refine (rwith_bad (hbd.alloc _) (by omega) _ _ _ _ _).mono ?_;clear hbd;rintro e w1 ⟨v,rfl,hR,hbd,hf1⟩;replace hf1:=RFr.drop hf1 hlt5;replace bt:=BoxAt.tk bt hf1;clear t0 t1 t2 t3 tl;obtain⟨t0,t1,t2,t3,tl⟩:=bt4 bt;replace hf:=hf.step hf1;obtain⟨kb,rfl⟩:=hR;clear hf1 hlt5))
 all_goals
  go_returns
  first
   | exact Or.inl ⟨_,_,_,uh HM,rfl,rfl,hst,hf,by omega⟩
   | exact Or.inr ⟨_,_,_,uh HM,rfl,⟨_,rfl⟩,hbd.more (by omega),hf⟩
set_option maxHeartbeats 16000000 in
set_option maxRecDepth 100000 in
theorem rstmt_panic {p X T tv r A s w}(h:RSt p X T tv r A s w) (lo:Rd) (hdec:DecRd lo) (hlo:RLos p X T tv r lo) (htx:(look X.size s 0).text=⟨#[112,97,110,105,99]⟩) :
  Calls Tryz.prog 88 #[.pointer (some ⟨p,0,none⟩)] w (ROut p X T tv r A w.heap.size 1 (phi s+100 * r+80) s w (stmt X.size r lo s) RNat BNat):=by
 have HA:=h.sep
 have hp:=h.lt
 have hroom:=h.room
 have hcap:=h.cap
 obtain⟨res,hres⟩:∃ res,res=stmt X.size r lo s:=⟨_,rfl⟩
 rw [← hres]
 have hpu:stmt X.size r lo s=(wordStmt X.size r lo 31) s:=by
  unfold stmt
  show (if (look X.size s 0).text=⟨#[103,111]⟩ then _ else _:M Nat) s=_
  rw [if_neg (by rw [htx];decide),if_neg (by rw [htx];decide),if_pos htx]
 rw [hpu] at hres
 obtain⟨t,HT⟩:∃ t,Hid (look X.size s 0=t):=⟨_,rfl⟩
 rw [uh HT] at htx
 try (rw [uh HT] at hres)
 have HM:=hide hres
 have HLO:=hide hlo
 have hf:=RFr.refl (p:=p) (Nat.le_refl w.heap.size) hp
 have hst:=h
 have HNE:Hid (s.rest≠[]):=(by intro hr;rw [show t=look X.size s 0 from (uh HT).symm,look_nil hr] at htx;simp at htx)
 clear h hres hpu hlo
 have HDEC:=hide hdec
 clear hdec
 have hok:=rlook_ok hst (uh HNE)
 rw [uh HT] at hok
 have HTK:Hid (t.kind=4):=hok.word (by rw [htx];simp)
 have HTX:=hide htx
 clear hok htx
 unfold wordStmt at HM
 replace HM:=hide (bind_next (uh HM))
 try (rw [uh HT] at HM)
 go_enter Tryz.func88,Tryz.ntmps88
 go_wp2_with (first
  | (go_at_call 35;have hnow:=rnow_ok hst;rw [uh HT] at hnow;rw [uh HTK] at hnow;rw [uh HTX] at hnow;refine hnow.mono ?_;rintro e w1 ⟨rfl,hb1⟩;have tB:=(hf.new hb1).size;have bt:=BoxAt.made w1 [.int .i64 4,.string ⟨#[112,97,110,105,99]⟩,.int .i64 t.num,.int .i64 t.pos] 66;obtain⟨t0,t1,t2,t3,tl⟩:=bt4 bt;replace hst:=(hst.new hb1).alloc (Obj.cells #[.int .i64 4,.string ⟨#[112,97,110,105,99]⟩,.int .i64 t.num,.int .i64 t.pos] 66);replace hf:=(hf.new hb1).new (blA _ (Obj.cells #[.int .i64 4,.string ⟨#[112,97,110,105,99]⟩,.int .i64 t.num,.int .i64 t.pos] 66));clear hb1 hnow;obtain⟨v1,nq9,d0,d1,d2,d3,d4,d5,d6,d7,e2,e3,e4,e5,e6,e7,hp1,va1,vk1,rfl⟩:=hst.g.facts;have hi1:0≤((T.length - s.rest.length:Nat):Int):=(by omega);have hi2:((T.length - s.rest.length:Nat):Int)≤100000:=(by have:=hst.few;omega);obtain⟨hst3,hf3,hd3⟩:=hst.onto (uh HNE);replace bt:=bt.setOther (a:=⟨p,2,none⟩) (by show _≠p;omega) (.int .i64 (((T.length - s.rest.length:Nat):Int)+1));replace hf:=hf.step hf3;replace hst:=hst3;clear hst3 hf3;skip)
  | (go_at_call 56;refine (renterb hst _ (by decide)).mono ?_;intro e w1 ho;clear hst;rcases ho with⟨r',t9,s1,rfl,hq,rfl,hst,hf1,hd⟩ | ⟨c,q,kb,hq,rfl,hbd,hf1⟩;(replace HM:=hide (bind_ok (uh HM) hq);replace bt:=BoxAt.tk bt hf1;clear t0 t1 t2 t3 tl;obtain⟨t0,t1,t2,t3,tl⟩:=bt4 bt;replace hf:=hf.step hf1;clear hf1 hq);rotate_left;(replace HM:=hide (bind_bad (uh HM) hq);replace bt:=BoxAt.tk bt hf1;clear t0 t1 t2 t3 tl;obtain⟨t0,t1,t2,t3,tl⟩:=bt4 bt;replace hf:=hf.step hf1;clear hf1 hq);rotate_left)
  | (go_at_call 56;refine (renter_bad hbd _).mono ?_;clear hbd;rintro e w1 ⟨v,rfl,hR,hbd,hf1⟩;replace bt:=BoxAt.tk bt hf1;clear t0 t1 t2 t3 tl;obtain⟨t0,t1,t2,t3,tl⟩:=bt4 bt;replace hf:=hf.step hf1;clear hf1 hR)
  | (go_at_call 112;have hcc:=uh HLO _ rfl;have hcd:=hcc.expr _ _ _ hst;clear hcc;refine hcd.mono ?_;clear hcd;intro e w1 ho;clear hst;rcases ho with⟨a,s1,v,hq,rfl,hR,hst,hf1,hd⟩ | ⟨c,q,v,hq,rfl,hR,hbd,hf1⟩;((first | (replace HM:=hide (bind_ok (uh HM) hq)) | (replace HM:=hide ((uh HM).trans hq)));replace bt:=BoxAt.tk bt hf1;clear t0 t1 t2 t3 tl;obtain⟨t0,t1,t2,t3,tl⟩:=bt4 bt;replace hf:=hf.step hf1;unfold RNat at hR;subst hR;clear hf1 hq);rotate_left;((first | (replace HM:=hide (bind_bad (uh HM) hq)) | (replace HM:=hide ((uh HM).trans hq)));replace bt:=BoxAt.tk bt hf1;clear t0 t1 t2 t3 tl;obtain⟨t0,t1,t2,t3,tl⟩:=bt4 bt;replace hf:=hf.step hf1;obtain⟨a,rfl⟩:=hR;clear hf1 hq);rotate_left)
  | (go_at_call 112;refine (rexpr_bad hbd (by omega) _).mono ?_;clear hbd;rintro e w1 ⟨v,rfl,hR,hbd,hf1⟩;replace bt:=BoxAt.tk bt hf1;clear t0 t1 t2 t3 tl;obtain⟨t0,t1,t2,t3,tl⟩:=bt4 bt;replace hf:=hf.step hf1;obtain⟨a,rfl⟩:=hR;clear hf1)
  | (go_at_call 60;refine (rleaveb hst (by omega) _ (by decide)).mono ?_;intro e w1 ho;clear hst;rcases ho with⟨a9,s1,v,hq,rfl,hR,hst,hf1,hd⟩ | ⟨c,q,v,hq,rfl,hR,hbd,hf1⟩;(replace HM:=hide (bind_ok (uh HM) hq);replace bt:=BoxAt.tk bt hf1;clear t0 t1 t2 t3 tl;obtain⟨t0,t1,t2,t3,tl⟩:=bt4 bt;replace hf:=hf.step hf1;clear hf1 hq hR);rotate_left;(replace HM:=hide (bind_bad (uh HM) hq);replace bt:=BoxAt.tk bt hf1;clear t0 t1 t2 t3 tl;obtain⟨t0,t1,t2,t3,tl⟩:=bt4 bt;replace hf:=hf.step hf1;clear hf1 hq hR);rotate_left)
  | (go_at_call 60;refine (rleave_bad hbd _).mono ?_;clear hbd;rintro e w1 ⟨v,rfl,hR,hbd,hf1⟩;replace bt:=BoxAt.tk bt hf1;clear t0 t1 t2 t3 tl;obtain⟨t0,t1,t2,t3,tl⟩:=bt4 bt;replace hf:=hf.step hf1;clear hf1 hR)
  | (go_at_call_of 113 (1:Nat);refine (rwith1 hst (by omega) (by first | rfl | (simp only [size_set]))).mono ?_;intro e w1 ho;clear hst;obtain⟨k,s1,hq,rfl,hst,hf1,hd⟩:=ho;(first | (replace HM:=hide (bind_ok (uh HM) hq)) | (replace HM:=hide ((uh HM).trans hq)));replace bt:=BoxAt.tk bt hf1;clear t0 t1 t2 t3 tl;obtain⟨t0,t1,t2,t3,tl⟩:=bt4 bt;replace hf:=hf.step hf1;clear hf1 hq)
          | (go_at_call 113;have hlt5:=hbd.lt;refine (rwith_bad (hbd.alloc _) (by omega) _ _ _ _ _).mono ?_;clear hbd;rintro e w1 ⟨v,rfl,hR,hbd,hf1⟩;replace hf1:=RFr.drop hf1 hlt5;replace bt:=BoxAt.tk bt hf1;clear t0 t1 t2 t3 tl;obtain⟨t0,t1,t2,t3,tl⟩:=bt4 bt;replace hf:=hf.step hf1;obtain⟨kb,rfl⟩:=hR;clear hf1 hlt5))
 all_goals
  go_returns
  first
   | exact Or.inl ⟨_,_,_,uh HM,rfl,rfl,hst,hf,by omega⟩
   | exact Or.inr ⟨_,_,_,uh HM,rfl,⟨_,rfl⟩,hbd.more (by omega),hf⟩
set_option maxHeartbeats 16000000 in
set_option maxRecDepth 100000 in
theorem rstmt_print {p X T tv r A s w}(h:RSt p X T tv r A s w) (lo:Rd) (hdec:DecRd lo) (hlo:RLos p X T tv r lo) (htx:(look X.size s 0).text=⟨#[112,114,105,110,116]⟩) :
  Calls Tryz.prog 88 #[.pointer (some ⟨p,0,none⟩)] w (ROut p X T tv r A w.heap.size 1 (phi s+100 * r+80) s w (stmt X.size r lo s) RNat BNat):=by
 have HA:=h.sep
 have hp:=h.lt
 have hroom:=h.room
 have hcap:=h.cap
 obtain⟨res,hres⟩:∃ res,res=stmt X.size r lo s:=⟨_,rfl⟩
 rw [← hres]
 have hpu:stmt X.size r lo s=(wordStmt X.size r lo 32) s:=by
  unfold stmt
  show (if (look X.size s 0).text=⟨#[103,111]⟩ then _ else _:M Nat) s=_
  rw [if_neg (by rw [htx];decide),if_neg (by rw [htx];decide),if_neg (by rw [htx];decide),if_pos htx]
 rw [hpu] at hres
 obtain⟨t,HT⟩:∃ t,Hid (look X.size s 0=t):=⟨_,rfl⟩
 rw [uh HT] at htx
 try (rw [uh HT] at hres)
 have HM:=hide hres
 have HLO:=hide hlo
 have hf:=RFr.refl (p:=p) (Nat.le_refl w.heap.size) hp
 have hst:=h
 have HNE:Hid (s.rest≠[]):=(by intro hr;rw [show t=look X.size s 0 from (uh HT).symm,look_nil hr] at htx;simp at htx)
 clear h hres hpu hlo
 have HDEC:=hide hdec
 clear hdec
 have hok:=rlook_ok hst (uh HNE)
 rw [uh HT] at hok
 have HTK:Hid (t.kind=4):=hok.word (by rw [htx];simp)
 have HTX:=hide htx
 clear hok htx
 unfold wordStmt at HM
 replace HM:=hide (bind_next (uh HM))
 try (rw [uh HT] at HM)
 go_enter Tryz.func88,Tryz.ntmps88
 go_wp2_with (first
  | (go_at_call 35;have hnow:=rnow_ok hst;rw [uh HT] at hnow;rw [uh HTK] at hnow;rw [uh HTX] at hnow;refine hnow.mono ?_;rintro e w1 ⟨rfl,hb1⟩;have tB:=(hf.new hb1).size;have bt:=BoxAt.made w1 [.int .i64 4,.string ⟨#[112,114,105,110,116]⟩,.int .i64 t.num,.int .i64 t.pos] 66;obtain⟨t0,t1,t2,t3,tl⟩:=bt4 bt;replace hst:=(hst.new hb1).alloc (Obj.cells #[.int .i64 4,.string ⟨#[112,114,105,110,116]⟩,.int .i64 t.num,.int .i64 t.pos] 66);replace hf:=(hf.new hb1).new (blA _ (Obj.cells #[.int .i64 4,.string ⟨#[112,114,105,110,116]⟩,.int .i64 t.num,.int .i64 t.pos] 66));clear hb1 hnow;obtain⟨v1,nq9,d0,d1,d2,d3,d4,d5,d6,d7,e2,e3,e4,e5,e6,e7,hp1,va1,vk1,rfl⟩:=hst.g.facts;have hi1:0≤((T.length - s.rest.length:Nat):Int):=(by omega);have hi2:((T.length - s.rest.length:Nat):Int)≤100000:=(by have:=hst.few;omega);obtain⟨hst3,hf3,hd3⟩:=hst.onto (uh HNE);replace bt:=bt.setOther (a:=⟨p,2,none⟩) (by show _≠p;omega) (.int .i64 (((T.length - s.rest.length:Nat):Int)+1));replace hf:=hf.step hf3;replace hst:=hst3;clear hst3 hf3;skip)
  | (go_at_call 56;refine (renterb hst _ (by decide)).mono ?_;intro e w1 ho;clear hst;rcases ho with⟨r',t9,s1,rfl,hq,rfl,hst,hf1,hd⟩ | ⟨c,q,kb,hq,rfl,hbd,hf1⟩;(replace HM:=hide (bind_ok (uh HM) hq);replace bt:=BoxAt.tk bt hf1;clear t0 t1 t2 t3 tl;obtain⟨t0,t1,t2,t3,tl⟩:=bt4 bt;replace hf:=hf.step hf1;clear hf1 hq);rotate_left;(replace HM:=hide (bind_bad (uh HM) hq);replace bt:=BoxAt.tk bt hf1;clear t0 t1 t2 t3 tl;obtain⟨t0,t1,t2,t3,tl⟩:=bt4 bt;replace hf:=hf.step hf1;clear hf1 hq);rotate_left)
  | (go_at_call 56;refine (renter_bad hbd _).mono ?_;clear hbd;rintro e w1 ⟨v,rfl,hR,hbd,hf1⟩;replace bt:=BoxAt.tk bt hf1;clear t0 t1 t2 t3 tl;obtain⟨t0,t1,t2,t3,tl⟩:=bt4 bt;replace hf:=hf.step hf1;clear hf1 hR)
  | (go_at_call 112;have hcc:=uh HLO _ rfl;have hcd:=hcc.expr _ _ _ hst;clear hcc;refine hcd.mono ?_;clear hcd;intro e w1 ho;clear hst;rcases ho with⟨a,s1,v,hq,rfl,hR,hst,hf1,hd⟩ | ⟨c,q,v,hq,rfl,hR,hbd,hf1⟩;((first | (replace HM:=hide (bind_ok (uh HM) hq)) | (replace HM:=hide ((uh HM).trans hq)));replace bt:=BoxAt.tk bt hf1;clear t0 t1 t2 t3 tl;obtain⟨t0,t1,t2,t3,tl⟩:=bt4 bt;replace hf:=hf.step hf1;unfold RNat at hR;subst hR;clear hf1 hq);rotate_left;((first | (replace HM:=hide (bind_bad (uh HM) hq)) | (replace HM:=hide ((uh HM).trans hq)));replace bt:=BoxAt.tk bt hf1;clear t0 t1 t2 t3 tl;obtain⟨t0,t1,t2,t3,tl⟩:=bt4 bt;replace hf:=hf.step hf1;obtain⟨a,rfl⟩:=hR;clear hf1 hq);rotate_left)
  | (go_at_call 112;refine (rexpr_bad hbd (by omega) _).mono ?_;clear hbd;rintro e w1 ⟨v,rfl,hR,hbd,hf1⟩;replace bt:=BoxAt.tk bt hf1;clear t0 t1 t2 t3 tl;obtain⟨t0,t1,t2,t3,tl⟩:=bt4 bt;replace hf:=hf.step hf1;obtain⟨a,rfl⟩:=hR;clear hf1)
  | (go_at_call 60;refine (rleaveb hst (by omega) _ (by decide)).mono ?_;intro e w1 ho;clear hst;rcases ho with⟨a9,s1,v,hq,rfl,hR,hst,hf1,hd⟩ | ⟨c,q,v,hq,rfl,hR,hbd,hf1⟩;(replace HM:=hide (bind_ok (uh HM) hq);replace bt:=BoxAt.tk bt hf1;clear t0 t1 t2 t3 tl;obtain⟨t0,t1,t2,t3,tl⟩:=bt4 bt;replace hf:=hf.step hf1;clear hf1 hq hR);rotate_left;(replace HM:=hide (bind_bad (uh HM) hq);replace bt:=BoxAt.tk bt hf1;clear t0 t1 t2 t3 tl;obtain⟨t0,t1,t2,t3,tl⟩:=bt4 bt;replace hf:=hf.step hf1;clear hf1 hq hR);rotate_left)
  | (go_at_call 60;refine (rleave_bad hbd _).mono ?_;clear hbd;rintro e w1 ⟨v,rfl,hR,hbd,hf1⟩;replace bt:=BoxAt.tk bt hf1;clear t0 t1 t2 t3 tl;obtain⟨t0,t1,t2,t3,tl⟩:=bt4 bt;replace hf:=hf.step hf1;clear hf1 hR)
  | (go_at_call_of 113 (1:Nat);refine (rwith1 hst (by omega) (by first | rfl | (simp only [size_set]))).mono ?_;intro e w1 ho;clear hst;obtain⟨k,s1,hq,rfl,hst,hf1,hd⟩:=ho;(first | (replace HM:=hide (bind_ok (uh HM) hq)) | (replace HM:=hide ((uh HM).trans hq)));replace bt:=BoxAt.tk bt hf1;clear t0 t1 t2 t3 tl;obtain⟨t0,t1,t2,t3,tl⟩:=bt4 bt;replace hf:=hf.step hf1;clear hf1 hq)
          | (go_at_call 113;have hlt5:=hbd.lt;refine (rwith_bad (hbd.alloc _) (by omega) _ _ _ _ _).mono ?_;clear hbd;rintro e w1 ⟨v,rfl,hR,hbd,hf1⟩;replace hf1:=RFr.drop hf1 hlt5;replace bt:=BoxAt.tk bt hf1;clear t0 t1 t2 t3 tl;obtain⟨t0,t1,t2,t3,tl⟩:=bt4 bt;replace hf:=hf.step hf1;obtain⟨kb,rfl⟩:=hR;clear hf1 hlt5))
 all_goals
  go_returns
  first
   | exact Or.inl ⟨_,_,_,uh HM,rfl,rfl,hst,hf,by omega⟩
   | exact Or.inr ⟨_,_,_,uh HM,rfl,⟨_,rfl⟩,hbd.more (by omega),hf⟩
set_option maxHeartbeats 16000000 in
set_option maxRecDepth 100000 in
theorem rstmt_if {p X T tv r A s w}(h:RSt p X T tv r A s w) (lo:Rd) (hdec:DecRd lo) (hlo:RLos p X T tv r lo) (htx:(look X.size s 0).text=⟨#[105,102]⟩) :
  Calls Tryz.prog 88 #[.pointer (some ⟨p,0,none⟩)] w (ROut p X T tv r A w.heap.size 1 (phi s+100 * r+80) s w (stmt X.size r lo s) RNat BNat):=by
 have HA:=h.sep
 have hp:=h.lt
 have hroom:=h.room
 have hcap:=h.cap
 obtain⟨res,hres⟩:∃ res,res=stmt X.size r lo s:=⟨_,rfl⟩
 rw [← hres]
 have hpu:stmt X.size r lo s=(ifStmt X.size r lo) s:=by
  unfold stmt
  show (if (look X.size s 0).text=⟨#[103,111]⟩ then _ else _:M Nat) s=_
  rw [if_neg (by rw [htx];decide),if_neg (by rw [htx];decide),if_neg (by rw [htx];decide),if_neg (by rw [htx];decide),if_pos htx]
 rw [hpu] at hres
 obtain⟨t,HT⟩:∃ t,Hid (look X.size s 0=t):=⟨_,rfl⟩
 rw [uh HT] at htx
 try (rw [uh HT] at hres)
 have HM:=hide hres
 have HLO:=hide hlo
 have hf:=RFr.refl (p:=p) (Nat.le_refl w.heap.size) hp
 have hst:=h
 have HNE:Hid (s.rest≠[]):=(by intro hr;rw [show t=look X.size s 0 from (uh HT).symm,look_nil hr] at htx;simp at htx)
 clear h hres hpu hlo
 have HDEC:=hide hdec
 clear hdec
 have hok:=rlook_ok hst (uh HNE)
 rw [uh HT] at hok
 have HTK:Hid (t.kind=4):=hok.word (by rw [htx];simp)
 have HTX:=hide htx
 clear hok htx
 go_enter Tryz.func88,Tryz.ntmps88
 go_wp2_with (first
  | (go_at_call 35;have hnow:=rnow_ok hst;rw [uh HT] at hnow;rw [uh HTK] at hnow;rw [uh HTX] at hnow;refine hnow.mono ?_;rintro e w1 ⟨rfl,hb1⟩;have tB:=(hf.new hb1).size;have bt:=BoxAt.made w1 [.int .i64 4,.string ⟨#[105,102]⟩,.int .i64 t.num,.int .i64 t.pos] 66;obtain⟨t0,t1,t2,t3,tl⟩:=bt4 bt;replace hst:=(hst.new hb1).alloc (Obj.cells #[.int .i64 4,.string ⟨#[105,102]⟩,.int .i64 t.num,.int .i64 t.pos] 66);replace hf:=(hf.new hb1).new (blA _ (Obj.cells #[.int .i64 4,.string ⟨#[105,102]⟩,.int .i64 t.num,.int .i64 t.pos] 66));clear hb1 hnow;obtain⟨v1,nq9,d0,d1,d2,d3,d4,d5,d6,d7,e2,e3,e4,e5,e6,e7,hp1,va1,vk1,rfl⟩:=hst.g.facts;have hi1:0≤((T.length - s.rest.length:Nat):Int):=(by omega);have hi2:((T.length - s.rest.length:Nat):Int)≤100000:=(by have:=hst.few;omega);skip)
  | (go_at_call 114;refine (rbranch_ok hst lo (uh HDEC) (uh HLO)).mono ?_;intro e w1 ho;clear hst;rcases ho with⟨a,s1,v,hq,rfl,hR,hst,hf1,hd⟩ | ⟨c,q,v,hq,rfl,hR,hbd,hf1⟩;((first | (replace HM:=hide (bind_ok (uh HM) hq)) | (replace HM:=hide ((uh HM).trans hq)));replace bt:=BoxAt.tk bt hf1;clear t0 t1 t2 t3 tl;obtain⟨t0,t1,t2,t3,tl⟩:=bt4 bt;replace hf:=hf.step hf1;unfold RNat at hR;subst hR;clear hf1 hq);rotate_left;((first | (replace HM:=hide (bind_bad (uh HM) hq)) | (replace HM:=hide ((uh HM).trans hq)));replace bt:=BoxAt.tk bt hf1;clear t0 t1 t2 t3 tl;obtain⟨t0,t1,t2,t3,tl⟩:=bt4 bt;replace hf:=hf.step hf1;obtain⟨a,rfl⟩:=hR;clear hf1 hq);rotate_left)
  | (go_at_call 114;refine (rbranch_bad hbd (by omega)).mono ?_;clear hbd;rintro e w1 ⟨v,rfl,hR,hbd,hf1⟩;replace bt:=BoxAt.tk bt hf1;clear t0 t1 t2 t3 tl;obtain⟨t0,t1,t2,t3,tl⟩:=bt4 bt;replace hf:=hf.step hf1;obtain⟨a,rfl⟩:=hR;clear hf1))
 all_goals
  go_returns
  first
   | exact Or.inl ⟨_,_,_,uh HM,rfl,rfl,hst,hf,by omega⟩
   | exact Or.inr ⟨_,_,_,uh HM,rfl,⟨_,rfl⟩,hbd.more (by omega),hf⟩
set_option maxHeartbeats 16000000 in
set_option maxRecDepth 100000 in
theorem rstmt_for {p X T tv r A s w}(h:RSt p X T tv r A s w) (lo:Rd) (hdec:DecRd lo) (hlo:RLos p X T tv r lo) (htx:(look X.size s 0).text=⟨#[102,111,114]⟩) :
  Calls Tryz.prog 88 #[.pointer (some ⟨p,0,none⟩)] w (ROut p X T tv r A w.heap.size 1 (phi s+100 * r+80) s w (stmt X.size r lo s) RNat BNat):=by
 have HA:=h.sep
 have hp:=h.lt
 have hroom:=h.room
 have hcap:=h.cap
 obtain⟨res,hres⟩:∃ res,res=stmt X.size r lo s:=⟨_,rfl⟩
 rw [← hres]
 have hpu:stmt X.size r lo s=((next X.size).bind fun _=>(expr X.size r lo).bind fun c=>(block X.size r lo).bind fun b=>put ⟨23,(look X.size s 0).pos,0,⟨#[]⟩,[c,b]⟩) s:=by
  unfold stmt
  show (if (look X.size s 0).text=⟨#[103,111]⟩ then _ else _:M Nat) s=_
  rw [if_neg (by rw [htx];decide),if_neg (by rw [htx];decide),if_neg (by rw [htx];decide),if_neg (by rw [htx];decide),if_neg (by rw [htx];decide),if_pos htx]
 rw [hpu] at hres
 obtain⟨t,HT⟩:∃ t,Hid (look X.size s 0=t):=⟨_,rfl⟩
 rw [uh HT] at htx
 try (rw [uh HT] at hres)
 have HM:=hide hres
 have HLO:=hide hlo
 have hf:=RFr.refl (p:=p) (Nat.le_refl w.heap.size) hp
 have hst:=h
 have HNE:Hid (s.rest≠[]):=(by intro hr;rw [show t=look X.size s 0 from (uh HT).symm,look_nil hr] at htx;simp at htx)
 clear h hres hpu hlo
 have HDEC:=hide hdec
 clear hdec
 have hok:=rlook_ok hst (uh HNE)
 rw [uh HT] at hok
 have HTK:Hid (t.kind=4):=hok.word (by rw [htx];simp)
 have HTX:=hide htx
 clear hok htx
 replace HM:=hide (bind_next (uh HM))
 try (rw [uh HT] at HM)
 go_enter Tryz.func88,Tryz.ntmps88
 go_wp2_with (first
  | (go_at_call 35;have hnow:=rnow_ok hst;rw [uh HT] at hnow;rw [uh HTK] at hnow;rw [uh HTX] at hnow;refine hnow.mono ?_;rintro e w1 ⟨rfl,hb1⟩;have tB:=(hf.new hb1).size;have bt:=BoxAt.made w1 [.int .i64 4,.string ⟨#[102,111,114]⟩,.int .i64 t.num,.int .i64 t.pos] 66;obtain⟨t0,t1,t2,t3,tl⟩:=bt4 bt;replace hst:=(hst.new hb1).alloc (Obj.cells #[.int .i64 4,.string ⟨#[102,111,114]⟩,.int .i64 t.num,.int .i64 t.pos] 66);replace hf:=(hf.new hb1).new (blA _ (Obj.cells #[.int .i64 4,.string ⟨#[102,111,114]⟩,.int .i64 t.num,.int .i64 t.pos] 66));clear hb1 hnow;obtain⟨v1,nq9,d0,d1,d2,d3,d4,d5,d6,d7,e2,e3,e4,e5,e6,e7,hp1,va1,vk1,rfl⟩:=hst.g.facts;have hi1:0≤((T.length - s.rest.length:Nat):Int):=(by omega);have hi2:((T.length - s.rest.length:Nat):Int)≤100000:=(by have:=hst.few;omega);obtain⟨hst3,hf3,hd3⟩:=hst.onto (uh HNE);replace bt:=bt.setOther (a:=⟨p,2,none⟩) (by show _≠p;omega) (.int .i64 (((T.length - s.rest.length:Nat):Int)+1));replace hf:=hf.step hf3;replace hst:=hst3;clear hst3 hf3;skip)
  | (go_at_call 112;refine (rexpr0_ok hst lo (uh HDEC) (uh HLO)).mono ?_;intro e w1 ho;clear hst;rcases ho with⟨a,s1,v,hq,rfl,hR,hst,hf1,hd⟩ | ⟨c,q,v,hq,rfl,hR,hbd,hf1⟩;((first | (replace HM:=hide (bind_ok (uh HM) hq)) | (replace HM:=hide ((uh HM).trans hq)));replace bt:=BoxAt.tk bt hf1;clear t0 t1 t2 t3 tl;obtain⟨t0,t1,t2,t3,tl⟩:=bt4 bt;replace hf:=hf.step hf1;unfold RNat at hR;subst hR;clear hf1 hq);rotate_left;((first | (replace HM:=hide (bind_bad (uh HM) hq)) | (replace HM:=hide ((uh HM).trans hq)));replace bt:=BoxAt.tk bt hf1;clear t0 t1 t2 t3 tl;obtain⟨t0,t1,t2,t3,tl⟩:=bt4 bt;replace hf:=hf.step hf1;obtain⟨a,rfl⟩:=hR;clear hf1 hq);rotate_left)
  | (go_at_call 112;refine (rexpr_bad hbd (by omega) _).mono ?_;clear hbd;rintro e w1 ⟨v,rfl,hR,hbd,hf1⟩;replace bt:=BoxAt.tk bt hf1;clear t0 t1 t2 t3 tl;obtain⟨t0,t1,t2,t3,tl⟩:=bt4 bt;replace hf:=hf.step hf1;obtain⟨a,rfl⟩:=hR;clear hf1)
  | (go_at_call 62;refine (rblock_ok hst lo (uh HLO)).mono ?_;intro e w1 ho;clear hst;rcases ho with⟨k2,s1,v,hq,rfl,hR,hst,hf1,hd⟩ | ⟨c,q,v,hq,rfl,hR,hbd,hf1⟩;((first | (replace HM:=hide (bind_ok (uh HM) hq)) | (replace HM:=hide ((uh HM).trans hq)));replace bt:=BoxAt.tk bt hf1;clear t0 t1 t2 t3 tl;obtain⟨t0,t1,t2,t3,tl⟩:=bt4 bt;replace hf:=hf.step hf1;unfold RNat at hR;subst hR;clear hf1 hq);rotate_left;((first | (replace HM:=hide (bind_bad (uh HM) hq)) | (replace HM:=hide ((uh HM).trans hq)));replace bt:=BoxAt.tk bt hf1;clear t0 t1 t2 t3 tl;obtain⟨t0,t1,t2,t3,tl⟩:=bt4 bt;replace hf:=hf.step hf1;obtain⟨k2,rfl⟩:=hR;clear hf1 hq);rotate_left)
  | (go_at_call 62;refine (rblock_bad hbd (by omega)).mono ?_;clear hbd;rintro e w1 ⟨v,rfl,hR,hbd,hf1⟩;replace bt:=BoxAt.tk bt hf1;clear t0 t1 t2 t3 tl;obtain⟨t0,t1,t2,t3,tl⟩:=bt4 bt;replace hf:=hf.step hf1;obtain⟨k2,rfl⟩:=hR;clear hf1)
  | (go_at_call_of 113 (2:Nat);refine (rwith2 hst (by omega) (by first | rfl | (simp only [size_set]))).mono ?_;intro e w1 ho;clear hst;obtain⟨k,s1,hq,rfl,hst,hf1,hd⟩:=ho;(first | (replace HM:=hide (bind_ok (uh HM) hq)) | (replace HM:=hide ((uh HM).trans hq)));replace bt:=BoxAt.tk bt hf1;clear t0 t1 t2 t3 tl;obtain⟨t0,t1,t2,t3,tl⟩:=bt4 bt;replace hf:=hf.step hf1;clear hf1 hq)
          | (go_at_call 113;have hlt5:=hbd.lt;refine (rwith_bad (hbd.alloc _) (by omega) _ _ _ _ _).mono ?_;clear hbd;rintro e w1 ⟨v,rfl,hR,hbd,hf1⟩;replace hf1:=RFr.drop hf1 hlt5;replace bt:=BoxAt.tk bt hf1;clear t0 t1 t2 t3 tl;obtain⟨t0,t1,t2,t3,tl⟩:=bt4 bt;replace hf:=hf.step hf1;obtain⟨kb,rfl⟩:=hR;clear hf1 hlt5))
 all_goals
  go_returns
  first
   | exact Or.inl ⟨_,_,_,uh HM,rfl,rfl,hst,hf,by omega⟩
   | exact Or.inr ⟨_,_,_,uh HM,rfl,⟨_,rfl⟩,hbd.more (by omega),hf⟩
set_option maxHeartbeats 16000000 in
set_option maxRecDepth 100000 in
theorem rstmt_break {p X T tv r A s w}(h:RSt p X T tv r A s w) (lo:Rd) (hdec:DecRd lo) (hlo:RLos p X T tv r lo) (htx:(look X.size s 0).text=⟨#[98,114,101,97,107]⟩) :
  Calls Tryz.prog 88 #[.pointer (some ⟨p,0,none⟩)] w (ROut p X T tv r A w.heap.size 1 (phi s+100 * r+80) s w (stmt X.size r lo s) RNat BNat):=by
 have HA:=h.sep
 have hp:=h.lt
 have hroom:=h.room
 have hcap:=h.cap
 obtain⟨res,hres⟩:∃ res,res=stmt X.size r lo s:=⟨_,rfl⟩
 rw [← hres]
 have hpu:stmt X.size r lo s=((next X.size).bind fun _=>put ⟨25,(look X.size s 0).pos,0,⟨#[]⟩,[]⟩) s:=by
  unfold stmt
  show (if (look X.size s 0).text=⟨#[103,111]⟩ then _ else _:M Nat) s=_
  rw [if_neg (by rw [htx];decide),if_neg (by rw [htx];decide),if_neg (by rw [htx];decide),if_neg (by rw [htx];decide),if_neg (by rw [htx];decide),if_neg (by rw [htx];decide),if_neg (by rw [htx];decide),if_pos htx]
 rw [hpu] at hres
 obtain⟨t,HT⟩:∃ t,Hid (look X.size s 0=t):=⟨_,rfl⟩
 rw [uh HT] at htx
 try (rw [uh HT] at hres)
 have HM:=hide hres
 have HLO:=hide hlo
 have hf:=RFr.refl (p:=p) (Nat.le_refl w.heap.size) hp
 have hst:=h
 have HNE:Hid (s.rest≠[]):=(by intro hr;rw [show t=look X.size s 0 from (uh HT).symm,look_nil hr] at htx;simp at htx)
 clear h hres hpu hlo
 have HDEC:=hide hdec
 clear hdec
 have hok:=rlook_ok hst (uh HNE)
 rw [uh HT] at hok
 have HTK:Hid (t.kind=4):=hok.word (by rw [htx];simp)
 have HTX:=hide htx
 clear hok htx
 replace HM:=hide (bind_next (uh HM))
 try (rw [uh HT] at HM)
 go_enter Tryz.func88,Tryz.ntmps88
 go_wp2_with (first
  | (go_at_call 35;have hnow:=rnow_ok hst;rw [uh HT] at hnow;rw [uh HTK] at hnow;rw [uh HTX] at hnow;refine hnow.mono ?_;rintro e w1 ⟨rfl,hb1⟩;have tB:=(hf.new hb1).size;have bt:=BoxAt.made w1 [.int .i64 4,.string ⟨#[98,114,101,97,107]⟩,.int .i64 t.num,.int .i64 t.pos] 66;obtain⟨t0,t1,t2,t3,tl⟩:=bt4 bt;replace hst:=(hst.new hb1).alloc (Obj.cells #[.int .i64 4,.string ⟨#[98,114,101,97,107]⟩,.int .i64 t.num,.int .i64 t.pos] 66);replace hf:=(hf.new hb1).new (blA _ (Obj.cells #[.int .i64 4,.string ⟨#[98,114,101,97,107]⟩,.int .i64 t.num,.int .i64 t.pos] 66));clear hb1 hnow;obtain⟨v1,nq9,d0,d1,d2,d3,d4,d5,d6,d7,e2,e3,e4,e5,e6,e7,hp1,va1,vk1,rfl⟩:=hst.g.facts;have hi1:0≤((T.length - s.rest.length:Nat):Int):=(by omega);have hi2:((T.length - s.rest.length:Nat):Int)≤100000:=(by have:=hst.few;omega);obtain⟨hst3,hf3,hd3⟩:=hst.onto (uh HNE);replace bt:=bt.setOther (a:=⟨p,2,none⟩) (by show _≠p;omega) (.int .i64 (((T.length - s.rest.length:Nat):Int)+1));replace hf:=hf.step hf3;replace hst:=hst3;clear hst3 hf3;skip)
  | (go_at_call 113;refine (rwith0 hst (by omega)).mono ?_;intro e w1 ho;clear hst;obtain⟨k,s1,hq,rfl,hst,hf1,hd⟩:=ho;(first | (replace HM:=hide (bind_ok (uh HM) hq)) | (replace HM:=hide ((uh HM).trans hq)));replace bt:=BoxAt.tk bt hf1;clear t0 t1 t2 t3 tl;obtain⟨t0,t1,t2,t3,tl⟩:=bt4 bt;replace hf:=hf.step hf1;clear hf1 hq)
          | (go_at_call 113;have hlt5:=hbd.lt;refine (rwith_bad hbd (by omega) _ _ _ _ _).mono ?_;clear hbd;rintro e w1 ⟨v,rfl,hR,hbd,hf1⟩; replace bt:=BoxAt.tk bt hf1;clear t0 t1 t2 t3 tl;obtain⟨t0,t1,t2,t3,tl⟩:=bt4 bt;replace hf:=hf.step hf1;obtain⟨kb,rfl⟩:=hR;clear hf1 hlt5))
 all_goals
  go_returns
  first
   | exact Or.inl ⟨_,_,_,uh HM,rfl,rfl,hst,hf,by omega⟩
   | exact Or.inr ⟨_,_,_,uh HM,rfl,⟨_,rfl⟩,hbd.more (by omega),hf⟩
end
end Go.Proofs.YtdemnolanlfblaaGreatDoor
