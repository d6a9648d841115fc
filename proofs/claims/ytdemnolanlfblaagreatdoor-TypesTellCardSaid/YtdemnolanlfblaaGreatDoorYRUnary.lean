import Derived.Test.YtdemnolanlfblaaGreatDoorYRFirst
set_option linter.all false
namespace Go.Proofs.YtdemnolanlfblaaGreatDoor
section
open Go.RowKit
theorem make_at {E r:Nat}{lo:Rd}{s:PS}{res:Res Nat}(h:res=makeOf E r lo s) (ht:(look E s 0).text=⟨#[109,97,107,101]⟩):res=((opens E r [⟨#[40]⟩]).bind fun _=>(lo.chan).bind fun c=>(is E [⟨#[44]⟩]).bind fun yes=>if yes then (next E).bind fun _=>(wantKind E 2).bind fun m=>makeEnd E (look E s 0).pos c.2 m.num else makeEnd E (look E s 0).pos c.2 0) { s with rest:=s.rest.tail }:=by
 rw [h]
 unfold makeOf
 rw [bindOk (want_yes (by rw [isB_one,ht];decide))]
theorem mk_yes {E:Nat}{s:PS}{res:Res Nat}{f:Tok→M Nat}(h:res=M.bind (wantKind E 2) f s) (hk:(look E s 0).kind=2):res=f (look E s 0) { s with rest:=s.rest.tail }:=by
 have:wantKind E 2 s=.ok (look E s 0) { s with rest:=s.rest.tail }:=by unfold wantKind;rw [if_pos hk];rfl
 rw [h,bindOk this]
theorem mk_no {E:Nat}{s:PS}{res:Res Nat}{f:Tok→M Nat}(h:res=M.bind (wantKind E 2) f s) (hk:¬ (look E s 0).kind=2):res=.bad 3 (look E s 0).pos:=by
 have:wantKind E 2 s=.bad 3 (look E s 0).pos:=by unfold wantKind;rw [if_neg hk];rfl
 rw [h,bindBad this]
theorem Ints.atP {p X T tv r A s w}{B:Nat}{v:Value}{ks:List Nat}(h:Ints w B v ks) (hs:RSt p X T tv r A s w) (j:Nat) (u:Value):Ints (w.setCell ⟨p,j,none⟩ u) B v ks:=by
 obtain⟨v1,kvs,hblk,_⟩:=hs.own
 exact own_set_ne h (a:=⟨p,j,none⟩) (own_ne h hblk (by decide)) u
theorem RSt.freshK {p X T tv r A s w}(h:RSt p X T tv r A s w) {m:Nat}(hm:m=w.heap.size) (o:Obj) {n c:Nat}:RSt p X T tv r (Au A (.slice (some ⟨m,0,none⟩) n c)) s (w.alloc o):=by
 subst hm
 refine (h.box o).weak fun k hk=>?_
 rcases hk with hk | hk
 ·exact Or.inl hk
 ·exact Or.inr (by simpa [Value.ownBlock] using hk.symm)
set_option maxHeartbeats 16000000 in
set_option maxRecDepth 100000 in
theorem rfirst_make {p X T tv r A s w}(h:RSt p X T tv r A s w) (lo:Rd) (hlo:RLos p X T tv r lo) (htx:(look X.size s 0).text=⟨#[109,97,107,101]⟩) :
  Calls Tryz.prog 156 #[.pointer (some ⟨p,0,none⟩)] w (ROut p X T tv r A w.heap.size 2 (phi s+100 * r+30) s w (first X.size r lo s) RNat BNat):=by
 have HA:=h.sep
 have hp:=h.lt
 have hroom:=h.room
 have hcap:=h.cap
 obtain⟨res,hres⟩:∃ res,res=first X.size r lo s:=⟨_,rfl⟩
 rw [← hres]
 have hpu:first X.size r lo s=(makeOf X.size r lo) s:=by
  unfold first
  show (if (look X.size s 0).text=⟨#[116,114,117,101]⟩ then _ else _:M Nat) s=_
  rw [if_neg (by rw [htx];decide),if_neg (by rw [htx];decide),if_neg (by rw [htx];decide),if_neg (by rw [htx];decide),if_neg (by rw [htx];decide),if_neg (by rw [htx];decide),if_pos htx]
 rw [hpu] at hres
 obtain⟨t,HT⟩:∃ t,Hid (look X.size s 0=t):=⟨_,rfl⟩
 rw [uh HT] at htx
 try (rw [uh HT] at hres)
 have HM:=hide hres
 have HLO:=hide hlo
 have hf:=RFr.refl (p:=p) (Nat.le_refl w.heap.size) hp
 have hst:=h
 have HNE:Hid (s.rest≠[]):=(by intro hr;rw [show t=look X.size s 0 from (uh HT).symm,look_nil hr] at htx;simp at htx)
 clear h hres hpu hlo
 have hok:=rlook_ok hst (uh HNE)
 rw [uh HT] at hok
 have HTK:Hid (t.kind=4):=hok.word (by rw [htx];simp)
 have HTX:=hide htx
 clear hok htx
 replace HM:=hide (make_at (uh HM) (by rw [uh HT];exact uh HTX))
 rw [uh HT] at HM
 go_enter Tryz.func156,Tryz.ntmps156
 go_wp2_with (first
  | (go_at_call 35;have hnow:=rnow_ok hst;rw [uh HT] at hnow;rw [uh HTK] at hnow;rw [uh HTX] at hnow;refine hnow.mono ?_;rintro e w1 ⟨rfl,hb1⟩;have tB:=(hf.new hb1).size;have bt:=BoxAt.made w1 [.int .i64 4,.string ⟨#[109,97,107,101]⟩,.int .i64 t.num,.int .i64 t.pos] 66;obtain⟨t0,t1,t2,t3,tl⟩:=bt4 bt;replace hst:=(hst.new hb1).alloc (Obj.cells #[.int .i64 4,.string ⟨#[109,97,107,101]⟩,.int .i64 t.num,.int .i64 t.pos] 66);replace hf:=(hf.new hb1).new (blA _ (Obj.cells #[.int .i64 4,.string ⟨#[109,97,107,101]⟩,.int .i64 t.num,.int .i64 t.pos] 66));clear hb1 hnow;obtain⟨v1,nq9,d0,d1,d2,d3,d4,d5,d6,d7,e2,e3,e4,e5,e6,e7,hp1,va1,vk1,rfl⟩:=hst.g.facts;have hi1:0≤((T.length - s.rest.length:Nat):Int):=(by omega);have hi2:((T.length - s.rest.length:Nat):Int)≤100000:=(by have:=hst.few;omega);obtain⟨hst3,hf3,hd3⟩:=hst.onto (uh HNE);replace bt:=bt.setOther (a:=⟨p,2,none⟩) (by show _≠p;omega) (.int .i64 (((T.length - s.rest.length:Nat):Int)+1));replace hf:=hf.step hf3;replace hst:=hst3;clear hst3 hf3;skip)
  | (go_at_call_of 56 (⟨#[40]⟩:ByteArray);refine (renterb hst _ (by decide)).mono ?_;intro e w1 ho;clear hst;rcases ho with⟨r1,t9,s1,rfl,hq,rfl,hst,hf1,hd⟩ | ⟨c,q,kb,hq,rfl,hbd,hf1⟩;(obtain⟨lo2,hch,hlo2⟩:=(uh HLO _ rfl).chan;have HLO2:=hide hlo2;clear hlo2;replace HM:=hide (bind_ok (uh HM) hq);rw [hch] at HM;clear hch;replace bt:=BoxAt.tk bt hf1;clear t0 t1 t2 t3 tl;obtain⟨t0,t1,t2,t3,tl⟩:=bt4 bt;replace hf:=hf.step hf1;clear hf1 hq);rotate_left;(replace HM:=hide (bind_bad (uh HM) hq);replace bt:=BoxAt.tk bt hf1;clear t0 t1 t2 t3 tl;obtain⟨t0,t1,t2,t3,tl⟩:=bt4 bt;replace hf:=hf.step hf1;clear hf1 hq);rotate_left)
  | (go_at_call_of 56 (⟨#[99,104,97,110]⟩:ByteArray);refine (renterb hst _ (by decide)).mono ?_;intro e w1 ho;clear hst;rcases ho with⟨r',t8,s1,rfl,hq,rfl,hst,hf1,hd⟩ | ⟨c,q,kb,hq,rfl,hbd,hf1⟩;(replace HM:=hide (chan_open (uh HM) hq rfl);replace bt:=BoxAt.tk bt hf1;clear t0 t1 t2 t3 tl;obtain⟨t0,t1,t2,t3,tl⟩:=bt4 bt;replace hf:=hf.step hf1;clear hf1 hq);rotate_left;(replace HM:=hide (chan_bad (uh HM) hq);replace bt:=BoxAt.tk bt hf1;clear t0 t1 t2 t3 tl;obtain⟨t0,t1,t2,t3,tl⟩:=bt4 bt;replace hf:=hf.step hf1;clear hf1 hq);rotate_left)
  | (go_at_call 56;refine (renter_bad hbd _).mono ?_;clear hbd;rintro e w1 ⟨v,rfl,hR,hbd,hf1⟩;replace bt:=BoxAt.tk bt hf1;clear t0 t1 t2 t3 tl;obtain⟨t0,t1,t2,t3,tl⟩:=bt4 bt;replace hf:=hf.step hf1;clear hf1 hR)
  | (go_at_call 85;have hcc:=uh HLO2 _ rfl;have hcd:=hcc _ _ _ hst;clear hcc;refine hcd.mono ?_;clear hcd;intro e w1 ho;clear hst;rcases ho with⟨a,s1,v,hq,rfl,hR,hst,hf1,hd⟩ | ⟨c,q,v,hq,rfl,hR,hbd,hf1⟩;(replace HM:=hide (bind_ok (uh HM) hq);replace bt:=BoxAt.tk bt hf1;clear t0 t1 t2 t3 tl;obtain⟨t0,t1,t2,t3,tl⟩:=bt4 bt;replace hf:=hf.step hf1;unfold RNat at hR;subst hR;clear hf1 hq;obtain⟨v1,nq9,d0,d1,d2,d3,d4,d5,d6,d7,e2,e3,e4,e5,e6,e7,hp1,va1,vk1,rfl⟩:=hst.g.facts;have hu0:1≤((30 - r':Nat):Int):=(by omega);have hu1:((30 - r':Nat):Int)≤30:=(by omega);replace bt:=bt.setOther (a:=⟨p,3,none⟩) (by show _≠p;omega) (.int .i64 (((30 - r':Nat):Int) - 1));replace hf:=hf.step (hst.up (by omega)).2;replace hst:=(hst.up (by omega)).1;have nB:w.heap.size≤w1.heap.size+1:=(by have:=hf.size;rw [size_set] at this;omega);have hI:Ints ((w1.setCell ⟨p,3,none⟩ (.int .i64 (((30 - r':Nat):Int) - 1))).alloc (Obj.cells #[.int .i64 (a:Int)] 3)) w.heap.size (.slice (some ⟨w1.heap.size,0,none⟩) 1 1) [a]:=(by have h9:=ints_new (w:=w1.setCell ⟨p,3,none⟩ (.int .i64 (((30 - r':Nat):Int) - 1))) (B:=w.heap.size) hf.size [a] (by simp);rw [size_set] at h9;exact h9);replace hI:=own_below hI (blA _ (Obj.cells #[.int .i64 42,.int .i64 t.pos,.int .i64 0,.string ⟨#[]⟩,.slice (some ⟨w1.heap.size,0,none⟩) 1 1] 36));replace hst:=hst.freshK (m:=w1.heap.size) (n:=1) (c:=1) (by rw [size_set]) (Obj.cells #[.int .i64 (a:Int)] 3);have bn:=BoxAt.made ((w1.setCell ⟨p,3,none⟩ (.int .i64 (((30 - r':Nat):Int) - 1))).alloc (Obj.cells #[.int .i64 (a:Int)] 3)) [.int .i64 42,.int .i64 t.pos,.int .i64 0,.string ⟨#[]⟩,.slice (some ⟨w1.heap.size,0,none⟩) 1 1] 36;rw [szA,size_set] at bn;obtain⟨n0,n1,n2,n3,n4,nf0,nf1,nf2,nf3,nf4,nl⟩:=bn5 bn;replace hst:=hst.box (Obj.cells #[.int .i64 42,.int .i64 t.pos,.int .i64 0,.string ⟨#[]⟩,.slice (some ⟨w1.heap.size,0,none⟩) 1 1] 36);rw [szA,size_set] at hst;replace hf:=(hf.new (blA _ (Obj.cells #[.int .i64 (a:Int)] 3))).new (blA _ (Obj.cells #[.int .i64 42,.int .i64 t.pos,.int .i64 0,.string ⟨#[]⟩,.slice (some ⟨w1.heap.size,0,none⟩) 1 1] 36));skip);rotate_left;(replace HM:=hide (bind_bad (uh HM) hq);replace bt:=BoxAt.tk bt hf1;clear t0 t1 t2 t3 tl;obtain⟨t0,t1,t2,t3,tl⟩:=bt4 bt;replace hf:=hf.step hf1;obtain⟨a,rfl⟩:=hR;clear hf1 hq;obtain⟨dd,hgg⟩:=id hbd;obtain⟨v1,nq9,d0,d1,d2,d3,d4,d5,d6,d7,e2,e3,e4,e5,e6,e7,hp1,va1,vk1,rfl⟩:=hgg.facts;clear hgg;replace bt:=bt.setOther (a:=⟨p,3,none⟩) (by show _≠p;omega) (.int .i64 (wrap64 (dd - 1)));replace hf:=hf.step (hbd.deeper (wrap64 (dd - 1))).2;replace hbd:=(hbd.deeper (wrap64 (dd - 1))).1;have nB:w.heap.size≤w1.heap.size+1:=(by have:=hf.size;rw [size_set] at this;omega);replace hbd:=hbd.alloc (Obj.cells #[.int .i64 (a:Int)] 3);have bn:=BoxAt.made ((w1.setCell ⟨p,3,none⟩ (.int .i64 (wrap64 (dd - 1)))).alloc (Obj.cells #[.int .i64 (a:Int)] 3)) [.int .i64 42,.int .i64 t.pos,.int .i64 0,.string ⟨#[]⟩,.slice (some ⟨w1.heap.size,0,none⟩) 1 1] 36;rw [szA,size_set] at bn;obtain⟨n0,n1,n2,n3,n4,nf0,nf1,nf2,nf3,nf4,nl⟩:=bn5 bn;replace hbd:=hbd.box (Obj.cells #[.int .i64 42,.int .i64 t.pos,.int .i64 0,.string ⟨#[]⟩,.slice (some ⟨w1.heap.size,0,none⟩) 1 1] 36);rw [szA,size_set] at hbd;replace hf:=(hf.new (blA _ (Obj.cells #[.int .i64 (a:Int)] 3))).new (blA _ (Obj.cells #[.int .i64 42,.int .i64 t.pos,.int .i64 0,.string ⟨#[]⟩,.slice (some ⟨w1.heap.size,0,none⟩) 1 1] 36));skip);rotate_left)
  | (go_at_call 85;refine (rtyp_bad hbd (by omega)).mono ?_;clear hbd;rintro e w1 ⟨v,rfl,hR,hbd,hf1⟩;replace bt:=BoxAt.tk bt hf1;clear t0 t1 t2 t3 tl;obtain⟨t0,t1,t2,t3,tl⟩:=bt4 bt;replace hf:=hf.step hf1;obtain⟨a,rfl⟩:=hR;clear hf1;obtain⟨dd,hgg⟩:=id hbd;obtain⟨v1,nq9,d0,d1,d2,d3,d4,d5,d6,d7,e2,e3,e4,e5,e6,e7,hp1,va1,vk1,rfl⟩:=hgg.facts;clear hgg;replace bt:=bt.setOther (a:=⟨p,3,none⟩) (by show _≠p;omega) (.int .i64 (wrap64 (dd - 1)));replace hf:=hf.step (hbd.deeper (wrap64 (dd - 1))).2;replace hbd:=(hbd.deeper (wrap64 (dd - 1))).1;have nB:w.heap.size≤w1.heap.size+1:=(by have:=hf.size;rw [size_set] at this;omega);replace hbd:=hbd.alloc (Obj.cells #[.int .i64 (a:Int)] 3);have bn:=BoxAt.made ((w1.setCell ⟨p,3,none⟩ (.int .i64 (wrap64 (dd - 1)))).alloc (Obj.cells #[.int .i64 (a:Int)] 3)) [.int .i64 42,.int .i64 t.pos,.int .i64 0,.string ⟨#[]⟩,.slice (some ⟨w1.heap.size,0,none⟩) 1 1] 36;rw [szA,size_set] at bn;obtain⟨n0,n1,n2,n3,n4,nf0,nf1,nf2,nf3,nf4,nl⟩:=bn5 bn;replace hbd:=hbd.box (Obj.cells #[.int .i64 42,.int .i64 t.pos,.int .i64 0,.string ⟨#[]⟩,.slice (some ⟨w1.heap.size,0,none⟩) 1 1] 36);rw [szA,size_set] at hbd;replace hf:=(hf.new (blA _ (Obj.cells #[.int .i64 (a:Int)] 3))).new (blA _ (Obj.cells #[.int .i64 42,.int .i64 t.pos,.int .i64 0,.string ⟨#[]⟩,.slice (some ⟨w1.heap.size,0,none⟩) 1 1] 36));skip)
  | (go_at_call 54;refine (rtookb hst _ (by decide)).mono ?_;intro e w1 ho;clear hst;rcases ho with⟨hy,rfl,hst,hf1,hd⟩ | ⟨hy,rfl,hst,hf1⟩;(replace HM:=hide (bind_next (ite_yes (bind_is (uh HM) hy) rfl));replace bn:=BoxAt.nd bn hf1;clear n0 n1 n2 n3 n4 nf0 nf1 nf2 nf3 nf4 nl;obtain⟨n0,n1,n2,n3,n4,nf0,nf1,nf2,nf3,nf4,nl⟩:=bn5 bn;replace hI:=own_rfr hI hf1 (by decide) (by decide);replace hf:=hf.step hf1;clear hf1 hy;obtain⟨s7,HS7⟩:∃ s7:PS,s7 = { s1 with rest:=s1.rest.tail }:=⟨_,rfl⟩;rw [← HS7] at hst HM hd;replace HS7:=hide HS7);rotate_left;(replace HM:=hide (ite_no (bind_is (uh HM) hy) rfl);unfold makeEnd at HM;replace bn:=BoxAt.nd bn hf1;clear n0 n1 n2 n3 n4 nf0 nf1 nf2 nf3 nf4 nl;obtain⟨n0,n1,n2,n3,n4,nf0,nf1,nf2,nf3,nf4,nl⟩:=bn5 bn;replace hI:=own_rfr hI hf1 (by decide) (by decide);replace hf:=hf.step hf1;clear hf1 hy);rotate_left)
  | (go_at_call 54;refine (rtook_bad hbd _).mono ?_;rintro e w1 ⟨rfl,hb1⟩;replace hbd:=hbd.new hb1;replace bn:=bn.new hb1;clear n0 n1 n2 n3 n4 nf0 nf1 nf2 nf3 nf4 nl;obtain⟨n0,n1,n2,n3,n4,nf0,nf1,nf2,nf3,nf4,nl⟩:=bn5 bn;replace hf:=hf.new hb1;clear hb1)
  | (go_at_call 35;obtain⟨m,HMT⟩:∃ m,Hid (look X.size s7 0=m):=⟨_,rfl⟩;have hnow:=rnow_ok hst;rw [uh HMT] at hnow;refine hnow.mono ?_;rintro e w1 ⟨rfl,hb1⟩;replace bn:=bn.new hb1;clear n0 n1 n2 n3 n4 nf0 nf1 nf2 nf3 nf4 nl;obtain⟨n0,n1,n2,n3,n4,nf0,nf1,nf2,nf3,nf4,nl⟩:=bn5 bn;replace hI:=own_below hI hb1;replace hf:=hf.new hb1;replace hst:=hst.new hb1;clear hb1 hnow;have hpx:=hst.lt;obtain⟨v1,nq9,d0,d1,d2,d3,d4,d5,d6,d7,e2,e3,e4,e5,e6,e7,hp1,va1,vk1,rfl⟩:=hst.g.facts;have hpnn:p≠_:=(Nat.ne_of_lt (Nat.lt_of_lt_of_le hp nB));have hi3:0≤((T.length - s7.rest.length:Nat):Int):=(by omega);have hi4:((T.length - s7.rest.length:Nat):Int)≤100000:=(by have:=hst.few;omega);cases hkm:(m.kind == 2);(have HKM:Hid (¬ m.kind=2):=(by intro h9;rw [h9] at hkm;exact absurd hkm (by decide));replace HM:=hide (mk_no (uh HM) (by rw [uh HMT];exact uh HKM));rw [uh HMT] at HM;replace hst:=hst.alloc (Obj.cells #[.int .i64 m.kind,.string m.text,.int .i64 m.num,.int .i64 m.pos] 66);replace hf:=hf.new (blA _ (Obj.cells #[.int .i64 m.kind,.string m.text,.int .i64 m.num,.int .i64 m.pos] 66));replace bn:=bn.new (blA _ (Obj.cells #[.int .i64 m.kind,.string m.text,.int .i64 m.num,.int .i64 m.pos] 66));replace hI:=own_below hI (blA _ (Obj.cells #[.int .i64 m.kind,.string m.text,.int .i64 m.num,.int .i64 m.pos] 66));skip);rotate_left;(have HKM:Hid (m.kind=2):=(by exact eq_of_beq hkm);replace HM:=hide (mk_yes (uh HM) (by rw [uh HMT];exact uh HKM));rw [uh HMT] at HM;unfold makeEnd at HM;have hne9:Hid (s7.rest≠[]):=(kind_ne (E:=X.size) (k:=2) (by rw [uh HMT];exact uh HKM) (by decide));replace hst:=hst.nd bn (Or.inr rfl) 2 (.int .i64 m.num);replace hf:=hf.setNd bn (by omega) (by omega) 2 (.int .i64 m.num);replace hI:=Ints.nd hI bn 2 (.int .i64 m.num);replace bn:=nd2 bn (.int .i64 m.num);obtain⟨hst3,hf3,hd3⟩:=hst.onto (uh hne9);replace bn:=bn.setOther (a:=⟨p,2,none⟩) (by show _≠p;omega) (.int .i64 (((T.length - s7.rest.length:Nat):Int)+1));replace hI:=Ints.atP hI hst 2 (.int .i64 (((T.length - s7.rest.length:Nat):Int)+1));replace hf:=hf.step hf3;replace hst:=hst3;clear hst3 hf3;replace hst:=hst.alloc (Obj.cells #[.int .i64 m.kind,.string m.text,.int .i64 m.num,.int .i64 m.pos] 66);replace hf:=hf.new (blA _ (Obj.cells #[.int .i64 m.kind,.string m.text,.int .i64 m.num,.int .i64 m.pos] 66));replace bn:=bn.new (blA _ (Obj.cells #[.int .i64 m.kind,.string m.text,.int .i64 m.num,.int .i64 m.pos] 66));replace hI:=own_below hI (blA _ (Obj.cells #[.int .i64 m.kind,.string m.text,.int .i64 m.num,.int .i64 m.pos] 66));skip);rotate_left)
  | (go_at_call 63;have hfl:=rfail_ok hst.g 3;rw [tokAt_look hst,uh HMT] at hfl;refine hfl.mono ?_;rintro e w1 ⟨v9,rfl,hR,hbd,hf1⟩;clear hst;replace bn:=BoxAt.nd bn hf1;clear n0 n1 n2 n3 n4 nf0 nf1 nf2 nf3 nf4 nl;obtain⟨n0,n1,n2,n3,n4,nf0,nf1,nf2,nf3,nf4,nl⟩:=bn5 bn;replace hbd:=hbd.weak (A:=Ab A _) (fun k hk=>hk.elim (fun hh=>Or.inl (Or.inl hh)) Or.inr);replace hf:=hf.step hf1;unfold BUnit at hR;subst hR;clear hf1 hfl)
  | (go_at_call 60;refine (rleaveb hst (by omega) _ (by decide)).mono ?_;intro e w1 ho;clear hst;rcases ho with⟨a9,s1,v,hq,rfl,hR,hst,hf1,hd⟩ | ⟨c,q,v,hq,rfl,hR,hbd,hf1⟩;(replace HM:=hide (bind_ok (uh HM) hq);replace bn:=BoxAt.nd bn hf1;clear n0 n1 n2 n3 n4 nf0 nf1 nf2 nf3 nf4 nl;obtain⟨n0,n1,n2,n3,n4,nf0,nf1,nf2,nf3,nf4,nl⟩:=bn5 bn;replace hI:=own_rfr hI hf1 (by decide) (by decide);replace hf:=hf.step hf1;clear hf1 hq hR);rotate_left;(replace hbd:=hbd.weak (A:=Ab A _) (fun k hk=>hk.elim (fun hh=>Or.inl (Or.inl hh)) Or.inr);replace HM:=hide (bind_bad (uh HM) hq);replace bn:=BoxAt.nd bn hf1;clear n0 n1 n2 n3 n4 nf0 nf1 nf2 nf3 nf4 nl;obtain⟨n0,n1,n2,n3,n4,nf0,nf1,nf2,nf3,nf4,nl⟩:=bn5 bn;replace hf:=hf.step hf1;clear hf1 hq hR);rotate_left)
  | (go_at_call 60;refine (rleave_bad hbd _).mono ?_;clear hbd;rintro e w1 ⟨v,rfl,hR,hbd,hf1⟩;replace bn:=BoxAt.nd bn hf1;clear n0 n1 n2 n3 n4 nf0 nf1 nf2 nf3 nf4 nl;obtain⟨n0,n1,n2,n3,n4,nf0,nf1,nf2,nf3,nf4,nl⟩:=bn5 bn;replace hf:=hf.step hf1;clear hf1 hR)
  | (go_at_call 38;refine (rputL hst.unbox.unlist (by omega) (ks:=[a]) hI hp HA).mono ?_;intro e w1 ho;clear hst;obtain⟨k,s1,hq,rfl,hst,hf1,hd⟩:=ho;replace HM:=hide ((uh HM).trans hq);replace hf:=hf.step hf1;clear hf1 hq)
  | (go_at_call 38;refine (rput_bad hbd.unbox (by omega) _ _ _ _ _ _ _).mono ?_;clear hbd;rintro e w1 ⟨v,rfl,hR,hbd,hf1⟩;replace hf:=hf.step hf1;obtain⟨kb,rfl⟩:=hR;clear hf1))
 all_goals
  go_returns
  first
   | exact Or.inl ⟨_,_,_,uh HM,rfl,rfl,hst,hf,by omega⟩
   | exact Or.inr ⟨_,_,_,uh HM,rfl,⟨_,rfl⟩,hbd.more (by omega),hf⟩
end
section
open Go.RowKit
theorem rfirst_ok {p X T tv r A s w}(h:RSt p X T tv r A s w) (lo:Rd) (hlo:RLos p X T tv r lo) :
  Calls Tryz.prog 156 #[.pointer (some ⟨p,0,none⟩)] w (ROut p X T tv r A w.heap.size 2 (phi s+100 * r+30) s w (first X.size r lo s) RNat BNat):=by
 by_cases h1:(look X.size s 0).text=⟨#[116,114,117,101]⟩
 ·exact rfirst_true h lo hlo h1
 by_cases h2:(look X.size s 0).text=⟨#[102,97,108,115,101]⟩
 ·exact rfirst_false h lo hlo h2
 by_cases h3:(look X.size s 0).text=⟨#[110,105,108]⟩
 ·exact rfirst_nil h lo hlo h3
 by_cases h4:(look X.size s 0).text=⟨#[40]⟩
 ·exact rfirst_par h lo hlo h4
 by_cases h5:(look X.size s 0).text=⟨#[102,117,110,99]⟩
 ·exact rfirst_func h lo hlo h5
 by_cases h6:(look X.size s 0).text=⟨#[110,101,119]⟩
 ·exact rfirst_new h lo hlo h6
 by_cases h7:(look X.size s 0).text=⟨#[109,97,107,101]⟩
 ·exact rfirst_make h lo hlo h7
 have hnx:∀ x ∈ [⟨#[116,114,117,101]⟩,⟨#[102,97,108,115,101]⟩,⟨#[110,105,108]⟩,⟨#[40]⟩,⟨#[102,117,110,99]⟩,⟨#[110,101,119]⟩,⟨#[109,97,107,101]⟩],(look X.size s 0).text≠x:=by
  intro x hx
  simp only [List.mem_cons,List.not_mem_nil,or_false] at hx
  rcases hx with rfl | rfl | rfl | rfl | rfl | rfl | rfl <;> assumption
 by_cases hk:(look X.size s 0).kind=2
 ·exact rfirst_num h lo hlo hnx hk
 ·exact rfirst_name h lo hlo hnx hk
theorem opens_one {E r:Nat}{s:PS}{ws:List ByteArray}{x:ByteArray}(hx:(look E s 0).text=x) (hm:x ∈ ws):opens E r ws s=opens E r [x] s:=by
 have h1:isB E s ws=true:=by
  unfold isB
  rw [List.any_eq_true]
  exact⟨x,hm,by simp [hx]⟩
 have h2:isB E s [x]=true:=by rw [isB_one];simp [hx]
 unfold opens
 have e:want E ws s=want E [x] s:=by
  unfold want
  rw [if_pos h1,if_pos h2]
 rw [bind_at,bind_at,e]
theorem signed_at {E r:Nat}{lo:Rd}{kind:Int}{s:PS}{x:ByteArray}(hx:(look E s 0).text=x) (hm:x ∈ [⟨#[33]⟩,⟨#[45]⟩,⟨#[60,45]⟩]):signed E r lo kind s=((opens E r [x]).bind fun t=>(lo.one).bind fun k=>put ⟨kind,t.pos,0,⟨#[]⟩,[k]⟩) s:=by
 unfold signed
 rw [bind_at,bind_at,opens_one hx hm]
theorem signed_open {E r:Nat}{lo:Rd}{kind:Int}{s s1:PS}{x:ByteArray}{t t0:Tok}{res:Res Nat}(h:res=M.bind (opens E r [x]) (fun t=>(lo.one).bind fun k=>put ⟨kind,t.pos,0,⟨#[]⟩,[k]⟩) s) (hq:opens E r [x] s=.ok t s1) (ht:look E s 0=t0):res=M.bind lo.one (fun k=>put ⟨kind,t0.pos,0,⟨#[]⟩,[k]⟩) s1:=by
 rw [h,bindOk hq,opens_tok hq,ht]
set_option maxHeartbeats 16000000 in
set_option maxRecDepth 100000 in
theorem runary_not {p X T tv r A s w}(h:RSt p X T tv r A s w) (lo:Rd) (hlo:RLos p X T tv r lo) (htx:(look X.size s 0).text=⟨#[33]⟩) :
  Calls Tryz.prog 137 #[.pointer (some ⟨p,0,none⟩)] w (ROut p X T tv r A w.heap.size 2 (phi s+100 * r+40) s w (one X.size r lo s) RNat BNat):=by
 have HA:=h.sep
 have hp:=h.lt
 have hroom:=h.room
 have hcap:=h.cap
 obtain⟨res,hres⟩:∃ res,res=one X.size r lo s:=⟨_,rfl⟩
 rw [← hres]
 have hpu:one X.size r lo s=(signed X.size r lo 43) s:=by
  unfold one
  show (if (look X.size s 0).text=⟨#[33]⟩ then _ else _:M Nat) s=_
  rw [if_pos htx]
 rw [hpu] at hres
 obtain⟨t,HT⟩:∃ t,Hid (look X.size s 0=t):=⟨_,rfl⟩
 rw [uh HT] at htx
 try (rw [uh HT] at hres)
 have HM:=hide hres
 have HLO:=hide hlo
 have hf:=RFr.refl (p:=p) (Nat.le_refl w.heap.size) hp
 have hst:=h
 have HNE:Hid (s.rest≠[]):=(by intro hr;rw [show t=look X.size s 0 from (uh HT).symm,look_nil hr] at htx;simp at htx)
 clear h hres hpu hlo
 have hok:=rlook_ok hst (uh HNE)
 rw [uh HT] at hok
 have HTK:Hid (t.kind=3):=hok.sign (by rw [htx];simp)
 have HTX:=hide htx
 clear hok htx
 replace HM:=hide ((uh HM).trans (signed_at (x:=⟨#[33]⟩) (by rw [uh HT];exact uh HTX) (by simp)))
 go_enter Tryz.func137,Tryz.ntmps137
 go_wp2_with (first
  | (go_at_call 35;have hnow:=rnow_ok hst;rw [uh HT] at hnow;rw [uh HTK] at hnow;rw [uh HTX] at hnow;refine hnow.mono ?_;rintro e w1 ⟨rfl,hb1⟩;have tB:=(hf.new hb1).size;have bt:=BoxAt.made w1 [.int .i64 3,.string ⟨#[33]⟩,.int .i64 t.num,.int .i64 t.pos] 66;obtain⟨t0,t1,t2,t3,tl⟩:=bt4 bt;replace hst:=(hst.new hb1).alloc (Obj.cells #[.int .i64 3,.string ⟨#[33]⟩,.int .i64 t.num,.int .i64 t.pos] 66);replace hf:=(hf.new hb1).new (blA _ (Obj.cells #[.int .i64 3,.string ⟨#[33]⟩,.int .i64 t.num,.int .i64 t.pos] 66));clear hb1 hnow;obtain⟨v1,nq9,d0,d1,d2,d3,d4,d5,d6,d7,e2,e3,e4,e5,e6,e7,hp1,va1,vk1,rfl⟩:=hst.g.facts;have hi1:0≤((T.length - s.rest.length:Nat):Int):=(by omega);have hi2:((T.length - s.rest.length:Nat):Int)≤100000:=(by have:=hst.few;omega))
  | (go_at_call 56;refine (renterb hst _ (by decide)).mono ?_;intro e w1 ho;clear hst;rcases ho with⟨r',t9,s1,rfl,hq,rfl,hst,hf1,hd⟩ | ⟨c,q,kb,hq,rfl,hbd,hf1⟩;(replace HM:=hide (signed_open (uh HM) hq (uh HT));replace bt:=BoxAt.tk bt hf1;clear t0 t1 t2 t3 tl;obtain⟨t0,t1,t2,t3,tl⟩:=bt4 bt;replace hf:=hf.step hf1;clear hf1 hq;obtain⟨v1,nq9,d0,d1,d2,d3,d4,d5,d6,d7,e2,e3,e4,e5,e6,e7,hp1,va1,vk1,rfl⟩:=hst.g.facts);rotate_left;(replace HM:=hide (bind_bad (uh HM) hq);replace bt:=BoxAt.tk bt hf1;clear t0 t1 t2 t3 tl;obtain⟨t0,t1,t2,t3,tl⟩:=bt4 bt;replace hf:=hf.step hf1;clear hf1 hq;obtain⟨dd,hgg⟩:=id hbd;obtain⟨v1,nq9,d0,d1,d2,d3,d4,d5,d6,d7,e2,e3,e4,e5,e6,e7,hp1,va1,vk1,rfl⟩:=hgg.facts;clear hgg;replace bt:=bt.setOther (a:=⟨p,3,none⟩) (by show _≠p;omega) (.int .i64 (wrap64 (dd - 1)));replace hf:=hf.step (hbd.deeper (wrap64 (dd - 1))).2;replace hbd:=(hbd.deeper (wrap64 (dd - 1))).1;skip);rotate_left)
  | (go_at_call 137;have hcc:=uh HLO _ rfl;have hcd:=hcc.one _ _ _ hst;clear hcc;refine hcd.mono ?_;clear hcd;intro e w1 ho;clear hst;rcases ho with⟨a,s1,v,hq,rfl,hR,hst,hf1,hd⟩ | ⟨c,q,v,hq,rfl,hR,hbd,hf1⟩;(replace HM:=hide (bind_ok (uh HM) hq);replace bt:=BoxAt.tk bt hf1;clear t0 t1 t2 t3 tl;obtain⟨t0,t1,t2,t3,tl⟩:=bt4 bt;replace hf:=hf.step hf1;unfold RNat at hR;subst hR;clear hf1 hq;obtain⟨v1,nq9,d0,d1,d2,d3,d4,d5,d6,d7,e2,e3,e4,e5,e6,e7,hp1,va1,vk1,rfl⟩:=hst.g.facts;have hu0:1≤((30 - r':Nat):Int):=(by omega);have hu1:((30 - r':Nat):Int)≤30:=(by omega);replace bt:=bt.setOther (a:=⟨p,3,none⟩) (by show _≠p;omega) (.int .i64 (((30 - r':Nat):Int) - 1));replace hf:=hf.step (hst.up (by omega)).2;replace hst:=(hst.up (by omega)).1;skip);rotate_left;(replace HM:=hide (bind_bad (uh HM) hq);replace bt:=BoxAt.tk bt hf1;clear t0 t1 t2 t3 tl;obtain⟨t0,t1,t2,t3,tl⟩:=bt4 bt;replace hf:=hf.step hf1;obtain⟨a,rfl⟩:=hR;clear hf1 hq;obtain⟨dd,hgg⟩:=id hbd;obtain⟨v1,nq9,d0,d1,d2,d3,d4,d5,d6,d7,e2,e3,e4,e5,e6,e7,hp1,va1,vk1,rfl⟩:=hgg.facts;clear hgg;replace bt:=bt.setOther (a:=⟨p,3,none⟩) (by show _≠p;omega) (.int .i64 (wrap64 (dd - 1)));replace hf:=hf.step (hbd.deeper (wrap64 (dd - 1))).2;replace hbd:=(hbd.deeper (wrap64 (dd - 1))).1;skip);rotate_left)
  | (go_at_call_of 113 (1:Nat);refine (rwith1 hst (by omega) (by first | rfl | (simp only [size_set]))).mono ?_;intro e w1 ho;clear hst;obtain⟨k,s1,hq,rfl,hst,hf1,hd⟩:=ho;(first | (replace HM:=hide (bind_ok (uh HM) hq)) | (replace HM:=hide ((uh HM).trans hq)));replace bt:=BoxAt.tk bt hf1;clear t0 t1 t2 t3 tl;obtain⟨t0,t1,t2,t3,tl⟩:=bt4 bt;replace hf:=hf.step hf1;clear hf1 hq)
          | (go_at_call 113;have hlt5:=hbd.lt;refine (rwith_bad (hbd.alloc _) (by omega) _ _ _ _ _).mono ?_;clear hbd;rintro e w1 ⟨v,rfl,hR,hbd,hf1⟩;replace hf1:=RFr.drop hf1 hlt5;replace bt:=BoxAt.tk bt hf1;clear t0 t1 t2 t3 tl;obtain⟨t0,t1,t2,t3,tl⟩:=bt4 bt;replace hf:=hf.step hf1;obtain⟨kb,rfl⟩:=hR;clear hf1 hlt5))
 all_goals
  go_returns
  first
   | exact Or.inl ⟨_,_,_,uh HM,rfl,rfl,hst,hf,by omega⟩
   | exact Or.inr ⟨_,_,_,uh HM,rfl,⟨_,rfl⟩,hbd.more (by omega),hf⟩
set_option maxHeartbeats 16000000 in
set_option maxRecDepth 100000 in
theorem runary_neg {p X T tv r A s w}(h:RSt p X T tv r A s w) (lo:Rd) (hlo:RLos p X T tv r lo) (htx:(look X.size s 0).text=⟨#[45]⟩) :
  Calls Tryz.prog 137 #[.pointer (some ⟨p,0,none⟩)] w (ROut p X T tv r A w.heap.size 2 (phi s+100 * r+40) s w (one X.size r lo s) RNat BNat):=by
 have HA:=h.sep
 have hp:=h.lt
 have hroom:=h.room
 have hcap:=h.cap
 obtain⟨res,hres⟩:∃ res,res=one X.size r lo s:=⟨_,rfl⟩
 rw [← hres]
 have hpu:one X.size r lo s=(signed X.size r lo 44) s:=by
  unfold one
  show (if (look X.size s 0).text=⟨#[33]⟩ then _ else _:M Nat) s=_
  rw [if_neg (by rw [htx];decide),if_pos htx]
 rw [hpu] at hres
 obtain⟨t,HT⟩:∃ t,Hid (look X.size s 0=t):=⟨_,rfl⟩
 rw [uh HT] at htx
 try (rw [uh HT] at hres)
 have HM:=hide hres
 have HLO:=hide hlo
 have hf:=RFr.refl (p:=p) (Nat.le_refl w.heap.size) hp
 have hst:=h
 have HNE:Hid (s.rest≠[]):=(by intro hr;rw [show t=look X.size s 0 from (uh HT).symm,look_nil hr] at htx;simp at htx)
 clear h hres hpu hlo
 have hok:=rlook_ok hst (uh HNE)
 rw [uh HT] at hok
 have HTK:Hid (t.kind=3):=hok.sign (by rw [htx];simp)
 have HTX:=hide htx
 clear hok htx
 replace HM:=hide ((uh HM).trans (signed_at (x:=⟨#[45]⟩) (by rw [uh HT];exact uh HTX) (by simp)))
 go_enter Tryz.func137,Tryz.ntmps137
 go_wp2_with (first
  | (go_at_call 35;have hnow:=rnow_ok hst;rw [uh HT] at hnow;rw [uh HTK] at hnow;rw [uh HTX] at hnow;refine hnow.mono ?_;rintro e w1 ⟨rfl,hb1⟩;have tB:=(hf.new hb1).size;have bt:=BoxAt.made w1 [.int .i64 3,.string ⟨#[45]⟩,.int .i64 t.num,.int .i64 t.pos] 66;obtain⟨t0,t1,t2,t3,tl⟩:=bt4 bt;replace hst:=(hst.new hb1).alloc (Obj.cells #[.int .i64 3,.string ⟨#[45]⟩,.int .i64 t.num,.int .i64 t.pos] 66);replace hf:=(hf.new hb1).new (blA _ (Obj.cells #[.int .i64 3,.string ⟨#[45]⟩,.int .i64 t.num,.int .i64 t.pos] 66));clear hb1 hnow;obtain⟨v1,nq9,d0,d1,d2,d3,d4,d5,d6,d7,e2,e3,e4,e5,e6,e7,hp1,va1,vk1,rfl⟩:=hst.g.facts;have hi1:0≤((T.length - s.rest.length:Nat):Int):=(by omega);have hi2:((T.length - s.rest.length:Nat):Int)≤100000:=(by have:=hst.few;omega))
  | (go_at_call 56;refine (renterb hst _ (by decide)).mono ?_;intro e w1 ho;clear hst;rcases ho with⟨r',t9,s1,rfl,hq,rfl,hst,hf1,hd⟩ | ⟨c,q,kb,hq,rfl,hbd,hf1⟩;(replace HM:=hide (signed_open (uh HM) hq (uh HT));replace bt:=BoxAt.tk bt hf1;clear t0 t1 t2 t3 tl;obtain⟨t0,t1,t2,t3,tl⟩:=bt4 bt;replace hf:=hf.step hf1;clear hf1 hq;obtain⟨v1,nq9,d0,d1,d2,d3,d4,d5,d6,d7,e2,e3,e4,e5,e6,e7,hp1,va1,vk1,rfl⟩:=hst.g.facts);rotate_left;(replace HM:=hide (bind_bad (uh HM) hq);replace bt:=BoxAt.tk bt hf1;clear t0 t1 t2 t3 tl;obtain⟨t0,t1,t2,t3,tl⟩:=bt4 bt;replace hf:=hf.step hf1;clear hf1 hq;obtain⟨dd,hgg⟩:=id hbd;obtain⟨v1,nq9,d0,d1,d2,d3,d4,d5,d6,d7,e2,e3,e4,e5,e6,e7,hp1,va1,vk1,rfl⟩:=hgg.facts;clear hgg;replace bt:=bt.setOther (a:=⟨p,3,none⟩) (by show _≠p;omega) (.int .i64 (wrap64 (dd - 1)));replace hf:=hf.step (hbd.deeper (wrap64 (dd - 1))).2;replace hbd:=(hbd.deeper (wrap64 (dd - 1))).1;skip);rotate_left)
  | (go_at_call 137;have hcc:=uh HLO _ rfl;have hcd:=hcc.one _ _ _ hst;clear hcc;refine hcd.mono ?_;clear hcd;intro e w1 ho;clear hst;rcases ho with⟨a,s1,v,hq,rfl,hR,hst,hf1,hd⟩ | ⟨c,q,v,hq,rfl,hR,hbd,hf1⟩;(replace HM:=hide (bind_ok (uh HM) hq);replace bt:=BoxAt.tk bt hf1;clear t0 t1 t2 t3 tl;obtain⟨t0,t1,t2,t3,tl⟩:=bt4 bt;replace hf:=hf.step hf1;unfold RNat at hR;subst hR;clear hf1 hq;obtain⟨v1,nq9,d0,d1,d2,d3,d4,d5,d6,d7,e2,e3,e4,e5,e6,e7,hp1,va1,vk1,rfl⟩:=hst.g.facts;have hu0:1≤((30 - r':Nat):Int):=(by omega);have hu1:((30 - r':Nat):Int)≤30:=(by omega);replace bt:=bt.setOther (a:=⟨p,3,none⟩) (by show _≠p;omega) (.int .i64 (((30 - r':Nat):Int) - 1));replace hf:=hf.step (hst.up (by omega)).2;replace hst:=(hst.up (by omega)).1;skip);rotate_left;(replace HM:=hide (bind_bad (uh HM) hq);replace bt:=BoxAt.tk bt hf1;clear t0 t1 t2 t3 tl;obtain⟨t0,t1,t2,t3,tl⟩:=bt4 bt;replace hf:=hf.step hf1;obtain⟨a,rfl⟩:=hR;clear hf1 hq;obtain⟨dd,hgg⟩:=id hbd;obtain⟨v1,nq9,d0,d1,d2,d3,d4,d5,d6,d7,e2,e3,e4,e5,e6,e7,hp1,va1,vk1,rfl⟩:=hgg.facts;clear hgg;replace bt:=bt.setOther (a:=⟨p,3,none⟩) (by show _≠p;omega) (.int .i64 (wrap64 (dd - 1)));replace hf:=hf.step (hbd.deeper (wrap64 (dd - 1))).2;replace hbd:=(hbd.deeper (wrap64 (dd - 1))).1;skip);rotate_left)
  | (go_at_call_of 113 (1:Nat);refine (rwith1 hst (by omega) (by first | rfl | (simp only [size_set]))).mono ?_;intro e w1 ho;clear hst;obtain⟨k,s1,hq,rfl,hst,hf1,hd⟩:=ho;(first | (replace HM:=hide (bind_ok (uh HM) hq)) | (replace HM:=hide ((uh HM).trans hq)));replace bt:=BoxAt.tk bt hf1;clear t0 t1 t2 t3 tl;obtain⟨t0,t1,t2,t3,tl⟩:=bt4 bt;replace hf:=hf.step hf1;clear hf1 hq)
          | (go_at_call 113;have hlt5:=hbd.lt;refine (rwith_bad (hbd.alloc _) (by omega) _ _ _ _ _).mono ?_;clear hbd;rintro e w1 ⟨v,rfl,hR,hbd,hf1⟩;replace hf1:=RFr.drop hf1 hlt5;replace bt:=BoxAt.tk bt hf1;clear t0 t1 t2 t3 tl;obtain⟨t0,t1,t2,t3,tl⟩:=bt4 bt;replace hf:=hf.step hf1;obtain⟨kb,rfl⟩:=hR;clear hf1 hlt5))
 all_goals
  go_returns
  first
   | exact Or.inl ⟨_,_,_,uh HM,rfl,rfl,hst,hf,by omega⟩
   | exact Or.inr ⟨_,_,_,uh HM,rfl,⟨_,rfl⟩,hbd.more (by omega),hf⟩
set_option maxHeartbeats 16000000 in
set_option maxRecDepth 100000 in
theorem runary_recv {p X T tv r A s w}(h:RSt p X T tv r A s w) (lo:Rd) (hlo:RLos p X T tv r lo) (htx:(look X.size s 0).text=⟨#[60,45]⟩) :
  Calls Tryz.prog 137 #[.pointer (some ⟨p,0,none⟩)] w (ROut p X T tv r A w.heap.size 2 (phi s+100 * r+40) s w (one X.size r lo s) RNat BNat):=by
 have HA:=h.sep
 have hp:=h.lt
 have hroom:=h.room
 have hcap:=h.cap
 obtain⟨res,hres⟩:∃ res,res=one X.size r lo s:=⟨_,rfl⟩
 rw [← hres]
 have hpu:one X.size r lo s=(signed X.size r lo 45) s:=by
  unfold one
  show (if (look X.size s 0).text=⟨#[33]⟩ then _ else _:M Nat) s=_
  rw [if_neg (by rw [htx];decide),if_neg (by rw [htx];decide),if_pos htx]
 rw [hpu] at hres
 obtain⟨t,HT⟩:∃ t,Hid (look X.size s 0=t):=⟨_,rfl⟩
 rw [uh HT] at htx
 try (rw [uh HT] at hres)
 have HM:=hide hres
 have HLO:=hide hlo
 have hf:=RFr.refl (p:=p) (Nat.le_refl w.heap.size) hp
 have hst:=h
 have HNE:Hid (s.rest≠[]):=(by intro hr;rw [show t=look X.size s 0 from (uh HT).symm,look_nil hr] at htx;simp at htx)
 clear h hres hpu hlo
 have hok:=rlook_ok hst (uh HNE)
 rw [uh HT] at hok
 have HTK:Hid (t.kind=3):=hok.sign (by rw [htx];simp)
 have HTX:=hide htx
 clear hok htx
 replace HM:=hide ((uh HM).trans (signed_at (x:=⟨#[60,45]⟩) (by rw [uh HT];exact uh HTX) (by simp)))
 go_enter Tryz.func137,Tryz.ntmps137
 go_wp2_with (first
  | (go_at_call 35;have hnow:=rnow_ok hst;rw [uh HT] at hnow;rw [uh HTK] at hnow;rw [uh HTX] at hnow;refine hnow.mono ?_;rintro e w1 ⟨rfl,hb1⟩;have tB:=(hf.new hb1).size;have bt:=BoxAt.made w1 [.int .i64 3,.string ⟨#[60,45]⟩,.int .i64 t.num,.int .i64 t.pos] 66;obtain⟨t0,t1,t2,t3,tl⟩:=bt4 bt;replace hst:=(hst.new hb1).alloc (Obj.cells #[.int .i64 3,.string ⟨#[60,45]⟩,.int .i64 t.num,.int .i64 t.pos] 66);replace hf:=(hf.new hb1).new (blA _ (Obj.cells #[.int .i64 3,.string ⟨#[60,45]⟩,.int .i64 t.num,.int .i64 t.pos] 66));clear hb1 hnow;obtain⟨v1,nq9,d0,d1,d2,d3,d4,d5,d6,d7,e2,e3,e4,e5,e6,e7,hp1,va1,vk1,rfl⟩:=hst.g.facts;have hi1:0≤((T.length - s.rest.length:Nat):Int):=(by omega);have hi2:((T.length - s.rest.length:Nat):Int)≤100000:=(by have:=hst.few;omega))
  | (go_at_call 56;refine (renterb hst _ (by decide)).mono ?_;intro e w1 ho;clear hst;rcases ho with⟨r',t9,s1,rfl,hq,rfl,hst,hf1,hd⟩ | ⟨c,q,kb,hq,rfl,hbd,hf1⟩;(replace HM:=hide (signed_open (uh HM) hq (uh HT));replace bt:=BoxAt.tk bt hf1;clear t0 t1 t2 t3 tl;obtain⟨t0,t1,t2,t3,tl⟩:=bt4 bt;replace hf:=hf.step hf1;clear hf1 hq;obtain⟨v1,nq9,d0,d1,d2,d3,d4,d5,d6,d7,e2,e3,e4,e5,e6,e7,hp1,va1,vk1,rfl⟩:=hst.g.facts);rotate_left;(replace HM:=hide (bind_bad (uh HM) hq);replace bt:=BoxAt.tk bt hf1;clear t0 t1 t2 t3 tl;obtain⟨t0,t1,t2,t3,tl⟩:=bt4 bt;replace hf:=hf.step hf1;clear hf1 hq;obtain⟨dd,hgg⟩:=id hbd;obtain⟨v1,nq9,d0,d1,d2,d3,d4,d5,d6,d7,e2,e3,e4,e5,e6,e7,hp1,va1,vk1,rfl⟩:=hgg.facts;clear hgg;replace bt:=bt.setOther (a:=⟨p,3,none⟩) (by show _≠p;omega) (.int .i64 (wrap64 (dd - 1)));replace hf:=hf.step (hbd.deeper (wrap64 (dd - 1))).2;replace hbd:=(hbd.deeper (wrap64 (dd - 1))).1;skip);rotate_left)
  | (go_at_call 137;have hcc:=uh HLO _ rfl;have hcd:=hcc.one _ _ _ hst;clear hcc;refine hcd.mono ?_;clear hcd;intro e w1 ho;clear hst;rcases ho with⟨a,s1,v,hq,rfl,hR,hst,hf1,hd⟩ | ⟨c,q,v,hq,rfl,hR,hbd,hf1⟩;(replace HM:=hide (bind_ok (uh HM) hq);replace bt:=BoxAt.tk bt hf1;clear t0 t1 t2 t3 tl;obtain⟨t0,t1,t2,t3,tl⟩:=bt4 bt;replace hf:=hf.step hf1;unfold RNat at hR;subst hR;clear hf1 hq;obtain⟨v1,nq9,d0,d1,d2,d3,d4,d5,d6,d7,e2,e3,e4,e5,e6,e7,hp1,va1,vk1,rfl⟩:=hst.g.facts;have hu0:1≤((30 - r':Nat):Int):=(by omega);have hu1:((30 - r':Nat):Int)≤30:=(by omega);replace bt:=bt.setOther (a:=⟨p,3,none⟩) (by show _≠p;omega) (.int .i64 (((30 - r':Nat):Int) - 1));replace hf:=hf.step (hst.up (by omega)).2;replace hst:=(hst.up (by omega)).1;skip);rotate_left;(replace HM:=hide (bind_bad (uh HM) hq);replace bt:=BoxAt.tk bt hf1;clear t0 t1 t2 t3 tl;obtain⟨t0,t1,t2,t3,tl⟩:=bt4 bt;replace hf:=hf.step hf1;obtain⟨a,rfl⟩:=hR;clear hf1 hq;obtain⟨dd,hgg⟩:=id hbd;obtain⟨v1,nq9,d0,d1,d2,d3,d4,d5,d6,d7,e2,e3,e4,e5,e6,e7,hp1,va1,vk1,rfl⟩:=hgg.facts;clear hgg;replace bt:=bt.setOther (a:=⟨p,3,none⟩) (by show _≠p;omega) (.int .i64 (wrap64 (dd - 1)));replace hf:=hf.step (hbd.deeper (wrap64 (dd - 1))).2;replace hbd:=(hbd.deeper (wrap64 (dd - 1))).1;skip);rotate_left)
  | (go_at_call_of 113 (1:Nat);refine (rwith1 hst (by omega) (by first | rfl | (simp only [size_set]))).mono ?_;intro e w1 ho;clear hst;obtain⟨k,s1,hq,rfl,hst,hf1,hd⟩:=ho;(first | (replace HM:=hide (bind_ok (uh HM) hq)) | (replace HM:=hide ((uh HM).trans hq)));replace bt:=BoxAt.tk bt hf1;clear t0 t1 t2 t3 tl;obtain⟨t0,t1,t2,t3,tl⟩:=bt4 bt;replace hf:=hf.step hf1;clear hf1 hq)
          | (go_at_call 113;have hlt5:=hbd.lt;refine (rwith_bad (hbd.alloc _) (by omega) _ _ _ _ _).mono ?_;clear hbd;rintro e w1 ⟨v,rfl,hR,hbd,hf1⟩;replace hf1:=RFr.drop hf1 hlt5;replace bt:=BoxAt.tk bt hf1;clear t0 t1 t2 t3 tl;obtain⟨t0,t1,t2,t3,tl⟩:=bt4 bt;replace hf:=hf.step hf1;obtain⟨kb,rfl⟩:=hR;clear hf1 hlt5))
 all_goals
  go_returns
  first
   | exact Or.inl ⟨_,_,_,uh HM,rfl,rfl,hst,hf,by omega⟩
   | exact Or.inr ⟨_,_,_,uh HM,rfl,⟨_,rfl⟩,hbd.more (by omega),hf⟩
end
end Go.Proofs.YtdemnolanlfblaaGreatDoor
