import Derived.Test.YtdemnolanlfblaaGreatDoorYRWrongC
set_option linter.all false
namespace Go.Proofs.YtdemnolanlfblaaGreatDoor
section
open Go.RowKit
theorem rnextb {p X T tv r A s w}(h:RSt p X T tv r A s w) (x:ByteArray) (h0:x≠⟨#[]⟩):Calls Tryz.prog 116 #[.pointer (some ⟨p,0,none⟩),.string x] w (OutB (decide ((look X.size s 1).text=x)) w):=(rnext_ok h x h0).mono fun _ _ ho=>⟨_,ho.1,rfl,ho.2⟩
theorem own_three {w:World}{B a b c:Nat}{v:Value}(h:Ints w B v ([a,b]++[c])):∃ x y,v=.slice x 3 y:=by
 obtain⟨x,y,hv⟩:=own_len h
 exact⟨x,y,hv⟩
theorem Ints.atB {p X T tv c q N A w}{B:Nat}{v:Value}{ks:List Nat}(h:Ints w B v ks) (hs:RBad p X T tv c q N A w) (j:Nat) (u:Value):Ints (w.setCell ⟨p,j,none⟩ u) B v ks:=by
 obtain⟨d,hs⟩:=hs
 obtain⟨v1,n,xs,hblk,_⟩:=hs.own
 exact own_set_ne h (a:=⟨p,j,none⟩) (own_ne h hblk (by decide)) u
theorem else_if {E r:Nat}{lo:Rd}{s:PS}{res:Res Nat}{f:Nat→M Nat}(h:res=M.bind (elsePart E r lo) f s) (hy:decide ((look E s 1).text=⟨#[105,102]⟩)=true):res=((opens E r [⟨#[101,108,115,101]⟩]).bind fun _=>lo.ifs.bind f) s:=by
 rw [h]
 have e:elsePart E r lo s=((opens E r [⟨#[101,108,115,101]⟩]).bind fun _=>lo.ifs) s:=by
  show (if (look E s 1).text=⟨#[105,102]⟩ then _ else _:M Nat) s=_
  rw [if_pos (of_decide_eq_true hy)]
 rw [bind_at,e,← bind_at,bindBind]
theorem else_block {E r:Nat}{lo:Rd}{s:PS}{res:Res Nat}{f:Nat→M Nat}(h:res=M.bind (elsePart E r lo) f s) (hy:decide ((look E s 1).text=⟨#[105,102]⟩)=false):res=((want E [⟨#[101,108,115,101]⟩]).bind fun _=>(block E r lo).bind f) s:=by
 rw [h]
 have e:elsePart E r lo s=((want E [⟨#[101,108,115,101]⟩]).bind fun _=>block E r lo) s:=by
  show (if (look E s 1).text=⟨#[105,102]⟩ then _ else _:M Nat) s=_
  rw [if_neg (of_decide_eq_false hy)]
 rw [bind_at,e,← bind_at,bindBind]
set_option maxHeartbeats 32000000 in
set_option maxRecDepth 100000 in
theorem rbranch_ok {p X T tv r A s w}(h:RSt p X T tv r A s w) (lo:Rd) (hdec:DecRd lo) (hlo:RLos p X T tv r lo) :
  Calls Tryz.prog 114 #[.pointer (some ⟨p,0,none⟩)] w (ROut p X T tv r A w.heap.size 2 (phi s+100 * r+70) s w (ifStmt X.size r lo s) RNat BNat):=by
 have HA:=h.sep
 have hp:=h.lt
 have hroom:=h.room
 have hcap:=h.cap
 obtain⟨res,hres⟩:∃ res,res=ifStmt X.size r lo s:=⟨_,rfl⟩
 rw [← hres]
 unfold ifStmt at hres
 have HM:=hide hres
 have hf:=RFr.refl (p:=p) (Nat.le_refl w.heap.size) hp
 have hst:=h
 clear h hres
 have HLO:=hide hlo
 have HDEC:=hide hdec
 have HFST:=hide hdec
 clear hlo hdec
 go_enter Tryz.func114,Tryz.ntmps114
 go_wp2_with (first
  | (go_at_call_of 37 (⟨#[105,102]⟩:ByteArray);refine (rtakeb hst _ (by decide)).mono ?_;intro e w1 ho;clear hst;rcases ho with⟨t,s1,v,hq,rfl,hR,hst,hf1,hd⟩ | ⟨c,q,v,hq,rfl,hR,hbd,hf1⟩;(replace HM:=hide (bind_ok (uh HM) hq);replace hf:=hf.step hf1;unfold RPos at hR;subst hR;clear hf1 hq);rotate_left;(replace HM:=hide (bind_bad (uh HM) hq);replace hf:=hf.step hf1;obtain⟨kt,rfl⟩:=hR;clear hf1 hq);rotate_left)
  | (go_at_call 37;refine (rtakeb hst _ (by decide)).mono ?_;intro e w1 ho;clear hst;rcases ho with⟨t8,s1,v,hq,rfl,hR,hst,hf1,hd⟩ | ⟨c,q,v,hq,rfl,hR,hbd,hf1⟩;(replace HM:=hide (bind_ok (uh HM) hq);replace hI:=own_rfr hI hf1 (by decide) (by decide);replace hf:=hf.step hf1;unfold RPos at hR;subst hR;clear hf1 hq);rotate_left;(replace hbd:=hbd.unlist;replace HM:=hide (bind_bad (uh HM) hq);replace hI:=own_rfr hI hf1 (by decide) (by decide);replace hf:=hf.step hf1;obtain⟨kt,rfl⟩:=hR;clear hf1 hq);rotate_left)
  | (go_at_call 112;refine (rexpr0_ok hst lo (uh HDEC) (uh HLO)).mono ?_;intro e w1 ho;clear hst;rcases ho with⟨a,s1,v,hq,rfl,hR,hst,hf1,hd⟩ | ⟨c,q,v,hq,rfl,hR,hbd,hf1⟩;(replace HM:=hide (bind_ok (uh HM) hq);replace hf:=hf.step hf1;unfold RNat at hR;subst hR;clear hf1 hq;skip);rotate_left;(replace HM:=hide (bind_bad (uh HM) hq);replace hf:=hf.step hf1;obtain⟨a,rfl⟩:=hR;clear hf1 hq;skip);rotate_left)
  | (go_at_call 112;refine (rexpr_bad hbd (by omega) _).mono ?_;clear hbd;rintro e w1 ⟨v,rfl,hR,hbd,hf1⟩;replace hf:=hf.step hf1;obtain⟨a,rfl⟩:=hR;clear hf1)
  | (go_at_call 62;have hz:Hid (DecRd lo):=HFST;clear HFST hz;refine (rblock_ok hst lo (uh HLO)).mono ?_;intro e w1 ho;clear hst;rcases ho with⟨k2,s1,v,hq,rfl,hR,hst,hf1,hd⟩ | ⟨c,q,v,hq,rfl,hR,hbd,hf1⟩;(replace HM:=hide (bind_ok (uh HM) hq);replace hf:=hf.step hf1;unfold RNat at hR;subst hR;clear hf1 hq;have hI:Ints (w1.alloc (Obj.cells #[.int .i64 (a:Int),.int .i64 (k2:Int)] 3)) w.heap.size (.slice (some ⟨w1.heap.size,0,none⟩) 2 2) [a,k2]:=ints_new hf.size [a,k2] (by simp);replace hst:=hst.freshK (m:=w1.heap.size) (n:=2) (c:=2) rfl (Obj.cells #[.int .i64 (a:Int),.int .i64 (k2:Int)] 3);replace hf:=hf.new (blA _ (Obj.cells #[.int .i64 (a:Int),.int .i64 (k2:Int)] 3));skip);rotate_left;(replace HM:=hide (bind_bad (uh HM) hq);replace hf:=hf.step hf1;obtain⟨k2,rfl⟩:=hR;clear hf1 hq;have hI:Ints (w1.alloc (Obj.cells #[.int .i64 (a:Int),.int .i64 (k2:Int)] 3)) w.heap.size (.slice (some ⟨w1.heap.size,0,none⟩) 2 2) [a,k2]:=ints_new hf.size [a,k2] (by simp);replace hbd:=hbd.alloc (Obj.cells #[.int .i64 (a:Int),.int .i64 (k2:Int)] 3);replace hf:=hf.new (blA _ (Obj.cells #[.int .i64 (a:Int),.int .i64 (k2:Int)] 3));skip);rotate_left)
  | (go_at_call 62;have hz:Hid (DecRd lo):=HFST;clear HFST hz;refine (rblock_bad hbd (by omega)).mono ?_;clear hbd;rintro e w1 ⟨v,rfl,hR,hbd,hf1⟩;replace hf:=hf.step hf1;obtain⟨k2,rfl⟩:=hR;clear hf1;have hI:Ints (w1.alloc (Obj.cells #[.int .i64 (a:Int),.int .i64 (k2:Int)] 3)) w.heap.size (.slice (some ⟨w1.heap.size,0,none⟩) 2 2) [a,k2]:=ints_new hf.size [a,k2] (by simp);replace hbd:=hbd.alloc (Obj.cells #[.int .i64 (a:Int),.int .i64 (k2:Int)] 3);replace hf:=hf.new (blA _ (Obj.cells #[.int .i64 (a:Int),.int .i64 (k2:Int)] 3));skip)
  | (go_at_call 62;refine (rblock_ok hst lo (uh HLO)).mono ?_;intro e w1 ho;clear hst;rcases ho with⟨k3,s1,v,hq,rfl,hR,hst,hf1,hd⟩ | ⟨c,q,v,hq,rfl,hR,hbd,hf1⟩;(replace HM:=hide (bind_ok (uh HM) hq);replace hI:=own_rfr hI hf1 (by decide) (by decide);replace hf:=hf.step hf1;unfold RNat at hR;subst hR;clear hf1 hq;skip;skip);rotate_left;(replace HM:=hide (bind_bad (uh HM) hq);replace hI:=own_rfr hI hf1 (by decide) (by decide);replace hf:=hf.step hf1;obtain⟨k3,rfl⟩:=hR;clear hf1 hq;replace hbd:=hbd.unlist;skip);rotate_left)
  | (go_at_call 62;refine (rblock_bad hbd (by omega)).mono ?_;clear hbd;rintro e w1 ⟨v,rfl,hR,hbd,hf1⟩;replace hI:=own_rfr hI hf1 (by decide) (by decide);replace hf:=hf.step hf1;obtain⟨k3,rfl⟩:=hR;clear hf1)
  | (go_at_call 57;refine (risb hst _ (by decide)).mono ?_;rintro e w1 ⟨y,rfl,hy,hb1⟩;replace hst:=hst.new hb1;replace hI:=own_below hI hb1;replace hf:=hf.new hb1;replace HM:=hide (bind_is (uh HM) hy);clear hb1 hy;cases y;(replace HM:=hide (ite_no (uh HM) rfl));rotate_left;(replace HM:=hide (ite_yes (uh HM) rfl));rotate_left)
  | (go_at_call 57;refine (ris_bad hbd _).mono ?_;rintro e w1 ⟨rfl,hb1⟩;replace hbd:=hbd.new hb1;replace hI:=own_below hI hb1;replace hf:=hf.new hb1;clear hb1)
  | (go_at_call 116;refine (rnextb hst _ (by decide)).mono ?_;rintro e w1 ⟨y,rfl,hy,hb1⟩;replace hst:=hst.new hb1;replace hI:=own_below hI hb1;replace hf:=hf.new hb1;cases y;(try (replace HM:=hide (else_block (uh HM) hy)));rotate_left;(try (replace HM:=hide (else_if (uh HM) hy)));rotate_left;clear hb1)
  | (go_at_call 116;refine (rnext_bad hbd _ (by decide)).mono ?_;rintro e w1 ⟨rfl,hb1⟩;replace hbd:=hbd.new hb1;replace hI:=own_below hI hb1;replace hf:=hf.new hb1;clear hb1)
  | (go_at_call 56;refine (renterb hst _ (by decide)).mono ?_;intro e w1 ho;clear hst;rcases ho with⟨r',t9,s1,rfl,hq,rfl,hst,hf1,hd⟩ | ⟨c,q,kb,hq,rfl,hbd,hf1⟩;(replace HM:=hide (bind_ok (uh HM) hq);replace hI:=own_rfr hI hf1 (by decide) (by decide);replace hf:=hf.step hf1;clear hf1 hq);rotate_left;(replace hbd:=hbd.unlist;replace HM:=hide (bind_bad (uh HM) hq);replace hI:=own_rfr hI hf1 (by decide) (by decide);replace hf:=hf.step hf1;clear hf1 hq);rotate_left)
  | (go_at_call 114;have hcc:=uh HLO _ rfl;have hcd:=hcc.ifs _ _ _ hst;clear hcc;refine hcd.mono ?_;clear hcd;intro e w1 ho;clear hst;rcases ho with⟨k3,s1,v,hq,rfl,hR,hst,hf1,hd⟩ | ⟨c,q,v,hq,rfl,hR,hbd,hf1⟩;(replace HM:=hide (bind_ok (uh HM) hq);replace hI:=own_rfr hI hf1 (by decide) (by decide);replace hf:=hf.step hf1;unfold RNat at hR;subst hR;clear hf1 hq;obtain⟨v1,nq9,d0,d1,d2,d3,d4,d5,d6,d7,e2,e3,e4,e5,e6,e7,hp1,va1,vk1,rfl⟩:=hst.g.facts;have hu0:1≤((30 - r':Nat):Int):=(by omega);have hu1:((30 - r':Nat):Int)≤30:=(by omega);replace hI:=Ints.up hI hst (.int .i64 (((30 - r':Nat):Int) - 1));replace hf:=hf.step (hst.up (by omega)).2;replace hst:=(hst.up (by omega)).1;skip);rotate_left;(replace hbd:=hbd.unlist;replace HM:=hide (bind_bad (uh HM) hq);replace hI:=own_rfr hI hf1 (by decide) (by decide);replace hf:=hf.step hf1;obtain⟨k3,rfl⟩:=hR;clear hf1 hq;obtain⟨dd,hgg⟩:=id hbd;obtain⟨v1,nq9,d0,d1,d2,d3,d4,d5,d6,d7,e2,e3,e4,e5,e6,e7,hp1,va1,vk1,rfl⟩:=hgg.facts;clear hgg;replace hI:=Ints.atB hI hbd 3 (.int .i64 (wrap64 (dd - 1)));replace hf:=hf.step (hbd.deeper (wrap64 (dd - 1))).2;replace hbd:=(hbd.deeper (wrap64 (dd - 1))).1;skip);rotate_left)
  | (go_at_call 114;refine (rbranch_bad hbd (by omega)).mono ?_;clear hbd;rintro e w1 ⟨v,rfl,hR,hbd,hf1⟩;replace hI:=own_rfr hI hf1 (by decide) (by decide);replace hf:=hf.step hf1;obtain⟨k3,rfl⟩:=hR;clear hf1;obtain⟨dd,hgg⟩:=id hbd;obtain⟨v1,nq9,d0,d1,d2,d3,d4,d5,d6,d7,e2,e3,e4,e5,e6,e7,hp1,va1,vk1,rfl⟩:=hgg.facts;clear hgg;replace hI:=Ints.atB hI hbd 3 (.int .i64 (wrap64 (dd - 1)));replace hf:=hf.step (hbd.deeper (wrap64 (dd - 1))).2;replace hbd:=(hbd.deeper (wrap64 (dd - 1))).1;skip)
  | (at_builtin;refine wpList_iapp rfl (.tmp 37) (.tmp 39) rfl w.heap.size _ [a,k2] rfl (hI.alloc _) _ k3 rfl (by simp [go_sem]) (by simp) (by rw [szA];have:=hf.size;omega) ?_;intro v6 w6 hI6 hg6 hv6;obtain⟨va6,vc6,rfl⟩:=own_three hI6;(first | (replace hst:=hst.iapp hI hg6 (hv6.imp id fun hh j hj=>by have:=hh j hj;rw [szA] at this;omega) hI6;replace hf:=hf.iapp hI hp hg6) | (replace hbd:=hbd.iapp hI hg6;replace hf:=hf.iapp hI hp hg6));clear hg6 hv6)
  | (at_builtin;refine wpList_iapp rfl (.tmp 46) (.tmp 48) rfl w.heap.size _ [a,k2] rfl (hI.alloc _) _ k3 rfl (by simp [go_sem]) (by simp) (by rw [szA];have:=hf.size;omega) ?_;intro v6 w6 hI6 hg6 hv6;obtain⟨va6,vc6,rfl⟩:=own_three hI6;(first | (replace hst:=hst.iapp hI hg6 (hv6.imp id fun hh j hj=>by have:=hh j hj;rw [szA] at this;omega) hI6;replace hf:=hf.iapp hI hp hg6) | (replace hbd:=hbd.iapp hI hg6;replace hf:=hf.iapp hI hp hg6));clear hg6 hv6)
  | (go_at_call 113;have hz6:=hI6;refine (rwithL hst.unlist (by omega) (ks:=[a,k2,k3]) hI6 hp HA).mono ?_;intro e w1 ho;clear hst;obtain⟨k,s1,hq,rfl,hst,hf1,hd⟩:=ho;replace HM:=hide ((uh HM).trans hq);replace hf:=hf.step hf1;clear hf1 hq)
  | (go_at_call 113;refine (rwithL hst.unlist (by omega) (ks:=[a,k2]) hI hp HA).mono ?_;intro e w1 ho;clear hst;obtain⟨k,s1,hq,rfl,hst,hf1,hd⟩:=ho;replace HM:=hide ((uh HM).trans hq);replace hf:=hf.step hf1;clear hf1 hq)
  | (go_at_call 113;refine (rwith_bad hbd (by omega) _ _ _ _ _).mono ?_;clear hbd;rintro e w1 ⟨v,rfl,hR,hbd,hf1⟩;replace hf:=hf.step hf1;obtain⟨kb,rfl⟩:=hR;clear hf1))
 all_goals
  go_returns
  first
   | exact Or.inl ⟨_,_,_,uh HM,rfl,rfl,hst,hf,by omega⟩
   | exact Or.inr ⟨_,_,_,uh HM,rfl,⟨_,rfl⟩,hbd.more (by omega),hf⟩
end
end Go.Proofs.YtdemnolanlfblaaGreatDoor
