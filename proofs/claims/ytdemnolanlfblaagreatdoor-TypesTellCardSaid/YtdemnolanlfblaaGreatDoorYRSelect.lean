import Derived.Test.YtdemnolanlfblaaGreatDoorYRTypC
import Derived.Test.YtdemnolanlfblaaGreatDoorYRChoice
set_option linter.all false
namespace Go.Proofs.YtdemnolanlfblaaGreatDoor
section
open Go.RowKit
theorem no_is {E:Nat}{s:PS}{x:ByteArray}(ht:(look E s 0).text=⟨#[41]⟩) (hx:⟨#[41]⟩≠x):¬ isB E s [x]=true:=by
 rw [isB_one,ht]
 simp [hx]
theorem close_text {E:Nat}{s:PS}(h:isB E s [⟨#[41]⟩]=true):(look E s 0).text=⟨#[41]⟩:=by rw [isB_one,decide_eq_true_eq] at h;exact h
theorem typ_close {E r:Nat}{lo:Rd}{s:PS}(h:isB E s [⟨#[41]⟩]=true) (hk:(look E s 0).kind=3):typ E r lo s=.bad 3 (look E s 0).pos:=by
 have ht:=close_text h
 unfold typ
 show (if isB E s [⟨#[105,110,116]⟩]=true then _ else _:M Nat) s=_
 rw [if_neg (no_is ht (by decide))]
 show (if isB E s [⟨#[98,111,111,108]⟩]=true then _ else _:M Nat) s=_
 rw [if_neg (no_is ht (by decide))]
 show (if isB E s [⟨#[42]⟩]=true then _ else _:M Nat) s=_
 rw [if_neg (no_is ht (by decide))]
 show (if isB E s [⟨#[99,104,97,110]⟩]=true then _ else _:M Nat) s=_
 rw [if_neg (no_is ht (by decide))]
 show (if isB E s [⟨#[102,117,110,99]⟩]=true then _ else _:M Nat) s=_
 rw [if_neg (no_is ht (by decide)),named_at,bindBad (wantName_no (by rw [hk];decide))]
theorem first_close {E r:Nat}{lo:Rd}{s:PS}(h:isB E s [⟨#[41]⟩]=true) (hk:(look E s 0).kind=3):first E r lo s=.bad 3 (look E s 0).pos:=by
 have ht:=close_text h
 unfold first
 show (if (look E s 0).text=⟨#[116,114,117,101]⟩ then _ else _:M Nat) s=_
 rw [ht,if_neg (by decide),if_neg (by decide),if_neg (by decide),if_neg (by decide),if_neg (by decide),if_neg (by decide),if_neg (by decide),if_neg (by rw [hk];decide),bindBad (wantName_no (by rw [hk];decide))]
theorem one_close {E r:Nat}{lo:Rd}{s:PS}(h:isB E s [⟨#[41]⟩]=true) (hk:(look E s 0).kind=3):one E r lo s=.bad 3 (look E s 0).pos:=by
 have ht:=close_text h
 unfold one
 show (if (look E s 0).text=⟨#[33]⟩ then _ else _:M Nat) s=_
 rw [ht,if_neg (by decide),if_neg (by decide),if_neg (by decide)]
 show (first E r lo s).andThen _=_
 rw [first_close h hk]
 rfl
theorem expr_close {E r:Nat}{lo:Rd}{s:PS}(h:isB E s [⟨#[41]⟩]=true) (hk:(look E s 0).kind=3):expr E r lo s=.bad 3 (look E s 0).pos:=by
 unfold expr
 rw [row_tails,one_close h hk]
 rfl
end
section
open Go.RowKit
theorem select_yes {E r:Nat}{lo:Rd}{s:PS}{res:Res Nat}{t:Tok}(h:res=selectStmt E r lo s) (ht:look E s 0=t) (htx:t.text=⟨#[115,101,108,101,99,116]⟩):res=selectRest E r lo t.pos { s with rest:=s.rest.tail }:=by
 rw [h]
 unfold selectStmt
 rw [bindOk (want_yes (by rw [isB_one,ht,htx];decide)),ht]
 rfl
set_option maxHeartbeats 16000000 in
set_option maxRecDepth 100000 in
theorem rstmt_select {p X T tv r A s w}(h:RSt p X T tv r A s w) (lo:Rd) (hdec:DecRd lo) (hlo:RLos p X T tv r lo) (htx:(look X.size s 0).text=⟨#[115,101,108,101,99,116]⟩) :
  Calls Tryz.prog 88 #[.pointer (some ⟨p,0,none⟩)] w (ROut p X T tv r A w.heap.size 1 (phi s+100 * r+80) s w (stmt X.size r lo s) RNat BNat):=by
 have HA:=h.sep
 have hp:=h.lt
 have hroom:=h.room
 have hcap:=h.cap
 obtain⟨res,hres⟩:∃ res,res=stmt X.size r lo s:=⟨_,rfl⟩
 rw [← hres]
 have hpu:stmt X.size r lo s=(selectStmt X.size r lo) s:=by
  unfold stmt
  show (if (look X.size s 0).text=⟨#[103,111]⟩ then _ else _:M Nat) s=_
  rw [if_neg (by rw [htx];decide),if_neg (by rw [htx];decide),if_neg (by rw [htx];decide),if_neg (by rw [htx];decide),if_neg (by rw [htx];decide),if_neg (by rw [htx];decide),if_neg (by rw [htx];decide),if_neg (by rw [htx];decide),if_pos htx]
 rw [hpu] at hres
 obtain⟨t,HT⟩:∃ t,Hid (look X.size s 0=t):=⟨_,rfl⟩
 rw [uh HT] at htx
 try (rw [uh HT] at hres)
 have HM:=hide hres
 have HLO:=hide hlo
 have hf:=RFr.refl (p:=p) (Nat.le_refl w.heap.size) hp
 have hst:=h
 have HNE:Hid (s.rest≠[]):=(by intro hr;rw [show t=look X.size s 0 from (uh HT).symm,look_nil hr] at htx;simp at htx)
 clear h hres hpu hlo
 have HDEC:=hide hdec
 clear hdec
 have hok:=rlook_ok hst (uh HNE)
 rw [uh HT] at hok
 have HTK:Hid (t.kind=4):=hok.word (by rw [htx];simp)
 have HTX:=hide htx
 clear hok htx
 replace HM:=hide (select_yes (uh HM) (uh HT) (uh HTX))
 go_enter Tryz.func88,Tryz.ntmps88
 go_wp2_with (first
  | (go_at_call 35;have hnow:=rnow_ok hst;rw [uh HT] at hnow;rw [uh HTK] at hnow;rw [uh HTX] at hnow;refine hnow.mono ?_;rintro e w1 ⟨rfl,hb1⟩;have tB:=(hf.new hb1).size;have bt:=BoxAt.made w1 [.int .i64 4,.string ⟨#[115,101,108,101,99,116]⟩,.int .i64 t.num,.int .i64 t.pos] 66;obtain⟨t0,t1,t2,t3,tl⟩:=bt4 bt;replace hst:=(hst.new hb1).alloc (Obj.cells #[.int .i64 4,.string ⟨#[115,101,108,101,99,116]⟩,.int .i64 t.num,.int .i64 t.pos] 66);replace hf:=(hf.new hb1).new (blA _ (Obj.cells #[.int .i64 4,.string ⟨#[115,101,108,101,99,116]⟩,.int .i64 t.num,.int .i64 t.pos] 66));clear hb1 hnow;obtain⟨v1,nq9,d0,d1,d2,d3,d4,d5,d6,d7,e2,e3,e4,e5,e6,e7,hp1,va1,vk1,rfl⟩:=hst.g.facts;have hi1:0≤((T.length - s.rest.length:Nat):Int):=(by omega);have hi2:((T.length - s.rest.length:Nat):Int)≤100000:=(by have:=hst.few;omega);obtain⟨hst3,hf3,hd3⟩:=hst.onto (uh HNE);replace bt:=bt.setOther (a:=⟨p,2,none⟩) (by show _≠p;omega) (.int .i64 (((T.length - s.rest.length:Nat):Int)+1));replace hf:=hf.step hf3;replace hst:=hst3;clear hst3 hf3;skip)
  | (go_at_call 115;refine (rchoice_ok hst lo (uh HLO) _).mono ?_;intro e w1 ho;clear hst;rcases ho with⟨a,s1,v,hq,rfl,hR,hst,hf1,hd⟩ | ⟨c,q,v,hq,rfl,hR,hbd,hf1⟩;((first | (replace HM:=hide (bind_ok (uh HM) hq)) | (replace HM:=hide ((uh HM).trans hq)));replace bt:=BoxAt.tk bt hf1;clear t0 t1 t2 t3 tl;obtain⟨t0,t1,t2,t3,tl⟩:=bt4 bt;replace hf:=hf.step hf1;unfold RNat at hR;subst hR;clear hf1 hq);rotate_left;((first | (replace HM:=hide (bind_bad (uh HM) hq)) | (replace HM:=hide ((uh HM).trans hq)));replace bt:=BoxAt.tk bt hf1;clear t0 t1 t2 t3 tl;obtain⟨t0,t1,t2,t3,tl⟩:=bt4 bt;replace hf:=hf.step hf1;obtain⟨a,rfl⟩:=hR;clear hf1 hq);rotate_left)
  | (go_at_call 115;refine (rchoice_bad hbd (by omega) _).mono ?_;clear hbd;rintro e w1 ⟨v,rfl,hR,hbd,hf1⟩;replace bt:=BoxAt.tk bt hf1;clear t0 t1 t2 t3 tl;obtain⟨t0,t1,t2,t3,tl⟩:=bt4 bt;replace hf:=hf.step hf1;obtain⟨a,rfl⟩:=hR;clear hf1))
 all_goals
  go_returns
  first
   | exact Or.inl ⟨_,_,_,uh HM,rfl,rfl,hst,hf,by omega⟩
   | exact Or.inr ⟨_,_,_,uh HM,rfl,⟨_,rfl⟩,hbd.more (by omega),hf⟩
theorem rstmt_ok {p X T tv r A s w}(h:RSt p X T tv r A s w) (lo:Rd) (hdec:DecRd lo) (hlo:RLos p X T tv r lo) :
  Calls Tryz.prog 88 #[.pointer (some ⟨p,0,none⟩)] w (ROut p X T tv r A w.heap.size 1 (phi s+100 * r+80) s w (stmt X.size r lo s) RNat BNat):=by
 by_cases h0:(look X.size s 0).text=⟨#[103,111]⟩
 ·exact rstmt_go h lo hdec hlo h0
 by_cases h1:(look X.size s 0).text=⟨#[99,108,111,115,101]⟩
 ·exact rstmt_close h lo hdec hlo h1
 by_cases h2:(look X.size s 0).text=⟨#[112,97,110,105,99]⟩
 ·exact rstmt_panic h lo hdec hlo h2
 by_cases h3:(look X.size s 0).text=⟨#[112,114,105,110,116]⟩
 ·exact rstmt_print h lo hdec hlo h3
 by_cases h4:(look X.size s 0).text=⟨#[105,102]⟩
 ·exact rstmt_if h lo hdec hlo h4
 by_cases h5:(look X.size s 0).text=⟨#[102,111,114]⟩
 ·exact rstmt_for h lo hdec hlo h5
 by_cases h6:(look X.size s 0).text=⟨#[114,101,116,117,114,110]⟩
 ·exact rstmt_return h lo hdec hlo h6
 by_cases h7:(look X.size s 0).text=⟨#[98,114,101,97,107]⟩
 ·exact rstmt_break h lo hdec hlo h7
 by_cases h8:(look X.size s 0).text=⟨#[115,101,108,101,99,116]⟩
 ·exact rstmt_select h lo hdec hlo h8
 have hnx:∀ x ∈ [⟨#[103,111]⟩,⟨#[99,108,111,115,101]⟩,⟨#[112,97,110,105,99]⟩,⟨#[112,114,105,110,116]⟩,⟨#[105,102]⟩,⟨#[102,111,114]⟩,⟨#[114,101,116,117,114,110]⟩,⟨#[98,114,101,97,107]⟩,⟨#[115,101,108,101,99,116]⟩],(look X.size s 0).text≠x:=by
  intro x hx
  simp only [List.mem_cons,List.not_mem_nil,or_false] at hx
  rcases hx with rfl | rfl | rfl | rfl | rfl | rfl | rfl | rfl | rfl <;> assumption
 cases hdf:defines X.size s with
 | true=>exact rstmt_define h lo hdec hlo hnx hdf
 | false=>exact rstmt_plain h lo hdec hlo hnx hdf
theorem rlo_of {p X T tv r lo}(hdec:DecRd lo) (hlo:RLos p X T tv r lo):RLo p X T tv r (readers X.size r lo) :=
 {typ:=fun _ _ _ h=>rtyp_ok h lo hlo
  typs:=fun _ _ _ h=>(rlist_typ h lo.typ 10 (by omega) (fun r' hr=>(hlo r' hr).typ) (fun r' hr=>(hlo r' hr).tclose)).mono fun _ _ ho=>ho
  chan:=⟨lo,rfl,fun r' hr=>(hlo r' hr).typ⟩
  one:=fun _ _ _ h=>runary_ok h lo hlo
  expr:=fun _ _ _ h=>rexpr0_ok h lo hdec hlo
  stmt:=fun _ _ _ h=>rstmt_ok h lo hdec hlo
  ifs:=fun _ _ _ h=>rbranch_ok h lo hdec hlo
  sel:=rfl
  close:=fun _ h hk=>expr_close h hk
  tclose:=fun _ h hk=>typ_close h hk }
theorem rlo_all (p:Nat) (X:ByteArray) (T:List Tok) (tv:Value):∀ r,RLo p X T tv r (rd X.size r)
 | 0=>by
  rw [rd_eq]
  exact rlo_of (decRd_lower X.size 0) fun r' hr=>by omega
 | r+1=>by
  rw [rd_eq]
  refine rlo_of (decRd_lower X.size (r+1)) fun r' hr=>?_
  have:r'=r:=by omega
  subst this
  exact rlo_all p X T tv r'
theorem rlos_all (p:Nat) (X:ByteArray) (T:List Tok) (tv:Value) (r:Nat):RLos p X T tv r (lower X.size r):=by
 intro r' hr
 subst hr
 exact rlo_all p X T tv r'
end
end Go.Proofs.YtdemnolanlfblaaGreatDoor
