import Derived.Test.YtdemnolanlfblaaGreatDoorYRTypC
import Derived.Test.YtdemnolanlfblaaGreatDoorYPStmt
set_option linter.all false
namespace Go.Proofs.YtdemnolanlfblaaGreatDoor
section
open Go.RowKit
theorem rsemi_yes {E:Nat}{s:PS}(h:isB E s [⟨#[125]⟩]=true):semiOf E s=.ok ⟨0,⟨#[]⟩,0,0⟩ s:=by
 show (if isB E s [⟨#[125]⟩]=true then M.ret ⟨0,⟨#[]⟩,0,0⟩ else want E [⟨#[59]⟩]:M Tok) s=_
 rw [if_pos h];rfl
theorem rsemi_no {E:Nat}{s:PS}(h:isB E s [⟨#[125]⟩]=false):semiOf E s=want E [⟨#[59]⟩] s:=by
 show (if isB E s [⟨#[125]⟩]=true then M.ret ⟨0,⟨#[]⟩,0,0⟩ else want E [⟨#[59]⟩]:M Tok) s=_
 rw [if_neg (by rw [h];decide)]
theorem rgo_at {E:Nat}{m:M Nat}{ends:List ByteArray}{n:Nat}{ks:List Nat}{s:PS}:rowsGo E m ends (n+1) ks s=if isB E s ends=true then .ok ks s else (m s).andThen fun a s2=>(semiOf E s2).andThen fun _ s3=>rowsGo E m ends n (ks++[a]) s3:=by
 show (if isB E s ends=true then M.ret ks else m.bind fun k=>(semiOf E).bind fun _=>rowsGo E m ends n (ks++[k]):M (List Nat)) s=_
 rw [ite_at]
 rfl
def RHead (E:Nat) (m:M Nat) (ends:List ByteArray) (res:Res Nat) (cont:List Nat→M Nat) (y:Bool) (n:Nat) (ks:List Nat) (s:PS):Prop:=res=(if y=true then .ok ks s else (m s).andThen fun a s2=>(semiOf E s2).andThen fun _ s3=>rowsGo E m ends n (ks++[a]) s3).andThen cont
section
variable {E:Nat}{m:M Nat}{ends:List ByteArray}{res:Res Nat}{cont:List Nat→M Nat}{n:Nat}{ks:List Nat}{s s2 s3:PS}{a:Nat}{c q:Int}{y:Bool}{t:Tok}
theorem RHead.of (h:res=(rowsGo E m ends (n+1) ks s).andThen cont) (hy:isB E s ends=y):RHead E m ends res cont y n ks s:=by
 unfold RHead
 rw [h,rgo_at,hy]
theorem RHead.item (h:RHead E m ends res cont false n ks s) (hq:m s=.ok a s2):res=((semiOf E s2).andThen fun _ s3=>rowsGo E m ends n (ks++[a]) s3).andThen cont:=by
 unfold RHead at h
 rw [if_neg (by decide),hq] at h
 exact h
theorem RHead.bad (h:RHead E m ends res cont false n ks s) (hq:m s=.bad c q):res=.bad c q:=by
 unfold RHead at h
 rw [if_neg (by decide),hq] at h
 exact h
theorem RHead.shut (h:RHead E m ends res cont true n ks s):res=cont ks s:=by
 unfold RHead at h
 rw [if_pos rfl] at h
 exact h
theorem mid_yes (h:res=((semiOf E s2).andThen fun _ s3=>rowsGo E m ends n ks s3).andThen cont) (hy:isB E s2 [⟨#[125]⟩]=true):res=(rowsGo E m ends n ks s2).andThen cont:=by
 rw [h,rsemi_yes hy];rfl
theorem mid_no (h:res=((semiOf E s2).andThen fun _ s3=>rowsGo E m ends n ks s3).andThen cont) (hy:isB E s2 [⟨#[125]⟩]=false) (hw:want E [⟨#[59]⟩] s2=.ok t s3):res=(rowsGo E m ends n ks s3).andThen cont:=by
 rw [h,rsemi_no hy,hw];rfl
theorem mid_bad (h:res=((semiOf E s2).andThen fun _ s3=>rowsGo E m ends n ks s3).andThen cont) (hy:isB E s2 [⟨#[125]⟩]=false) (hw:want E [⟨#[59]⟩] s2=.bad c q):res=.bad c q:=by
 rw [h,rsemi_no hy,hw];rfl
end
def BRel (p:Nat) (X:ByteArray) (T:List Tok) (tv:Value) (r:Nat) (A:Nat→Prop) (w:World) (s3:PS) (N:Nat) (m:M Nat) (ends:List ByteArray) (res:Res Nat) (cont:List Nat→M Nat) (g:Nat) (a b c d:Value) (k:Nat) (e:Value) (wr:World):Prop :=
 (∃ ks s2 y v,e=.bool y∧phi s2<k∧ks.length+phi s2≤phi s3∧BoxAt wr g [a,b,c,d,v] 36∧Ints wr w.heap.size v ks∧RSt p X T tv r (Au (Ab A g) v) s2 wr∧RFr p w.heap.size w wr∧RHead X.size m ends res cont y (k - 1) ks s2) ∨
 (∃ ks cc q y v,e=.bool y∧ks.length≤900001∧BoxAt wr g [a,b,c,d,v] 36∧Ints wr w.heap.size v ks∧RBad p X T tv cc q N (Ab A g) wr∧RFr p w.heap.size w wr∧res=.bad cc q)
theorem block_at {E r:Nat}{lo:Rd}{s s3:PS}{t t0:Tok}{res:Res Nat}(h:res=block E r lo s) (hq:opens E r [⟨#[123]⟩] s=.ok t s3) (ht:look E s 0=t0):res=(rowsGo E lo.stmt [⟨#[125]⟩] (phi s3+1) [] s3).andThen fun ks=>(want E [⟨#[125]⟩]).bind fun _=>put ⟨16,t0.pos,0,⟨#[]⟩,ks⟩:=by
 rw [h,← ht,← opens_tok hq]
 unfold block braced
 rw [bindBind,bindOk hq,bindBind]
 have e:rows E lo.stmt [⟨#[125]⟩] s3=rowsGo E lo.stmt [⟨#[125]⟩] (phi s3+1) [] s3:=rfl
 rw [← e]
 cases h4:rows E lo.stmt [⟨#[125]⟩] s3 using Res.parts with
 | bad c q=>rw [bindBad h4];rfl
 | ok ks s4 =>
  rw [bindOk h4,bindBind]
  rfl
theorem block_bad {E r:Nat}{lo:Rd}{s:PS}{res:Res Nat}{c q:Int}(h:res=block E r lo s) (hq:opens E r [⟨#[123]⟩] s=.bad c q):res=.bad c q:=by
 rw [h]
 unfold block braced
 rw [bindBind,bindBad hq]
set_option maxHeartbeats 8000000 in
theorem rblock_bad {p X T tv c q N A w}(h:RBad p X T tv c q N A w) (hN:N≤1900000):Calls Tryz.prog 62 #[.pointer (some ⟨p,0,none⟩)] w (WOut p X T tv w.heap.size c q (N+1) A w BNat):=by
 have hp:=h.lt
 have hf:=RFr.refl (p:=p) (Nat.le_refl w.heap.size) hp
 have hbd:=h
 clear h
 go_enter Tryz.func62,Tryz.ntmps62
 go_wp2_with (first
  | (go_at_call 35;refine (rnow_bad hbd).mono ?_;rintro e w1 ⟨rfl,hb1⟩;have tB:=(hf.new hb1).size;have bt:=BoxAt.made w1 [.int .i64 0,.string ⟨#[]⟩,.int .i64 0,.int .i64 (X.size:Int)] 66;obtain⟨t0,t1,t2,t3,tl⟩:=bt4 bt;replace hbd:=(hbd.new hb1).alloc (Obj.cells #[.int .i64 0,.string ⟨#[]⟩,.int .i64 0,.int .i64 (X.size:Int)] 66);replace hf:=(hf.new hb1).new (blA _ (Obj.cells #[.int .i64 0,.string ⟨#[]⟩,.int .i64 0,.int .i64 (X.size:Int)] 66));have nB:=hf.size;have bn:=BoxAt.made (w1.alloc (Obj.cells #[.int .i64 0,.string ⟨#[]⟩,.int .i64 0,.int .i64 (X.size:Int)] 66)) [.int .i64 16,.int .i64 (X.size:Int),.int .i64 0,.string ⟨#[]⟩,.slice none 0 0] 36;rw [szA] at nB bn;obtain⟨n0,n1,n2,n3,n4,nf0,nf1,nf2,nf3,nf4,nl⟩:=bn5 bn;clear t0 t1 t2 t3 tl bt;replace hbd:=hbd.box (Obj.cells #[.int .i64 16,.int .i64 (X.size:Int),.int .i64 0,.string ⟨#[]⟩,.slice none 0 0] 36);rw [szA] at hbd;replace hf:=hf.new (blA _ (Obj.cells #[.int .i64 16,.int .i64 (X.size:Int),.int .i64 0,.string ⟨#[]⟩,.slice none 0 0] 36));clear hb1)
  | (go_at_call 56;refine (renter_bad hbd _).mono ?_;clear hbd;rintro e w1 ⟨v,rfl,hR,hbd,hf1⟩;replace bn:=BoxAt.nd bn hf1;clear n0 n1 n2 n3 n4 nf0 nf1 nf2 nf3 nf4 nl;obtain⟨n0,n1,n2,n3,n4,nf0,nf1,nf2,nf3,nf4,nl⟩:=bn5 bn;replace hf:=hf.step hf1;obtain⟨kb,rfl⟩:=hR;clear hf1)
  | (go_at_call 57;refine (risb hst _ (by decide)).mono ?_;rintro e w1 ⟨y,rfl,hy,hb1⟩;replace hst:=hst.new hb1;replace bn:=bn.new hb1;clear n0 n1 n2 n3 n4 nf0 nf1 nf2 nf3 nf4 nl;obtain⟨n0,n1,n2,n3,n4,nf0,nf1,nf2,nf3,nf4,nl⟩:=bn5 bn;replace hf:=hf.new hb1;replace HM:=hide (bind_is (uh HM) hy);clear hb1;cases y;(try (replace HM:=hide (ite_no (uh HM) rfl)));rotate_left;(try (replace HM:=hide (ite_yes (uh HM) rfl)));(try (have hne:=hide (isB_rest hy (by decide))));(try (clear hy));rotate_left;(try (clear hy)))
          | (go_at_call 57;refine (ris_bad hbd _).mono ?_;rintro e w1 ⟨rfl,hb1⟩;replace hbd:=hbd.new hb1;replace bn:=bn.new hb1;clear n0 n1 n2 n3 n4 nf0 nf1 nf2 nf3 nf4 nl;obtain⟨n0,n1,n2,n3,n4,nf0,nf1,nf2,nf3,nf4,nl⟩:=bn5 bn;replace hf:=hf.new hb1;clear hb1))
 ·obtain⟨dd,hg⟩:=id hbd
  obtain⟨v1,n9,d0,d1,d2,d3,d4,d5,d6,d7,e2,e3,e4,e5,e6,e7,hp1,va1,vk1,rfl⟩:=hg.facts
  clear hg
  go_loopg [5] 1 (fun k e wr=>e=.bool false∧wr=w1)
  case atStart=>exact⟨rfl,rfl⟩
  case round =>
   obtain⟨rfl,rfl⟩:=hrel
   go_wp2_with (first
    | (go_at_call 60;refine (rleave_bad hbd _).mono ?_;clear hbd;rintro e w1 ⟨v,rfl,hR,hbd,hf1⟩;replace bn:=BoxAt.nd bn hf1;clear n0 n1 n2 n3 n4 nf0 nf1 nf2 nf3 nf4 nl;obtain⟨n0,n1,n2,n3,n4,nf0,nf1,nf2,nf3,nf4,nl⟩:=bn5 bn;replace hf:=hf.step hf1;clear hf1 hR)
    | (go_at_call 38;refine (rput_bad hbd.unbox (by omega) _ _ _ _ _ _ _).mono ?_;clear hbd;rintro e w1 ⟨v,rfl,hR,hbd,hf1⟩;replace hf:=hf.step hf1;obtain⟨kb,rfl⟩:=hR;clear hf1))
   go_returns
   exact⟨_,rfl,⟨_,rfl⟩,hbd,hf⟩
set_option maxHeartbeats 16000000 in
theorem rblock_ok {p X T tv r A s w}(h:RSt p X T tv r A s w) (lo:Rd) (hlo:RLos p X T tv r lo) :
  Calls Tryz.prog 62 #[.pointer (some ⟨p,0,none⟩)] w (ROut p X T tv r A w.heap.size 2 (phi s+100 * r+10) s w (block X.size r lo s) RNat BNat):=by
 have HA:=h.sep
 have hp:=h.lt
 have hroom:=h.room
 have hcap:=h.cap
 obtain⟨res,hres⟩:∃ res,res=block X.size r lo s:=⟨_,rfl⟩
 rw [← hres]
 obtain⟨t,HT⟩:∃ t,Hid (look X.size s 0=t):=⟨_,rfl⟩
 have HM:=hide hres
 have HLO:=hide hlo
 have hf:=RFr.refl (p:=p) (Nat.le_refl w.heap.size) hp
 have hst:=h
 clear h hres hlo
 go_enter Tryz.func62,Tryz.ntmps62
 go_wp2_with (first
  | (go_at_call 35;have hnow:=rnow_ok hst;rw [uh HT] at hnow;refine hnow.mono ?_;rintro e w1 ⟨rfl,hb1⟩;have tB:=(hf.new hb1).size;have bt:=BoxAt.made w1 [.int .i64 t.kind,.string t.text,.int .i64 t.num,.int .i64 t.pos] 66;obtain⟨t0,t1,t2,t3,tl⟩:=bt4 bt;replace hst:=(hst.new hb1).alloc (Obj.cells #[.int .i64 t.kind,.string t.text,.int .i64 t.num,.int .i64 t.pos] 66);replace hf:=(hf.new hb1).new (blA _ (Obj.cells #[.int .i64 t.kind,.string t.text,.int .i64 t.num,.int .i64 t.pos] 66));have nB:=hf.size;have bn:=BoxAt.made (w1.alloc (Obj.cells #[.int .i64 t.kind,.string t.text,.int .i64 t.num,.int .i64 t.pos] 66)) [.int .i64 16,.int .i64 t.pos,.int .i64 0,.string ⟨#[]⟩,.slice none 0 0] 36;rw [szA] at nB bn;obtain⟨n0,n1,n2,n3,n4,nf0,nf1,nf2,nf3,nf4,nl⟩:=bn5 bn;clear t0 t1 t2 t3 tl bt;replace hst:=hst.box (Obj.cells #[.int .i64 16,.int .i64 t.pos,.int .i64 0,.string ⟨#[]⟩,.slice none 0 0] 36);rw [szA] at hst;replace hf:=hf.new (blA _ (Obj.cells #[.int .i64 16,.int .i64 t.pos,.int .i64 0,.string ⟨#[]⟩,.slice none 0 0] 36));clear hb1 hnow)
  | (go_at_call 56;refine (renterb hst _ (by decide)).mono ?_;intro e w3 ho;clear hst;rcases ho with⟨r',t9,s3,rfl,hq,rfl,hst,hf1,hd3⟩ | ⟨c,q,kb,hq,rfl,hbd,hf1⟩;(replace HM:=hide (block_at (uh HM) hq (uh HT));replace bn:=BoxAt.nd bn hf1;clear n0 n1 n2 n3 n4 nf0 nf1 nf2 nf3 nf4 nl;obtain⟨n0,n1,n2,n3,n4,nf0,nf1,nf2,nf3,nf4,nl⟩:=bn5 bn;replace hf:=hf.step hf1;clear hf1 hq);rotate_left;(replace HM:=hide (block_bad (uh HM) hq);replace bn:=BoxAt.nd bn hf1;clear n0 n1 n2 n3 n4 nf0 nf1 nf2 nf3 nf4 nl;obtain⟨n0,n1,n2,n3,n4,nf0,nf1,nf2,nf3,nf4,nl⟩:=bn5 bn;replace hf:=hf.step hf1;clear hf1 hq);rotate_left)
  | (go_at_call 57;refine (risb hst _ (by decide)).mono ?_;rintro e w1 ⟨y,rfl,hy,hb1⟩;replace hst:=hst.new hb1;replace bn:=bn.new hb1;clear n0 n1 n2 n3 n4 nf0 nf1 nf2 nf3 nf4 nl;obtain⟨n0,n1,n2,n3,n4,nf0,nf1,nf2,nf3,nf4,nl⟩:=bn5 bn;replace hf:=hf.new hb1;have HL:=RHead.of (uh HM) hy;clear HM hy hb1)
  | (go_at_call 57;refine (ris_bad hbd _).mono ?_;rintro e w1 ⟨rfl,hb1⟩;replace hbd:=hbd.new hb1;replace bn:=bn.new hb1;clear n0 n1 n2 n3 n4 nf0 nf1 nf2 nf3 nf4 nl;obtain⟨n0,n1,n2,n3,n4,nf0,nf1,nf2,nf3,nf4,nl⟩:=bn5 bn;replace hf:=hf.new hb1;clear hb1))
 ·obtain⟨g0,hg0⟩:∃ g0,g0=g0:=⟨0,rfl⟩
  have h0:Hid (BRel p X T tv r' A w s3 (phi s+100 * (r'+1)+9) lo.stmt [⟨#[125]⟩] res _ _ _ _ _ _ (phi s3+1) (.bool y) w1):=Or.inl ⟨[],s3,y,_,rfl,by omega,by simp,bn,World.ownsRow_nil _ _ _ _,hst.empty,hf,HL⟩
  clear hst hf HL bn n0 n1 n2 n3 n4 nf0 nf1 nf2 nf3 nf4 nl hg0
  go_loopg [5] (phi s3+1) (fun k e wr=>BRel p X T tv r' A w s3 (phi s+100 * (r'+1)+9) (lo.stmt) [⟨#[125]⟩] res (_) (_) _ _ _ _ k e wr)
  case atStart=>exact uh h0
  case round =>
   clear h0
   rcases hrel with⟨ks,s2,y,v,rfl,hk,hkl,bn,hI,hst,hf,HL⟩ | ⟨ks,c,q,y,v,rfl,hkl,bn,hI,hbd,hf,hbad⟩
   ·obtain⟨n,rfl⟩:∃ n,gk=n+1:=⟨gk - 1,by omega⟩
    obtain⟨va,vc,rfl⟩:=own_len hI
    obtain⟨v1,n9,d0,d1,d2,d3,d4,d5,d6,d7,e2,e3,e4,e5,e6,e7,hp1,va1,vk1,rfl⟩:=hst.g.facts
    obtain⟨n0,n1,n2,n3,n4,nf0,nf1,nf2,nf3,nf4,nl⟩:=bn5 bn
    cases y with
    | true =>
     have HM:=hide (RHead.shut HL)
     clear HL
     go_wp2_with (first
      | (go_at_call 60;refine (rleaveb hst (by omega) _ (by decide)).mono ?_;intro e w1 ho;clear hst;rcases ho with⟨a,s1,v,hq,rfl,hR,hst,hf1,hd⟩ | ⟨c,q,v,hq,rfl,hR,hbd,hf1⟩;(replace HM:=hide (bind_ok (uh HM) hq);replace bn:=BoxAt.nd bn hf1;clear n0 n1 n2 n3 n4 nf0 nf1 nf2 nf3 nf4 nl;obtain⟨n0,n1,n2,n3,n4,nf0,nf1,nf2,nf3,nf4,nl⟩:=bn5 bn;replace hI:=own_rfr hI hf1 (by decide) (by decide);replace hf:=hf.step hf1;clear hf1 hq hR);rotate_left;(replace hbd:=hbd.unlist;replace HM:=hide (bind_bad (uh HM) hq);replace bn:=BoxAt.nd bn hf1;clear n0 n1 n2 n3 n4 nf0 nf1 nf2 nf3 nf4 nl;obtain⟨n0,n1,n2,n3,n4,nf0,nf1,nf2,nf3,nf4,nl⟩:=bn5 bn;replace hI:=own_rfr hI hf1 (by decide) (by decide);replace hf:=hf.step hf1;clear hf1 hq hR);rotate_left)
      | (go_at_call 38;refine (rputL hst.unlist.unbox (by omega) (ks:=ks) hI hp HA).mono ?_;intro e w1 ho;clear hst;obtain⟨k,s1,hq,rfl,hst,hf1,hd⟩:=ho;replace HM:=hide ((uh HM).trans hq);replace hf:=hf.step hf1;clear hf1 hq)
      | (go_at_call 38;refine (rput_bad hbd.unbox (by omega) _ _ _ _ _ _ _).mono ?_;clear hbd;rintro e w1 ⟨v,rfl,hR,hbd,hf1⟩;replace hf:=hf.step hf1;obtain⟨kb,rfl⟩:=hR;clear hf1))
     all_goals
      go_returns
      first
       | exact Or.inl ⟨_,_,_,uh HM,rfl,rfl,hst,hf,by omega⟩
       | exact Or.inr ⟨_,_,_,uh HM,rfl,⟨_,rfl⟩,hbd.more (by omega),hf⟩
    | false =>
     go_wp2_with (first
      | (go_at_call 88;have hcc:=uh HLO _ rfl;have hcd:=hcc.stmt _ _ _ hst;clear hcc;refine hcd.mono ?_;clear hcd;intro e w5 ho;clear hst;rcases ho with⟨a,s5,v5,hq,rfl,hR,hst,hf5,hd5⟩ | ⟨c,q,v5,hq,rfl,hR,hbd,hf5⟩;(have HM:=hide (RHead.item HL hq);replace bn:=BoxAt.nd bn hf5;clear n0 n1 n2 n3 n4 nf0 nf1 nf2 nf3 nf4 nl;obtain⟨n0,n1,n2,n3,n4,nf0,nf1,nf2,nf3,nf4,nl⟩:=bn5 bn;replace hI:=own_rfr hI hf5 (by decide) (by decide);replace hf:=hf.step hf5;unfold RNat at hR;subst hR;clear hf5 hq HL);rotate_left;(replace hbd:=hbd.unlist;have HM:=hide (RHead.bad HL hq);replace bn:=BoxAt.nd bn hf5;clear n0 n1 n2 n3 n4 nf0 nf1 nf2 nf3 nf4 nl;obtain⟨n0,n1,n2,n3,n4,nf0,nf1,nf2,nf3,nf4,nl⟩:=bn5 bn;replace hI:=own_rfr hI hf5 (by decide) (by decide);replace hf:=hf.step hf5;obtain⟨a,rfl⟩:=hR;clear hf5 hq HL);rotate_left)
      | (at_builtin;refine wpList_iapp rfl (.tmp 28) (.tmp 30) rfl w.heap.size _ ks rfl (hI.alloc _) _ a rfl (by simp [go_sem]) (by omega) (by rw [szA];have:=hf.size;omega) ?_;intro v6 w6 hI6 hg6 hv6;replace bn:=bn_iapp bn hI hg6;clear n0 n1 n2 n3 n4 nf0 nf1 nf2 nf3 nf4 nl;obtain⟨n0,n1,n2,n3,n4,nf0,nf1,nf2,nf3,nf4,nl⟩:=bn5 bn;obtain⟨va6,vc6,rfl⟩:=own_snoc hI6;(first | (replace hst:=hst.iapp hI hg6 (hv6.imp id fun hh j hj=>by have:=hh j hj;rw [szA] at this;omega) hI6;replace hf:=hf.iapp hI hp hg6;replace hst:=hst.nd bn (Or.inl (Or.inr rfl)) 4 (.slice va6 (ks.length+1) vc6);replace hf:=hf.setNd bn (by omega) (by omega) 4 (.slice va6 (ks.length+1) vc6);replace hI6:=Ints.nd hI6 bn 4 (.slice va6 (ks.length+1) vc6);replace bn:=nd4 bn (.slice va6 (ks.length+1) vc6);skip) | (replace hbd:=hbd.iapp hI hg6;replace hf:=hf.iapp hI hp hg6;replace hbd:=hbd.nd bn (Or.inr rfl) 4 (.slice va6 (ks.length+1) vc6);replace hf:=hf.setNd bn (by omega) (by omega) 4 (.slice va6 (ks.length+1) vc6);replace hI6:=Ints.nd hI6 bn 4 (.slice va6 (ks.length+1) vc6);replace bn:=nd4 bn (.slice va6 (ks.length+1) vc6);skip));clear hg6 hv6)
      | (go_at_call 57;have hdone:=hwant;refine (risb hst _ (by decide)).mono ?_;rintro e w8 ⟨y,rfl,hy2,hb8⟩;replace hst:=hst.new hb8;replace bn:=bn.new hb8;clear n0 n1 n2 n3 n4 nf0 nf1 nf2 nf3 nf4 nl;obtain⟨n0,n1,n2,n3,n4,nf0,nf1,nf2,nf3,nf4,nl⟩:=bn5 bn;replace hI6:=own_below hI6 hb8;replace hf:=hf.new hb8;clear hb8 hdone)
      | (go_at_call 57;refine (risb hst _ (by decide)).mono ?_;rintro e w8 ⟨y,rfl,hy,hb8⟩;replace hst:=hst.new hb8;replace bn:=bn.new hb8;clear n0 n1 n2 n3 n4 nf0 nf1 nf2 nf3 nf4 nl;obtain⟨n0,n1,n2,n3,n4,nf0,nf1,nf2,nf3,nf4,nl⟩:=bn5 bn;replace hI6:=own_below hI6 hb8;replace hf:=hf.new hb8;clear hb8;cases y)
      | (go_at_call 57;refine (ris_bad hbd _).mono ?_;rintro e w8 ⟨rfl,hb8⟩;replace hbd:=hbd.new hb8;replace bn:=bn.new hb8;clear n0 n1 n2 n3 n4 nf0 nf1 nf2 nf3 nf4 nl;obtain⟨n0,n1,n2,n3,n4,nf0,nf1,nf2,nf3,nf4,nl⟩:=bn5 bn;replace hI6:=own_below hI6 hb8;replace hf:=hf.new hb8;clear hb8)
      | (go_at_call 37;refine (rtakeb hst _ (by decide)).mono ?_;intro e w9 ho;clear hst;rcases ho with⟨a9,s9,v9,hwant,rfl,hR,hst,hf9,hd9⟩ | ⟨c,q,v9,hq,rfl,hR,hbd,hf9⟩;( replace bn:=BoxAt.nd bn hf9;clear n0 n1 n2 n3 n4 nf0 nf1 nf2 nf3 nf4 nl;obtain⟨n0,n1,n2,n3,n4,nf0,nf1,nf2,nf3,nf4,nl⟩:=bn5 bn;replace hI6:=own_rfr hI6 hf9 (by decide) (by decide);replace hf:=hf.step hf9;unfold RPos at hR;subst hR;clear hf9);rotate_left;(replace hbd:=hbd.unlist;replace HM:=hide (mid_bad (uh HM) hy hq);replace bn:=BoxAt.nd bn hf9;clear n0 n1 n2 n3 n4 nf0 nf1 nf2 nf3 nf4 nl;obtain⟨n0,n1,n2,n3,n4,nf0,nf1,nf2,nf3,nf4,nl⟩:=bn5 bn;replace hI6:=own_rfr hI6 hf9 (by decide) (by decide);replace hf:=hf.step hf9;obtain⟨kb,rfl⟩:=hR;clear hf9 hq hy);rotate_left)
      | (go_at_call 37;refine (rtake_bad hbd _).mono ?_;clear hbd;rintro e w9 ⟨v9,rfl,hR,hbd,hf9⟩;replace bn:=BoxAt.nd bn hf9;clear n0 n1 n2 n3 n4 nf0 nf1 nf2 nf3 nf4 nl;obtain⟨n0,n1,n2,n3,n4,nf0,nf1,nf2,nf3,nf4,nl⟩:=bn5 bn;replace hI6:=own_rfr hI6 hf9 (by decide) (by decide);replace hf:=hf.step hf9;obtain⟨kb,rfl⟩:=hR;clear hf9))
     all_goals
      go_roundg n
      case measure=>omega
      case rel =>
       first
        | exact Or.inl ⟨ks++[a],_,true,_,rfl,by omega,by simp;omega,bn,hI6,hst,hf,by obtain⟨nn,hnn⟩:∃ nn,n=nn+1:=⟨n - 1,by omega⟩;subst hnn;exact RHead.of (mid_yes (uh HM) hy) hy⟩
        | exact Or.inl ⟨ks++[a],_,_,_,rfl,by omega,by simp;omega,bn,hI6,hst,hf,by obtain⟨nn,hnn⟩:∃ nn,n=nn+1:=⟨n - 1,by omega⟩;subst hnn;exact RHead.of (mid_no (uh HM) hy hwant) hy2⟩
        | exact Or.inr ⟨ks++[a],_,_,_,_,rfl,by simp;omega,bn,hI6,hbd.more (by omega),hf,uh HM⟩
   ·obtain⟨va,vc,rfl⟩:=own_len hI
    obtain⟨dd,hg⟩:=id hbd
    obtain⟨v1,n9,d0,d1,d2,d3,d4,d5,d6,d7,e2,e3,e4,e5,e6,e7,hp1,va1,vk1,rfl⟩:=hg.facts
    obtain⟨n0,n1,n2,n3,n4,nf0,nf1,nf2,nf3,nf4,nl⟩:=bn5 bn
    clear hg
    have HM:=hide hbad
    clear hbad
    cases y
    all_goals
     go_wp2_with (first
      | (go_at_call 60;refine (rleave_bad hbd _).mono ?_;clear hbd;rintro e w1 ⟨v,rfl,hR,hbd,hf1⟩;replace bn:=BoxAt.nd bn hf1;clear n0 n1 n2 n3 n4 nf0 nf1 nf2 nf3 nf4 nl;obtain⟨n0,n1,n2,n3,n4,nf0,nf1,nf2,nf3,nf4,nl⟩:=bn5 bn;replace hI:=own_rfr hI hf1 (by decide) (by decide);replace hf:=hf.step hf1;clear hf1 hR)
      | (go_at_call 38;refine (rput_bad hbd.unbox (by omega) _ _ _ _ _ _ _).mono ?_;clear hbd;rintro e w1 ⟨v,rfl,hR,hbd,hf1⟩;replace hf:=hf.step hf1;obtain⟨kb,rfl⟩:=hR;clear hf1))
     go_returns
     exact Or.inr ⟨_,_,_,uh HM,rfl,⟨_,rfl⟩,hbd.more (by omega),hf⟩
 ·obtain⟨dd,hg⟩:=id hbd
  obtain⟨v1,n9,d0,d1,d2,d3,d4,d5,d6,d7,e2,e3,e4,e5,e6,e7,hp1,va1,vk1,rfl⟩:=hg.facts
  clear hg
  go_loopg [5] 1 (fun k e wr=>e=.bool false∧wr=w1)
  case atStart=>exact⟨rfl,rfl⟩
  case round =>
   obtain⟨rfl,rfl⟩:=hrel
   go_wp2_with (first
    | (go_at_call 60;refine (rleave_bad hbd _).mono ?_;clear hbd;rintro e w1 ⟨v,rfl,hR,hbd,hf1⟩;replace bn:=BoxAt.nd bn hf1;clear n0 n1 n2 n3 n4 nf0 nf1 nf2 nf3 nf4 nl;obtain⟨n0,n1,n2,n3,n4,nf0,nf1,nf2,nf3,nf4,nl⟩:=bn5 bn;replace hf:=hf.step hf1;clear hf1 hR)
    | (go_at_call 38;refine (rput_bad hbd.unbox (by omega) _ _ _ _ _ _ _).mono ?_;clear hbd;rintro e w1 ⟨v,rfl,hR,hbd,hf1⟩;replace hf:=hf.step hf1;obtain⟨kb,rfl⟩:=hR;clear hf1))
   go_returns
   exact Or.inr ⟨_,_,_,uh HM,rfl,⟨_,rfl⟩,hbd.more (by omega),hf⟩
end
section
open Go.RowKit
set_option maxHeartbeats 4000000 in
theorem rlevel_any (x:ByteArray) (w:World):Calls Tryz.prog 138 #[.string x] w fun e w'=>e=.returned (.int .i64 ((signLevel x:Nat):Int))∧w'=w:=by
 by_cases h0:x=⟨#[124,124]⟩
 ·subst h0
  have hl:signLevel ⟨#[124,124]⟩=1:=by decide
  rw [hl]
  go_enter Tryz.func138,Tryz.ntmps138
  go_wp2
  go_ret
  exact⟨rfl,rfl⟩
 by_cases h1:x=⟨#[38,38]⟩
 ·subst h1
  have hl:signLevel ⟨#[38,38]⟩=2:=by decide
  rw [hl]
  go_enter Tryz.func138,Tryz.ntmps138
  go_wp2
  go_ret
  exact⟨rfl,rfl⟩
 by_cases h2:x=⟨#[61,61]⟩
 ·subst h2
  have hl:signLevel ⟨#[61,61]⟩=3:=by decide
  rw [hl]
  go_enter Tryz.func138,Tryz.ntmps138
  go_wp2
  go_ret
  exact⟨rfl,rfl⟩
 by_cases h3:x=⟨#[33,61]⟩
 ·subst h3
  have hl:signLevel ⟨#[33,61]⟩=3:=by decide
  rw [hl]
  go_enter Tryz.func138,Tryz.ntmps138
  go_wp2
  go_ret
  exact⟨rfl,rfl⟩
 by_cases h4:x=⟨#[60]⟩
 ·subst h4
  have hl:signLevel ⟨#[60]⟩=3:=by decide
  rw [hl]
  go_enter Tryz.func138,Tryz.ntmps138
  go_wp2
  go_ret
  exact⟨rfl,rfl⟩
 by_cases h5:x=⟨#[60,61]⟩
 ·subst h5
  have hl:signLevel ⟨#[60,61]⟩=3:=by decide
  rw [hl]
  go_enter Tryz.func138,Tryz.ntmps138
  go_wp2
  go_ret
  exact⟨rfl,rfl⟩
 by_cases h6:x=⟨#[62]⟩
 ·subst h6
  have hl:signLevel ⟨#[62]⟩=3:=by decide
  rw [hl]
  go_enter Tryz.func138,Tryz.ntmps138
  go_wp2
  go_ret
  exact⟨rfl,rfl⟩
 by_cases h7:x=⟨#[62,61]⟩
 ·subst h7
  have hl:signLevel ⟨#[62,61]⟩=3:=by decide
  rw [hl]
  go_enter Tryz.func138,Tryz.ntmps138
  go_wp2
  go_ret
  exact⟨rfl,rfl⟩
 by_cases h8:x=⟨#[43]⟩
 ·subst h8
  have hl:signLevel ⟨#[43]⟩=4:=by decide
  rw [hl]
  go_enter Tryz.func138,Tryz.ntmps138
  go_wp2
  go_ret
  exact⟨rfl,rfl⟩
 by_cases h9:x=⟨#[45]⟩
 ·subst h9
  have hl:signLevel ⟨#[45]⟩=4:=by decide
  rw [hl]
  go_enter Tryz.func138,Tryz.ntmps138
  go_wp2
  go_ret
  exact⟨rfl,rfl⟩
 by_cases h10:x=⟨#[42]⟩
 ·subst h10
  have hl:signLevel ⟨#[42]⟩=5:=by decide
  rw [hl]
  go_enter Tryz.func138,Tryz.ntmps138
  go_wp2
  go_ret
  exact⟨rfl,rfl⟩
 by_cases h11:x=⟨#[47]⟩
 ·subst h11
  have hl:signLevel ⟨#[47]⟩=5:=by decide
  rw [hl]
  go_enter Tryz.func138,Tryz.ntmps138
  go_wp2
  go_ret
  exact⟨rfl,rfl⟩
 by_cases h12:x=⟨#[37]⟩
 ·subst h12
  have hl:signLevel ⟨#[37]⟩=5:=by decide
  rw [hl]
  go_enter Tryz.func138,Tryz.ntmps138
  go_wp2
  go_ret
  exact⟨rfl,rfl⟩
 have hl:signLevel x=0:=by
  unfold signLevel
  simp [h0,h1,h2,h3,h4,h5,h6,h7,h8,h9,h10,h11,h12]
 rw [hl]
 have n0:(x.toList == [124,124])=false:=text_ne h0
 have n1:(x.toList == [38,38])=false:=text_ne h1
 have n2:(x.toList == [61,61])=false:=text_ne h2
 have n3:(x.toList == [33,61])=false:=text_ne h3
 have n4:(x.toList == [60])=false:=text_ne h4
 have n5:(x.toList == [60,61])=false:=text_ne h5
 have n6:(x.toList == [62])=false:=text_ne h6
 have n7:(x.toList == [62,61])=false:=text_ne h7
 have n8:(x.toList == [43])=false:=text_ne h8
 have n9:(x.toList == [45])=false:=text_ne h9
 have n10:(x.toList == [42])=false:=text_ne h10
 have n11:(x.toList == [47])=false:=text_ne h11
 have n12:(x.toList == [37])=false:=text_ne h12
 go_enter Tryz.func138,Tryz.ntmps138
 go_wp2
 go_ret
 exact⟨rfl,rfl⟩
theorem RSt.onto {p X T tv r A s w}(h:RSt p X T tv r A s w) (hne:s.rest≠[]):RSt p X T tv r A { s with rest:=s.rest.tail } (w.setCell ⟨p,2,none⟩ (.int .i64 (((T.length - s.rest.length:Nat):Int)+1)))∧RFr p w.heap.size w (w.setCell ⟨p,2,none⟩ (.int .i64 (((T.length - s.rest.length:Nat):Int)+1)))∧phi { s with rest:=s.rest.tail }+3≤phi s:=by
 have hp:=h.lt
 exact h.onward hne (by (repeat (first | exact Off.refl _ _ | with_reducible assumption | (refine Off.set ?_ (by first | exact Or.inl rfl | (right;simp;done) | (right;simp;omega))) | refine Off.drewN ?_ | refine Off.drew ?_ | refine Off.alloc ?_))) (d':=((30 - r:Nat):Int)) r h.room (fun v' hv'=>by (apply blk_eq;(case h=>(repeat (first | with_reducible assumption | with_reducible apply blk_alloc | with_reducible apply block_set | (with_reducible refine blk_other ?_ (by first | (show p≠_;omega) | (simp;omega))))));rfl)) rfl
theorem level_kind {p X T tv r A s w}(h:RSt p X T tv r A s w) (hk:¬ (look X.size s 0).kind=3):signLevel (look X.size s 0).text=0:=by
 by_cases hne:s.rest = []
 ·rw [look_nil hne];exact signLevel_nil
 ·have hok:=rlook_ok h hne
  unfold signLevel
  have hx:∀ x:ByteArray,x ∈ [⟨#[40]⟩,⟨#[41]⟩,⟨#[123]⟩,⟨#[125]⟩,⟨#[44]⟩,⟨#[59]⟩,⟨#[46]⟩,⟨#[58]⟩,⟨#[61]⟩,⟨#[58,61]⟩,⟨#[60,45]⟩,⟨#[33]⟩,⟨#[45]⟩,⟨#[43]⟩,⟨#[42]⟩,⟨#[47]⟩,⟨#[37]⟩,⟨#[61,61]⟩,⟨#[33,61]⟩,⟨#[60]⟩,⟨#[60,61]⟩,⟨#[62]⟩,⟨#[62,61]⟩,⟨#[38,38]⟩,⟨#[124,124]⟩]→(look X.size s 0).text≠x:=fun x hx he=>hk (hok.sign (by rw [he];exact hx))
  rw [if_neg (hx _ (by simp)),if_neg (hx _ (by simp)),if_neg (by simp only [not_or];exact⟨hx _ (by simp),hx _ (by simp),hx _ (by simp),hx _ (by simp),hx _ (by simp),hx _ (by simp)⟩),if_neg (by simp only [not_or];exact⟨hx _ (by simp),hx _ (by simp)⟩),if_neg (by simp only [not_or];exact⟨hx _ (by simp),hx _ (by simp),hx _ (by simp)⟩)]
section
variable {p:Nat}{X:ByteArray}{T:List Tok}{tv:Value}{c q:Int}{N:Nat}{A:Nat→Prop}{w:World}
set_option maxHeartbeats 4000000 in
set_option maxRecDepth 100000 in
theorem rfirst_bad (h:RBad p X T tv c q N A w) (hN:N≤1900000):Calls Tryz.prog 156 #[.pointer (some ⟨p,0,none⟩)] w (WOut p X T tv w.heap.size c q (N+1) A w BNat):=by
 have hp:=h.lt
 have hf:=RFr.refl (p:=p) (Nat.le_refl w.heap.size) hp
 have hbd:=h
 clear h
 go_enter Tryz.func156,Tryz.ntmps156
 go_wp2_with (first
  | (go_at_call 35;refine (rnow_bad hbd).mono ?_;rintro e w1 ⟨rfl,hb1⟩;have tB:=(hf.new hb1).size;have bt:=BoxAt.made w1 [.int .i64 0,.string ⟨#[]⟩,.int .i64 0,.int .i64 (X.size:Int)] 66;obtain⟨t0,t1,t2,t3,tl⟩:=bt4 bt;replace hbd:=(hbd.new hb1).alloc (Obj.cells #[.int .i64 0,.string ⟨#[]⟩,.int .i64 0,.int .i64 (X.size:Int)] 66);replace hf:=(hf.new hb1).new (blA _ (Obj.cells #[.int .i64 0,.string ⟨#[]⟩,.int .i64 0,.int .i64 (X.size:Int)] 66));clear hb1)
  | (go_at_call 57;refine (risb hst _ (by decide)).mono ?_;rintro e w1 ⟨y,rfl,hy,hb1⟩;replace hst:=hst.new hb1;replace bt:=bt.new hb1;clear t0 t1 t2 t3 tl;obtain⟨t0,t1,t2,t3,tl⟩:=bt4 bt;replace hf:=hf.new hb1;replace HM:=hide (bind_is (uh HM) hy);clear hb1;cases y;(try (replace HM:=hide (ite_no (uh HM) rfl)));rotate_left;(try (replace HM:=hide (ite_yes (uh HM) rfl)));(try (have hne:=hide (isB_rest hy (by decide))));(try (clear hy));rotate_left;(try (clear hy)))
          | (go_at_call 57;refine (ris_bad hbd _).mono ?_;rintro e w1 ⟨rfl,hb1⟩;replace hbd:=hbd.new hb1;replace bt:=bt.new hb1;clear t0 t1 t2 t3 tl;obtain⟨t0,t1,t2,t3,tl⟩:=bt4 bt;replace hf:=hf.new hb1;clear hb1)
  | (go_at_call 55;refine (rname_bad hbd).mono ?_;clear hbd;rintro e w1 ⟨v,rfl,hR,hbd,hf1⟩;replace bt:=BoxAt.tk bt hf1;clear t0 t1 t2 t3 tl;obtain⟨t0,t1,t2,t3,tl⟩:=bt4 bt;replace hf:=hf.step hf1;obtain⟨kb,rfl⟩:=hR;clear hf1)
  | (go_at_call 38;refine (rput0 hst (by omega)).mono ?_;intro e w1 ho;clear hst;obtain⟨k,s1,hq,rfl,hst,hf1,hd⟩:=ho;(first | (replace HM:=hide (bind_ok (uh HM) hq)) | (replace HM:=hide ((uh HM).trans hq)));replace bt:=BoxAt.tk bt hf1;clear t0 t1 t2 t3 tl;obtain⟨t0,t1,t2,t3,tl⟩:=bt4 bt;replace hf:=hf.step hf1;clear hf1 hq)
          | (go_at_call 38;have hlt5:=hbd.lt;refine (rput_bad hbd (by omega) _ _ _ _ _ _ _).mono ?_;clear hbd;rintro e w1 ⟨v,rfl,hR,hbd,hf1⟩; replace bt:=BoxAt.tk bt hf1;clear t0 t1 t2 t3 tl;obtain⟨t0,t1,t2,t3,tl⟩:=bt4 bt;replace hf:=hf.step hf1;obtain⟨kb,rfl⟩:=hR;clear hf1 hlt5))
 go_returns
 exact⟨_,rfl,⟨_,rfl⟩,hbd,hf⟩
set_option maxHeartbeats 4000000 in
set_option maxRecDepth 100000 in
theorem runary_bad (h:RBad p X T tv c q N A w) (hN:N≤1900000):Calls Tryz.prog 137 #[.pointer (some ⟨p,0,none⟩)] w (WOut p X T tv w.heap.size c q (N+1) A w BNat):=by
 have hp:=h.lt
 have hf:=RFr.refl (p:=p) (Nat.le_refl w.heap.size) hp
 have hbd:=h
 clear h
 go_enter Tryz.func137,Tryz.ntmps137
 go_wp2_with (first
  | (go_at_call 35;refine (rnow_bad hbd).mono ?_;rintro e w1 ⟨rfl,hb1⟩;have tB:=(hf.new hb1).size;have bt:=BoxAt.made w1 [.int .i64 0,.string ⟨#[]⟩,.int .i64 0,.int .i64 (X.size:Int)] 66;obtain⟨t0,t1,t2,t3,tl⟩:=bt4 bt;replace hbd:=(hbd.new hb1).alloc (Obj.cells #[.int .i64 0,.string ⟨#[]⟩,.int .i64 0,.int .i64 (X.size:Int)] 66);replace hf:=(hf.new hb1).new (blA _ (Obj.cells #[.int .i64 0,.string ⟨#[]⟩,.int .i64 0,.int .i64 (X.size:Int)] 66));clear hb1)
  | (go_at_call 156;refine (rfirst_bad hbd hN).mono ?_;clear hbd;rintro e w1 ⟨v,rfl,hR,hbd,hf1⟩;replace bt:=BoxAt.tk bt hf1;clear t0 t1 t2 t3 tl;obtain⟨t0,t1,t2,t3,tl⟩:=bt4 bt;replace hf:=hf.step hf1;obtain⟨kb,rfl⟩:=hR;clear hf1))
 obtain⟨dd,hg⟩:=id hbd
 obtain⟨v1,n1,d0,d1,d2,d3,d4,d5,d6,d7,e2,e3,e4,e5,e6,e7,hp1,va1,vk1,rfl⟩:=hg.facts
 clear hg
 go_loopg [6] 1 (fun k e wr=>e=.int .i64 (kb:Int)∧wr=w1)
 case atStart=>exact⟨rfl,rfl⟩
 case round =>
  obtain⟨rfl,rfl⟩:=hrel
  go_wp2
  go_returns
  exact⟨_,rfl,⟨_,rfl⟩,hbd,hf⟩
set_option maxHeartbeats 4000000 in
set_option maxRecDepth 100000 in
theorem rexpr_bad (h:RBad p X T tv c q N A w) (hN:N≤1900000) (l:Int):Calls Tryz.prog 112 #[.pointer (some ⟨p,0,none⟩),.int .i64 l] w (WOut p X T tv w.heap.size c q (N+1) A w BNat):=by
 have hp:=h.lt
 have hf:=RFr.refl (p:=p) (Nat.le_refl w.heap.size) hp
 have hbd:=h
 clear h
 go_enter Tryz.func112,Tryz.ntmps112
 go_wp2_with ((go_at_call 137;refine (runary_bad hbd hN).mono ?_;clear hbd;rintro e w1 ⟨v,rfl,hR,hbd,hf1⟩;replace hf:=hf.step hf1;obtain⟨kb,rfl⟩:=hR;clear hf1))
 obtain⟨dd,hg⟩:=id hbd
 obtain⟨v1,n1,d0,d1,d2,d3,d4,d5,d6,d7,e2,e3,e4,e5,e6,e7,hp1,va1,vk1,rfl⟩:=hg.facts
 clear hg
 go_loopg [5] 1 (fun k e wr=>e=.int .i64 (kb:Int)∧wr=w1)
 case atStart=>exact⟨rfl,rfl⟩
 case round =>
  obtain⟨rfl,rfl⟩:=hrel
  go_wp2
  go_returns
  exact⟨_,rfl,⟨_,rfl⟩,hbd,hf⟩
end
def ERel (p:Nat) (X:ByteArray) (T:List Tok) (tv:Value) (r:Nat) (A:Nat→Prop) (w:World) (s1:PS) (N:Nat) (o:M Nat) (m:Nat) (res:Res Nat) (k:Nat) (v:Value) (wr:World):Prop :=
 (∃ (a:Nat) (s2:PS),v=.int .i64 (a:Int)∧phi s2<k∧phi s2≤phi s1∧RSt p X T tv r A s2 wr∧RFr p w.heap.size w wr∧res=tails X.size o m a s2) ∨
 (∃ (a:Nat) (c q:Int),v=.int .i64 (a:Int)∧RBad p X T tv c q N A wr∧RFr p w.heap.size w wr∧res=.bad c q)
theorem step_ok {E:Nat}{o:M Nat}(ho:Dec Any 2 o) {a m l:Nat}{s:PS}{res:Res Nat}(h:res=tails E o m a s) (hm:m≤5) (hl:signLevel (look E s 0).text=l) (hlt:5 - m<l):res=((row E o (5 - l)).bind fun b=>(put ⟨46,(look E s 0).pos,0,(look E s 0).text,[a,b]⟩).bind fun a'=>tails E o m a') { s with rest:=s.rest.tail }:=by
 have hle:=signLevel_le (look E s 0).text
 rw [h,tails_step ho (j:=5 - l) (by omega) m hm (by omega)]
 rfl
set_option maxHeartbeats 16000000 in
theorem rexpr_ok {p X T tv r}(o:M Nat) (hdec:Dec Any 2 o) (hun:∀ A',RReads p X T tv r A' 2 40 137 #[.pointer (some ⟨p,0,none⟩)] o):∀ (d l:Nat),l≤5→5 - l=d→∀ {A s w},RSt p X T tv r A s w →
  Calls Tryz.prog 112 #[.pointer (some ⟨p,0,none⟩),.int .i64 (l:Int)] w (ROut p X T tv r A w.heap.size 2 (phi s+100 * r+(50+d)) s w (row X.size o d s) RNat BNat):=by
 intro d
 induction d using Nat.strongRecOn with
 | _ d ih =>
 intro l hl5 hld A s w h
 have hp:=h.lt
 have hroom:=h.room
 have hcap:=h.cap
 obtain⟨res,hres⟩:∃ res,res=row X.size o d s:=⟨_,rfl⟩
 rw [← hres]
 rw [row_tails] at hres
 have HM:=hide hres
 have HUN:=hide hun
 have IH:=hide ih
 have hf:=RFr.refl (p:=p) (Nat.le_refl w.heap.size) hp
 have hst:=h
 clear h hres hun ih
 go_enter Tryz.func112,Tryz.ntmps112
 go_wp2_with ((go_at_call 137;have hcc:=uh HUN;have hcd:=hcc _ _ _ hst;clear hcc;refine hcd.mono ?_;clear hcd;intro e w1 ho;clear hst;rcases ho with⟨a,s1,v,hq,rfl,hR,hst,hf1,hd⟩ | ⟨c,q,v,hq,rfl,hR,hbd,hf1⟩;(rw [hq] at HM;replace hf:=hf.step hf1;unfold RNat at hR;subst hR;clear hf1 hq);rotate_left;(rw [hq] at HM;replace hf:=hf.step hf1;obtain⟨a,rfl⟩:=hR;clear hf1 hq);rotate_left))
 ·have h0:Hid (ERel p X T tv r A w s1 (phi s+100 * r+(50+d)) o d res (phi s1+1) (.int .i64 (a:Int)) w1):=Or.inl ⟨a,s1,rfl,by omega,Nat.le_refl _,hst,hf,uh HM⟩
  clear hst hf HM
  go_loopg [5] (phi s1+1) (fun k v wr=>ERel p X T tv r A w s1 (phi s+100 * r+(50+d)) o d res k v wr)
  case atStart=>exact uh h0
  case round =>
   clear h0
   rcases hrel with⟨a,s2,rfl,hk,hkl,hst,hf,hm⟩ | ⟨a,c,q,rfl,hbd,hf,hm⟩
   ·obtain⟨n,rfl⟩:∃ n,gk=n+1:=⟨gk - 1,by omega⟩
    have HM:=hide hm
    clear hm
    obtain⟨t,HT⟩:∃ t,Hid (look X.size s2 0=t):=⟨_,rfl⟩
    obtain⟨lv,HV⟩:∃ lv,Hid (signLevel t.text=lv):=⟨_,rfl⟩
    have hlv5:lv≤5:=by have:=signLevel_le t.text;rw [uh HV] at this;exact this
    have hi1:0≤((T.length - s2.rest.length:Nat):Int):=by omega
    have hi2:((T.length - s2.rest.length:Nat):Int)≤100000:=by have:=hst.few;omega
    obtain⟨v1,n9,d0,d1,d2,d3,d4,d5,d6,d7,e2,e3,e4,e5,e6,e7,hp1,va1,vk1,rfl⟩:=hst.g.facts
    by_cases hlv:lv≤l
    ·have HS:Hid (res=.ok a s2):=(uh HM).trans (tails_stop d (by omega) (by rw [uh HT,uh HV];omega))
     have hlz:(lv:Int)≤(l:Int):=by omega
     by_cases hk3:t.kind=3
     ·have hkb:(t.kind == 3)=true:=by simp [hk3]
      have HK3:=hide hk3
      clear hk3
      go_wp2_with (first
       | (go_at_call 35;have hnow:=rnow_ok hst;rw [uh HT] at hnow;refine hnow.mono ?_;rintro e w1 ⟨rfl,hb1⟩;have tB:=(hf.new hb1).size;have bt:=BoxAt.made w1 [.int .i64 t.kind,.string t.text,.int .i64 t.num,.int .i64 t.pos] 66;obtain⟨t0,t1,t2,t3,tl⟩:=bt4 bt;replace hst:=(hst.new hb1).alloc (Obj.cells #[.int .i64 t.kind,.string t.text,.int .i64 t.num,.int .i64 t.pos] 66);replace hf:=(hf.new hb1).new (blA _ (Obj.cells #[.int .i64 t.kind,.string t.text,.int .i64 t.num,.int .i64 t.pos] 66));clear hb1 hnow)
       | (go_at_call 138;refine (rlevel_any _ _).mono ?_;rintro e w9 ⟨rfl,rfl⟩;rw [uh HV]))
      go_returns
      exact Or.inl ⟨_,_,_,uh HS,rfl,rfl,hst,hf,by omega⟩
     ·have hl0:(0:Int)≤(l:Int):=by omega
      have hkb:(t.kind == 3)=false:=by simp [hk3]
      have HK3:=hide hk3
      clear hk3
      go_wp2_with (first
       | (go_at_call 35;have hnow:=rnow_ok hst;rw [uh HT] at hnow;refine hnow.mono ?_;rintro e w1 ⟨rfl,hb1⟩;have tB:=(hf.new hb1).size;have bt:=BoxAt.made w1 [.int .i64 t.kind,.string t.text,.int .i64 t.num,.int .i64 t.pos] 66;obtain⟨t0,t1,t2,t3,tl⟩:=bt4 bt;replace hst:=(hst.new hb1).alloc (Obj.cells #[.int .i64 t.kind,.string t.text,.int .i64 t.num,.int .i64 t.pos] 66);replace hf:=(hf.new hb1).new (blA _ (Obj.cells #[.int .i64 t.kind,.string t.text,.int .i64 t.num,.int .i64 t.pos] 66));clear hb1 hnow)
       | (go_at_call 138;refine (rlevel_any _ _).mono ?_;rintro e w9 ⟨rfl,rfl⟩;rw [uh HV]))
      go_returns
      exact Or.inl ⟨_,_,_,uh HS,rfl,rfl,hst,hf,by omega⟩
    ·have hk3:t.kind=3:=by
      apply Classical.byContradiction
      intro hc
      have:=level_kind hst (by rw [uh HT];exact hc)
      rw [uh HT,uh HV] at this
      omega
     have hlz:¬ (lv:Int)≤(l:Int):=by omega
     have HNE:Hid (s2.rest≠[]):=kind_ne (E:=X.size) (k:=3) (by rw [uh HT];exact hk3) (by decide)
     have HS:=hide (step_ok (l:=lv) hdec (uh HM) (by omega) (by rw [uh HT];exact uh HV) (by omega))
     rw [uh HT] at HS
     have hkb:(t.kind == 3)=true:=by simp [hk3]
     have HK3:=hide hk3
     clear HM hk3
     go_wp2_with (first
      | (go_at_call 35;have hnow:=rnow_ok hst;rw [uh HT] at hnow;refine hnow.mono ?_;rintro e w1 ⟨rfl,hb1⟩;have tB:=(hf.new hb1).size;have bt:=BoxAt.made w1 [.int .i64 t.kind,.string t.text,.int .i64 t.num,.int .i64 t.pos] 66;obtain⟨t0,t1,t2,t3,tl⟩:=bt4 bt;replace hst:=(hst.new hb1).alloc (Obj.cells #[.int .i64 t.kind,.string t.text,.int .i64 t.num,.int .i64 t.pos] 66);replace hf:=(hf.new hb1).new (blA _ (Obj.cells #[.int .i64 t.kind,.string t.text,.int .i64 t.num,.int .i64 t.pos] 66));clear hb1 hnow)
      | (go_at_call 138;refine (rlevel_any _ _).mono ?_;rintro e w9 ⟨rfl,rfl⟩;rw [uh HV];obtain⟨v1,n9,d0,d1,d2,d3,d4,d5,d6,d7,e2,e3,e4,e5,e6,e7,hp2,va2,vk2,rfl⟩:=hst.g.facts;obtain⟨hst3,hf3,hd3⟩:=hst.onto (uh HNE);replace bt:=bt.setOther (a:=⟨p,2,none⟩) (by show _≠p;omega) (.int .i64 (((T.length - s2.rest.length:Nat):Int)+1));replace hf:=hf.step hf3;clear hst hf3)
      | (go_at_call 112;refine (uh IH (5 - lv) (by omega) lv hlv5 rfl hst3).mono ?_;intro e w5 ho;clear hst3;rcases ho with⟨b,s5,v5,hq,rfl,hR,hst,hf1,hd5⟩ | ⟨c,q,v5,hq,rfl,hR,hbd,hf1⟩;(have HM:=hide (bind_ok (uh HS) hq);replace bt:=BoxAt.tk bt hf1;clear t0 t1 t2 t3 tl;obtain⟨t0,t1,t2,t3,tl⟩:=bt4 bt;replace hf:=hf.step hf1;unfold RNat at hR;subst hR;clear hf1 hq HS);rotate_left;(have HM:=hide (bind_bad (uh HS) hq);replace bt:=BoxAt.tk bt hf1;clear t0 t1 t2 t3 tl;obtain⟨t0,t1,t2,t3,tl⟩:=bt4 bt;replace hf:=hf.step hf1;obtain⟨b,rfl⟩:=hR;clear hf1 hq HS);rotate_left)
      | (go_at_call_of 38 (2:Nat);refine (rput2 hst (by omega) (by first | rfl | (simp only [size_set]))).mono ?_;intro e w1 ho;clear hst;obtain⟨k,s1,hq,rfl,hst,hf1,hd⟩:=ho;(first | (replace HM:=hide (bind_ok (uh HM) hq)) | (replace HM:=hide ((uh HM).trans hq)));replace bt:=BoxAt.tk bt hf1;clear t0 t1 t2 t3 tl;obtain⟨t0,t1,t2,t3,tl⟩:=bt4 bt;replace hf:=hf.step hf1;clear hf1 hq)
          | (go_at_call 38;have hlt5:=hbd.lt;refine (rput_bad (hbd.alloc _) (by omega) _ _ _ _ _ _ _).mono ?_;clear hbd;rintro e w1 ⟨v,rfl,hR,hbd,hf1⟩;replace hf1:=RFr.drop hf1 hlt5;replace bt:=BoxAt.tk bt hf1;clear t0 t1 t2 t3 tl;obtain⟨t0,t1,t2,t3,tl⟩:=bt4 bt;replace hf:=hf.step hf1;obtain⟨kb,rfl⟩:=hR;clear hf1 hlt5))
     all_goals
      go_roundg n
      case measure=>omega
      case rel =>
       first
        | exact Or.inl ⟨_,_,rfl,by omega,by omega,hst,hf,uh HM⟩
        | exact Or.inr ⟨_,_,_,rfl,hbd.more (by omega),hf,uh HM⟩
   ·obtain⟨dd,hg⟩:=id hbd
    obtain⟨v1,n9,d0,d1,d2,d3,d4,d5,d6,d7,e2,e3,e4,e5,e6,e7,hp1,va1,vk1,rfl⟩:=hg.facts
    clear hg
    have HM:=hide hm
    clear hm
    go_wp2
    go_returns
    exact Or.inr ⟨_,_,_,uh HM,rfl,⟨_,rfl⟩,hbd,hf⟩
 ·obtain⟨dd,hg⟩:=id hbd
  obtain⟨v1,n9,d0,d1,d2,d3,d4,d5,d6,d7,e2,e3,e4,e5,e6,e7,hp1,va1,vk1,rfl⟩:=hg.facts
  clear hg
  go_loopg [5] 1 (fun k e wr=>e=.int .i64 (a:Int)∧wr=w1)
  case atStart=>exact⟨rfl,rfl⟩
  case round =>
   obtain⟨rfl,rfl⟩:=hrel
   go_wp2
   go_returns
   exact Or.inr ⟨_,_,_,uh HM,rfl,⟨_,rfl⟩,hbd.more (by omega),hf⟩
end
end Go.Proofs.YtdemnolanlfblaaGreatDoor
