import Derived.Test.YtdemnolanlfblaaGreatDoorYPDecl
import Derived.Test.YtdemnolanlfblaaGreatDoorYPOpen
import Derived.Test.YtdemnolanlfblaaGreatDoorZLen
set_option linter.all false
namespace Go.Proofs.YtdemnolanlfblaaGreatDoor
section
open Go.RowKit
structure NBox (A:Nat→Prop) (g:Nat) (k q n:Int) (x:ByteArray) (w:World):Prop where
 block:w.heap[g]? = some (.cells #[.int .i64 k,.int .i64 q,.int .i64 n,.string x,.slice none 0 0] 36 (0,0))
 inA:A g
theorem NBox.fr {A:Nat→Prop}{g:Nat}{k q n:Int}{x:ByteArray}{p:Nat}{w w1:World}(h:NBox A g k q n x w) (hf:Fr p w.heap.size w w1):NBox A g k q n x w1 :=
 ⟨hf.keep g _ (Array.getElem?_eq_some_iff.1 h.block).1 h.block (by simp [PlainObj]),h.inA⟩
theorem PSt.setApart {p T tv E r A s w}(h:PSt p T tv E r A s w) {a:Addr}{c:Array Value}{f:Nat × Nat}(ha:w.heap[a.block]? = some (.cells c 36 f)) (hA:A a.block) (u:Value):PSt p T tv E r A s (w.setCell a u):=by
 obtain⟨v,kvs,hblk,hown,hl,hk⟩:=h.own
 refine⟨h.room,h.suffix,h.few,h.small,h.cap,by rw [size_set];exact h.sep,⟨v,kvs,?_,own_set_ne hown (fun k hkk he=>hl.2.2 k hkk (by rw [he];exact hA)) u,hl,fun i n kv hi hj=>⟨own_set_ne (hk i n kv hi hj).1 (own_ne (hk i n kv hi hj).1 ha (by decide)) u,(hk i n kv hi hj).2⟩⟩,own_set_ne h.toks (own_ne h.toks ha (by decide)) u⟩
 rw [heap_set_other];exact hblk
 intro he
 rw [← he,hblk] at ha
 simp at ha
theorem NBox.setKind {A:Nat→Prop}{g:Nat}{k q n:Int}{x:ByteArray}{w:World}(h:NBox A g k q n x w) (k':Int):NBox A g k' q n x (w.setCell ⟨g,0,none⟩ (.int .i64 k')) :=
 ⟨by rw [block_set (j:=0) h.block];rfl,h.inA⟩
theorem NBox.setText {A:Nat→Prop}{g:Nat}{k q n:Int}{x:ByteArray}{w:World}(h:NBox A g k q n x w) (x':ByteArray):NBox A g k q n x' (w.setCell ⟨g,3,none⟩ (.string x')) :=
 ⟨by rw [block_set (j:=3) h.block];rfl,h.inA⟩
theorem PSt.apart {p T tv E r A s w}(h:PSt p T tv E r A s w) (o:Obj):PSt p T tv E r (fun k=>A k∨k=w.heap.size) s (w.alloc o):=by
 have h1:=h.alloc o
 obtain⟨v,kvs,hblk,hown,hl,hk⟩:=h.own
 refine⟨h1.room,h1.suffix,h1.few,h1.small,h1.cap,?_,⟨v,kvs,?_,hown.alloc _,⟨hl.1,hl.2.1,fun k hkk hAk=>?_⟩,fun i n kv hi hj=>⟨own_below (hk i n kv hi hj).1 (blA w _),fun k hkk hAk=>?_⟩⟩,h1.toks⟩
 ·intro k hAk
  rcases hAk with hA | hA
  ·exact h1.sep k hA
  ·rw [szA];omega
 ·rw [Below.heap_alloc _ _ _ h.lt];exact hblk
 ·rcases hAk with hA | hA
  ·exact hl.2.2 k hkk hA
  ·have:=(hown.lt k hkk).2
   omega
 ·rcases hAk with hA | hA
  ·exact (hk i n kv hi hj).2 k hkk hA
  ·have:=(hk i n kv hi hj).1.lt k hkk
   omega
theorem Ints.setApart {w:World}{B:Nat}{v:Value}{ks:List Nat}(h:Ints w B v ks) {a:Addr}{c:Array Value}{f:Nat × Nat}(ha:w.heap[a.block]? = some (.cells c 36 f)) (u:Value):Ints (w.setCell a u) B v ks :=
 own_set_ne h (own_ne h ha (by decide)) u
theorem NBox.iapp {A:Nat→Prop}{g:Nat}{k q n:Int}{x:ByteArray}{w w4:World}{B:Nat}{v:Value}{ks:List Nat}{o:Obj}(h:NBox A g k q n x w) (hI:Ints w B v ks) (hg:(w.alloc o).grownBy w4 v.ownBlock):NBox A g k q n x w4:=by
 have hlt:=(Array.getElem?_eq_some_iff.1 h.block).1
 refine⟨?_,h.inA⟩
 rw [hg.block g (by rw [szA];omega) (fun he=>own_ne hI h.block (by decide) g he.symm rfl),Below.heap_alloc _ _ _ hlt]
 exact h.block
set_option maxHeartbeats 16000000 in
theorem funcDecl_any {p T tv E r A s w}(h:PSt p T tv E r A s w) {lo:Rd}(hlo:Los p T tv E r lo) :
  Calls Tryz.prog 100 #[.pointer (some ⟨p,0,none⟩)] w (Out p T tv E r A w.heap.size 2 s w (funcDecl E r lo s) RNat):=by
 have HA:=h.sep
 have hp:=h.lt
 have hroom:=h.room
 have hcap:=h.cap
 obtain⟨res,hres⟩:∃ res,res=funcDecl E r lo s:=⟨_,rfl⟩
 rw [← hres]
 unfold funcDecl at hres
 have HM:=hide hres
 have hf:=Fr.refl (p:=p) (Nat.le_refl w.heap.size) hp
 have hst:=h
 clear h hres
 have hff1:=field_text
 have hff2:=field_pos
 have hff3:=field_kind
 have hff4:=field_num
 go_enter Tryz.func100,Tryz.ntmps100
 go_wp2_with (first
  | (go_at_call_of 68 (1:Nat);refine (want1 hst (by decide)).mono ?_;clear hst;intro e w1 ho;rcases ho.elim with⟨a,s1,v,hq,rfl,hR,hst,hf1,hd⟩ | ⟨c,q,hq,rfl,hb⟩;rotate_left;exact⟨rfl,Out.ill (bind_bad (uh HM) hq) (hf.below' hb)⟩;replace HM:=hide (bind_ok (uh HM) hq);replace hf:=hf.step hf1;unfold RTok at hR;subst hR;clear ho hf1 hq)
  | (go_at_call_of 98 (1:Nat);refine (is1n (hst.apart _) (by rw [szA])).mono ?_;rintro e w2 ⟨y,rfl,hy,hb1⟩;have hN:NBox (fun k=>A k∨k=w1.heap.size) w1.heap.size 13 a.pos 0 ⟨#[]⟩ w2:=⟨box_below hb1,Or.inr rfl⟩;replace hst:=((hst.apart _).new hb1).empty;have hI:Ints w2 w.heap.size (.slice none 0 0) []:=World.ownsRow_nil _ _ _ _;have hg0:=hf.size;replace hf:=(hf.new (blA _ _)).new hb1;replace HM:=hide (bind_is (uh HM) hy);clear hb1;obtain⟨x0,x1,x2,x3,x4,y0,y3⟩:=box5 hN.block;have hbl:=(Array.getElem?_eq_some_iff.1 hN.block).1;cases y;(replace HM:=hide (ite_no (uh HM) rfl));rotate_left;(replace HM:=hide (ite_yes (uh HM) rfl));rotate_left)
  | (go_at_call 131;refine (receiver_any (hst.setApart (a:=⟨w1.heap.size,0,none⟩) hN.block (Or.inl hN.inA) (.int .i64 14))).mono ?_;clear hst;intro e w3 ho;rcases ho.elim with⟨rk,s3,v3,hq,rfl,hR,hst,hf3,hd3⟩ | ⟨c,q,hq,rfl,hb⟩;rotate_left;exact⟨rfl,Out.ill (bind_bad (uh HM) hq) ((hf.set (a:=⟨w1.heap.size,0,none⟩) (by show p≤w1.heap.size;omega) hg0 _).below' hb)⟩;replace HM:=hide (bind_ok (uh HM) hq);replace hI:=own_fr (hI.setApart (a:=⟨w1.heap.size,0,none⟩) hN.block (.int .i64 14)) hf3 (by decide) (by decide);replace hN:=(hN.setKind 14).fr hf3;replace hf:=(hf.set (a:=⟨w1.heap.size,0,none⟩) (by show p≤w1.heap.size;omega) hg0 _).step hf3;unfold RNat at hR;subst hR;obtain⟨x0,x1,x2,x3,x4,y0,y3⟩:=box5 hN.block;have hbl:=(Array.getElem?_eq_some_iff.1 hN.block).1;clear ho hq hf3)
  | (at_builtin;refine wpList_iapp rfl (.tmp 14) (.tmp 17) rfl w.heap.size _ _ rfl (hI.alloc _) _ rk rfl (by simp [go_sem]) (by simp) (by rw [szA];have:=hf.size;omega) ?_;intro v4 w4 hI4 hg4 hv4;replace hst:=hst.iapp hI hg4 (hv4.imp id fun hh j hj=>by have:=hh j hj;rw [szA] at this;omega) hI4;replace hN:=hN.iapp hI hg4;replace hf:=hf.iapp hI hp hg4;replace hI:=hI4;obtain⟨x0,x1,x2,x3,x4,y0,y3⟩:=box5 hN.block;have hbl:=(Array.getElem?_eq_some_iff.1 hN.block).1;clear hg4 hv4 hI4)
  | (go_at_call 127;refine (wantName_any hst).mono ?_;clear hst;intro e w5 ho;rcases ho.elim with⟨nm,s5,v5,hq,rfl,hR,hst,hf5,hd5⟩ | ⟨c,q,hq,rfl,hb⟩;rotate_left;exact⟨rfl,Out.ill (bind_bad (uh HM) hq) (hf.below' hb)⟩;replace HM:=hide (bind_ok (uh HM) hq);replace hI:=own_fr hI hf5 (by decide) (by decide);replace hN:=hN.fr hf5;replace hf:=hf.step hf5;unfold RStr at hR;subst hR;obtain⟨x0,x1,x2,x3,x4,y0,y3⟩:=box5 hN.block;have hbl:=(Array.getElem?_eq_some_iff.1 hN.block).1;clear ho hq hf5)
  | (go_at_call 132;refine (sig_any (hst.setApart (a:=⟨w1.heap.size,3,none⟩) hN.block (Or.inl hN.inA) (.string nm)) hlo).mono ?_;clear hst;intro e w6 ho;rcases ho.elim with⟨gk,s6,v6,hq,rfl,hR,hst,hf6,hd6⟩ | ⟨c,q,hq,rfl,hb⟩;rotate_left;exact⟨rfl,Out.ill (bind_bad (uh HM) hq) ((hf.set (a:=⟨w1.heap.size,3,none⟩) (by show p≤w1.heap.size;omega) hg0 _).below' hb)⟩;replace HM:=hide (bind_ok (uh HM) hq);replace hI:=own_fr (Ints.setApart hI (a:=⟨w1.heap.size,3,none⟩) hN.block (.string nm)) hf6 (by decide) (by decide);replace hN:=(hN.setText nm).fr hf6;replace hf:=(hf.set (a:=⟨w1.heap.size,3,none⟩) (by show p≤w1.heap.size;omega) hg0 _).step hf6;unfold RNat at hR;subst hR;clear ho hq hf6)
  | (at_builtin;refine wpList_iapp rfl (.tmp 22) (.tmp 25) rfl w.heap.size _ _ rfl (hI.alloc _) _ gk rfl (by simp [go_sem]) (by simp) (by rw [szA];have:=hf.size;omega) ?_;intro v7 w7 hI7 hg7 hv7;replace hst:=hst.iapp hI hg7 (hv7.imp id fun hh j hj=>by have:=hh j hj;rw [szA] at this;omega) hI7;replace hN:=hN.iapp hI hg7;replace hf:=hf.iapp hI hp hg7;replace hI:=hI7;clear hg7 hv7 hI7)
  | (go_at_call 133;refine (block_any hst hlo).mono ?_;clear hst;intro e w8 ho;rcases ho.elim with⟨bk,s8,v8,hq,rfl,hR,hst,hf8,hd8⟩ | ⟨c,q,hq,rfl,hb⟩;rotate_left;exact⟨rfl,Out.ill (bind_bad (uh HM) hq) (hf.below' hb)⟩;replace HM:=hide (bind_ok (uh HM) hq);replace hI:=own_fr hI hf8 (by decide) (by decide);replace hN:=hN.fr hf8;replace hf:=hf.step hf8;unfold RNat at hR;subst hR;clear ho hq hf8)
  | (at_builtin;refine wpList_iapp rfl (.tmp 27) (.tmp 30) rfl w.heap.size _ _ rfl (hI.alloc _) _ bk rfl (by simp [go_sem]) (by simp) (by rw [szA];have:=hf.size;omega) ?_;intro v9 w9 hI9 hg9 hv9;replace hst:=hst.iapp hI hg9 (hv9.imp id fun hh j hj=>by have:=hh j hj;rw [szA] at this;omega) hI9;replace hN:=hN.iapp hI hg9;replace hf:=hf.iapp hI hp hg9;replace hI:=hI9;obtain⟨x0,x1,x2,x3,x4,y0,y3⟩:=box5 hN.block;have hbl:=(Array.getElem?_eq_some_iff.1 hN.block).1;clear hg9 hv9 hI9)
  | (go_at_call 69;refine (putL (hst.weak fun k hk=>Or.inl (Or.inl hk)) (by omega) hI hp HA).mono ?_;clear hst;intro e w10 ho;rcases ho with⟨k,s10,hq,rfl,hst,hf10,hd10⟩ | hfalse;rotate_left;exact hfalse.elim;replace HM:=hide ((uh HM).trans hq);replace hf:=hf.step hf10;clear hf10 hq))
 all_goals
  go_returns
  exact Out.good (uh HM) rfl hst hf (by omega)
set_option maxHeartbeats 4000000 in
theorem decl_any {p T tv E r A s w}(h:PSt p T tv E r A s w) :
  Calls Tryz.prog 67 #[.pointer (some ⟨p,0,none⟩)] w (Out p T tv E r A w.heap.size 2 s w (M.bind (is E [⟨#[116,121,112,101]⟩]) (fun yes=>if yes=true then typeDecl E r (lower E r) else funcDecl E r (lower E r)) s) RNat):=by
 have hp:=h.lt
 have hcap:=h.cap
 have hroom:=h.room
 obtain⟨res,hres⟩:∃ res,res=M.bind (is E [⟨#[116,121,112,101]⟩]) (fun yes=>if yes=true then typeDecl E r (lower E r) else funcDecl E r (lower E r)) s:=⟨_,rfl⟩
 rw [← hres]
 have HM:=hide hres
 have hf:=Fr.refl (p:=p) (Nat.le_refl w.heap.size) hp
 have hst:=h
 clear h hres
 go_enter Tryz.func67,Tryz.ntmps67
 go_wp2_with (first
  | (go_at_call_of 98 (1:Nat);refine (is1b hst).mono ?_;rintro e w1 ⟨y,rfl,hy,hb1⟩;replace hst:=hst.new hb1;replace hf:=hf.new hb1;replace HM:=hide (bind_is (uh HM) hy);clear hb1;cases y;(try (replace HM:=hide (ite_no (uh HM) rfl)));rotate_left;(try (replace HM:=hide (ite_yes (uh HM) rfl)));(try (have hne:=hide (rest_ne_is hy (by decide))));(try (clear hy));rotate_left;(try (clear hy)))
  | (go_at_call 99;refine (typeDecl_any hst).mono ?_;clear hst;intro e w1 ho;rcases ho.elim with⟨a,s1,v,hq,rfl,hR,hst,hf1,hd⟩ | ⟨c,q,hq,rfl,hb⟩;rotate_left;(first | exact⟨rfl,Out.ill (bind_bad (uh HM) hq) (hf.below' hb)⟩ | exact⟨rfl,Out.ill ((uh HM).trans hq) (hf.below' hb)⟩);(first | (replace HM:=hide (bind_ok (uh HM) hq)) | (replace HM:=hide ((uh HM).trans hq)));replace hf:=hf.step hf1;unfold RNat at hR;subst hR;clear ho hf1 hq)
  | (go_at_call 100;refine (funcDecl_any hst (los_all p T tv E r)).mono ?_;clear hst;intro e w1 ho;rcases ho.elim with⟨a,s1,v,hq,rfl,hR,hst,hf1,hd⟩ | ⟨c,q,hq,rfl,hb⟩;rotate_left;(first | exact⟨rfl,Out.ill (bind_bad (uh HM) hq) (hf.below' hb)⟩ | exact⟨rfl,Out.ill ((uh HM).trans hq) (hf.below' hb)⟩);(first | (replace HM:=hide (bind_ok (uh HM) hq)) | (replace HM:=hide ((uh HM).trans hq)));replace hf:=hf.step hf1;unfold RNat at hR;subst hR;clear ho hf1 hq))
 all_goals
  go_returns
  exact Out.good (uh HM) rfl hst hf (by omega)
end
section
open Go.RowKit
def decl (E r:Nat):M Nat:=M.bind (is E [⟨#[116,121,112,101]⟩]) (fun yes=>if yes=true then typeDecl E r (lower E r) else funcDecl E r (lower E r))
def semiEnd (E:Nat):M Tok:=fun s=>if s.rest = [] then .ok ⟨0,⟨#[]⟩,0,0⟩ s else want E [⟨#[59]⟩] s
def progGo (E:Nat) (d:M Nat):Nat→List Nat→M (List Nat)
 | 0,_=>fault 0 0
 | n+1,ks=>fun s=>if s.rest = [] then .ok ks s else (M.bind d fun k=>(semiEnd E).bind fun _=>progGo E d n (ks++[k])) s
def firstPos (T:List Tok):Int:=match T with
 | []=>0
 | t :: _=>t.pos
def program (E:Nat) (T:List Tok):Res Nat :=
 (progGo E (decl E 30) (3 * T.length+1) [] ⟨T,[]⟩).andThen fun ks=>(put ⟨15,firstPos T,0,⟨#[]⟩,ks⟩).bind fun k=>fun s=>if s.nodes.length≤1200 then .ok k s else .bad 5 E
theorem progGo_end {E:Nat}{d:M Nat}{n:Nat}{ks:List Nat}{s:PS}(h:s.rest = []):progGo E d (n+1) ks s=.ok ks s:=by
 show (if s.rest = [] then _ else _)=_
 rw [if_pos h]
theorem progGo_step {E:Nat}{d:M Nat}{n:Nat}{ks:List Nat}{s:PS}(h:¬ s.rest = []):progGo E d (n+1) ks s=(d s).andThen fun k s1=>(semiEnd E s1).andThen fun _ s2=>progGo E d n (ks++[k]) s2:=by
 show (if s.rest = [] then _ else _)=_
 rw [if_neg h];rfl
theorem semiEnd_yes {E:Nat}{s:PS}(h:s.rest = []):semiEnd E s=.ok ⟨0,⟨#[]⟩,0,0⟩ s:=by unfold semiEnd;rw [if_pos h]
theorem semiEnd_no {E:Nat}{s:PS}(h:¬ s.rest = []):semiEnd E s=want E [⟨#[59]⟩] s:=by unfold semiEnd;rw [if_neg h]
theorem PSt.at_end {p T tv E r A s w}(h:PSt p T tv E r A s w):(s.rest = []→((T.length - s.rest.length:Nat):Int)=(T.length:Int))∧(¬ s.rest = []→((T.length - s.rest.length:Nat):Int)<(T.length:Int)):=by
 have h1:=rest_le h
 refine⟨fun h0=>by rw [h0];simp,fun h0=>?_⟩
 have:=List.length_pos_iff.2 h0
 omega
def OutPr (p:Nat) (T:List Tok) (tv:Value) (E:Nat) (w:World) (res:Res Nat) (e:Ending) (w':World):Prop :=
 (∃ k s',res=.ok k s'∧e=.returned (.tuple #[])∧PSt p T tv E 30 (fun _=>False) s' w'∧Fr p w.heap.size w w') ∨
 (∃ c q,res=.bad c q∧e=.panicked [{ v:=.iface (ft c) (.agg #[.int .i64 q]),recovered:=false }]∧Ill c p w w')
theorem PSt.nodes_len {p T tv E r A s w}(h:PSt p T tv E r A s w):∃ a c,w.cell? ⟨p,4,none⟩=some (.slice a s.nodes.length c):=by
 obtain⟨v,kvs,hb,hown,_⟩:=h.own
 obtain⟨a,c,rfl⟩:=own_len hown
 exact⟨a,c,by simp [World.cell?,hb]⟩
set_option maxHeartbeats 16000000 in
theorem program_none {p T tv E w}(h:PSt p T tv E 30 (fun _=>False) ⟨T,[]⟩ w) (hsm:T.length≤10000) (hT:T = []) :
  Calls Tryz.prog 41 #[.pointer (some ⟨p,0,none⟩)] w (OutPr p T tv E w (program E T)):=by
 have hp:=h.lt
 have hcap:=h.cap
 obtain⟨v0,c0,c1,c2,c3,c4,cf⟩:=h.cells
 obtain⟨res,hres⟩:∃ res,res=program E T:=⟨_,rfl⟩
 rw [← hres]
 have hphi:phi ⟨T,[]⟩=3 * T.length:=by simp [phi]
 have HPHI:=hide hphi
 have HM2:Hid (res=(progGo E (decl E 30) (3 * T.length+1) [] ⟨T,[]⟩).andThen fun ks=>(put ⟨15,firstPos T,0,⟨#[]⟩,ks⟩).bind fun k=>fun s=>if s.nodes.length≤1200 then .ok k s else .bad 5 E):=hres
 have hf:=Fr.refl (p:=p) (Nat.le_refl w.heap.size) hp
 obtain⟨ta,tc,rfl⟩:=own_toks h.toks
 have hl0:T.length=0:=by rw [hT];rfl
 have hlz:¬ (0:Int)<(T.length:Int):=by omega
 have hpos:firstPos T=0:=by rw [hT];rfl
 rw [hpos] at HM2
 clear hT hl0
 have hst:=h
 clear h hres hphi
 go_enter Tryz.func41,Tryz.ntmps41
 go_wp2
 clear c0 c1 c2 c3 c4 cf
 go_loopg [2] (3 * T.length+1) (fun k v wr=>∃ ks s2,phi s2<k∧ks.length+phi s2≤3 * T.length∧Ints wr w.heap.size v ks∧PSt p T (.slice ta T.length tc) E 30 (Au (fun _=>False) v) s2 wr∧Fr p w.heap.size w wr∧Hid (res=(progGo E (decl E 30) k ks s2).andThen fun ks=>(put ⟨15,0,0,⟨#[]⟩,ks⟩).bind fun k=>fun s=>if s.nodes.length≤1200 then .ok k s else .bad 5 E))
 case atStart=>exact⟨[],⟨T,[]⟩,by rw [uh HPHI];omega,by rw [uh HPHI];simp,World.ownsRow_nil _ _ _ _,hst.empty,hf,HM2⟩
 case round =>
  clear hst hf HM2
  obtain⟨ks,s2,hk,hkl,hI,hst,hf,HM⟩:=hrel
  obtain⟨n,rfl⟩:∃ n,gk=n+1:=⟨gk - 1,by omega⟩
  obtain⟨va,vc,rfl⟩:=own_len hI
  obtain⟨v1,d0,d1,d2,d3,d4,df⟩:=hst.cells
  obtain⟨he1,he2⟩:=hst.at_end
  have hi0:0≤((T.length - s2.rest.length:Nat):Int):=by omega
  have hi1:((T.length - s2.rest.length:Nat):Int)≤100000:=by omega
  by_cases hr:s2.rest = []
  ·have hz:¬ ((T.length - s2.rest.length:Nat):Int)<(T.length:Int):=by have:=he1 hr;omega
   replace HM:=hide (andThen_of_ok (uh HM) (progGo_end hr))
   have HC:=hide (show phi s2+1≤900000 by omega)
   clear he1 he2 hr
   generalize ((T.length - s2.rest.length:Nat):Int)=i at *
   go_wp2
   go_quiet (fail)
   go_wp2_with (go_at_call 69;refine (putL (hst.new (below_drewN _ _)).unlist (uh HC) (own_below hI (below_drewN _ _)) hp (fun _ hk=>hk.elim)).mono ?_;intro e w3 ho;rcases ho with⟨k,s3,hq,rfl,hst3,hf3,hd3⟩ | hfalse;rotate_left;exact hfalse.elim;replace HM:=hide (bind_ok (uh HM) hq);replace hf:=(hf.new (below_drewN _ _)).step hf3;clear hf3 hq hst;obtain⟨na,nc,q4⟩:=hst3.nodes_len;obtain⟨v3,q0,q1,q2,q3,q4',qf⟩:=hst3.cells;have hp3:=hst3.lt;have hcp3:=hst3.cap;have hnz:(0:Int)≤(s3.nodes.length:Int)∧(s3.nodes.length:Int)≤900000:=(by unfold phi at hcp3;omega);clear q4' q0 q1 q3 qf;by_cases hbig:s3.nodes.length≤1200;(replace HM:=hide ((uh HM).trans (if_pos hbig));have hbz:¬ (1200:Int)<(s3.nodes.length:Int):=(by omega));rotate_left;(replace HM:=hide ((uh HM).trans (if_neg hbig));have hbz:(1200:Int)<(s3.nodes.length:Int):=(by omega));rotate_left)
   ·go_end0
    exact Or.inl ⟨k,s3,uh HM,rfl,hst3,hf⟩
   ·exact⟨rfl,Or.inr ⟨5,E,uh HM,rfl,⟨hf.below,Or.inr (Or.inr rfl)⟩⟩⟩
  ·have hz:((T.length - s2.rest.length:Nat):Int)<(T.length:Int):=he2 hr
   exfalso
   omega
set_option maxHeartbeats 16000000 in
theorem program_some {p T tv E w}(h:PSt p T tv E 30 (fun _=>False) ⟨T,[]⟩ w) (hsm:T.length≤10000) (t:Tok) (T2:List Tok) (hT:T=t :: T2) :
  Calls Tryz.prog 41 #[.pointer (some ⟨p,0,none⟩)] w (OutPr p T tv E w (program E T)):=by
 have hp:=h.lt
 have hcap:=h.cap
 obtain⟨v0,c0,c1,c2,c3,c4,cf⟩:=h.cells
 obtain⟨res,hres⟩:∃ res,res=program E T:=⟨_,rfl⟩
 rw [← hres]
 have hphi:phi ⟨T,[]⟩=3 * T.length:=by simp [phi]
 have HPHI:=hide hphi
 have HM2:Hid (res=(progGo E (decl E 30) (3 * T.length+1) [] ⟨T,[]⟩).andThen fun ks=>(put ⟨15,firstPos T,0,⟨#[]⟩,ks⟩).bind fun k=>fun s=>if s.nodes.length≤1200 then .ok k s else .bad 5 E):=hres
 have hf:=Fr.refl (p:=p) (Nat.le_refl w.heap.size) hp
 obtain⟨ta,tc,rfl⟩:=own_toks h.toks
 have hlz:(0:Int)<(T.length:Int):=by rw [hT];simp
 have hpos:firstPos T=t.pos:=by rw [hT];rfl
 rw [hpos] at HM2
 obtain⟨tg,rfl,htg,l0,l1,l2,l3⟩:=own_toks_at h.toks 0 t (by rw [hT];rfl)
 simp only [Nat.zero_mul,Nat.zero_add] at l0 l1 l2 l3
 clear hT
 have hst:=h
 clear h hres hphi
 go_enter Tryz.func41,Tryz.ntmps41
 go_wp2
 clear c0 c1 c2 c3 c4 cf
 go_loopg [2] (3 * T.length+1) (fun k v wr=>∃ ks s2,phi s2<k∧ks.length+phi s2≤3 * T.length∧Ints wr w.heap.size v ks∧PSt p T (.slice (some ⟨tg,0,none⟩) T.length tc) E 30 (Au (fun _=>False) v) s2 wr∧Fr p w.heap.size w wr∧Hid (res=(progGo E (decl E 30) k ks s2).andThen fun ks=>(put ⟨15,t.pos,0,⟨#[]⟩,ks⟩).bind fun k=>fun s=>if s.nodes.length≤1200 then .ok k s else .bad 5 E))
 case atStart=>exact⟨[],⟨T,[]⟩,by rw [uh HPHI];omega,by rw [uh HPHI];simp,World.ownsRow_nil _ _ _ _,hst.empty,hf,HM2⟩
 case round =>
  clear hst hf HM2
  obtain⟨ks,s2,hk,hkl,hI,hst,hf,HM⟩:=hrel
  obtain⟨n,rfl⟩:∃ n,gk=n+1:=⟨gk - 1,by omega⟩
  obtain⟨va,vc,rfl⟩:=own_len hI
  obtain⟨v1,d0,d1,d2,d3,d4,df⟩:=hst.cells
  obtain⟨he1,he2⟩:=hst.at_end
  have hi0:0≤((T.length - s2.rest.length:Nat):Int):=by omega
  have hi1:((T.length - s2.rest.length:Nat):Int)≤100000:=by omega
  by_cases hr:s2.rest = []
  ·have hz:¬ ((T.length - s2.rest.length:Nat):Int)<(T.length:Int):=by have:=he1 hr;omega
   replace HM:=hide (andThen_of_ok (uh HM) (progGo_end hr))
   have HC:=hide (show phi s2+1≤900000 by omega)
   clear he1 he2 hr
   generalize ((T.length - s2.rest.length:Nat):Int)=i at *
   go_wp2
   go_quiet (fail)
   go_wp2_with (go_at_call 69;refine (putL (hst.new (below_drewN _ _)).unlist (uh HC) (own_below hI (below_drewN _ _)) hp (fun _ hk=>hk.elim)).mono ?_;intro e w3 ho;rcases ho with⟨k,s3,hq,rfl,hst3,hf3,hd3⟩ | hfalse;rotate_left;exact hfalse.elim;replace HM:=hide (bind_ok (uh HM) hq);replace hf:=(hf.new (below_drewN _ _)).step hf3;clear hf3 hq hst;obtain⟨na,nc,q4⟩:=hst3.nodes_len;obtain⟨v3,q0,q1,q2,q3,q4',qf⟩:=hst3.cells;have hp3:=hst3.lt;have hcp3:=hst3.cap;have hnz:(0:Int)≤(s3.nodes.length:Int)∧(s3.nodes.length:Int)≤900000:=(by unfold phi at hcp3;omega);clear q4' q0 q1 q3 qf;by_cases hbig:s3.nodes.length≤1200;(replace HM:=hide ((uh HM).trans (if_pos hbig));have hbz:¬ (1200:Int)<(s3.nodes.length:Int):=(by omega));rotate_left;(replace HM:=hide ((uh HM).trans (if_neg hbig));have hbz:(1200:Int)<(s3.nodes.length:Int):=(by omega));rotate_left)
   ·go_end0
    exact Or.inl ⟨k,s3,uh HM,rfl,hst3,hf⟩
   ·exact⟨rfl,Or.inr ⟨5,E,uh HM,rfl,⟨hf.below,Or.inr (Or.inr rfl)⟩⟩⟩
  ·have hz:((T.length - s2.rest.length:Nat):Int)<(T.length:Int):=he2 hr
   replace HM:=hide (andThen_of_step (uh HM) (progGo_step hr))
   clear he1 he2 hr
   generalize ((T.length - s2.rest.length:Nat):Int)=i at *
   go_wp2
   go_quiet (fail)
   go_wp2_with (first
    | (go_at_call 67;refine (decl_any (hst.new (below_drewN _ _))).mono ?_;intro e w4 ho;clear hst;rcases ho.elim with⟨k,s4,v4,hq,rfl,hR,hst,hf4,hd4⟩ | ⟨c,q,hq,rfl,hb⟩;rotate_left;exact⟨rfl,Or.inr ⟨c,q,andThen_bad_in (uh HM) hq,rfl,(hf.new (below_drewN _ _)).below' hb⟩⟩;replace HM:=hide (andThen_ok_in (uh HM) hq);unfold RNat at hR;subst hR;replace hI:=own_fr (own_below hI (below_drewN _ _)) hf4 (by decide) (by decide);replace hf:=(hf.new (below_drewN _ _)).step hf4;clear ho hq hf4)
    | (at_builtin;refine wpList_iapp rfl (.tmp 27) (.tmp 30) rfl w.heap.size _ ks rfl (World.ownsRow.alloc hI _) _ k rfl (by simp [go_sem]) (by omega) (by rw [szA];have:=hf.size;omega) ?_;intro v5 w5 hI5 hg5 hv5;replace hst:=hst.iapp hI hg5 (hv5.imp id fun hh j hj=>by have:=hh j hj;rw [szA] at this;omega) hI5;replace hf:=hf.iapp hI hp hg5;clear hg5 hv5;obtain⟨vx,g0,g1,g2,g3,g4,gf⟩:=hst.cells;have hp5:=hst.lt))
   obtain⟨he3,he4⟩:=hst.at_end
   have hj0:0≤((T.length - s4.rest.length:Nat):Int):=by omega
   have hj1:((T.length - s4.rest.length:Nat):Int)≤100000:=by omega
   by_cases hr4:s4.rest = []
   ·have hz4:¬ ((T.length - s4.rest.length:Nat):Int)<(T.length:Int):=by have:=he3 hr4;omega
    replace HM:=hide (andThen_ok_in (uh HM) (semiEnd_yes hr4))
    clear he3 he4 hr4
    generalize ((T.length - s4.rest.length:Nat):Int)=i4 at *
    go_quiet (fail)
    go_wp2
    go_roundg n
    case measure=>omega
    case rel=>exact⟨ks++[k],s4,by omega,by simp;omega,own_below hI5 (below_drewN _ _),hst.new (below_drewN _ _),hf.new (below_drewN _ _),HM⟩
   ·have hz4:((T.length - s4.rest.length:Nat):Int)<(T.length:Int):=he4 hr4
    have HSE:=hide (semiEnd_no (E:=E) hr4)
    clear he3 he4 hr4
    generalize ((T.length - s4.rest.length:Nat):Int)=i4 at *
    go_quiet (fail)
    go_wp2_with (go_at_call 68;refine (want1 (hst.new (below_drewN _ _)) (by decide)).mono ?_;intro e w7 ho;clear hst;rcases ho.elim with⟨a7,s7,v7,hq,rfl,hR,hst,hf7,hd7⟩ | ⟨c,q,hq,rfl,hb⟩;rotate_left;exact⟨rfl,Or.inr ⟨c,q,andThen_bad_in (uh HM) ((uh HSE).trans hq),rfl,(hf.new (below_drewN _ _)).below' hb⟩⟩;replace HM:=hide (andThen_ok_in (uh HM) ((uh HSE).trans hq));unfold RTok at hR;subst hR;replace hI5:=own_fr (own_below hI5 (below_drewN _ _)) hf7 (by decide) (by decide);replace hf:=(hf.new (below_drewN _ _)).step hf7;clear ho hq hf7)
    go_roundg n
    case measure=>omega
    case rel=>exact⟨ks++[k],s7,by omega,by simp;omega,hI5,hst,hf,HM⟩
theorem program_any {p T tv E w}(h:PSt p T tv E 30 (fun _=>False) ⟨T,[]⟩ w) (hsm:T.length≤10000) :
  Calls Tryz.prog 41 #[.pointer (some ⟨p,0,none⟩)] w (OutPr p T tv E w (program E T)):=by
 cases hT:T with
 | nil=>subst hT;exact program_none h hsm rfl
 | cons t T2=>subst hT;exact program_some h hsm t T2 rfl
end
section
open Go.RowKit
theorem ta_miss1 (v:Value) (w:World):(Instr.typeAssert (.iface 78 v) 20 77 true).run Tryz.prog w=.ok (.tuple #[.agg #[.int .i64 0],.bool false]) w:=by kernel_rfl
theorem ta_miss2 (v:Value) (w:World):(Instr.typeAssert (.iface 79 v) 20 77 true).run Tryz.prog w=.ok (.tuple #[.agg #[.int .i64 0],.bool false]) w:=by kernel_rfl
theorem ta_miss3 (v:Value) (w:World):(Instr.typeAssert (.iface 79 v) 20 78 true).run Tryz.prog w=.ok (.tuple #[.agg #[.int .i64 0],.bool false]) w:=by kernel_rfl
theorem ta_hit1 (v:Value) (w:World):(Instr.typeAssert (.iface 77 v) 20 77 true).run Tryz.prog w=.ok (.tuple #[v,.bool true]) w:=by kernel_rfl
theorem ta_hit2 (v:Value) (w:World):(Instr.typeAssert (.iface 78 v) 20 78 true).run Tryz.prog w=.ok (.tuple #[v,.bool true]) w:=by kernel_rfl
theorem ta_hit3 (v:Value) (w:World):(Instr.typeAssert (.iface 79 v) 20 79 true).run Tryz.prog w=.ok (.tuple #[v,.bool true]) w:=by kernel_rfl
theorem balloc2 {B:Nat}{a w:World}{o:Obj}(h:Below B a w) (hB:B≤w.heap.size):Below B a (w.alloc o):=h.alloc hB o
set_option maxHeartbeats 2000000 in
theorem pcatch_3 (N:Nat) (x:Value) (y z q:Int) (older:List PanicEntry) (w:World)
  (h0:w.cell? ⟨N,0,none⟩=some x) (f0:w.frozen? ⟨N,0,none⟩=false)
  (h1:w.cell? ⟨N+1,0,none⟩=some (.int .i64 y)) (f1:w.frozen? ⟨N+1,0,none⟩=false) (h2:w.cell? ⟨N+1,1,none⟩=some (.int .i64 z)) (f2:w.frozen? ⟨N+1,1,none⟩=false) (hN0:N<w.heap.size) (hN:N+1<w.heap.size) :
  CallsD Tryz.prog 40 #[.pointer (some ⟨N,0,none⟩),.pointer (some ⟨N+1,0,none⟩)] (.panicking ({ v:=.iface (ft 3) (.agg #[.int .i64 q]),recovered:=false } :: older)) w fun e u' w' =>
   e=.returned (.tuple #[])∧u'=.panicking ({ v:=.iface (ft 3) (.agg #[.int .i64 q]),recovered:=true } :: older)∧Below w.heap.size (((w.setCell ⟨N,0,none⟩ (.slice none 0 0)).setCell ⟨N+1,0,none⟩ (.int .i64 3)).setCell ⟨N+1,1,none⟩ (.int .i64 q)) w':=by
 have hta0:=ta_hit1
 have hft:ft 3=77:=rfl
 rw [hft]
 refine callsD_of_wpS Tryz.func40 rfl fun c₀ cs hu=>?_
 apply wpS_seq
 apply wpS_region
 simp [wpOpsS,go_sem,recoverD,hu,Tryz.ntmps40,Exit.thenS]
 refine wpS_of_wp ?_
 have htm:(#[Value.pointer (some { block:=N,off:=0 }),Value.pointer (some { block:=N+1,off:=0 })] ++
     (Array.replicate 26 undef).setIfInBounds 5 (Value.iface 77 (Value.agg #[Value.int IntKind.i64 q])))=#[Value.pointer (some { block:=N,off:=0 }),Value.pointer (some { block:=N+1,off:=0 }),undef,undef,undef,undef,undef,Value.iface 77 (Value.agg #[Value.int IntKind.i64 q]),undef,undef,undef,undef,undef,undef,undef,undef,undef,undef,undef,undef,undef,undef,undef,undef,undef,undef,undef,undef]:=by
  simp only [Array.replicate_succ,Array.replicate_zero,List.push_toArray,List.append_toArray,List.nil_append,List.cons_append,List.setIfInBounds_toArray,List.set_cons_succ,List.set_cons_zero]
 rw [htm]
 clear htm
 go_wp2
 go_region
 all_goals
  go_wp2
  refine⟨rfl,_,rfl,_,results_none Tryz.results40 _ _ _,rfl,rfl,?_⟩
  (repeat (first | exact Below.refl _ _ | refine bdrewN ?_ | refine bdrew ?_ | refine balloc2 ?_ (by simp [World.setCell])))
set_option maxHeartbeats 2000000 in
theorem pcatch_4 (N:Nat) (x:Value) (y z q:Int) (older:List PanicEntry) (w:World)
  (h0:w.cell? ⟨N,0,none⟩=some x) (f0:w.frozen? ⟨N,0,none⟩=false)
  (h1:w.cell? ⟨N+1,0,none⟩=some (.int .i64 y)) (f1:w.frozen? ⟨N+1,0,none⟩=false) (h2:w.cell? ⟨N+1,1,none⟩=some (.int .i64 z)) (f2:w.frozen? ⟨N+1,1,none⟩=false) (hN0:N<w.heap.size) (hN:N+1<w.heap.size) :
  CallsD Tryz.prog 40 #[.pointer (some ⟨N,0,none⟩),.pointer (some ⟨N+1,0,none⟩)] (.panicking ({ v:=.iface (ft 4) (.agg #[.int .i64 q]),recovered:=false } :: older)) w fun e u' w' =>
   e=.returned (.tuple #[])∧u'=.panicking ({ v:=.iface (ft 4) (.agg #[.int .i64 q]),recovered:=true } :: older)∧Below w.heap.size (((w.setCell ⟨N,0,none⟩ (.slice none 0 0)).setCell ⟨N+1,0,none⟩ (.int .i64 4)).setCell ⟨N+1,1,none⟩ (.int .i64 q)) w':=by
 have hta0:=ta_miss1
 have hta1:=ta_hit2
 have hft:ft 4=78:=rfl
 rw [hft]
 refine callsD_of_wpS Tryz.func40 rfl fun c₀ cs hu=>?_
 apply wpS_seq
 apply wpS_region
 simp [wpOpsS,go_sem,recoverD,hu,Tryz.ntmps40,Exit.thenS]
 refine wpS_of_wp ?_
 have htm:(#[Value.pointer (some { block:=N,off:=0 }),Value.pointer (some { block:=N+1,off:=0 })] ++
     (Array.replicate 26 undef).setIfInBounds 5 (Value.iface 78 (Value.agg #[Value.int IntKind.i64 q])))=#[Value.pointer (some { block:=N,off:=0 }),Value.pointer (some { block:=N+1,off:=0 }),undef,undef,undef,undef,undef,Value.iface 78 (Value.agg #[Value.int IntKind.i64 q]),undef,undef,undef,undef,undef,undef,undef,undef,undef,undef,undef,undef,undef,undef,undef,undef,undef,undef,undef,undef]:=by
  simp only [Array.replicate_succ,Array.replicate_zero,List.push_toArray,List.append_toArray,List.nil_append,List.cons_append,List.setIfInBounds_toArray,List.set_cons_succ,List.set_cons_zero]
 rw [htm]
 clear htm
 go_wp2
 go_region
 all_goals
  go_wp2
  refine⟨rfl,_,rfl,_,results_none Tryz.results40 _ _ _,rfl,rfl,?_⟩
  (repeat (first | exact Below.refl _ _ | refine bdrewN ?_ | refine bdrew ?_ | refine balloc2 ?_ (by simp [World.setCell])))
set_option maxHeartbeats 2000000 in
theorem pcatch_5 (N:Nat) (x:Value) (y z q:Int) (older:List PanicEntry) (w:World)
  (h0:w.cell? ⟨N,0,none⟩=some x) (f0:w.frozen? ⟨N,0,none⟩=false)
  (h1:w.cell? ⟨N+1,0,none⟩=some (.int .i64 y)) (f1:w.frozen? ⟨N+1,0,none⟩=false) (h2:w.cell? ⟨N+1,1,none⟩=some (.int .i64 z)) (f2:w.frozen? ⟨N+1,1,none⟩=false) (hN0:N<w.heap.size) (hN:N+1<w.heap.size) :
  CallsD Tryz.prog 40 #[.pointer (some ⟨N,0,none⟩),.pointer (some ⟨N+1,0,none⟩)] (.panicking ({ v:=.iface (ft 5) (.agg #[.int .i64 q]),recovered:=false } :: older)) w fun e u' w' =>
   e=.returned (.tuple #[])∧u'=.panicking ({ v:=.iface (ft 5) (.agg #[.int .i64 q]),recovered:=true } :: older)∧Below w.heap.size (((w.setCell ⟨N,0,none⟩ (.slice none 0 0)).setCell ⟨N+1,0,none⟩ (.int .i64 5)).setCell ⟨N+1,1,none⟩ (.int .i64 q)) w':=by
 have hta0:=ta_miss2
 have hta1:=ta_miss3
 have hta2:=ta_hit3
 have hft:ft 5=79:=rfl
 rw [hft]
 refine callsD_of_wpS Tryz.func40 rfl fun c₀ cs hu=>?_
 apply wpS_seq
 apply wpS_region
 simp [wpOpsS,go_sem,recoverD,hu,Tryz.ntmps40,Exit.thenS]
 refine wpS_of_wp ?_
 have htm:(#[Value.pointer (some { block:=N,off:=0 }),Value.pointer (some { block:=N+1,off:=0 })] ++
     (Array.replicate 26 undef).setIfInBounds 5 (Value.iface 79 (Value.agg #[Value.int IntKind.i64 q])))=#[Value.pointer (some { block:=N,off:=0 }),Value.pointer (some { block:=N+1,off:=0 }),undef,undef,undef,undef,undef,Value.iface 79 (Value.agg #[Value.int IntKind.i64 q]),undef,undef,undef,undef,undef,undef,undef,undef,undef,undef,undef,undef,undef,undef,undef,undef,undef,undef,undef,undef]:=by
  simp only [Array.replicate_succ,Array.replicate_zero,List.push_toArray,List.append_toArray,List.nil_append,List.cons_append,List.setIfInBounds_toArray,List.set_cons_succ,List.set_cons_zero]
 rw [htm]
 clear htm
 go_wp2
 go_region
 all_goals
  go_wp2
  refine⟨rfl,_,rfl,_,results_none Tryz.results40 _ _ _,rfl,rfl,?_⟩
  (repeat (first | exact Below.refl _ _ | refine bdrewN ?_ | refine bdrew ?_ | refine balloc2 ?_ (by simp [World.setCell])))
set_option maxHeartbeats 2000000 in
theorem pcatch_idle (N:Nat) (w:World) :
  CallsD Tryz.prog 40 #[.pointer (some ⟨N,0,none⟩),.pointer (some ⟨N+1,0,none⟩)] .returning w fun e u' w'=>e=.returned (.tuple #[])∧u'=.returning∧w'=w:=by
 refine callsD_of_wpS Tryz.func40 rfl fun c₀ cs hu=>?_
 apply wpS_seq
 apply wpS_region
 simp [wpOpsS,go_sem,recoverD,hu,Tryz.ntmps40,Exit.thenS]
 refine wpS_of_wp ?_
 have htm:(#[Value.pointer (some { block:=N,off:=0 }),Value.pointer (some { block:=N+1,off:=0 })] ++
     (Array.replicate 26 undef).setIfInBounds 5 Value.nilIface)=#[Value.pointer (some { block:=N,off:=0 }),Value.pointer (some { block:=N+1,off:=0 }),undef,undef,undef,undef,undef,Value.nilIface,undef,undef,undef,undef,undef,undef,undef,undef,undef,undef,undef,undef,undef,undef,undef,undef,undef,undef,undef,undef]:=by
  simp only [Array.replicate_succ,Array.replicate_zero,List.push_toArray,List.append_toArray,List.nil_append,List.cons_append,List.setIfInBounds_toArray,List.set_cons_succ,List.set_cons_zero]
 rw [htm]
 clear htm
 have hcs:c₀ :: cs = { c₀ with mode:=FrameMode.returning } :: cs:=by rw [← hu]
 rw [hcs]
 go_wp2
 exact⟨rfl,_,rfl,_,results_none Tryz.results40 _ _ _,rfl,rfl,rfl⟩
end
end Go.Proofs.YtdemnolanlfblaaGreatDoor
