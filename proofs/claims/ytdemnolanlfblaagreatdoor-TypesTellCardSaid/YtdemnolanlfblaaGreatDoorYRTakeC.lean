import Derived.Test.YtdemnolanlfblaaGreatDoorYRMem
set_option linter.all false
namespace Go.Proofs.YtdemnolanlfblaaGreatDoor
section
open Go.RowKit
def tokAt (X:ByteArray) (T:List Tok) (i:Nat):Tok:=T.getD i ⟨0,⟨#[]⟩,0,X.size⟩
theorem RG.cells {p X T tv i d c q b N A w}(h:RG p X T tv i d c q b N A w):∃ v n xs,w.cell? ⟨p,0,none⟩=some (.string X)∧w.cell? ⟨p,1,none⟩=some tv∧w.cell? ⟨p,2,none⟩=some (.int .i64 i)∧w.cell? ⟨p,3,none⟩=some (.int .i64 d)∧w.cell? ⟨p,4,none⟩=some v∧w.cell? ⟨p,5,none⟩=some (.int .i64 c)∧w.cell? ⟨p,6,none⟩=some (.int .i64 q)∧w.cell? ⟨p,7,none⟩=some (.bool b)∧(∀ j,w.frozen? ⟨p,j,none⟩=false)∧w.ownsRow (p+1) 36 5 v n xs∧n≤N∧((n=0→v=.slice none 0 0)∧∀ k,v.ownBlock=some k→¬ A k):=by
 obtain⟨v,n,xs,hb,ho,hn,h0⟩:=h.own
 refine⟨v,n,xs,?_,?_,?_,?_,?_,?_,?_,?_,?_,ho,hn,h0⟩
 all_goals simp [World.cell?,World.frozen?,hb,rcells]
set_option maxHeartbeats 1000000 in
theorem rnow_any {p X T tv i d c q b N A w}(h:RG p X T tv i d c q b N A w) :
  Calls Tryz.prog 35 #[.pointer (some ⟨p,0,none⟩)] w fun e w'=>e=.returned (.agg #[.int .i64 (tokAt X T i).kind,.string (tokAt X T i).text,.int .i64 (tokAt X T i).num,.int .i64 (tokAt X T i).pos])∧Below w.heap.size w w':=by
 obtain⟨v,n,xs,c0,c1,c2,c3,c4,c5,c6,c7,cf,_⟩:=h.cells
 have hp:=h.lt
 have hfew:=h.few
 have hsm:=h.small
 obtain⟨ta,tc,rfl⟩:=own_toks h.toks
 by_cases hlt:i<T.length
 ·obtain⟨t,ht⟩:∃ t,T[i]? = some t:=⟨_,List.getElem?_eq_getElem hlt⟩
  obtain⟨g,rfl,hg,l0,l1,l2,l3⟩:=own_toks_at h.toks _ t ht
  have hgl:=World.block_lt_of_cell? w _ l0
  simp only [] at hgl
  have hlook:tokAt X T i=t:=by simp [tokAt,List.getD,ht]
  rw [hlook]
  have H:=hide h
  clear h
  have hz:(i:Int)<(T.length:Int):=by omega
  go_enter Tryz.func35,Tryz.ntmps35
  go_wp2
  go_quiet (fail)
  go_wp2
  go_region
  all_goals
   go_wp2
   go_returns
   refine⟨rfl,?_⟩
   (repeat (first | exact Below.refl _ _ | with_reducible assumption | (refine bset ?_ (by first | exact Nat.le_refl _ | (simp;done) | (simp;omega))) | refine bdrewN ?_ | refine bdrew ?_ | refine balloc ?_))
 ·have hlook:tokAt X T i=⟨0,⟨#[]⟩,0,X.size⟩:=by simp [tokAt,List.getD,List.getElem?_eq_none (Nat.le_of_not_lt hlt)]
  rw [hlook]
  have H:=hide h
  clear h
  have hz:¬ (i:Int)<(T.length:Int):=by omega
  go_enter Tryz.func35,Tryz.ntmps35
  go_wp2
  go_quiet (fail)
  go_wp2
  go_returns
  refine⟨rfl,?_⟩
  (repeat (first | exact Below.refl _ _ | with_reducible assumption | (refine bset ?_ (by first | exact Nat.le_refl _ | (simp;done) | (simp;omega))) | refine bdrewN ?_ | refine bdrew ?_ | refine balloc ?_))
theorem tl_inj {a b:ByteArray}:a.toList=b.toList↔a=b:=by
 refine⟨fun h=>?_,fun h=>by rw [h]⟩
 rw [ByteArray.toList_eq,ByteArray.toList_eq] at h
 cases a
 cases b
 simp at h
 rw [h]
def risB (t:Tok) (x:ByteArray):Bool:=decide (t.text=x) && (decide (t.kind=3) || decide (t.kind=4))
set_option maxHeartbeats 1000000 in
theorem ris_any {p X T tv i d c q b N A w}(h:RG p X T tv i d c q b N A w) (x:ByteArray) :
  Calls Tryz.prog 57 #[.pointer (some ⟨p,0,none⟩),.string x] w fun e w'=>e=.returned (.bool (risB (tokAt X T i) x))∧Below w.heap.size w w':=by
 have HL:=hide (rnow_any h)
 generalize tokAt X T i=t at *
 go_enter Tryz.func57,Tryz.ntmps57
 go_wp2_with (go_at_call 35;refine (uh HL).mono ?_;rintro e w1 ⟨rfl,hb1⟩)
 all_goals
  go_returns
  refine⟨?_,hb1.alloc hb1.size _⟩
  simp only [tl_inj] at *
  first
   | (simp_all [risB];done)
   | (rw [risB];simp_all;rw [Bool.eq_iff_iff];simp_all)
theorem tokAt_look {p X T tv r A s w}(h:RSt p X T tv r A s w):tokAt X T (T.length - s.rest.length)=look X.size s 0:=by
 have:=h.suffix
 unfold tokAt look
 rw [List.getD_eq_getElem?_getD,List.getD_eq_getElem?_getD]
 conv=>rhs;rw [this]
 rw [List.getElem?_drop]
 rfl
theorem tokAt_end (X:ByteArray) (T:List Tok):tokAt X T T.length=⟨0,⟨#[]⟩,0,X.size⟩:=by simp [tokAt]
theorem rlook_ok {p X T tv r A s w}(h:RSt p X T tv r A s w) (hne:s.rest≠[]):TokOk (look X.size s 0):=by
 obtain⟨t,l,hl⟩:=List.exists_cons_of_ne_nil hne
 have:look X.size s 0=t:=by simp [look,hl]
 rw [this]
 refine h.good t ?_
 have h1:=h.suffix
 have:t ∈ s.rest:=by rw [hl];simp
 rw [h1] at this
 exact List.mem_of_mem_drop this
def kws:List ByteArray:=[⟨#[116,121,112,101]⟩,⟨#[115,116,114,117,99,116]⟩,⟨#[105,110,116,101,114,102,97,99,101]⟩,⟨#[102,117,110,99]⟩,⟨#[105,110,116]⟩,⟨#[98,111,111,108]⟩,⟨#[99,104,97,110]⟩,⟨#[103,111]⟩,⟨#[99,108,111,115,101]⟩,⟨#[112,97,110,105,99]⟩,⟨#[112,114,105,110,116]⟩,⟨#[105,102]⟩,⟨#[101,108,115,101]⟩,⟨#[102,111,114]⟩,⟨#[114,101,116,117,114,110]⟩,⟨#[98,114,101,97,107]⟩,⟨#[115,101,108,101,99,116]⟩,⟨#[99,97,115,101]⟩,⟨#[100,101,102,97,117,108,116]⟩,⟨#[116,114,117,101]⟩,⟨#[102,97,108,115,101]⟩,⟨#[110,105,108]⟩,⟨#[110,101,119]⟩,⟨#[109,97,107,101]⟩,⟨#[40]⟩,⟨#[41]⟩,⟨#[123]⟩,⟨#[125]⟩,⟨#[44]⟩,⟨#[59]⟩,⟨#[46]⟩,⟨#[58]⟩,⟨#[61]⟩,⟨#[58,61]⟩,⟨#[60,45]⟩,⟨#[33]⟩,⟨#[45]⟩,⟨#[43]⟩,⟨#[42]⟩,⟨#[47]⟩,⟨#[37]⟩,⟨#[61,61]⟩,⟨#[33,61]⟩,⟨#[60]⟩,⟨#[60,61]⟩,⟨#[62]⟩,⟨#[62,61]⟩,⟨#[38,38]⟩,⟨#[124,124]⟩]
theorem kws_split (x:ByteArray) (h:x ∈ kws):x ∈ [⟨#[116,121,112,101]⟩,⟨#[115,116,114,117,99,116]⟩,⟨#[105,110,116,101,114,102,97,99,101]⟩,⟨#[102,117,110,99]⟩,⟨#[105,110,116]⟩,⟨#[98,111,111,108]⟩,⟨#[99,104,97,110]⟩,⟨#[103,111]⟩,⟨#[99,108,111,115,101]⟩,⟨#[112,97,110,105,99]⟩,⟨#[112,114,105,110,116]⟩,⟨#[105,102]⟩,⟨#[101,108,115,101]⟩,⟨#[102,111,114]⟩,⟨#[114,101,116,117,114,110]⟩,⟨#[98,114,101,97,107]⟩,⟨#[115,101,108,101,99,116]⟩,⟨#[99,97,115,101]⟩,⟨#[100,101,102,97,117,108,116]⟩,⟨#[116,114,117,101]⟩,⟨#[102,97,108,115,101]⟩,⟨#[110,105,108]⟩,⟨#[110,101,119]⟩,⟨#[109,97,107,101]⟩]∨x ∈ [⟨#[40]⟩,⟨#[41]⟩,⟨#[123]⟩,⟨#[125]⟩,⟨#[44]⟩,⟨#[59]⟩,⟨#[46]⟩,⟨#[58]⟩,⟨#[61]⟩,⟨#[58,61]⟩,⟨#[60,45]⟩,⟨#[33]⟩,⟨#[45]⟩,⟨#[43]⟩,⟨#[42]⟩,⟨#[47]⟩,⟨#[37]⟩,⟨#[61,61]⟩,⟨#[33,61]⟩,⟨#[60]⟩,⟨#[60,61]⟩,⟨#[62]⟩,⟨#[62,61]⟩,⟨#[38,38]⟩,⟨#[124,124]⟩]:=by
 have:kws = [⟨#[116,121,112,101]⟩,⟨#[115,116,114,117,99,116]⟩,⟨#[105,110,116,101,114,102,97,99,101]⟩,⟨#[102,117,110,99]⟩,⟨#[105,110,116]⟩,⟨#[98,111,111,108]⟩,⟨#[99,104,97,110]⟩,⟨#[103,111]⟩,⟨#[99,108,111,115,101]⟩,⟨#[112,97,110,105,99]⟩,⟨#[112,114,105,110,116]⟩,⟨#[105,102]⟩,⟨#[101,108,115,101]⟩,⟨#[102,111,114]⟩,⟨#[114,101,116,117,114,110]⟩,⟨#[98,114,101,97,107]⟩,⟨#[115,101,108,101,99,116]⟩,⟨#[99,97,115,101]⟩,⟨#[100,101,102,97,117,108,116]⟩,⟨#[116,114,117,101]⟩,⟨#[102,97,108,115,101]⟩,⟨#[110,105,108]⟩,⟨#[110,101,119]⟩,⟨#[109,97,107,101]⟩]++[⟨#[40]⟩,⟨#[41]⟩,⟨#[123]⟩,⟨#[125]⟩,⟨#[44]⟩,⟨#[59]⟩,⟨#[46]⟩,⟨#[58]⟩,⟨#[61]⟩,⟨#[58,61]⟩,⟨#[60,45]⟩,⟨#[33]⟩,⟨#[45]⟩,⟨#[43]⟩,⟨#[42]⟩,⟨#[47]⟩,⟨#[37]⟩,⟨#[61,61]⟩,⟨#[33,61]⟩,⟨#[60]⟩,⟨#[60,61]⟩,⟨#[62]⟩,⟨#[62,61]⟩,⟨#[38,38]⟩,⟨#[124,124]⟩]:=rfl
 rw [this] at h
 exact List.mem_append.1 h
theorem isB_one (E:Nat) (s:PS) (x:ByteArray):isB E s [x]=decide ((look E s 0).text=x):=by simp [isB]
theorem risB_isB {p X T tv r A s w}(h:RSt p X T tv r A s w) (x:ByteArray) (hx:x ∈ kws) (h0:x≠⟨#[]⟩):risB (tokAt X T (T.length - s.rest.length)) x=isB X.size s [x]:=by
 rw [tokAt_look h,isB_one]
 unfold risB
 by_cases ht:(look X.size s 0).text=x
 ·have hne:s.rest≠[]:=by
   intro hr
   rw [look_nil hr] at ht
   exact h0 ht.symm
  have hok:=rlook_ok h hne
  rcases kws_split x hx with hw | hw
  ·have:=hok.word (by rw [ht];exact hw)
   simp [ht,this]
  ·have:=hok.sign (by rw [ht];exact hw)
   simp [ht,this]
 ·simp [ht]
theorem risB_end (X:ByteArray) (T:List Tok) (x:ByteArray):risB (tokAt X T T.length) x=false:=by simp [tokAt_end,risB]
end
section
open Go.RowKit
theorem Off.rfr {p:Nat}{w w':World}(h:Off p w w') {c:Array Value}{f:Nat × Nat}(hp:w.heap[p]? = some (.cells c 57 f)):RFr p w.heap.size w w':=by
 have hlt:p<w.heap.size:=(Array.getElem?_eq_some_iff.1 hp).1
 refine⟨Nat.le_refl _,hlt,⟨h.os,h.tape,h.output,h.size,fun k hk=>h.block k (by omega) (by omega)⟩,fun k o hk ho hq=>?_⟩
 by_cases hkp:k=p
 ·subst hkp
  rw [hp] at ho
  simp only [Option.some.injEq] at ho
  subst ho
  simp [RPlain] at hq
 ·rw [h.block k hk hkp];exact ho
theorem own_off {p:Nat}{w w':World}{c:Array Value}(ho:Off p w w') (hp:w.heap[p]? = some (.cells c 57 (0,0))) {b e z:Nat}{u:Value}{n:Nat}{xs:List Value}(hrow:w.ownsRow b e z u n xs) (hne:e≠57):w'.ownsRow b e z u n xs:=by
 refine⟨hrow.1,?_⟩
 rcases hrow.2 with h2 | ⟨g,cap,cur,hv,hg,hh,rr⟩
 ·exact Or.inl h2
 ·refine Or.inr ⟨g,cap,cur,hv,hg,?_,rr⟩
  rw [ho.block g (Array.getElem?_eq_some_iff.1 hh).1 ?_];exact hh
  intro e1
  rw [e1,hp] at hh
  simp at hh
  exact hne hh.2.symm
theorem RG.moved {p X T tv i d c q b N A w}(h:RG p X T tv i d c q b N A w) {w':World}(ho:Off p w w') {i':Nat}{d' c' q':Int}{b':Bool}
  (hb:∀ v,w.heap[p]? = some (.cells (rcells X tv i d v c q b) 57 (0,0))→w'.heap[p]? = some (.cells (rcells X tv i' d' v c' q' b') 57 (0,0))) :
  RG p X T tv i' d' c' q' b' N A w'∧RFr p w.heap.size w w':=by
 obtain⟨v,n,xs,hblk,hown,hn,h0⟩:=h.own
 exact⟨⟨h.few,h.small,⟨v,n,xs,hb v hblk,own_off ho hblk hown (by decide),hn,h0⟩,fun k hk=>Nat.lt_of_lt_of_le (h.sep k hk) ho.size,own_off ho hblk h.toks (by decide)⟩,ho.rfr hblk⟩
theorem RSt.moved {p X T tv r A s w}(h:RSt p X T tv r A s w) {w':World}(ho:Off p w w') (r':Nat) (s':PS) (hr:r'≤30) (hn:s'.nodes=s.nodes) (hs:s'.rest=T.drop (T.length - s'.rest.length)) (hc:phi s'≤phi s)
  (hb:∀ v,w.heap[p]? = some (.cells (rcells X tv ((T.length - s.rest.length:Nat):Int) ((30 - r:Nat):Int) v 0 0 false) 57 (0,0)) →
   w'.heap[p]? = some (.cells (rcells X tv ((T.length - s'.rest.length:Nat):Int) ((30 - r':Nat):Int) v 0 0 false) 57 (0,0))) :
  RSt p X T tv r' A s' w'∧RFr p w.heap.size w w':=by
 obtain⟨v,kvs,hblk,hown,hl,hk⟩:=h.own
 refine⟨⟨hr,hs,h.few,h.small,h.good,Nat.le_trans hc h.cap,fun k hk=>Nat.lt_of_lt_of_le (h.sep k hk) ho.size,⟨v,kvs,hb v hblk,?_,?_,?_⟩,own_off ho hblk h.toks (by decide)⟩,ho.rfr hblk⟩
 ·rw [hn];exact own_off ho hblk hown (by decide)
 ·rw [hn];exact hl
 ·rw [hn];exact fun i n kv hi hj=>⟨own_off ho hblk (hk i n kv hi hj).1 (by decide),(hk i n kv hi hj).2⟩
theorem blk_alloc {w:World}{p:Nat}{o' o:Obj}(h:w.heap[p]? = some o):(w.alloc o').heap[p]? = some o:=(Below.heap_alloc _ _ _ (Array.getElem?_eq_some_iff.1 h).1).trans h
theorem blk_below {w w1:World}{p:Nat}{o:Obj}(hb:Below w.heap.size w w1) (h:w.heap[p]? = some o):w1.heap[p]? = some o:=(hb.block p (Array.getElem?_eq_some_iff.1 h).1).trans h
theorem blk_eq {w:World}{p:Nat}{c c':Array Value}{t:TypeId}(h:w.heap[p]? = some (.cells c t (0,0))) (hc:c=c'):w.heap[p]? = some (.cells c' t (0,0)):=by rw [h,hc]
theorem bcell {W w1:World}(hb:Below W.heap.size W w1):(∀ b o,b<W.heap.size→w1.cell? ⟨b,o,none⟩=W.cell? ⟨b,o,none⟩)∧(∀ b o,b<W.heap.size→w1.frozen? ⟨b,o,none⟩=W.frozen? ⟨b,o,none⟩) :=
 ⟨fun b o h=>hb.cell (p:=⟨b,o,none⟩) h,fun b o h=>hb.frozen (p:=⟨b,o,none⟩) h⟩
def RBad (p:Nat) (X:ByteArray) (T:List Tok) (tv:Value) (c q:Int) (N:Nat) (A:Nat→Prop) (w:World):Prop:=∃ d,RG p X T tv T.length d c q true N A w
theorem RBad.new {p X T tv c q N A w w'}(h:RBad p X T tv c q N A w) (hb:Below w.heap.size w w'):RBad p X T tv c q N A w':=by obtain⟨d,h⟩:=h;exact⟨d,h.new hb⟩
theorem RBad.alloc {p X T tv c q N A w}(h:RBad p X T tv c q N A w) (o:Obj):RBad p X T tv c q N A (w.alloc o):=h.new (blA w o)
theorem RBad.more {p X T tv c q N N' A w}(h:RBad p X T tv c q N A w) (hN:N≤N'):RBad p X T tv c q N' A w:=by obtain⟨d,h⟩:=h;exact⟨d,h.more hN⟩
theorem RBad.lt {p X T tv c q N A w}(h:RBad p X T tv c q N A w):p<w.heap.size:=by obtain⟨d,h⟩:=h;exact h.lt
theorem RG.facts {p X T tv i d c q b N A w}(h:RG p X T tv i d c q b N A w):∃ v n,w.cell? ⟨p,0,none⟩=some (.string X)∧w.cell? ⟨p,1,none⟩=some tv∧w.cell? ⟨p,2,none⟩=some (.int .i64 i)∧w.cell? ⟨p,3,none⟩=some (.int .i64 d)∧w.cell? ⟨p,4,none⟩=some v∧w.cell? ⟨p,5,none⟩=some (.int .i64 c)∧w.cell? ⟨p,6,none⟩=some (.int .i64 q)∧w.cell? ⟨p,7,none⟩=some (.bool b)∧w.frozen? ⟨p,2,none⟩=false∧w.frozen? ⟨p,3,none⟩=false∧w.frozen? ⟨p,4,none⟩=false∧w.frozen? ⟨p,5,none⟩=false∧w.frozen? ⟨p,6,none⟩=false∧w.frozen? ⟨p,7,none⟩=false∧p<w.heap.size∧∃ a k,v=.slice a n k:=by
 obtain⟨v,n,xs,c0,c1,c2,c3,c4,c5,c6,c7,cf,ho,hn,h0⟩:=h.cells
 exact⟨v,n,c0,c1,c2,c3,c4,c5,c6,c7,cf 2,cf 3,cf 4,cf 5,cf 6,cf 7,h.lt,own_len ho⟩
theorem RG.toBad {p X T tv i d c q b N A w}(h:RG p X T tv i d c q b N A w) {w':World}(ho:Off p w w') {c' q':Int}
  (hb:∀ v,w.heap[p]? = some (.cells (rcells X tv i d v c q b) 57 (0,0))→∃ d',w'.heap[p]? = some (.cells (rcells X tv (T.length:Int) d' v c' q' true) 57 (0,0))) :
  RBad p X T tv c' q' N A w'∧RFr p w.heap.size w w':=by
 obtain⟨v,n,xs,hblk,hown,hn,h0⟩:=h.own
 obtain⟨d',hd'⟩:=hb v hblk
 exact⟨⟨d',⟨h.few,h.small,⟨v,n,xs,hd',own_off ho hblk hown (by decide),hn,h0⟩,fun k hk=>Nat.lt_of_lt_of_le (h.sep k hk) ho.size,own_off ho hblk h.toks (by decide)⟩⟩,ho.rfr hblk⟩
def ROut {α:Type}(p:Nat) (X:ByteArray) (T:List Tok) (tv:Value) (r:Nat) (A:Nat→Prop) (B d N:Nat) (s:PS) (w:World) (res:Res α) (R:α→Value→World→Prop) (Rb:Value→World→Prop) (e:Ending) (w':World):Prop :=
 (∃ a s' v,res=.ok a s'∧e=.returned v∧R a v w'∧RSt p X T tv r A s' w'∧RFr p B w w'∧phi s'+d≤phi s) ∨
 (∃ c q v,res=.bad c q∧e=.returned v∧Rb v w'∧RBad p X T tv c q N A w'∧RFr p B w w')
def WOut (p:Nat) (X:ByteArray) (T:List Tok) (tv:Value) (B:Nat) (c q:Int) (N:Nat) (A:Nat→Prop) (w:World) (Rb:Value→World→Prop) (e:Ending) (w':World):Prop :=
 ∃ v,e=.returned v∧Rb v w'∧RBad p X T tv c q N A w'∧RFr p B w w'
def RPos (t:Tok) (v:Value) (_:World):Prop:=v=.int .i64 t.pos
def BInt (v:Value) (_:World):Prop:=∃ k:Int,v=.int .i64 k
def BNat (v:Value) (_:World):Prop:=∃ k:Nat,v=.int .i64 (k:Int)
def BStr (v:Value) (_:World):Prop:=∃ x:ByteArray,v=.string x
def BUnit (v:Value) (_:World):Prop:=v=.tuple #[]
set_option maxHeartbeats 1000000 in
theorem rfail_ok {p X T tv i d N A w}(h:RG p X T tv i d 0 0 false N A w) (c:Int) :
  Calls Tryz.prog 63 #[.pointer (some ⟨p,0,none⟩),.int .i64 c] w (WOut p X T tv w.heap.size c (tokAt X T i).pos N A w BUnit):=by
 have HL:=hide (rnow_any h)
 have HH:=hide h
 obtain⟨v,n,c0,c1,c2,c3,c4,c5,c6,c7,f2,f3,f4,f5,f6,f7,hp,va,vk,rfl⟩:=h.facts
 obtain⟨ta,tc,rfl⟩:=own_toks h.toks
 clear h
 generalize tokAt X T i=t at *
 go_enter Tryz.func63,Tryz.ntmps63
 go_wp2_with (go_at_call 35;refine (uh HL).mono ?_;rintro e w1 ⟨rfl,hb1⟩;have hsz:=hb1.size;obtain⟨v1,nq9,d0,d1,d2,d3,d4,d5,d6,d7,e2,e3,e4,e5,e6,e7,hp1,va1,vk1,rfl⟩:=((uh HH).new hb1).facts)
 go_returns
 have ho1:Off p w w1:=Off.of hb1
 refine⟨_,rfl,rfl,(uh HH).toBad (by (repeat (first | exact Off.refl _ _ | with_reducible assumption | (refine Off.set ?_ (by first | exact Or.inl rfl | (right;simp;done) | (right;simp;omega))) | refine Off.drewN ?_ | refine Off.drew ?_ | refine Off.alloc ?_))) (fun v' hv'=>⟨d,by have:=blk_below hb1 hv';(apply blk_eq;(case h=>(repeat (first | with_reducible assumption | with_reducible apply blk_alloc | with_reducible apply block_set | (with_reducible refine blk_other ?_ (by first | (show p≠_;omega) | (simp;omega))))));rfl)⟩)⟩
set_option maxHeartbeats 1000000 in
theorem rfail_bad {p X T tv c q N A w}(h:RBad p X T tv c q N A w) (c':Int) :
  Calls Tryz.prog 63 #[.pointer (some ⟨p,0,none⟩),.int .i64 c'] w (WOut p X T tv w.heap.size c q N A w BUnit):=by
 obtain⟨d,h⟩:=h
 have HH:=hide h
 obtain⟨v,n,c0,c1,c2,c3,c4,c5,c6,c7,f2,f3,f4,f5,f6,f7,hp,va,vk,rfl⟩:=h.facts
 obtain⟨ta,tc,rfl⟩:=own_toks h.toks
 clear h
 go_enter Tryz.func63,Tryz.ntmps63
 go_wp2
 go_returns
 refine⟨_,rfl,rfl,(uh HH).toBad (by (repeat (first | exact Off.refl _ _ | with_reducible assumption | (refine Off.set ?_ (by first | exact Or.inl rfl | (right;simp;done) | (right;simp;omega))) | refine Off.drewN ?_ | refine Off.drew ?_ | refine Off.alloc ?_))) (fun v' hv'=>⟨d,by (apply blk_eq;(case h=>(repeat (first | with_reducible assumption | with_reducible apply blk_alloc | with_reducible apply block_set | (with_reducible refine blk_other ?_ (by first | (show p≠_;omega) | (simp;omega))))));rfl)⟩)⟩
theorem want_yes {E:Nat}{s:PS}{x:ByteArray}(h:isB E s [x]=true):want E [x] s=.ok (look E s 0) { s with rest:=s.rest.tail }:=by unfold want;rw [if_pos h];rfl
theorem want_no {E:Nat}{s:PS}{x:ByteArray}(h:isB E s [x]=false):want E [x] s=.bad 3 (look E s 0).pos:=by unfold want;rw [if_neg (by rw [h];decide)];rfl
theorem RSt.onward {p X T tv r A s w}(h:RSt p X T tv r A s w) (hne:s.rest≠[]) {w':World}(ho:Off p w w') {d':Int}(r':Nat) (hr:r'≤30)
  (hb:∀ v,w.heap[p]? = some (.cells (rcells X tv ((T.length - s.rest.length:Nat):Int) ((30 - r:Nat):Int) v 0 0 false) 57 (0,0)) →
   w'.heap[p]? = some (.cells (rcells X tv (((T.length - s.rest.length:Nat):Int)+1) d' v 0 0 false) 57 (0,0))) (hd:d'=((30 - r':Nat):Int)) :
  RSt p X T tv r' A { s with rest:=s.rest.tail } w'∧RFr p w.heap.size w w'∧phi { s with rest:=s.rest.tail }+3≤phi s:=by
 obtain⟨t,l,hl⟩:=List.exists_cons_of_ne_nil hne
 have h1:=h.suffix
 have h2:s.rest.length≤T.length:=by
  have:=congrArg List.length h1
  simp at this
  omega
 have h3:s.rest.length=l.length+1:=by rw [hl];rfl
 have hphi:phi { s with rest:=s.rest.tail }+3≤phi s:=by
  unfold phi
  rw [hl]
  simp
  omega
 have hsuf:s.rest.tail=T.drop (T.length - s.rest.tail.length):=by
  have h4:T.length - s.rest.tail.length=T.length - s.rest.length+1:=by rw [hl];simp;rw [hl] at h2;simp at h2;omega
  rw [h4,← List.drop_drop,← h1,hl]
  rfl
 have hm:=h.moved ho r' { s with rest:=s.rest.tail } hr rfl hsuf (by omega) (by
  intro v hv
  rw [hb v hv,hd]
  have:((T.length - s.rest.length:Nat):Int)+1=((T.length - s.rest.tail.length:Nat):Int):=by rw [hl];simp;rw [hl] at h2;simp at h2;omega
  rw [this])
 exact⟨hm.1,hm.2,hphi⟩
theorem isB_rest {E:Nat}{s:PS}{x:ByteArray}(h:isB E s [x]=true) (h0:x≠⟨#[]⟩):s.rest≠[]:=by
 intro hr
 rw [isB_one,look_nil hr] at h
 simp at h
 exact h0 h.symm
theorem RSt.ile {p X T tv r A s w}(_:RSt p X T tv r A s w):0≤((T.length - s.rest.length:Nat):Int):=by omega
set_option maxHeartbeats 2000000 in
theorem rtake_ok {p X T tv r A s w}(h:RSt p X T tv r A s w) (x:ByteArray) (hx:x ∈ kws) (h0:x≠⟨#[]⟩) :
  Calls Tryz.prog 37 #[.pointer (some ⟨p,0,none⟩),.string x] w (ROut p X T tv r A w.heap.size 3 (phi s) s w (want X.size [x] s) RPos BInt):=by
 have HL:=hide (rnow_any h.g)
 have HI:=hide (fun w' (hg:RG p X T tv (T.length - s.rest.length) ((30 - r:Nat):Int) 0 0 false (phi s) A w')=>ris_any hg x)
 have HF:=hide (fun w' (hg:RG p X T tv (T.length - s.rest.length) ((30 - r:Nat):Int) 0 0 false (phi s) A w')=>rfail_ok hg 3)
 rw [risB_isB h x hx h0] at HI
 rw [tokAt_look h] at HL HF
 have HH:=hide h
 have hi1:0≤((T.length - s.rest.length:Nat):Int):=by omega
 have hi2:((T.length - s.rest.length:Nat):Int)≤100000:=by have:=h.few;omega
 clear h
 cases hy:isB X.size s [x] with
 | true =>
  have HY:=hide hy
  rw [hy] at HI
  have HW:=hide (want_yes hy)
  clear hy
  generalize look X.size s 0=t at *
  go_enter Tryz.func37,Tryz.ntmps37
  go_wp2_with (first
   | (go_at_call 35;refine (uh HL).mono ?_;rintro e w1 ⟨rfl,hb1⟩;have hsz:=hb1.size)
   | (go_at_call 57;refine (uh HI _ (((uh HH).g.new hb1).alloc _)).mono ?_;rintro e w2 ⟨rfl,hb2⟩;have hsz2:=hb2.size;rw [szA] at hsz2;obtain⟨hc,hfz⟩:=bcell hb2;have hbx:=blk_below hb2 (BoxAt.made w1 [.int .i64 t.kind,.string t.text,.int .i64 t.num,.int .i64 t.pos] 66);have hx3:=BoxAt.cell hbx 3;simp only [List.getElem?_cons_succ,List.getElem?_cons_zero] at hx3;obtain⟨v1,nq9,d0,d1,d2,d3,d4,d5,d6,d7,e2,e3,e4,e5,e6,e7,hp1,va1,vk1,rfl⟩:=((((uh HH).g.new hb1).alloc _).new hb2).facts;clear hbx))
  go_returns
  have ho1:Off p w w1:=Off.of hb1
  have ho2:Off p w w2:=(Off.alloc ho1).below hb2
  obtain⟨q1,q2,q3⟩:=(uh HH).onward (isB_rest (uh HY) h0) (w':=w2.setCell ⟨p,2,none⟩ (.int .i64 (((T.length - s.rest.length:Nat):Int)+1))) (by (repeat (first | exact Off.refl _ _ | with_reducible assumption | (refine Off.set ?_ (by first | exact Or.inl rfl | (right;simp;done) | (right;simp;omega))) | refine Off.drewN ?_ | refine Off.drew ?_ | refine Off.alloc ?_))) (d':=((30 - r:Nat):Int)) r (uh HH).room (fun v' hv'=>by have:=blk_below hb2 (blk_alloc (blk_below hb1 hv'));(apply blk_eq;(case h=>(repeat (first | with_reducible assumption | with_reducible apply blk_alloc | with_reducible apply block_set | (with_reducible refine blk_other ?_ (by first | (show p≠_;omega) | (simp;omega))))));rfl)) rfl
  exact Or.inl ⟨_,_,_,uh HW,rfl,rfl,q1,q2,q3⟩
 | false =>
  rw [hy] at HI
  have HW:=hide (want_no hy)
  clear hy
  generalize look X.size s 0=t at *
  go_enter Tryz.func37,Tryz.ntmps37
  go_wp2_with (first
   | (go_at_call 35;refine (uh HL).mono ?_;rintro e w1 ⟨rfl,hb1⟩;have hsz:=hb1.size)
   | (go_at_call 57;refine (uh HI _ (((uh HH).g.new hb1).alloc _)).mono ?_;rintro e w2 ⟨rfl,hb2⟩;have hbx:=blk_below hb2 (BoxAt.made w1 [.int .i64 t.kind,.string t.text,.int .i64 t.num,.int .i64 t.pos] 66))
   | (go_at_call 63;refine (uh HF _ ((((uh HH).g.new hb1).alloc _).new hb2)).mono ?_;rintro e w3 ⟨v3,rfl,hR,hbd,hf3⟩;have hbx3:=BoxAt.fr hbx hf3 (BoxAt.lt hbx) (by decide) (fun h=>absurd h (by decide));have hx3:=BoxAt.cell hbx3 3;simp only [List.getElem?_cons_succ,List.getElem?_cons_zero] at hx3;have hlt3:=BoxAt.lt hbx3;unfold BUnit at hR;subst hR;clear hbx hbx3))
  go_returns
  exact Or.inr ⟨_,_,_,uh HW,rfl,⟨_,rfl⟩,hbd,(((RFr.of hb1 (uh HH).lt).new (blA _ _)).new hb2).step hf3⟩
end
section
open Go.RowKit
theorem ris_bad {p X T tv c q N A w}(h:RBad p X T tv c q N A w) (x:ByteArray) :
  Calls Tryz.prog 57 #[.pointer (some ⟨p,0,none⟩),.string x] w fun e w'=>e=.returned (.bool false)∧Below w.heap.size w w':=by
 obtain⟨d,h⟩:=h
 have:=ris_any h x
 rwa [risB_end] at this
theorem rnow_bad {p X T tv c q N A w}(h:RBad p X T tv c q N A w) :
  Calls Tryz.prog 35 #[.pointer (some ⟨p,0,none⟩)] w fun e w'=>e=.returned (.agg #[.int .i64 0,.string ⟨#[]⟩,.int .i64 0,.int .i64 (X.size:Int)])∧Below w.heap.size w w':=by
 obtain⟨d,h⟩:=h
 have:=rnow_any h
 rwa [tokAt_end] at this
theorem ris_ok {p X T tv r A s w}(h:RSt p X T tv r A s w) (x:ByteArray) (hx:x ∈ kws) (h0:x≠⟨#[]⟩) :
  Calls Tryz.prog 57 #[.pointer (some ⟨p,0,none⟩),.string x] w fun e w'=>e=.returned (.bool (isB X.size s [x]))∧Below w.heap.size w w':=by
 have:=ris_any h.g x
 rwa [risB_isB h x hx h0] at this
theorem rnow_ok {p X T tv r A s w}(h:RSt p X T tv r A s w) :
  Calls Tryz.prog 35 #[.pointer (some ⟨p,0,none⟩)] w fun e w'=>e=.returned (.agg #[.int .i64 (look X.size s 0).kind,.string (look X.size s 0).text,.int .i64 (look X.size s 0).num,.int .i64 (look X.size s 0).pos])∧Below w.heap.size w w':=by
 have:=rnow_any h.g
 rwa [tokAt_look h] at this
theorem rtake_no {p X T tv i d N A w}(h:RG p X T tv i d 0 0 false N A w) (x:ByteArray) (hr:risB (tokAt X T i) x=false) :
  Calls Tryz.prog 37 #[.pointer (some ⟨p,0,none⟩),.string x] w (WOut p X T tv w.heap.size 3 (tokAt X T i).pos N A w BInt):=by
 have HL:=hide (rnow_any h)
 have HI:=hide (fun w' (hg:RG p X T tv i d 0 0 false N A w')=>ris_any hg x)
 have HF:=hide (fun w' (hg:RG p X T tv i d 0 0 false N A w')=>rfail_ok hg 3)
 rw [hr] at HI
 have HH:=hide h
 clear h hr
 generalize tokAt X T i=t at *
 go_enter Tryz.func37,Tryz.ntmps37
 go_wp2_with (first
  | (go_at_call 35;refine (uh HL).mono ?_;rintro e w1 ⟨rfl,hb1⟩;have hsz:=hb1.size)
  | (go_at_call 57;refine (uh HI _ (((uh HH).new hb1).alloc _)).mono ?_;rintro e w2 ⟨rfl,hb2⟩;have hbx:=blk_below hb2 (BoxAt.made w1 [.int .i64 t.kind,.string t.text,.int .i64 t.num,.int .i64 t.pos] 66))
  | (go_at_call 63;refine (uh HF _ ((((uh HH).new hb1).alloc _).new hb2)).mono ?_;rintro e w3 ⟨v3,rfl,hR,hbd,hf3⟩;have hbx3:=BoxAt.fr hbx hf3 (BoxAt.lt hbx) (by decide) (fun h=>absurd h (by decide));have hx3:=BoxAt.cell hbx3 3;simp only [List.getElem?_cons_succ,List.getElem?_cons_zero] at hx3;have hlt3:=BoxAt.lt hbx3;unfold BUnit at hR;subst hR;clear hbx hbx3))
 go_returns
 exact⟨_,rfl,⟨_,rfl⟩,hbd,(((RFr.of hb1 (uh HH).lt).new (blA _ _)).new hb2).step hf3⟩
theorem rtake_bad {p X T tv c q N A w}(h:RBad p X T tv c q N A w) (x:ByteArray) :
  Calls Tryz.prog 37 #[.pointer (some ⟨p,0,none⟩),.string x] w (WOut p X T tv w.heap.size c q N A w BInt):=by
 have HL:=hide (rnow_bad h)
 have HH:=hide h
 clear h
 go_enter Tryz.func37,Tryz.ntmps37
 go_wp2_with (first
  | (go_at_call 35;refine (uh HL).mono ?_;rintro e w1 ⟨rfl,hb1⟩;have hsz:=hb1.size)
  | (go_at_call 57;refine (ris_bad (((uh HH).new hb1).alloc _) _).mono ?_;rintro e w2 ⟨rfl,hb2⟩;have hbx:=blk_below hb2 (BoxAt.made w1 [.int .i64 0,.string ⟨#[]⟩,.int .i64 0,.int .i64 X.size] 66))
  | (go_at_call 63;refine (rfail_bad ((((uh HH).new hb1).alloc _).new hb2) _).mono ?_;rintro e w3 ⟨v3,rfl,hR,hbd,hf3⟩;have hbx3:=BoxAt.fr hbx hf3 (BoxAt.lt hbx) (by decide) (fun h=>absurd h (by decide));have hx3:=BoxAt.cell hbx3 3;simp only [List.getElem?_cons_succ,List.getElem?_cons_zero] at hx3;have hlt3:=BoxAt.lt hbx3;unfold BUnit at hR;subst hR;clear hbx hbx3))
 go_returns
 exact⟨_,rfl,⟨_,rfl⟩,hbd,(((RFr.of hb1 (uh HH).lt).new (blA _ _)).new hb2).step hf3⟩
def ROutK (p:Nat) (X:ByteArray) (T:List Tok) (tv:Value) (r:Nat) (A:Nat→Prop) (s:PS) (w:World) (x:ByteArray) (e:Ending) (w':World):Prop :=
 (isB X.size s [x]=true∧e=.returned (.bool true)∧RSt p X T tv r A { s with rest:=s.rest.tail } w'∧RFr p w.heap.size w w'∧phi { s with rest:=s.rest.tail }+3≤phi s) ∨
 (isB X.size s [x]=false∧e=.returned (.bool false)∧RSt p X T tv r A s w'∧RFr p w.heap.size w w')
set_option maxHeartbeats 1000000 in
theorem rtook_ok {p X T tv r A s w}(h:RSt p X T tv r A s w) (x:ByteArray) (hx:x ∈ kws) (h0:x≠⟨#[]⟩) :
  Calls Tryz.prog 54 #[.pointer (some ⟨p,0,none⟩),.string x] w (ROutK p X T tv r A s w x):=by
 have HI:=hide (ris_ok h x hx h0)
 have HH:=hide h
 have hi1:0≤((T.length - s.rest.length:Nat):Int):=by omega
 have hi2:((T.length - s.rest.length:Nat):Int)≤100000:=by have:=h.few;omega
 clear h
 cases hy:isB X.size s [x] with
 | true =>
  rw [hy] at HI
  have HY:=hide hy
  clear hy
  go_enter Tryz.func54,Tryz.ntmps54
  go_wp2_with (go_at_call 57;refine (uh HI).mono ?_;rintro e w2 ⟨rfl,hb2⟩;obtain⟨v1,nq9,d0,d1,d2,d3,d4,d5,d6,d7,e2,e3,e4,e5,e6,e7,hp1,va1,vk1,rfl⟩:=((uh HH).g.new hb2).facts)
  go_returns
  have ho2:Off p w w2:=Off.of hb2
  obtain⟨q1,q2,q3⟩:=(uh HH).onward (isB_rest (uh HY) h0) (w':=w2.setCell ⟨p,2,none⟩ (.int .i64 (((T.length - s.rest.length:Nat):Int)+1))) (by (repeat (first | exact Off.refl _ _ | with_reducible assumption | (refine Off.set ?_ (by first | exact Or.inl rfl | (right;simp;done) | (right;simp;omega))) | refine Off.drewN ?_ | refine Off.drew ?_ | refine Off.alloc ?_))) (d':=((30 - r:Nat):Int)) r (uh HH).room (fun v' hv'=>by have:=blk_below hb2 hv';(apply blk_eq;(case h=>(repeat (first | with_reducible assumption | with_reducible apply blk_alloc | with_reducible apply block_set | (with_reducible refine blk_other ?_ (by first | (show p≠_;omega) | (simp;omega))))));rfl)) rfl
  exact Or.inl ⟨uh HY,rfl,q1,q2,q3⟩
 | false =>
  rw [hy] at HI
  have HY:=hide hy
  clear hy
  go_enter Tryz.func54,Tryz.ntmps54
  go_wp2_with (go_at_call 57;refine (uh HI).mono ?_;rintro e w2 ⟨rfl,hb2⟩)
  go_returns
  exact Or.inr ⟨uh HY,rfl,(uh HH).new hb2,RFr.of hb2 (uh HH).lt⟩
theorem rtook_bad {p X T tv c q N A w}(h:RBad p X T tv c q N A w) (x:ByteArray) :
  Calls Tryz.prog 54 #[.pointer (some ⟨p,0,none⟩),.string x] w fun e w'=>e=.returned (.bool false)∧Below w.heap.size w w':=by
 have HH:=hide h
 clear h
 go_enter Tryz.func54,Tryz.ntmps54
 go_wp2_with (go_at_call 57;refine (ris_bad (uh HH) _).mono ?_;rintro e w2 ⟨rfl,hb2⟩)
 go_returns
 exact⟨rfl,hb2⟩
theorem wantName_yes {E:Nat}{s:PS}(h:(look E s 0).kind=1):wantName E s=.ok (look E s 0).text { s with rest:=s.rest.tail }:=by
 unfold wantName
 rw [bind_at]
 unfold wantKind
 rw [if_pos h];rfl
theorem wantName_no {E:Nat}{s:PS}(h:¬ (look E s 0).kind=1):wantName E s=.bad 3 (look E s 0).pos:=by
 unfold wantName
 rw [bind_at]
 unfold wantKind
 rw [if_neg h];rfl
set_option maxHeartbeats 1000000 in
theorem rname_ok {p X T tv r A s w}(h:RSt p X T tv r A s w) :
  Calls Tryz.prog 55 #[.pointer (some ⟨p,0,none⟩)] w (ROut p X T tv r A w.heap.size 3 (phi s) s w (wantName X.size s) RStr BStr):=by
 have HL:=hide (rnow_ok h)
 have HF:=hide (fun w' (hg:RG p X T tv (T.length - s.rest.length) ((30 - r:Nat):Int) 0 0 false (phi s) A w')=>rfail_ok hg 3)
 rw [tokAt_look h] at HF
 have HH:=hide h
 have hi1:0≤((T.length - s.rest.length:Nat):Int):=by omega
 have hi2:((T.length - s.rest.length:Nat):Int)≤100000:=by have:=h.few;omega
 clear h
 by_cases hk:(look X.size s 0).kind=1
 ·have HW:=hide (wantName_yes hk)
  have HY:Hid (s.rest≠[]):=kind_ne hk (by decide)
  generalize look X.size s 0=t at *
  go_enter Tryz.func55,Tryz.ntmps55
  go_wp2_with (go_at_call 35;refine (uh HL).mono ?_;rintro e w1 ⟨rfl,hb1⟩;have hsz:=hb1.size;obtain⟨v1,nq9,d0,d1,d2,d3,d4,d5,d6,d7,e2,e3,e4,e5,e6,e7,hp1,va1,vk1,rfl⟩:=((uh HH).g.new hb1).facts)
  go_returns
  have ho1:Off p w w1:=Off.of hb1
  obtain⟨q1,q2,q3⟩:=(uh HH).onward (uh HY) (w':=(w1.setCell ⟨p,2,none⟩ (.int .i64 (((T.length - s.rest.length:Nat):Int)+1))).alloc (Obj.cells #[.int .i64 t.kind,.string t.text,.int .i64 t.num,.int .i64 t.pos] 66)) (by (repeat (first | exact Off.refl _ _ | with_reducible assumption | (refine Off.set ?_ (by first | exact Or.inl rfl | (right;simp;done) | (right;simp;omega))) | refine Off.drewN ?_ | refine Off.drew ?_ | refine Off.alloc ?_))) (d':=((30 - r:Nat):Int)) r (uh HH).room (fun v' hv'=>by have:=blk_below hb1 hv';(apply blk_eq;(case h=>(repeat (first | with_reducible assumption | with_reducible apply blk_alloc | with_reducible apply block_set | (with_reducible refine blk_other ?_ (by first | (show p≠_;omega) | (simp;omega))))));rfl)) rfl
  exact Or.inl ⟨_,_,_,uh HW,rfl,rfl,by simpa [hk] using q1,by simpa [hk] using q2,q3⟩
 ·have HW:=hide (wantName_no hk)
  generalize look X.size s 0=t at *
  go_enter Tryz.func55,Tryz.ntmps55
  go_wp2_with (first
   | (go_at_call 35;refine (uh HL).mono ?_;rintro e w1 ⟨rfl,hb1⟩;have hsz:=hb1.size)
   | (go_at_call 63;refine (uh HF _ (((uh HH).g.new hb1).alloc _)).mono ?_;rintro e w3 ⟨v3,rfl,hR,hbd,hf3⟩;unfold BUnit at hR;subst hR))
  go_returns
  exact Or.inr ⟨_,_,_,uh HW,rfl,⟨_,rfl⟩,hbd,((RFr.of hb1 (uh HH).lt).new (blA _ _)).step hf3⟩
theorem rname_bad {p X T tv c q N A w}(h:RBad p X T tv c q N A w) :
  Calls Tryz.prog 55 #[.pointer (some ⟨p,0,none⟩)] w (WOut p X T tv w.heap.size c q N A w BStr):=by
 have HL:=hide (rnow_bad h)
 have HH:=hide h
 clear h
 go_enter Tryz.func55,Tryz.ntmps55
 go_wp2_with (first
  | (go_at_call 35;refine (uh HL).mono ?_;rintro e w1 ⟨rfl,hb1⟩;have hsz:=hb1.size)
  | (go_at_call 63;refine (rfail_bad (((uh HH).new hb1).alloc _) _).mono ?_;rintro e w3 ⟨v3,rfl,hR,hbd,hf3⟩;unfold BUnit at hR;subst hR))
 go_returns
 exact⟨_,rfl,⟨_,rfl⟩,hbd,((RFr.of hb1 (uh HH).lt).new (blA _ _)).step hf3⟩
end
section
open Go.RowKit
def ROutO (p:Nat) (X:ByteArray) (T:List Tok) (tv:Value) (r:Nat) (A:Nat→Prop) (s:PS) (w:World) (res:Res Tok) (e:Ending) (w':World):Prop :=
 (∃ r' t s',r=r'+1∧res=.ok t s'∧e=.returned (.int .i64 t.pos)∧RSt p X T tv r' A s' w'∧RFr p w.heap.size w w'∧phi s'+3≤phi s) ∨
 (∃ c q k,res=.bad c q∧e=.returned (.int .i64 k)∧RBad p X T tv c q (phi s) A w'∧RFr p w.heap.size w w')
theorem ropens_ok {E r:Nat}{s s':PS}{x:ByteArray}{t:Tok}(h:want E [x] s=.ok t s'):opens E (r+1) [x] s=.ok t s':=by
 unfold opens
 rw [bind_at,h]
 rfl
theorem ropens_bad {E r:Nat}{s:PS}{x:ByteArray}{c q:Int}(h:want E [x] s=.bad c q):opens E r [x] s=.bad c q:=by
 unfold opens
 rw [bind_at,h]
 rfl
theorem ropens_deep {E:Nat}{s:PS}{x:ByteArray}(h:isB E s [x]=true):opens E 0 [x] s=.bad 4 (look E s 0).pos:=by
 unfold opens
 rw [bind_at,want_yes h]
 rfl
theorem RG.deeper {p X T tv i d c q b N A w}(h:RG p X T tv i d c q b N A w) (d':Int):RG p X T tv i d' c q b N A (w.setCell ⟨p,3,none⟩ (.int .i64 d'))∧RFr p w.heap.size w (w.setCell ⟨p,3,none⟩ (.int .i64 d')):=by
 have hp:=h.lt
 exact h.moved (by (repeat (first | exact Off.refl _ _ | with_reducible assumption | (refine Off.set ?_ (by first | exact Or.inl rfl | (right;simp;done) | (right;simp;omega))) | refine Off.drewN ?_ | refine Off.drew ?_ | refine Off.alloc ?_))) (fun v' hv'=>by (apply blk_eq;(case h=>(repeat (first | with_reducible assumption | with_reducible apply blk_alloc | with_reducible apply block_set | (with_reducible refine blk_other ?_ (by first | (show p≠_;omega) | (simp;omega))))));rfl))
theorem RSt.deeper {p X T tv r A s w}(h:RSt p X T tv r A s w) (r':Nat) (hr:r'≤30):RSt p X T tv r' A s (w.setCell ⟨p,3,none⟩ (.int .i64 ((30 - r':Nat):Int)))∧RFr p w.heap.size w (w.setCell ⟨p,3,none⟩ (.int .i64 ((30 - r':Nat):Int))):=by
 have hp:=h.lt
 exact h.moved (by (repeat (first | exact Off.refl _ _ | with_reducible assumption | (refine Off.set ?_ (by first | exact Or.inl rfl | (right;simp;done) | (right;simp;omega))) | refine Off.drewN ?_ | refine Off.drew ?_ | refine Off.alloc ?_))) r' s hr rfl h.suffix (Nat.le_refl _) (fun v' hv'=>by (apply blk_eq;(case h=>(repeat (first | with_reducible assumption | with_reducible apply blk_alloc | with_reducible apply block_set | (with_reducible refine blk_other ?_ (by first | (show p≠_;omega) | (simp;omega))))));rfl))
theorem RBad.deeper {p X T tv c q N A w}(h:RBad p X T tv c q N A w) (d':Int):RBad p X T tv c q N A (w.setCell ⟨p,3,none⟩ (.int .i64 d'))∧RFr p w.heap.size w (w.setCell ⟨p,3,none⟩ (.int .i64 d')):=by
 obtain⟨d,h⟩:=h
 exact⟨⟨d',(h.deeper d').1⟩,(h.deeper d').2⟩
set_option maxHeartbeats 2000000 in
theorem renter_ok {p X T tv r A s w}(h:RSt p X T tv r A s w) (x:ByteArray) (hx:x ∈ kws) (h0:x≠⟨#[]⟩) :
  Calls Tryz.prog 56 #[.pointer (some ⟨p,0,none⟩),.string x] w (ROutO p X T tv r A s w (opens X.size r [x] s)):=by
 have HL:=hide (rnow_ok h)
 have HI:=hide (fun w' (hg:RSt p X T tv r A s w')=>ris_ok hg x hx h0)
 have hroom:=h.room
 have HH:=hide h
 clear h
 cases r with
 | succ r' =>
  have hd1:((30 - (r'+1):Nat):Int)<30:=by omega
  have hd0:0≤((30 - (r'+1):Nat):Int):=by omega
  have hd2:(((30 - (r'+1):Nat):Int) == 30)=false:=by rw [beq_eq_false_iff_ne];omega
  have HD:Hid (((29 - r':Nat):Int)+1=((30 - r':Nat):Int)):=by show _=_;omega
  generalize look X.size s 0=t at *
  generalize hy:isB X.size s [x]=y at *
  have HY:=hide hy
  clear hy
  go_enter Tryz.func56,Tryz.ntmps56
  go_wp2_with (first
   | (go_at_call 35;refine (uh HL).mono ?_;rintro e w1 ⟨rfl,hb1⟩;have hsz:=hb1.size)
   | (go_at_call 57;refine (uh HI _ (((uh HH).new hb1).alloc _)).mono ?_;rintro e w2 ⟨rfl,hb2⟩;have hst:=(((uh HH).new hb1).alloc _).new hb2;obtain⟨v1,nq9,d0,d1,d2,d3,d4,d5,d6,d7,e2,e3,e4,e5,e6,e7,hp1,va1,vk1,rfl⟩:=hst.g.facts;cases y)
   | (go_at_call 37;rw [uh HD];obtain⟨hst3,hf3⟩:=hst.deeper r' (by omega);refine (rtake_ok hst3 x hx h0).mono ?_;intro e w4 ho;clear hst hst3;rcases ho with⟨a,s1,v,hq,rfl,hR,hst,hf1,hd⟩ | ⟨c,q,v,hq,rfl,hR,hbd,hf1⟩;(unfold RPos at hR;subst hR);rotate_left;(obtain⟨k,rfl⟩:=hR);rotate_left))
  all_goals
   go_returns
   first
    | exact Or.inl ⟨r',_,_,rfl,ropens_ok hq,rfl,hst,((((RFr.of hb1 (uh HH).lt).new (blA _ _)).new hb2).step hf3).trans hf1 (by rw [size_set];have:=hb2.size;rw [szA] at this;omega),hd⟩
    | exact Or.inr ⟨_,_,_,ropens_bad hq,rfl,hbd,((((RFr.of hb1 (uh HH).lt).new (blA _ _)).new hb2).step hf3).trans hf1 (by rw [size_set];have:=hb2.size;rw [szA] at this;omega)⟩
 | zero =>
  cases hy:isB X.size s [x] with
  | true =>
   have HW:=hide (ropens_deep hy)
   have HF:=hide (fun w' (hg:RG p X T tv (T.length - s.rest.length) ((30 - 0:Nat):Int) 0 0 false (phi s) A w')=>rfail_ok hg 4)
   rw [tokAt_look (uh HH)] at HF
   rw [hy] at HI
   clear hy
   generalize look X.size s 0=t at *
   go_enter Tryz.func56,Tryz.ntmps56
   go_wp2_with (first
    | (go_at_call 35;refine (uh HL).mono ?_;rintro e w1 ⟨rfl,hb1⟩;have hsz:=hb1.size)
    | (go_at_call 57;refine (uh HI _ (((uh HH).new hb1).alloc _)).mono ?_;rintro e w2 ⟨rfl,hb2⟩;have hst:=(((uh HH).new hb1).alloc _).new hb2;obtain⟨v1,nq9,d0,d1,d2,d3,d4,d5,d6,d7,e2,e3,e4,e5,e6,e7,hp1,va1,vk1,rfl⟩:=hst.g.facts;have hbx:=blk_below hb2 (BoxAt.made w1 [.int .i64 t.kind,.string t.text,.int .i64 t.num,.int .i64 t.pos] 66))
    | (go_at_call 63;refine (uh HF _ hst.g).mono ?_;rintro e w3 ⟨v3,rfl,hR,hbd,hf3⟩;have hbx3:=BoxAt.fr hbx hf3 (BoxAt.lt hbx) (by decide) (fun h=>absurd h (by decide));have hx3:=BoxAt.cell hbx3 3;simp only [List.getElem?_cons_succ,List.getElem?_cons_zero] at hx3;have hlt3:=BoxAt.lt hbx3;unfold BUnit at hR;subst hR;clear hbx hbx3))
   go_returns
   exact Or.inr ⟨_,_,_,uh HW,rfl,hbd,(((RFr.of hb1 (uh HH).lt).new (blA _ _)).new hb2).step hf3⟩
  | false =>
   have HW:=hide (ropens_bad (r:=0) (want_no hy))
   have HR:Hid (risB (tokAt X T (T.length - s.rest.length)) x=false):=by show _=_;rw [risB_isB (uh HH) x hx h0];exact hy
   have HP:Hid ((tokAt X T (T.length - s.rest.length)).pos=(look X.size s 0).pos):=by show _=_;rw [tokAt_look (uh HH)]
   rw [hy] at HI
   clear hy
   generalize look X.size s 0=t at *
   go_enter Tryz.func56,Tryz.ntmps56
   go_wp2_with (first
    | (go_at_call 35;refine (uh HL).mono ?_;rintro e w1 ⟨rfl,hb1⟩;have hsz:=hb1.size)
    | (go_at_call 57;refine (uh HI _ (((uh HH).new hb1).alloc _)).mono ?_;rintro e w2 ⟨rfl,hb2⟩;have hst:=(((uh HH).new hb1).alloc _).new hb2;obtain⟨v1,nq9,d0,d1,d2,d3,d4,d5,d6,d7,e2,e3,e4,e5,e6,e7,hp1,va1,vk1,rfl⟩:=hst.g.facts)
    | (go_at_call 37;refine (rtake_no (hst.g.deeper _).1 x (uh HR)).mono ?_;rintro e w3 ⟨v3,rfl,⟨k,rfl⟩,hbd,hf3⟩;rw [uh HP] at hbd))
   go_returns
   exact Or.inr ⟨_,_,_,uh HW,rfl,hbd,((((RFr.of hb1 (uh HH).lt).new (blA _ _)).new hb2).step (hst.g.deeper _).2).trans hf3 (by rw [size_set];have:=hb2.size;rw [szA] at this;omega)⟩
set_option maxHeartbeats 2000000 in
theorem renter_bad {p X T tv c q N A w}(h:RBad p X T tv c q N A w) (x:ByteArray) :
  Calls Tryz.prog 56 #[.pointer (some ⟨p,0,none⟩),.string x] w (WOut p X T tv w.heap.size c q N A w BInt):=by
 have HL:=hide (rnow_bad h)
 have HH:=hide h
 clear h
 go_enter Tryz.func56,Tryz.ntmps56
 go_wp2_with (first
  | (go_at_call 35;refine (uh HL).mono ?_;rintro e w1 ⟨rfl,hb1⟩;have hsz:=hb1.size)
  | (go_at_call 57;refine (ris_bad (((uh HH).new hb1).alloc _) _).mono ?_;rintro e w2 ⟨rfl,hb2⟩;have hst:=(((uh HH).new hb1).alloc _).new hb2;obtain⟨dd,hg⟩:=id hst;obtain⟨v1,nq9,d0,d1,d2,d3,d4,d5,d6,d7,e2,e3,e4,e5,e6,e7,hp1,va1,vk1,rfl⟩:=hg.facts)
  | (go_at_call 37;refine (rtake_bad (hst.deeper _).1 x).mono ?_;rintro e w3 ⟨v3,rfl,⟨k,rfl⟩,hbd,hf3⟩))
 go_returns
 exact⟨_,rfl,⟨_,rfl⟩,hbd,((((RFr.of hb1 (uh HH).lt).new (blA _ _)).new hb2).step (hst.deeper _).2).trans hf3 (by rw [size_set];have:=hb2.size;rw [szA] at this;omega)⟩
set_option maxHeartbeats 2000000 in
theorem rleave_ok {p X T tv r A s w}(h:RSt p X T tv r A s w) (hr:r+1≤30) (x:ByteArray) (hx:x ∈ kws) (h0:x≠⟨#[]⟩) :
  Calls Tryz.prog 60 #[.pointer (some ⟨p,0,none⟩),.string x] w (ROut p X T tv (r+1) A w.heap.size 3 (phi s) s w (want X.size [x] s) (fun _ v _=>v=.tuple #[]) BUnit):=by
 have HT:=hide (rtake_ok h x hx h0)
 have HD:Hid (((30 - r:Nat):Int) - 1=((30 - (r+1):Nat):Int)):=by show _=_;omega
 have hd0:1≤((30 - r:Nat):Int):=by omega
 have hd1:((30 - r:Nat):Int)≤30:=by omega
 clear h
 go_enter Tryz.func60,Tryz.ntmps60
 go_wp2_with (go_at_call 37;refine (uh HT).mono ?_;intro e w1 ho;rcases ho with⟨a,s1,v,hq,rfl,hR,hst,hf1,hd⟩ | ⟨c,q,v,hq,rfl,hR,hbd,hf1⟩;(obtain⟨v1,nq9,d0,d1,d2,d3,d4,d5,d6,d7,e2,e3,e4,e5,e6,e7,hp1,va1,vk1,rfl⟩:=hst.g.facts);rotate_left;(obtain⟨dd,hg⟩:=id hbd;obtain⟨v1,nq9,d0,d1,d2,d3,d4,d5,d6,d7,e2,e3,e4,e5,e6,e7,hp1,va1,vk1,rfl⟩:=hg.facts);rotate_left)
 ·go_returns
  rw [uh HD]
  obtain⟨h2,h3⟩:=hst.deeper (r+1) hr
  exact Or.inl ⟨_,_,_,hq,rfl,rfl,h2,hf1.step h3,hd⟩
 ·go_returns
  obtain⟨h2,h3⟩:=hbd.deeper (wrap64 (dd - 1))
  exact Or.inr ⟨_,_,_,hq,rfl,rfl,h2,hf1.step h3⟩
set_option maxHeartbeats 2000000 in
theorem rleave_bad {p X T tv c q N A w}(h:RBad p X T tv c q N A w) (x:ByteArray) :
  Calls Tryz.prog 60 #[.pointer (some ⟨p,0,none⟩),.string x] w (WOut p X T tv w.heap.size c q N A w BUnit):=by
 have HT:=hide (rtake_bad h x)
 clear h
 go_enter Tryz.func60,Tryz.ntmps60
 go_wp2_with (go_at_call 37;refine (uh HT).mono ?_;rintro e w1 ⟨v,rfl,hR,hbd,hf1⟩;(obtain⟨dd,hg⟩:=id hbd;obtain⟨v1,nq9,d0,d1,d2,d3,d4,d5,d6,d7,e2,e3,e4,e5,e6,e7,hp1,va1,vk1,rfl⟩:=hg.facts))
 go_returns
 obtain⟨h2,h3⟩:=hbd.deeper (wrap64 (dd - 1))
 exact⟨_,rfl,rfl,h2,hf1.step h3⟩
end
end Go.Proofs.YtdemnolanlfblaaGreatDoor
