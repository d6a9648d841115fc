import Derived.Test.YtdemnolanlfblaaGreatDoorChecked
import Derived.WalkKit
import Derived.Deep.RegionLaw
import Derived.Deep.RegionWith
import Derived.Deep.QuietTactic
import Derived.BigQuiet
import Derived.WalkSmall
import Derived.Laws.Strings3
import Derived.Test.YtdemnolanlfblaaGreatDoorShelf
set_option linter.all false
namespace Go.Proofs.YtdemnolanlfblaaGreatDoor
section
open Go.RowKit
theorem hide {p:Prop}(h:p):Hid p:=h
theorem uh {p:Prop}(h:Hid p):p:=h
theorem ne_b {α:Type} [BEq α] [LawfulBEq α] {a b:α}(h:¬ a=b):(a == b)=false:=beq_eq_false_iff_ne.2 h
theorem ret_bool {a b:Bool}(h:a=b):Ending.returned (.bool a)=.returned (.bool b):=by rw [h]
def blankB (r:Int):Bool:=decide (r=32∨r=9∨r=13)
def digitB (r:Int):Bool:=decide (48≤r∧r≤57)
def letterB (r:Int):Bool:=decide ((97≤r∧r≤122)∨(65≤r∧r≤90)∨r=95)
def partB (r:Int):Bool:=decide ((97≤r∧r≤122)∨(65≤r∧r≤90)∨r=95∨(48≤r∧r≤57))
theorem bool_of {a:Bool}{p:Prop} [Decidable p] (h:a=true↔p):a=decide p:=by
 by_cases hp:p
 ·simp [h,hp]
 ·simp [hp];rw [← Bool.not_eq_true,h];exact hp
set_option maxHeartbeats 400000 in
theorem digit_any (r:Int) (w:World):Calls Tryz.prog 92 #[.int .i32 r] w fun e w'=>e=.returned (.bool (digitB r))∧w'=w:=by
 go_enter Tryz.func92,Tryz.ntmps92
 go_wp2
 all_goals
  go_ret
  refine⟨ret_bool (bool_of ?_),rfl⟩
  simp
  try omega
set_option maxHeartbeats 400000 in
theorem blank_any (r:Int) (w:World):Calls Tryz.prog 90 #[.int .i32 r] w fun e w'=>e=.returned (.bool (blankB r))∧w'=w:=by
 go_enter Tryz.func90,Tryz.ntmps90
 go_wp2
 all_goals
  go_ret
  refine⟨ret_bool (bool_of ?_),rfl⟩
  simp
  try omega
set_option maxHeartbeats 400000 in
theorem letter_any (r:Int) (w:World):Calls Tryz.prog 94 #[.int .i32 r] w fun e w'=>e=.returned (.bool (letterB r))∧w'=w:=by
 go_enter Tryz.func94,Tryz.ntmps94
 go_wp2
 all_goals
  go_ret
  refine⟨ret_bool (bool_of ?_),rfl⟩
  simp
  try omega
set_option maxHeartbeats 400000 in
theorem part_any (r:Int) (w:World):Calls Tryz.prog 121 #[.int .i32 r] w fun e w'=>e=.returned (.bool (partB r))∧w'=w:=by
 by_cases h:letterB r=true
 ·go_enter Tryz.func121,Tryz.ntmps121
  go_wp2_with (first | (go_at_call 94;refine (letter_any _ _).mono ?_;rintro e w' ⟨rfl,rfl⟩) | (go_at_call 92;refine (digit_any _ _).mono ?_;rintro e w' ⟨rfl,rfl⟩))
  go_ret
  refine⟨ret_bool (bool_of ?_),rfl⟩
  simp [letterB] at h ⊢
  omega
 ·simp at h
  go_enter Tryz.func121,Tryz.ntmps121
  go_wp2_with (first | (go_at_call 94;refine (letter_any _ _).mono ?_;rintro e w' ⟨rfl,rfl⟩) | (go_at_call 92;refine (digit_any _ _).mono ?_;rintro e w' ⟨rfl,rfl⟩))
  go_ret
  refine⟨ret_bool (bool_of ?_),rfl⟩
  simp [letterB] at h
  simp [digitB]
  omega
end
section
open Go.RowKit
def wordsL:List (List UInt8):=[[102,117,110,99],[116,121,112,101],[115,116,114,117,99,116],[105,110,116,101,114,102,97,99,101],[105,102],[101,108,115,101],[102,111,114],[114,101,116,117,114,110],[98,114,101,97,107],[115,101,108,101,99,116],[99,97,115,101],[100,101,102,97,117,108,116],[103,111],[99,108,111,115,101],[112,97,110,105,99],[112,114,105,110,116],[110,101,119],[109,97,107,101],[99,104,97,110],[105,110,116],[98,111,111,108],[110,105,108],[116,114,117,101],[102,97,108,115,101]]
def signsL:List (List UInt8):=[[60,45],[61,61],[33,61],[60,61],[62,61],[38,38],[124,124],[58,61],[40],[41],[123],[125],[46],[44],[59],[58],[42],[43],[45],[47],[37],[60],[62],[61],[33]]
def endsL:List (List UInt8):=[[114,101,116,117,114,110],[98,114,101,97,107],[105,110,116],[98,111,111,108],[110,105,108],[116,114,117,101],[102,97,108,115,101]]
def wordB (s:ByteArray):Bool:=wordsL.contains s.toList
def endsB (k:Int) (s:ByteArray):Bool :=
 if k=1∨k=2 then true else if k=3 then s.toList == [41] || s.toList == [125] else endsL.contains s.toList
set_option maxHeartbeats 1000000 in
theorem word_any (s:ByteArray) (w:World):Calls Tryz.prog 122 #[.string s] w fun e w'=>e=.returned (.bool (wordB s))∧w'=w:=by
 go_enter Tryz.func122,Tryz.ntmps122
 go_wp2
 all_goals
  go_ret
  refine⟨ret_bool ?_,rfl⟩
  simp_all [wordB,wordsL]
end
section
open Go.RowKit
set_option maxHeartbeats 1000000 in
theorem end_any (k:Int) (s:ByteArray) (n p:Int) (w:World):Calls Tryz.prog 124 #[.agg #[.int .i64 k,.string s,.int .i64 n,.int .i64 p]] w fun e w'=>e=.returned (.bool (endsB k s))∧w'=w.alloc (.cells #[.int .i64 k,.string s,.int .i64 n,.int .i64 p] 66):=by
 by_cases h1:k=1
 ·subst h1
  go_enter Tryz.func124,Tryz.ntmps124
  go_wp2
  go_ret
  exact⟨rfl,rfl⟩
 by_cases h2:k=2
 ·subst h2
  go_enter Tryz.func124,Tryz.ntmps124
  go_wp2
  go_ret
  exact⟨rfl,rfl⟩
 have e1:(k == 1)=false:=by simpa using h1
 have e2:(k == 2)=false:=by simpa using h2
 by_cases h3:k=3
 ·subst h3
  have hE:endsB 3 s=(s.toList == [41] || s.toList == [125]):=rfl
  have HE:=hide hE
  clear hE h1 h2
  by_cases hp:(s.toList == [41])=true
  ·go_enter Tryz.func124,Tryz.ntmps124
   go_wp2
   go_ret
   exact⟨ret_bool (by rw [uh HE,hp];rfl),rfl⟩
  ·simp only [Bool.not_eq_true] at hp
   go_enter Tryz.func124,Tryz.ntmps124
   go_wp2
   go_ret
   exact⟨ret_bool (by rw [uh HE,hp];rfl),rfl⟩
 ·have e3:(k == 3)=false:=by simpa using h3
  have hE:endsB k s=endsL.contains s.toList:=by simp [endsB,h1,h2,h3]
  have HE:=hide hE
  clear hE h1 h2 h3
  by_cases hm:s.toList ∈ endsL
  ·have hc:endsL.contains s.toList=true:=by simpa using hm
   have HC:=hide hc
   clear hc
   simp only [endsL,List.mem_cons,List.mem_nil_iff,or_false] at hm
   rcases hm with t | t | t | t | t | t | t
   all_goals
    go_enter Tryz.func124,Tryz.ntmps124
    go_wp2
    go_ret
    exact⟨ret_bool (by rw [uh HE,uh HC]),rfl⟩
  ·have hc:endsL.contains s.toList=false:=by simpa using hm
   have HC:=hide hc
   clear hc
   simp only [endsL,List.mem_cons,List.mem_nil_iff,or_false,not_or] at hm
   obtain⟨t1,t2,t3,t4,t5,t6,t7⟩:=hm
   replace t1:=ne_b t1
   replace t2:=ne_b t2
   replace t3:=ne_b t3
   replace t4:=ne_b t4
   replace t5:=ne_b t5
   replace t6:=ne_b t6
   replace t7:=ne_b t7
   go_enter Tryz.func124,Tryz.ntmps124
   go_wp2
   go_ret
   exact⟨ret_bool (by rw [uh HE,uh HC]),rfl⟩
end
section
open Go.RowKit
structure Tok where
 kind:Int
 text:ByteArray
 num:Int
 pos:Int
def Tok.cells (t:Tok):List Value:=[.int .i64 t.kind,.string t.text,.int .i64 t.num,.int .i64 t.pos]
def tcells (ts:List Tok):List Value:=ts.flatMap Tok.cells
theorem tcells_snoc (ts:List Tok) (t:Tok):tcells (ts++[t])=tcells ts++t.cells:=by simp [tcells]
theorem tcells_len (ts:List Tok):(tcells ts).length=ts.length * 4:=by
 induction ts with
 | nil=>rfl
 | cons a l ih=>simp [tcells,Tok.cells] at ih ⊢;omega
structure St (p:Nat) (s:ByteArray) (i:Nat) (o:Bool) (ts:List Tok) (v:Value) (w:World):Prop where
 block:w.heap[p]? = some (.cells #[.string s,.int .i64 i,v,.bool o] 98 (0,0))
 own:w.ownsRow (p+1) 66 4 v ts.length (tcells ts)
theorem St.lt {p s i o ts v w}(h:St p s i o ts v w):p<w.heap.size:=by
 have:=h.block
 exact (Array.getElem?_eq_some_iff.1 this).1
theorem St.cells {p s i o ts v w}(h:St p s i o ts v w):w.cell? ⟨p,0,none⟩=some (.string s)∧w.cell? ⟨p,1,none⟩=some (.int .i64 i)∧w.cell? ⟨p,2,none⟩=some v∧w.cell? ⟨p,3,none⟩=some (.bool o):=by
 have:=h.block
 simp [World.cell?,this]
theorem St.free {p s i o ts v w}(h:St p s i o ts v w):∀ j,w.frozen? ⟨p,j,none⟩=false:=by
 have:=h.block
 intro j
 simp [World.frozen?,this]
theorem step_append_own {P:Program}{ops:Array Oper}{o:Oper}{a:Act}{w:World}{K:Act→World→Prop}{Q:Exit→Act→World→Prop}{E:Prop}
  (hg:o.guard=none) (s x:Operand) (t:TypeId) (hop:o.op=Op.call { callee:=Callee.builtin Builtin.append,args:=#[s,x],argTypes:=#[t,t] })
  (base:Nat) (e:TypeId) (i:TypeInfo) (z:Value) (size bytes:Nat) (h1:P.underlying t=some (.slice e)) (h2:P.info? e=some i) (h3:i.zero=some z) (h4:i.size=size) (h5:i.bytes=bytes) (h6:z.cells.size=size) (h7:0<size)
  (v:Value) (n:Nat) (xs:List Value) (hs:a.eval s=v) (hown:w.ownsRow base e size v n xs)
  (ad:Addr) (m c:Nat) (news:List Value) (hx:a.eval x=.slice (some ad) m c) (hn:news.length=m * size) (hc:∀ j u,news[j]? = some u→w.cell? (ad.add j)=some u) (h1c:∀ u ∈ news,u.oneCell'=true)
  (b1:n+m≤maxLen) (b2:(n+m) * bytes≤140737488355328) (hb:base≤w.heap.size)
  (hK:∀ v' w',w'.ownsRow base e size v' (n+m) (xs++news)→w.grownBy w' v.ownBlock→K (a.put o.dst v') w') :
  if Region.wanted o (yielded ops a.tmps)=true then Oper.wp P o a w K Q else E:=by
 have hw:Region.wanted o (yielded ops a.tmps)=true:=by simp [Region.wanted,hg]
 rw [if_pos hw]
 obtain⟨v',w',hrun,r1,r2,_⟩:=run_append_own (P:=P) w base t o.type e i z size bytes h1 h2 h3 h4 h5 h6 h7 v n xs hown ad m c news hn hc h1c b1 b2 hb
 unfold Oper.wp
 simp [execOp,hop,resolve,invoke,builtin,hs,hx,hrun,Result.andThen]
 exact hK v' w' r1 r2
theorem Tryz.info29:(Tryz.prog.info? 66).map (fun i=>(i.zero,i.size,i.bytes))=some (some (.agg #[.int .i64 0,.string ⟨#[]⟩,.int .i64 0,.int .i64 0]),4,40):=by kernel_rfl
end
section
open Go.RowKit
def dec (s:ByteArray) (i:Nat):Nat × Nat:=Lib.decodeGo (s.extract i s.size)
theorem tabs_below {B:Nat}{w w':World}(hB:2≤B) (h:Lib.Utf8Tabs 0 1 w) (hb:Below B w w'):Lib.Utf8Tabs 0 1 w' :=
 ⟨fun c hc=>(hb.cell (p:=⟨0,c,none⟩) (by show 0<B;omega)).trans (h.1 c hc),
  fun i hi=>⟨(hb.cell (p:=⟨1,2 * i,none⟩) (by show 1<B;omega)).trans (h.2 i hi).1,(hb.cell (p:=⟨1,2 * i+1,none⟩) (by show 1<B;omega)).trans (h.2 i hi).2⟩⟩
theorem below_of_drew {B:Nat}{w w':World}(h:Below B w.drew w'):Below B w w':=⟨h.os,h.tape,h.output,h.size,h.block⟩
set_option maxHeartbeats 1000000 in
theorem peek_any (p:Nat) (s:ByteArray) (i:Nat) (o:Bool) (ts:List Tok) (v:Value) (w:World) (hst:St p s i o ts v w) (hi:i≤s.size) (hT:Lib.Utf8Tabs 0 1 w) :
  Calls Tryz.prog 89 #[.pointer (some ⟨p,0,none⟩)] w fun e w'=>e=.returned (.tuple #[.int .i32 (dec s i).1,.int .i64 (dec s i).2])∧Below w.heap.size w w':=by
 obtain⟨c0,c1,c2,c3⟩:=hst.cells
 have hi1:(0:Int)≤(i:Int):=by omega
 have hi2:(i:Int)≤(s.size:Int):=by omega
 have hT':Lib.Utf8Tabs 0 1 w.drew:=⟨hT.1,hT.2⟩
 have hC:=hide (Tryz.utf8_DecodeRuneInString (s.extract i s.size) w.drew hT')
 clear hT hT'
 go_enter Tryz.func89,Tryz.ntmps89
 go_wp2
 go_region_with (go_at_call 31;refine (uh hC).mono ?_;rintro e w' ⟨rfl,hb⟩)
 all_goals
  go_wp2
  go_ret2
  exact⟨rfl,below_of_drew (by assumption)⟩
set_option maxHeartbeats 1000000 in
theorem giveUp_any (p:Nat) (s:ByteArray) (i:Nat) (o:Bool) (ts:List Tok) (v:Value) (w:World) (hst:St p s i o ts v w) (code:Int) :
  Calls Tryz.prog 117 #[.pointer (some ⟨p,0,none⟩),.int .i64 code] w fun e w'=>e=.panicked [{ v:=.iface 25 (.agg #[.int .i64 code,.int .i64 i]),recovered:=false }]∧w'=w:=by
 obtain⟨c0,c1,c2,c3⟩:=hst.cells
 go_enter Tryz.func117,Tryz.ntmps117
 go_wp2
 exact⟨rfl,rfl,rfl⟩
end
section
open Go.RowKit
theorem new4 {w:World}{m:Nat}(hm:m=w.heap.size) (a b c d:Value) (t:TypeId):∀ j u,[a,b,c,d][j]? = some u→(w.alloc (.cells #[a,b,c,d] t)).cell? ((⟨m,0,none⟩:Addr).add j)=some u:=by
 intro j u hj
 subst hm
 match j,hj with
 | 0,hj=>simp at hj;subst hj;simp [Addr.add,go_sem]
 | 1,hj=>simp at hj;subst hj;simp [Addr.add,go_sem]
 | 2,hj=>simp at hj;subst hj;simp [Addr.add,go_sem]
 | 3,hj=>simp at hj;subst hj;simp [Addr.add,go_sem]
theorem ones4 (k n q:Int) (x:ByteArray):∀ u ∈ [Value.int .i64 k,.string x,.int .i64 n,.int .i64 q],u.oneCell'=true:=by
 intro u hu
 simp at hu
 rcases hu with rfl | rfl | rfl | rfl <;> rfl
theorem own_form {w:World}{b e z:Nat}{v:Value}{n:Nat}{xs:List Value}(h:w.ownsRow b e z v n xs):∃ a m c,v=.slice a m c:=by
 rcases h.2 with⟨rfl,_⟩ | ⟨g,cap,cur,rfl,_⟩
 ·exact⟨_,_,_,rfl⟩
 ·exact⟨_,_,_,rfl⟩
theorem own_ge {w:World}{b e z:Nat}{v:Value}{n:Nat}{xs:List Value}(h:w.ownsRow b e z v n xs):∀ k,v.ownBlock=some k→b≤k:=fun k hk=>(h.lt k hk).1
theorem St.appended {p s i o ts v w w1}(h:St p s i o ts v w) (o1 o2:Obj) (hg:((w.alloc o1).alloc o2).grownBy w1 v.ownBlock) :
  w1.heap[p]? = some (.cells #[.string s,.int .i64 i,v,.bool o] 98 (0,0))∧Below p w w1∧w.heap.size+2≤w1.heap.size∧w1.heap[w.heap.size]? = some o1:=by
 have hlt:=h.lt
 have hne:some p≠v.ownBlock:=fun e=>by
  have:=own_ge h.own p e.symm
  omega
 refine⟨?_,?_,?_,?_⟩
 ·rw [hg.block p (by simp;omega) hne,Below.heap_alloc _ _ _ (by simp;omega),Below.heap_alloc _ _ _ hlt]
  exact h.block
 ·refine (((Below.refl p w).alloc (by omega) o1).alloc (by simp;omega) o2).grown hg (by simp;omega) ?_
  intro k hk
  have:=own_ge h.own k hk
  omega
 ·have:=hg.size
  simp at this
  omega
 ·have hne2:some w.heap.size≠v.ownBlock:=fun e=>by
   have:=(h.own.lt _ e.symm).2
   omega
  rw [hg.block w.heap.size (by simp;omega) hne2,Below.heap_alloc _ _ _ (by simp)]
  show (w.heap.push o1)[w.heap.size]? = _
  simp
theorem block_set {w:World}{p j:Nat}{c:Array Value}{t:TypeId}{u:Value}(h:w.heap[p]? = some (.cells c t (0,0))):(w.setCell ⟨p,j,none⟩ u).heap[p]? = some (.cells (c.setIfInBounds j u) t (0,0)):=by
 have hlt:p<w.heap.size:=(Array.getElem?_eq_some_iff.1 h).1
 have h':w.heap[p]=.cells c t (0,0):=by simpa [Array.getElem?_eq_getElem hlt] using h
 show (w.heap.modify p _)[p]? = _
 rw [Array.getElem?_eq_getElem (by simpa using hlt),Array.getElem_modify_self,h']
 rfl
theorem box_cells {w:World}{p:Nat}{a b c d:Value}{t:TypeId}(h:w.heap[p]? = some (.cells #[a,b,c,d] t (0,0))):w.cell? ⟨p,0,none⟩=some a∧w.cell? ⟨p,1,none⟩=some b∧w.cell? ⟨p,2,none⟩=some c∧w.cell? ⟨p,3,none⟩=some d:=by
 simp [World.cell?,h]
theorem St.put1 {p:Nat}{s:ByteArray}{i:Nat}{o:Bool}{v:Value}{w1:World}{v':Value}{ts':List Tok}(hB:w1.heap[p]? = some (.cells #[.string s,.int .i64 i,v,.bool o] 98 (0,0))) (hO:w1.ownsRow (p+1) 66 4 v' ts'.length (tcells ts')) :
  St p s i o ts' v' (w1.setCell ⟨p,2,none⟩ v') :=
 ⟨by rw [block_set (j:=2) (u:=v') hB];rfl,ownsRow_setCell_below hO (by show p<p+1;omega) _⟩
theorem St.setOpen {p:Nat}{s:ByteArray}{i:Nat}{o:Bool}{v:Value}{w:World}{ts:List Tok}(h:St p s i o ts v w) (o':Bool):St p s i o' ts v (w.setCell ⟨p,3,none⟩ (.bool o')) :=
 ⟨by rw [block_set (j:=3) h.block];rfl,ownsRow_setCell_below h.own (by show p<p+1;omega) _⟩
theorem St.setAt {p:Nat}{s:ByteArray}{i:Nat}{o:Bool}{v:Value}{w:World}{ts:List Tok}(h:St p s i o ts v w) (j:Nat) {n:Int}(hn:n=(j:Int)):St p s j o ts v (w.setCell ⟨p,1,none⟩ (.int .i64 n)) :=
 ⟨by rw [block_set (j:=1) h.block];subst hn;rfl,ownsRow_setCell_below h.own (by show p<p+1;omega) _⟩
theorem St.alloc {p:Nat}{s:ByteArray}{i:Nat}{o:Bool}{v:Value}{w:World}{ts:List Tok}(h:St p s i o ts v w) (ob:Obj):St p s i o ts v (w.alloc ob) :=
 ⟨by rw [Below.heap_alloc _ _ _ h.lt];exact h.block,h.own.alloc _⟩
theorem St.drew {p:Nat}{s:ByteArray}{i:Nat}{o:Bool}{v:Value}{w:World}{ts:List Tok}(h:St p s i o ts v w):St p s i o ts v w.drew:=⟨h.block,h.own⟩
theorem own_below {w w':World}{b e z:Nat}{v:Value}{n:Nat}{xs:List Value}(h:w.ownsRow b e z v n xs) (hb:Below w.heap.size w w'):w'.ownsRow b e z v n xs:=by
 refine⟨h.1,?_⟩
 rcases h.2 with h2 | ⟨g,cap,cur,hv,hg,hh,r⟩
 ·exact Or.inl h2
 ·exact Or.inr ⟨g,cap,cur,hv,hg,by rw [hb.block g (Array.getElem?_eq_some_iff.1 hh).1];exact hh,r⟩
theorem St.below {p:Nat}{s:ByteArray}{i:Nat}{o:Bool}{v:Value}{w w':World}{ts:List Tok}(h:St p s i o ts v w) (hb:Below w.heap.size w w'):St p s i o ts v w' :=
 ⟨by rw [hb.block p h.lt];exact h.block,own_below h.own hb⟩
theorem block_cells {w:World}{p:Nat}{a b c d:Value}(h:w.heap[p]? = some (.cells #[a,b,c,d] 98 (0,0))):w.cell? ⟨p,0,none⟩=some a∧w.cell? ⟨p,1,none⟩=some b∧w.cell? ⟨p,2,none⟩=some c∧w.cell? ⟨p,3,none⟩=some d:=by
 simp [World.cell?,h]
theorem block_free {w:World}{p:Nat}{a b c d:Value}(h:w.heap[p]? = some (.cells #[a,b,c,d] 98 (0,0))):∀ j,w.frozen? ⟨p,j,none⟩=false:=by
 intro j
 simp [World.frozen?,h]
set_option maxHeartbeats 1000000 in
theorem put_any (p:Nat) (s:ByteArray) (i:Nat) (o:Bool) (ts:List Tok) (v:Value) (w:World) (hst:St p s i o ts v w) (hl:ts.length≤100000) (k n q:Int) (x:ByteArray) :
  Calls Tryz.prog 97 #[.pointer (some ⟨p,0,none⟩),.agg #[.int .i64 k,.string x,.int .i64 n,.int .i64 q]] w fun e w'=>e=.returned (.tuple #[])∧∃ v',St p s i (endsB k x) (ts++[⟨k,x,n,q⟩]) v' w'∧Below p w w':=by
 obtain⟨c0,c1,c2,c3⟩:=hst.cells
 have hlt:=hst.lt
 obtain⟨i0,hi0,hz0,hz1,hz2⟩:=info_parts Tryz.info29
 have hown:=hst.own
 have hb1:ts.length+1≤maxLen:=by unfold maxLen;omega
 have hb2:(ts.length+1) * 40≤140737488355328:=by omega
 have hb3:p+1≤w.heap.size+1+1:=by omega
 go_enter Tryz.func97,Tryz.ntmps97
 go_wp2
 go_region_law (refine step_append_own rfl (.tmp 8) (.tmp 10) 52 rfl (p+1) 66 i0 _ 4 40 Tryz.underlying52 hi0 hz0 hz1 hz2 rfl (by decide) v ts.length (tcells ts) (by simp [Act.eval]) (by exact ((hown.alloc _).alloc _)) ⟨w.heap.size+1,0,none⟩ 1 1 [.int .i64 k,.string x,.int .i64 n,.int .i64 q] (by simp [Act.eval]) rfl (by exact new4 (by simp) _ _ _ _ _) (ones4 k n q x) hb1 hb2 (by simpa using hb3) ?_;intro v1 w1 hown1 hgrow1;obtain⟨hB1,hB2,hB3,hB4⟩:=St.appended hst _ _ ⟨hgrow1.os,hgrow1.tape,hgrow1.output,hgrow1.size,hgrow1.block⟩;obtain⟨c0',c1',c2',c3'⟩:=block_cells hB1;have hfr:=block_free hB1;have hfr2:=hfr 2;have HB4:=hide hB4;have HO:=hide hown1;have HB1:=hide hB1;clear hown1 hgrow1 hB1 hB4 hfr;obtain⟨va,vb,vc,rfl⟩:=own_form (uh HO))
 all_goals
  have hst2:=St.put1 (ts':=ts++[⟨k,x,n,q⟩]) (uh HB1) (by rw [tcells_snoc];have:=uh HO;simpa [Tok.cells] using this)
  have hB5:=hB2.setCell (p:=⟨p,2,none⟩) (Nat.le_refl _) (Value.slice va vb vc)
  have hsz:w.heap.size+2≤(w1.setCell ⟨p,2,none⟩ (Value.slice va vb vc)).heap.size:=by simpa [World.setCell] using hB3
  have hbx:(w1.setCell ⟨p,2,none⟩ (Value.slice va vb vc)).heap[w.heap.size]? = _:=(Below.heap_setCell _ _ _ _ (by show w.heap.size≠p;omega)).trans (uh HB4)
  clear HB1 HO HB4 hB2 hB3 c0' c1' c2' c3' hfr2
  generalize w1.setCell ⟨p,2,none⟩ (Value.slice va vb vc)=w2 at *
  obtain⟨b0',b1',b2',b3'⟩:=box_cells hbx
  obtain⟨d0,d1,d2,d3⟩:=hst2.cells
  have hlt2:=hst2.lt
  have hfr3:=hst2.free 3
  have HX:=hide hbx
  clear hbx
  go_wp2_with (go_at_call 124;refine (end_any _ _ _ _ _).mono ?_;rintro e w' ⟨rfl,rfl⟩)
  go_end0
  exact⟨rfl,_,(hst2.setOpen _).alloc _,(hB5.setCell (Nat.le_refl _) _).alloc (by simp [World.setCell];omega) _⟩
end
section
open Go.RowKit
def semi (i:Nat):Tok:=⟨3,⟨#[59]⟩,0,i⟩
def ending (o:Bool) (i:Nat):List Tok:=if o then [semi i] else []
theorem semi_no:endsB 3 ⟨#[59]⟩=false:=by simp [endsB,ByteArray.toList_eq]
set_option maxHeartbeats 1000000 in
theorem endLine_any (p:Nat) (s:ByteArray) (i:Nat) (o:Bool) (ts:List Tok) (v:Value) (w:World) (hst:St p s i o ts v w) (hl:ts.length≤100000) :
  Calls Tryz.prog 66 #[.pointer (some ⟨p,0,none⟩)] w fun e w'=>e=.returned (.tuple #[])∧∃ v',St p s i false (ts++ending o i) v' w'∧Below p w w':=by
 obtain⟨c0,c1,c2,c3⟩:=hst.cells
 cases o with
 | true =>
  go_enter Tryz.func66,Tryz.ntmps66
  go_wp2_with (go_at_call 97;refine (put_any p s i true ts v w hst hl _ _ _ _).mono ?_;rintro e w' ⟨rfl,v',hst',hb'⟩)
  go_end0
  rw [semi_no] at hst'
  exact⟨rfl,v',hst',hb'⟩
 | false =>
  go_enter Tryz.func66,Tryz.ntmps66
  go_wp2
  go_end0
  refine⟨rfl,v,?_,Below.refl _ _⟩
  simpa [ending] using hst
set_option maxHeartbeats 1000000 in
theorem clone_any (s:ByteArray) (w:World) (hs:s.size≤6000):Calls Tryz.prog 142 #[.string s] w fun e w'=>e=.returned (.string s)∧Below w.heap.size w w':=by
 have hC:=hide (Tryz.stringslite_Clone s w (by omega))
 go_enter Tryz.func142,Tryz.ntmps142
 go_wp2_with (go_at_call 162;refine (uh hC).mono ?_;rintro e w' ⟨rfl,hb⟩)
 go_ret
 exact⟨rfl,hb⟩
set_option maxHeartbeats 1000000 in
theorem take_any (p:Nat) (s:ByteArray) (i:Nat) (o:Bool) (ts:List Tok) (v:Value) (w:World) (hst:St p s i o ts v w) (hl:ts.length≤100000) (k n:Int) (x:ByteArray) (hx:x.size≤6000) (hi:i≤6000) :
  Calls Tryz.prog 120 #[.pointer (some ⟨p,0,none⟩),.int .i64 k,.string x,.int .i64 n] w fun e w'=>e=.returned (.tuple #[])∧∃ v',St p s (i+x.size) (endsB k x) (ts++[⟨k,x,n,i⟩]) v' w'∧Below p w w':=by
 obtain⟨c0,c1,c2,c3⟩:=hst.cells
 have hlt:=hst.lt
 have hC:=hide (clone_any x w.drew hx)
 go_enter Tryz.func120,Tryz.ntmps120
 go_wp2
 go_region_with (first
  | (go_at_call 142;refine (uh hC).mono ?_;rintro e w1 ⟨rfl,hb1⟩;have hst1:=hst.drew.below hb1;obtain⟨d0,d1,d2,d3⟩:=hst1.cells)
  | (go_at_call 97;refine (put_any p s i o ts v _ hst1 hl _ _ _ _).mono ?_;rintro e w2 ⟨rfl,v2,hst2,hb2⟩;obtain⟨e0,e1,e2,e3⟩:=hst2.cells;have hf1:=hst2.free 1))
 all_goals
  go_wp2
  go_end0
  refine⟨rfl,v2,hst2.setAt _ (by omega),?_⟩
  exact ((below_of_drew (hb1.mono (by simp;omega))).trans hb2).setCell (Nat.le_refl _) _
end
section
open Go.RowKit
def two:List (List UInt8):=[[60,45],[61,61],[33,61],[60,61],[62,61],[38,38],[124,124],[58,61]]
def oneSign:List Int:=[40,41,123,125,46,44,59,58,42,43,45,47,37,60,62,61,33]
set_option maxHeartbeats 1000000 in
theorem sign_two (s:ByteArray) (w:World) (h:1<s.size) (hs:s.size≤6000) (t:(s.extract 0 2).toList ∈ two):Calls Tryz.prog 123 #[.string s] w fun e w'=>e=.returned (.int .i64 2)∧w'=w:=by
 have h':(1:Int)<(s.size:Int):=by omega
 simp only [two,List.mem_cons,List.mem_nil_iff,or_false] at t
 rcases t with t | t | t | t | t | t | t | t
 all_goals
  go_enter Tryz.func123,Tryz.ntmps123
  go_wp2
  go_ret
  exact⟨rfl,rfl⟩
set_option maxHeartbeats 1000000 in
theorem sign_one (s:ByteArray) (w:World) (h:0<s.size) (hs:s.size≤6000) (t:s.size=1∨¬ (s.extract 0 2).toList ∈ two) (c:Int) (hc:(((s[0]'h).toNat:Nat):Int)=c) (ho:c ∈ oneSign):Calls Tryz.prog 123 #[.string s] w fun e w'=>e=.returned (.int .i64 1)∧w'=w:=by
 simp only [oneSign,List.mem_cons,List.mem_nil_iff,or_false] at ho
 by_cases h1:1<s.size
 ·have h':(1:Int)<(s.size:Int):=by omega
  have t':¬ (s.extract 0 2).toList ∈ two:=by rcases t with t | t;omega;exact t
  clear t
  simp only [two,List.mem_cons,List.mem_nil_iff,or_false,not_or] at t'
  obtain⟨t1,t2,t3,t4,t5,t6,t7,t8⟩:=t'
  replace t1:=ne_b t1
  replace t2:=ne_b t2
  replace t3:=ne_b t3
  replace t4:=ne_b t4
  replace t5:=ne_b t5
  replace t6:=ne_b t6
  replace t7:=ne_b t7
  replace t8:=ne_b t8
  rcases ho with ho | ho | ho | ho | ho | ho | ho | ho | ho | ho | ho | ho | ho | ho | ho | ho | ho
  all_goals
   subst ho
   go_enter Tryz.func123,Tryz.ntmps123
   go_wp2
   go_ret
   exact⟨rfl,rfl⟩
 ·have h':¬ (1:Int)<(s.size:Int):=by omega
  clear t
  rcases ho with ho | ho | ho | ho | ho | ho | ho | ho | ho | ho | ho | ho | ho | ho | ho | ho | ho
  all_goals
   subst ho
   go_enter Tryz.func123,Tryz.ntmps123
   go_wp2
   go_ret
   exact⟨rfl,rfl⟩
set_option maxHeartbeats 1000000 in
theorem sign_no (s:ByteArray) (w:World) (h:0<s.size) (hs:s.size≤6000) (t:s.size=1∨¬ (s.extract 0 2).toList ∈ two) (c:Int) (hc:(((s[0]'h).toNat:Nat):Int)=c) (ho:¬ c ∈ oneSign):Calls Tryz.prog 123 #[.string s] w fun e w'=>e=.returned (.int .i64 0)∧w'=w:=by
 simp only [oneSign,List.mem_cons,List.mem_nil_iff,or_false,not_or] at ho
 obtain⟨o1,o2,o3,o4,o5,o6,o7,o8,o9,p1,p2,p3,p4,p5,p6,p7,p8⟩:=ho
 replace o1:=ne_b o1
 replace o2:=ne_b o2
 replace o3:=ne_b o3
 replace o4:=ne_b o4
 replace o5:=ne_b o5
 replace o6:=ne_b o6
 replace o7:=ne_b o7
 replace o8:=ne_b o8
 replace o9:=ne_b o9
 replace p1:=ne_b p1
 replace p2:=ne_b p2
 replace p3:=ne_b p3
 replace p4:=ne_b p4
 replace p5:=ne_b p5
 replace p6:=ne_b p6
 replace p7:=ne_b p7
 replace p8:=ne_b p8
 by_cases h1:1<s.size
 ·have h':(1:Int)<(s.size:Int):=by omega
  have t':¬ (s.extract 0 2).toList ∈ two:=by rcases t with t | t;omega;exact t
  clear t
  simp only [two,List.mem_cons,List.mem_nil_iff,or_false,not_or] at t'
  obtain⟨t1,t2,t3,t4,t5,t6,t7,t8⟩:=t'
  replace t1:=ne_b t1
  replace t2:=ne_b t2
  replace t3:=ne_b t3
  replace t4:=ne_b t4
  replace t5:=ne_b t5
  replace t6:=ne_b t6
  replace t7:=ne_b t7
  replace t8:=ne_b t8
  go_enter Tryz.func123,Tryz.ntmps123
  go_wp2
  go_ret
  exact⟨rfl,rfl⟩
 ·have h':¬ (1:Int)<(s.size:Int):=by omega
  clear t
  go_enter Tryz.func123,Tryz.ntmps123
  go_wp2
  go_ret
  exact⟨rfl,rfl⟩
end
section
def at' (s:ByteArray) (i:Nat):Nat:=(s.data.toList.getD i 0).toNat
def spanN (P:Int→Bool) (s:ByteArray) (i:Nat):Nat:=((s.data.toList.drop i).takeWhile (fun b=>P (b.toNat:Int))).length
theorem at_lt (s:ByteArray) (i:Nat) (h:i<s.size):(s[i]'h).toNat=at' s i:=by
 cases s with
 | mk d =>
  have h1:i<d.size:=h
  have h':i<d.toList.length:=by simpa using h1
  simp [at',List.getD_eq_getElem?_getD,List.getElem?_eq_getElem h']
  rfl
theorem takeWhile_len {p:UInt8→Bool}:∀ (l:List UInt8) (k:Nat),k≤l.length→(∀ j,j<k→p (l.getD j 0)=true)→(k=l.length∨p (l.getD k 0)=false)→(l.takeWhile p).length=k
 | [],k,h,_,_=>by simp at h;simp [h]
 | a :: l,0,_,_,h=>by
  rcases h with h | h
  ·simp at h
  ·simp at h;simp [h]
 | a :: l,k+1,h,ha,he=>by
  have h0:=ha 0 (by omega)
  simp at h0
  have:=takeWhile_len (p:=p) l k (by simpa using h) (fun j hj=>by simpa using ha (j+1) (by omega)) (by
   rcases he with he | he
   ·left;simpa using he
   ·right;simpa using he)
  simp [h0,this]
theorem spanN_eq {P:Int→Bool}{s:ByteArray}{i k:Nat}(hk:i+k≤s.size) (hall:∀ j,j<k→P (at' s (i+j))=true) (hend:i+k=s.size∨P (at' s (i+k))=false):spanN P s i=k:=by
 have hlen:s.data.toList.length=s.size:=by cases s;simp [ByteArray.size]
 refine takeWhile_len _ k (by simp [List.length_drop];omega) (fun j hj=>?_) ?_
 ·have:=hall j hj
  simpa [at',List.getD_eq_getElem?_getD] using this
 ·rcases hend with h | h
  ·left;simp [List.length_drop];omega
  ·right;simpa [at',List.getD_eq_getElem?_getD] using h
theorem at_extract (s:ByteArray) (i k:Nat) (h:i+k<s.size):at' (s.extract i s.size) k=at' s (i+k):=by
 have hsz:(s.extract i s.size).size=s.size - i:=by simp
 have e1:=at_lt (s.extract i s.size) k (by omega)
 have e2:=at_lt s (i+k) h
 rw [← e1,← e2]
 congr 1
 simp [ByteArray.getElem_extract]
theorem extract_twice (s:ByteArray) (i k:Nat) (h:i+k≤s.size):(s.extract i s.size).extract 0 k=s.extract i (i+k):=by
 simp [ByteArray.extract_extract]
 congr 1
 omega
end
section
open Go.RowKit
theorem digit_hi (r:Int) (h:128≤r):digitB r=false:=by unfold digitB;simp;omega
theorem part_hi (r:Int) (h:128≤r):partB r=false:=by unfold partB;simp;omega
theorem below_iter {w w':World}(h:Below w.heap.size w w') (hs:w.heap.size≤w'.heap.size) (s:ByteArray) (k:Nat):Below w.heap.size w (w'.iter s k):=h.alloc hs _
theorem below_drewN (w:World) (n:Nat):Below w.heap.size w (w.drewN n):=⟨rfl,rfl,rfl,Nat.le_refl _,fun _ _=>rfl⟩
set_option maxHeartbeats 1000000 in
theorem piece_digit (p:Nat) (s:ByteArray) (i:Nat) (o:Bool) (ts:List Tok) (v:Value) (w:World) (hst:St p s i o ts v w) (hi:i≤s.size) (hs:s.size≤6000) :
  Calls Tryz.prog 118 #[.pointer (some ⟨p,0,none⟩),.func (.func 92) #[] #[]] w fun e w'=>e=.returned (.string (s.extract i (i+spanN digitB s i)))∧Below w.heap.size w w':=by
 obtain⟨c0,c1,c2,c3⟩:=hst.cells
 have hi1:(0:Int)≤(i:Int):=by omega
 have hi2:(i:Int)≤(s.size:Int):=by omega
 go_enter Tryz.func118,Tryz.ntmps118
 go_wp2
 go_quiet (fail)
 go_wp2
 obtain⟨r,hr⟩:∃ r,s.extract i s.size=r:=⟨_,rfl⟩
 rw [hr]
 have hrs:r.size=s.size - i:=by rw [← hr];simp
 have hbd:r.size≤6000:=by omega
 have HR:=hide hr
 have HRS:=hide hrs
 clear hr hrs
 have hbz:(w.drewN nq).heap.size=w.heap.size:=rfl
 go_loopw [6,7] (fun _ _ wr=>∃ k:Nat,k≤r.size∧(∀ j,j<k→digitB (at' r j)=true)∧wr=(w.drewN nq).iter r k) (fun _ _ wr=>r.size - wr.iterPos w.heap.size)
 case atStart=>exact⟨0,Nat.zero_le _,fun j hj=>absurd hj (by omega),rfl⟩
 case round =>
  obtain⟨k,hk,hall,rfl⟩:=hrel
  have HA:=hide hall
  clear hall
  by_cases hlt:k<r.size
  ·have hnx:∀ ty,(Instr.next (.pointer (some ⟨w.heap.size,0,none⟩)) true ty).run Tryz.prog ((w.drewN nq).iter r k)=_:=fun ty=>run_next_any (w.drewN nq) r k ty hlt
   by_cases ha:at' r k<128
   ·have hdec:Utf8.decode r k=(at' r k,1):=by
     have:=decode_ascii r k hlt (by rw [at_lt];exact ha)
     rw [this,at_lt]
    rw [hdec] at hnx
    clear hdec
    by_cases hd:digitB (at' r k)=true
    ·go_wp2_with (go_at_call 92;refine (digit_any _ _).mono ?_;rintro e w' ⟨rfl,rfl⟩)
     go_roundw
     case rel =>
      refine⟨k+1,by omega,?_,rfl⟩
      intro j hj
      rcases Nat.lt_or_ge j k with h | h
      ·exact uh HA j h
      ·have:j=k:=by omega
       rw [this];exact hd
     case measure =>
      have e1:((w.drewN nq).iter r (k+1)).iterPos w.heap.size=k+1:=World.iterPos_iter (w.drewN nq) r (k+1)
      have e2:((w.drewN nq).iter r k).iterPos w.heap.size=k:=World.iterPos_iter (w.drewN nq) r k
      rw [e1,e2];omega
    ·have hd':digitB (at' r k)=false:=by simpa using hd
     go_wp2_with (go_at_call 92;refine (digit_any _ _).mono ?_;rintro e w' ⟨rfl,rfl⟩)
     go_ret
     have hsp:spanN digitB s i=k:=by
      have hrs:=uh HRS
      refine spanN_eq (by omega) (fun j hj=>?_) (Or.inr ?_)
      ·rw [← at_extract s i j (by omega),uh HR];exact uh HA j hj
      ·rw [← at_extract s i k (by omega),uh HR];exact hd'
     have hrs:=uh HRS
     refine⟨?_,below_iter (below_drewN w nq) (Nat.le_refl _) _ _⟩
     rw [hsp,← extract_twice s i k (by omega),uh HR]
     simp
   ·have hhi:=decode_high r k hlt (by rw [at_lt];omega)
    have hd':digitB ((Utf8.decode r k).1:Int)=false:=digit_hi _ (by omega)
    have hd2:digitB (at' r k)=false:=digit_hi _ (by omega)
    have HH:=hide hhi
    clear hhi
    go_wp2_with (go_at_call 92;refine (digit_any _ _).mono ?_;rintro e w' ⟨rfl,rfl⟩)
    go_ret
    have hsp:spanN digitB s i=k:=by
     have hrs:=uh HRS
     refine spanN_eq (by omega) (fun j hj=>?_) (Or.inr ?_)
     ·rw [← at_extract s i j (by omega),uh HR];exact uh HA j hj
     ·rw [← at_extract s i k (by omega),uh HR];exact hd2
    have hrs:=uh HRS
    refine⟨?_,below_iter (below_drewN w nq) (Nat.le_refl _) _ _⟩
    rw [hsp,← extract_twice s i k (by omega),uh HR]
    simp
  ·have hnx:∀ ty,(Instr.next (.pointer (some ⟨w.heap.size,0,none⟩)) true ty).run Tryz.prog ((w.drewN nq).iter r k)=_:=fun ty=>run_next_end (w.drewN nq) r k ty hlt
   go_wp2
   go_ret
   have hsp:spanN digitB s i=k:=by
    have hrs:=uh HRS
    refine spanN_eq (by omega) (fun j hj=>?_) (Or.inl (by omega))
    rw [← at_extract s i j (by omega),uh HR];exact uh HA j hj
   have hrs:=uh HRS
   refine⟨?_,below_iter (below_drewN w nq) (Nat.le_refl _) _ _⟩
   rw [hsp,show i+k=s.size from by omega,uh HR]
   simp
set_option maxHeartbeats 1000000 in
theorem piece_part (p:Nat) (s:ByteArray) (i:Nat) (o:Bool) (ts:List Tok) (v:Value) (w:World) (hst:St p s i o ts v w) (hi:i≤s.size) (hs:s.size≤6000) :
  Calls Tryz.prog 118 #[.pointer (some ⟨p,0,none⟩),.func (.func 121) #[] #[]] w fun e w'=>e=.returned (.string (s.extract i (i+spanN partB s i)))∧Below w.heap.size w w':=by
 obtain⟨c0,c1,c2,c3⟩:=hst.cells
 have hi1:(0:Int)≤(i:Int):=by omega
 have hi2:(i:Int)≤(s.size:Int):=by omega
 go_enter Tryz.func118,Tryz.ntmps118
 go_wp2
 go_quiet (fail)
 go_wp2
 obtain⟨r,hr⟩:∃ r,s.extract i s.size=r:=⟨_,rfl⟩
 rw [hr]
 have hrs:r.size=s.size - i:=by rw [← hr];simp
 have hbd:r.size≤6000:=by omega
 have HR:=hide hr
 have HRS:=hide hrs
 clear hr hrs
 have hbz:(w.drewN nq).heap.size=w.heap.size:=rfl
 go_loopw [6,7] (fun _ _ wr=>∃ k:Nat,k≤r.size∧(∀ j,j<k→partB (at' r j)=true)∧wr=(w.drewN nq).iter r k) (fun _ _ wr=>r.size - wr.iterPos w.heap.size)
 case atStart=>exact⟨0,Nat.zero_le _,fun j hj=>absurd hj (by omega),rfl⟩
 case round =>
  obtain⟨k,hk,hall,rfl⟩:=hrel
  have HA:=hide hall
  clear hall
  by_cases hlt:k<r.size
  ·have hnx:∀ ty,(Instr.next (.pointer (some ⟨w.heap.size,0,none⟩)) true ty).run Tryz.prog ((w.drewN nq).iter r k)=_:=fun ty=>run_next_any (w.drewN nq) r k ty hlt
   by_cases ha:at' r k<128
   ·have hdec:Utf8.decode r k=(at' r k,1):=by
     have:=decode_ascii r k hlt (by rw [at_lt];exact ha)
     rw [this,at_lt]
    rw [hdec] at hnx
    clear hdec
    by_cases hd:partB (at' r k)=true
    ·go_wp2_with (go_at_call 121;refine (part_any _ _).mono ?_;rintro e w' ⟨rfl,rfl⟩)
     go_roundw
     case rel =>
      refine⟨k+1,by omega,?_,rfl⟩
      intro j hj
      rcases Nat.lt_or_ge j k with h | h
      ·exact uh HA j h
      ·have:j=k:=by omega
       rw [this];exact hd
     case measure =>
      have e1:((w.drewN nq).iter r (k+1)).iterPos w.heap.size=k+1:=World.iterPos_iter (w.drewN nq) r (k+1)
      have e2:((w.drewN nq).iter r k).iterPos w.heap.size=k:=World.iterPos_iter (w.drewN nq) r k
      rw [e1,e2];omega
    ·have hd':partB (at' r k)=false:=by simpa using hd
     go_wp2_with (go_at_call 121;refine (part_any _ _).mono ?_;rintro e w' ⟨rfl,rfl⟩)
     go_ret
     have hsp:spanN partB s i=k:=by
      have hrs:=uh HRS
      refine spanN_eq (by omega) (fun j hj=>?_) (Or.inr ?_)
      ·rw [← at_extract s i j (by omega),uh HR];exact uh HA j hj
      ·rw [← at_extract s i k (by omega),uh HR];exact hd'
     have hrs:=uh HRS
     refine⟨?_,below_iter (below_drewN w nq) (Nat.le_refl _) _ _⟩
     rw [hsp,← extract_twice s i k (by omega),uh HR]
     simp
   ·have hhi:=decode_high r k hlt (by rw [at_lt];omega)
    have hd':partB ((Utf8.decode r k).1:Int)=false:=part_hi _ (by omega)
    have hd2:partB (at' r k)=false:=part_hi _ (by omega)
    have HH:=hide hhi
    clear hhi
    go_wp2_with (go_at_call 121;refine (part_any _ _).mono ?_;rintro e w' ⟨rfl,rfl⟩)
    go_ret
    have hsp:spanN partB s i=k:=by
     have hrs:=uh HRS
     refine spanN_eq (by omega) (fun j hj=>?_) (Or.inr ?_)
     ·rw [← at_extract s i j (by omega),uh HR];exact uh HA j hj
     ·rw [← at_extract s i k (by omega),uh HR];exact hd2
    have hrs:=uh HRS
    refine⟨?_,below_iter (below_drewN w nq) (Nat.le_refl _) _ _⟩
    rw [hsp,← extract_twice s i k (by omega),uh HR]
    simp
  ·have hnx:∀ ty,(Instr.next (.pointer (some ⟨w.heap.size,0,none⟩)) true ty).run Tryz.prog ((w.drewN nq).iter r k)=_:=fun ty=>run_next_end (w.drewN nq) r k ty hlt
   go_wp2
   go_ret
   have hsp:spanN partB s i=k:=by
    have hrs:=uh HRS
    refine spanN_eq (by omega) (fun j hj=>?_) (Or.inl (by omega))
    rw [← at_extract s i j (by omega),uh HR];exact uh HA j hj
   have hrs:=uh HRS
   refine⟨?_,below_iter (below_drewN w nq) (Nat.le_refl _) _ _⟩
   rw [hsp,show i+k=s.size from by omega,uh HR]
   simp
end
end Go.Proofs.YtdemnolanlfblaaGreatDoor
