import Derived.Test.YtdemnolanlfblaaGreatDoorZStep
import Derived.Test.YtdemnolanlfblaaGreatDoorZLen
set_option linter.all false
namespace Go.Proofs.YtdemnolanlfblaaGreatDoor
section
open Go.RowKit
set_option maxHeartbeats 400000 in
theorem rdigit_any (r:Int) (w:World):Calls Tryz.prog 33 #[.int .u8 r] w fun e w'=>e=.returned (.bool (digitB r))∧w'=w:=by
 go_enter Tryz.func33,Tryz.ntmps33
 go_wp2
 all_goals
  go_ret
  refine⟨ret_bool (bool_of ?_),rfl⟩
  simp
  try omega
set_option maxHeartbeats 400000 in
theorem rletter_any (r:Int) (w:World):Calls Tryz.prog 32 #[.int .u8 r] w fun e w'=>e=.returned (.bool (letterB r))∧w'=w:=by
 go_enter Tryz.func32,Tryz.ntmps32
 go_wp2
 all_goals
  go_ret
  refine⟨ret_bool (bool_of ?_),rfl⟩
  simp
  try omega
def beginsB (s:ByteArray) (i:Nat) (t:ByteArray):Bool:=decide (i+t.size≤s.size) && ((s.extract i (i+t.size)).toList == t.toList)
set_option maxHeartbeats 400000 in
theorem begins_any (s:ByteArray) (i:Nat) (t:ByteArray) (w:World) (hi:i≤s.size) (hs:s.size≤6000) (ht:t.size≤6000):Calls Tryz.prog 30 #[.string s,.int .i64 i,.string t] w fun e w'=>e=.returned (.bool (beginsB s i t))∧w'=w:=by
 have i0:(0:Int)≤(i:Int):=by omega
 by_cases h:i+t.size≤s.size
 ·have h1:(i:Int)+(t.size:Int)≤(s.size:Int):=by omega
  have h2:(i:Int)≤(i:Int)+(t.size:Int):=by omega
  have h3:(0:Int)≤(i:Int)+(t.size:Int):=by omega
  go_enter Tryz.func30,Tryz.ntmps30
  go_wp2
  go_ret
  refine⟨ret_bool ?_,rfl⟩
  unfold beginsB
  simp [h]
 ·have h1:¬ (i:Int)+(t.size:Int)≤(s.size:Int):=by omega
  go_enter Tryz.func30,Tryz.ntmps30
  go_wp2
  go_ret
  refine⟨ret_bool ?_,rfl⟩
  unfold beginsB
  simp [h]
def Strs (g:Nat) (l:List (List UInt8)) (w:World):Prop:=w.heap[g]? = some (.cells (l.map (fun x=>Value.string ⟨x.toArray⟩)).toArray 9 (0,0))
theorem Strs.cell {g:Nat}{l:List (List UInt8)}{w:World}(h:Strs g l w) (j:Nat) (hj:j<l.length):w.cell? ⟨g,j,none⟩=some (.string ⟨(l.getD j []).toArray⟩):=by
 unfold Strs at h
 simp [World.cell?,h,List.getElem?_map,List.getElem?_eq_getElem hj,List.getD_eq_getElem?_getD]
theorem Strs.below {g:Nat}{l:List (List UInt8)}{w w':World}{B:Nat}(h:Strs g l w) (hb:Below B w w') (hg:g<B):Strs g l w':=by
 unfold Strs at *
 rw [hb.block g hg];exact h
def hasB (l:List (List UInt8)) (x:ByteArray):Bool:=l.contains x.toList
set_option maxHeartbeats 400000 in
theorem has_any (g:Nat) (l:List (List UInt8)) (x:ByteArray) (w:World) (hS:Strs g l w) (hl:l.length≤100) :
  Calls Tryz.prog 34 #[.slice (some ⟨g,0,none⟩) l.length l.length,.string x] w fun e w'=>e=.returned (.bool (hasB l x))∧w'=w:=by
 have HS:=hide hS
 clear hS
 go_enter Tryz.func34,Tryz.ntmps34
 go_wp2
 go_loop [5] (fun i=>∃ k:Nat,k≤l.length∧i=.int .i64 k∧∀ j,j<k→l.getD j []≠x.toList) (fun i=>l.length - (intOf i).toNat)
 case atStart=>exact⟨0,Nat.zero_le _,rfl,fun j hj=>absurd hj (by omega)⟩
 case round =>
  obtain⟨k,hk,rfl,hall⟩:=hrel
  have HA:=hide hall
  clear hall
  by_cases hlt:k<l.length
  ·have hltz:(k:Int)<(l.length:Int):=by omega
   have hc:=(uh HS).cell k hlt
   obtain⟨y,hy⟩:∃ y,l.getD k []=y:=⟨_,rfl⟩
   rw [hy] at hc
   have HY:=hide hy
   clear hy
   by_cases he:(y == x.toList)=true
   ·go_wp2
    go_ret
    refine⟨ret_bool ?_,rfl⟩
    have hy:=uh HY
    rw [beq_iff_eq] at he
    symm
    unfold hasB
    rw [List.contains_iff_mem,← he,← hy,List.getD_eq_getElem?_getD,List.getElem?_eq_getElem hlt]
    simp
   ·have he':(y == x.toList)=false:=by simpa using he
    go_wp2
    go_round
    case rel =>
     refine⟨k+1,by omega,by go_num,?_⟩
     intro j hj
     rcases Nat.lt_or_ge j k with h | h
     ·exact uh HA j h
     ·have:j=k:=by omega
      subst this
      rw [uh HY]
      simpa using he'
    case measure=>simp [intOf];omega
  ·have hltz:¬ (k:Int)<(l.length:Int):=by omega
   go_wp2
   go_ret
   refine⟨ret_bool ?_,rfl⟩
   symm
   unfold hasB
   rw [← Bool.not_eq_true,List.contains_iff_mem]
   intro hm
   obtain⟨j,hj,he⟩:=List.getElem_of_mem hm
   refine uh HA j (by omega) ?_
   rw [List.getD_eq_getElem?_getD,List.getElem?_eq_getElem hj]
   simpa using he
set_option maxHeartbeats 1000000 in
theorem words_any (w:World):Calls Tryz.prog 27 #[] w fun e w'=>e=.returned (.slice (some ⟨w.heap.size,0,none⟩) 24 24)∧Strs w.heap.size wordsL w'∧w'.heap.size=w.heap.size+1∧Below w.heap.size w w':=by
 go_enter Tryz.func27,Tryz.ntmps27
 go_wp2
 go_ret
 refine⟨rfl,?_,by simp,(Below.refl _ w).alloc (Nat.le_refl _) _⟩
 show (Array.push _ _)[w.heap.size]? = _
 rw [Array.getElem?_push_size]
 rfl
set_option maxHeartbeats 1000000 in
theorem signs_any (w:World):Calls Tryz.prog 28 #[] w fun e w'=>e=.returned (.slice (some ⟨w.heap.size,0,none⟩) 25 25)∧Strs w.heap.size signsL w'∧w'.heap.size=w.heap.size+1∧Below w.heap.size w w':=by
 go_enter Tryz.func28,Tryz.ntmps28
 go_wp2
 go_ret
 refine⟨rfl,?_,by simp,(Below.refl _ w).alloc (Nat.le_refl _) _⟩
 show (Array.push _ _)[w.heap.size]? = _
 rw [Array.getElem?_push_size]
 rfl
set_option maxHeartbeats 1000000 in
theorem rcloses_any (k:Int) (s:ByteArray) (n p:Int) (w:World):Calls Tryz.prog 29 #[.agg #[.int .i64 k,.string s,.int .i64 n,.int .i64 p]] w fun e w'=>e=.returned (.bool (endsB k s))∧Below w.heap.size w w':=by
 have hb0:∀ o,Below w.heap.size w (w.alloc o):=fun o=>(Below.refl _ w).alloc (Nat.le_refl _) o
 have HB:=hide hb0
 clear hb0
 by_cases h1:k=1
 ·subst h1
  go_enter Tryz.func29,Tryz.ntmps29
  go_wp2
  go_ret
  exact⟨rfl,uh HB _⟩
 have e1:(k == 1)=false:=ne_b h1
 by_cases h2:k=2
 ·subst h2
  go_enter Tryz.func29,Tryz.ntmps29
  go_wp2
  go_ret
  exact⟨rfl,uh HB _⟩
 have e2:(k == 2)=false:=ne_b h2
 by_cases h3:k=3
 ·subst h3
  have hE:endsB 3 s=(s.toList == [41] || s.toList == [125]):=rfl
  have HE:=hide hE
  clear hE h1 h2
  by_cases hp:(s.toList == [41])=true
  ·go_enter Tryz.func29,Tryz.ntmps29
   go_wp2
   go_ret
   exact⟨ret_bool (by rw [uh HE,hp];rfl),uh HB _⟩
  ·simp only [Bool.not_eq_true] at hp
   go_enter Tryz.func29,Tryz.ntmps29
   go_wp2
   go_ret
   exact⟨ret_bool (by rw [uh HE,hp];rfl),uh HB _⟩
 ·have e3:(k == 3)=false:=ne_b h3
  have hE:endsB k s=endsL.contains s.toList:=by simp [endsB,h1,h2,h3]
  have HE:=hide hE
  clear hE h1 h2 h3
  have hS:∀ o,Strs (w.heap.size+1) endsL ((w.alloc o).alloc (.cells #[.string ⟨#[114,101,116,117,114,110]⟩,.string ⟨#[98,114,101,97,107]⟩,.string ⟨#[105,110,116]⟩,.string ⟨#[98,111,111,108]⟩,.string ⟨#[110,105,108]⟩,.string ⟨#[116,114,117,101]⟩,.string ⟨#[102,97,108,115,101]⟩] 9)):=fun o=>by
   show (Array.push _ _)[w.heap.size+1]? = _
   have:w.heap.size+1=(w.alloc o).heap.size:=by simp
   rw [this,Array.getElem?_push_size]
   rfl
  have HC:=hide (fun o=>has_any (w.heap.size+1) endsL s _ (hS o) (by decide))
  clear hS
  go_enter Tryz.func29,Tryz.ntmps29
  go_wp2_with (go_at_call 34;refine (uh HC _).mono ?_;rintro e w2 ⟨rfl,rfl⟩)
  go_ret
  exact⟨ret_bool (by rw [uh HE];rfl),(uh HB _).alloc (by simp) _⟩
end
section
open Go.RowKit
theorem heap_size_alloc (w:World) (o:Obj):(w.alloc o).heap.size=w.heap.size+1:=by simp
theorem box_free {w:World}{p:Nat}{c:Array Value}{t:TypeId}(h:w.heap[p]? = some (.cells c t (0,0))):∀ j,w.frozen? ⟨p,j,none⟩=false:=by
 intro j
 simp [World.frozen?,h]
def lastEnds (ts:List Tok):Bool:=match ts.getLast? with
 | some t=>endsB t.kind t.text
 | none=>false
theorem lastEnds_snoc (tl:List Tok) (t:Tok):lastEnds (tl++[t])=endsB t.kind t.text:=by simp [lastEnds]
structure Rm (N gW gS B:Nat) (ts:List Tok) (v:Value) (w wr:World):Prop where
 own:wr.ownsRow B 66 4 v ts.length (tcells ts)
 fault:wr.heap[N]? = some (.cells #[.int .i64 0,.int .i64 0] 25 (0,0))
 words:Strs gW wordsL wr
 signs:Strs gS signsL wr
 size:B≤wr.heap.size
 below:Below N w wr
 hN:N<B
 hW:gW<B
 hS:gS<B
theorem Rm.grow {N gW gS B:Nat}{ts:List Tok}{v:Value}{w wr w3:World}(h:Rm N gW gS B ts v w wr) (hb:Below wr.heap.size wr w3):Rm N gW gS B ts v w w3:=by
 have h1:=h.size;have h2:=h.hN;have h3:=h.hW;have h4:=h.hS
 exact⟨own_below h.own hb,by rw [hb.block N (by omega)];exact h.fault,h.words.below hb (by omega),h.signs.below hb (by omega),by have:=hb.size;omega,h.below.trans (hb.mono (by omega)),h2,h3,h4⟩
theorem Rm.append {N gW gS B:Nat}{ts:List Tok}{t:Tok}{v v':Value}{w w0 w1:World}(h:Rm N gW gS B ts v w w0) (hown:w1.ownsRow B 66 4 v' (ts.length+1) (tcells ts++t.cells)) (hg:w0.grownBy w1 v.ownBlock):Rm N gW gS B (ts++[t]) v' w w1:=by
 have h1:=h.size;have h2:=h.hN;have h3:=h.hW;have h4:=h.hS
 have hne:∀ k,k<B→some k≠v.ownBlock:=fun k hk e=>by
  have:=own_ge h.own k e.symm
  omega
 refine⟨by rw [tcells_snoc];simpa using hown,?_,?_,?_,by have:=hg.size;omega,?_,h2,h3,h4⟩
 ·rw [hg.block N (by omega) (hne N h2)];exact h.fault
 ·unfold Strs;rw [hg.block gW (by omega) (hne gW h3)];exact h.words
 ·unfold Strs;rw [hg.block gS (by omega) (hne gS h4)];exact h.signs
 ·exact h.below.grown hg (by omega) (fun k hk=>by have:=own_ge h.own k hk;omega)
theorem Rm.fcells {N gW gS B:Nat}{ts:List Tok}{v:Value}{w wr:World}(h:Rm N gW gS B ts v w wr):wr.cell? ⟨N,0,none⟩=some (.int .i64 0)∧wr.frozen? ⟨N,0,none⟩=false∧wr.cell? ⟨N,1,none⟩=some (.int .i64 0)∧wr.frozen? ⟨N,1,none⟩=false:=two_cells h.fault
theorem Rm.done {N gW gS B:Nat}{ts:List Tok}{v:Value}{w wr:World}(h:Rm N gW gS B ts v w wr) (c q:Value) :
  ((wr.setCell ⟨N,0,none⟩ c).setCell ⟨N,1,none⟩ q).cell? ⟨N,0,none⟩=some c∧((wr.setCell ⟨N,0,none⟩ c).setCell ⟨N,1,none⟩ q).cell? ⟨N,1,none⟩=some q∧((wr.setCell ⟨N,0,none⟩ c).setCell ⟨N,1,none⟩ q).ownsRow N 66 4 v ts.length (tcells ts)∧Below N w ((wr.setCell ⟨N,0,none⟩ c).setCell ⟨N,1,none⟩ q):=by
 have h2:=h.hN
 have b:=two_cells (block_set (j:=1) (u:=q) (block_set (j:=0) (u:=c) h.fault))
 refine⟨b.1,b.2.2.1,?_,?_⟩
 ·exact own_mono (own_set (own_set h.own (a:=⟨N,0,none⟩) h2 c) (a:=⟨N,1,none⟩) h2 q) (by omega)
 ·exact (h.below.setCell (p:=⟨N,0,none⟩) (Nat.le_refl _) c).setCell (p:=⟨N,1,none⟩) (Nat.le_refl _) q
theorem own_last {w:World}{B:Nat}{v:Value}{tl:List Tok}{t:Tok}(h:w.ownsRow B 66 4 v (tl++[t]).length (tcells (tl++[t]))) :
  ∃ g cap,v=.slice (some ⟨g,0,none⟩) (tl.length+1) cap∧w.cell? ⟨g,tl.length * 4,none⟩=some (.int .i64 t.kind)∧w.cell? ⟨g,tl.length * 4+1,none⟩=some (.string t.text)∧w.cell? ⟨g,tl.length * 4+2,none⟩=some (.int .i64 t.num)∧w.cell? ⟨g,tl.length * 4+3,none⟩=some (.int .i64 t.pos):=by
 have hform:=h.2
 rcases hform with⟨_,h0⟩ | ⟨g,cap,cur,hv,_⟩
 ·simp at h0
 ·have hc:=h.cells (g:=g) (by rw [hv];rfl)
  have hx:∀ j u,t.cells[j]? = some u→w.cell? ⟨g,tl.length * 4+j,none⟩=some u:=by
   intro j u hj
   have:=hc (tl.length * 4+j) u (by
    rw [tcells_snoc,List.getElem?_append_right (by rw [tcells_len];omega),tcells_len,Nat.add_sub_cancel_left]
    exact hj)
   unfold Addr.add at this
   split at this
   ·rename_i h0
    have e0:tl.length * 4+j=0:=by simpa using h0
    rw [e0];exact this
   ·simpa using this
  refine⟨g,cap,by simpa using hv,?_,?_,?_,?_⟩
  ·exact hx 0 _ rfl
  ·exact hx 1 _ rfl
  ·exact hx 2 _ rfl
  ·exact hx 3 _ rfl
end
section
open Go.RowKit
theorem go_step {s:ByteArray}{i f:Nat}{o:Bool}{ts:List Tok}(hi:i<s.size) (hgo:scanGo (f+1) s i o ts=scan s) (hc:(stepS s i o).code=0):scanGo f s (stepS s i o).pos (stepS s i o).mark (ts++(stepS s i o).toks)=scan s:=by
 rw [← hgo];simp only [scanGo];rw [if_pos hi,if_pos hc]
theorem go_fault {s:ByteArray}{i f:Nat}{o:Bool}{ts:List Tok}(hi:i<s.size) (hgo:scanGo (f+1) s i o ts=scan s) (hc:(stepS s i o).code≠0):scan s=((stepS s i o).code,(stepS s i o).pos,[]):=by
 rw [← hgo];simp only [scanGo];rw [if_pos hi,if_neg hc]
theorem go_done {s:ByteArray}{i f:Nat}{o:Bool}{ts:List Tok}(hi:¬ i<s.size) (hgo:scanGo (f+1) s i o ts=scan s):scan s=(0,0,ts++ending o i):=by
 rw [← hgo];simp only [scanGo];rw [if_neg hi]
theorem step_is_line {s:ByteArray}{i:Nat}{o:Bool}(h1:at' s i=10):stepS s i o=⟨0,i+1,ending o i,false⟩:=by unfold stepS;rw [if_pos h1]
theorem step_is_blank {s:ByteArray}{i:Nat}{o:Bool}(h1:¬ at' s i=10) (h2:blankB (at' s i)=true):stepS s i o=⟨0,i+1,[],o⟩:=by unfold stepS;rw [if_neg h1,if_pos h2]
def isNote (s:ByteArray) (i:Nat):Prop:=at' s i=47∧i+1<s.size∧at' s (i+1)=47
theorem step_is_note {s:ByteArray}{i:Nat}{o:Bool}(h1:¬ at' s i=10) (h2:¬ blankB (at' s i)=true) (h3:isNote s i):stepS s i o=⟨(note s i).1,(note s i).2,[],o⟩:=by unfold isNote at h3;unfold stepS;rw [if_neg h1,if_neg h2,if_pos h3]
theorem step_is_num {s:ByteArray}{i:Nat}{o:Bool}(h1:¬ at' s i=10) (h2:¬ blankB (at' s i)=true) (h3:¬ isNote s i) (h4:digitB (at' s i)=true):stepS s i o=numOut s i o:=by unfold isNote at h3;unfold stepS;rw [if_neg h1,if_neg h2,if_neg h3,if_pos h4]
theorem step_is_name {s:ByteArray}{i:Nat}{o:Bool}(h1:¬ at' s i=10) (h2:¬ blankB (at' s i)=true) (h3:¬ isNote s i) (h4:¬ digitB (at' s i)=true) (h5:letterB (at' s i)=true):stepS s i o=nameOut s i:=by unfold isNote at h3;unfold stepS;rw [if_neg h1,if_neg h2,if_neg h3,if_neg h4,if_pos h5]
theorem step_is_sign {s:ByteArray}{i:Nat}{o:Bool}(h1:¬ at' s i=10) (h2:¬ blankB (at' s i)=true) (h3:¬ isNote s i) (h4:¬ digitB (at' s i)=true) (h5:¬ letterB (at' s i)=true):stepS s i o=signOut s i o:=by unfold isNote at h3;unfold stepS;rw [if_neg h1,if_neg h2,if_neg h3,if_neg h4,if_neg h5]
theorem letter_part {r:Int}(h:letterB r=true):partB r=true:=by unfold letterB at h;unfold partB;simp at h ⊢;omega
theorem letter_or {r:Int}:partB r=(letterB r || digitB r):=by
 rw [Bool.eq_iff_iff];unfold letterB digitB partB;simp;omega
theorem toList_extract1 (s:ByteArray) (i:Nat) (h:i<s.size):∃ a:UInt8,(s.extract i (i+1)).toList = [a]∧a.toNat=at' s i:=by
 have hsz:=piece_size s i 1 (by omega)
 have ha:=piece_at s i 1 0 (by omega) (by omega)
 generalize s.extract i (i+1)=x at *
 rw [ByteArray.toList_eq]
 have hl:x.data.toList.length=1:=by rw [← hsz];cases x;simp [ByteArray.size]
 match hx:x.data.toList,hl with
 | [a],_=>exact⟨a,rfl,by rw [at',hx] at ha;simpa using ha⟩
theorem toList_extract2 (s:ByteArray) (i:Nat) (h:i+1<s.size):∃ a b:UInt8,(s.extract i (i+2)).toList = [a,b]∧a.toNat=at' s i∧b.toNat=at' s (i+1):=by
 have hsz:=piece_size s i 2 (by omega)
 have ha:=piece_at s i 2 0 (by omega) (by omega)
 have hb:=piece_at s i 2 1 (by omega) (by omega)
 generalize s.extract i (i+2)=x at *
 rw [ByteArray.toList_eq]
 have hl:x.data.toList.length=2:=by rw [← hsz];cases x;simp [ByteArray.size]
 match hx:x.data.toList,hl with
 | [a,b],_=>exact⟨a,b,rfl,by rw [at',hx] at ha;simpa using ha,by rw [at',hx] at hb;simpa using hb⟩
theorem bytes_eq {x y:ByteArray}(h:x.toList=y.toList):x=y:=by
 rw [ByteArray.toList_eq,ByteArray.toList_eq] at h
 cases x;cases y;simp at h;congr 1
theorem begins_note (s:ByteArray) (i:Nat) (hi:i<s.size):beginsB s i ⟨#[47,47]⟩=true↔isNote s i:=by
 unfold beginsB isNote
 have hz:(⟨#[47,47]⟩:ByteArray).size=2:=rfl
 rw [hz,show (⟨#[47,47]⟩:ByteArray).toList = [47,47] from by rw [ByteArray.toList_eq]]
 by_cases h1:i+1<s.size
 ·obtain⟨a,b,e,ea,eb⟩:=toList_extract2 s i h1
  rw [e,← ea,← eb]
  simp only [Bool.and_eq_true,decide_eq_true_eq,beq_iff_eq,List.cons.injEq,and_true]
  constructor
  ·rintro ⟨_,rfl,rfl⟩;exact⟨rfl,h1,rfl⟩
  ·rintro ⟨h2,_,h3⟩
   refine⟨by omega,?_,?_⟩
   ·exact UInt8.toNat_inj.1 h2
   ·exact UInt8.toNat_inj.1 h3
 ·simp only [Bool.and_eq_true,decide_eq_true_eq]
  constructor
  ·rintro ⟨h2,_⟩;omega
  ·rintro ⟨_,h2,_⟩;omega
def signAt (s:ByteArray) (i j:Nat):Bool:=beginsB s i ⟨(signsL.getD j []).toArray⟩
theorem mk_toList (l:List UInt8):(⟨l.toArray⟩:ByteArray).toList=l:=by simp
theorem mk_size (l:List UInt8):(⟨l.toArray⟩:ByteArray).size=l.length:=by simp [ByteArray.size]
theorem one_of {s:ByteArray}{i:Nat}(hi:i<s.size) {c:UInt8}:beginsB s i ⟨[c].toArray⟩=true↔at' s i=c.toNat:=by
 unfold beginsB
 rw [mk_size [c],mk_toList [c]]
 obtain⟨a,e,ea⟩:=toList_extract1 s i hi
 simp only [List.length_singleton,e,← ea,Bool.and_eq_true,decide_eq_true_eq,beq_iff_eq,List.cons.injEq,and_true]
 constructor
 ·rintro ⟨_,rfl⟩;rfl
 ·intro h;exact⟨by omega,UInt8.toNat_inj.1 h⟩
theorem two_of {s:ByteArray}{i:Nat}{c d:UInt8}:beginsB s i ⟨[c,d].toArray⟩=true↔i+1<s.size∧(s.extract i (i+2)).toList = [c,d]:=by
 unfold beginsB
 rw [mk_size [c,d],mk_toList [c,d]]
 simp only [List.length_cons,List.length_nil,Bool.and_eq_true,decide_eq_true_eq,beq_iff_eq]
 constructor
 ·rintro ⟨h1,h2⟩;exact⟨by omega,h2⟩
 ·rintro ⟨h1,h2⟩;exact⟨by omega,h2⟩
theorem in_two {s:ByteArray}{i:Nat}:(i+1<s.size∧(s.extract i (i+2)).toList ∈ two)↔∃ j,j<8∧signAt s i j=true:=by
 constructor
 ·rintro ⟨h1,h2⟩
  simp only [two,List.mem_cons,List.mem_nil_iff,or_false] at h2
  rcases h2 with h | h | h | h | h | h | h | h
  ·exact⟨0,by omega,two_of.2 ⟨h1,h⟩⟩
  ·exact⟨1,by omega,two_of.2 ⟨h1,h⟩⟩
  ·exact⟨2,by omega,two_of.2 ⟨h1,h⟩⟩
  ·exact⟨3,by omega,two_of.2 ⟨h1,h⟩⟩
  ·exact⟨4,by omega,two_of.2 ⟨h1,h⟩⟩
  ·exact⟨5,by omega,two_of.2 ⟨h1,h⟩⟩
  ·exact⟨6,by omega,two_of.2 ⟨h1,h⟩⟩
  ·exact⟨7,by omega,two_of.2 ⟨h1,h⟩⟩
 ·rintro ⟨j,hj,h⟩
  have:j=0∨j=1∨j=2∨j=3∨j=4∨j=5∨j=6∨j=7:=by omega
  rcases this with rfl | rfl | rfl | rfl | rfl | rfl | rfl | rfl <;> (have:=two_of.1 h;exact⟨this.1,by rw [this.2];decide⟩)
theorem in_one {s:ByteArray}{i:Nat}(hi:i<s.size):(at' s i:Int) ∈ oneSign↔∃ j,8≤j∧j<25∧signAt s i j=true:=by
 constructor
 ·intro h2
  simp only [oneSign,List.mem_cons,List.mem_nil_iff,or_false] at h2
  rcases h2 with h | h | h | h | h | h | h | h | h | h | h | h | h | h | h | h | h
  ·exact⟨8,by omega,by omega,(one_of hi).2 (by simpa using Int.ofNat_inj.1 h)⟩
  ·exact⟨9,by omega,by omega,(one_of hi).2 (by simpa using Int.ofNat_inj.1 h)⟩
  ·exact⟨10,by omega,by omega,(one_of hi).2 (by simpa using Int.ofNat_inj.1 h)⟩
  ·exact⟨11,by omega,by omega,(one_of hi).2 (by simpa using Int.ofNat_inj.1 h)⟩
  ·exact⟨12,by omega,by omega,(one_of hi).2 (by simpa using Int.ofNat_inj.1 h)⟩
  ·exact⟨13,by omega,by omega,(one_of hi).2 (by simpa using Int.ofNat_inj.1 h)⟩
  ·exact⟨14,by omega,by omega,(one_of hi).2 (by simpa using Int.ofNat_inj.1 h)⟩
  ·exact⟨15,by omega,by omega,(one_of hi).2 (by simpa using Int.ofNat_inj.1 h)⟩
  ·exact⟨16,by omega,by omega,(one_of hi).2 (by simpa using Int.ofNat_inj.1 h)⟩
  ·exact⟨17,by omega,by omega,(one_of hi).2 (by simpa using Int.ofNat_inj.1 h)⟩
  ·exact⟨18,by omega,by omega,(one_of hi).2 (by simpa using Int.ofNat_inj.1 h)⟩
  ·exact⟨19,by omega,by omega,(one_of hi).2 (by simpa using Int.ofNat_inj.1 h)⟩
  ·exact⟨20,by omega,by omega,(one_of hi).2 (by simpa using Int.ofNat_inj.1 h)⟩
  ·exact⟨21,by omega,by omega,(one_of hi).2 (by simpa using Int.ofNat_inj.1 h)⟩
  ·exact⟨22,by omega,by omega,(one_of hi).2 (by simpa using Int.ofNat_inj.1 h)⟩
  ·exact⟨23,by omega,by omega,(one_of hi).2 (by simpa using Int.ofNat_inj.1 h)⟩
  ·exact⟨24,by omega,by omega,(one_of hi).2 (by simpa using Int.ofNat_inj.1 h)⟩
 ·rintro ⟨j,hj,hj2,h⟩
  have:j=8∨j=9∨j=10∨j=11∨j=12∨j=13∨j=14∨j=15∨j=16∨j=17∨j=18∨j=19∨j=20∨j=21∨j=22∨j=23∨j=24:=by omega
  rcases this with rfl | rfl | rfl | rfl | rfl | rfl | rfl | rfl | rfl | rfl | rfl | rfl | rfl | rfl | rfl | rfl | rfl <;> (have:=(one_of hi).1 h;rw [this];decide)
theorem sign_none {s:ByteArray}{i:Nat}(hi:i<s.size) (h:∀ j,j<25→signAt s i j=false):signN s i=0:=by
 unfold signN
 rw [if_neg,if_neg]
 ·intro hm
  obtain⟨j,h1,h2,h3⟩:=(in_one hi).1 hm
  rw [h j (by omega)] at h3;cases h3
 ·intro hm
  obtain⟨j,h1,h3⟩:=in_two.1 hm
  rw [h j (by omega)] at h3;cases h3
theorem signs_size:∀ j,j<25→(signsL.getD j []).length=if j<8 then 2 else 1:=by decide
theorem sign_first {s:ByteArray}{i k:Nat}(hi:i<s.size) (hk:k<25) (hyes:signAt s i k=true) (h:∀ j,j<k→signAt s i j=false) :
  signN s i=(signsL.getD k []).length∧s.extract i (i+(signsL.getD k []).length)=⟨(signsL.getD k []).toArray⟩:=by
 have hx:s.extract i (i+(signsL.getD k []).length)=⟨(signsL.getD k []).toArray⟩:=by
  apply bytes_eq
  have:=hyes
  unfold signAt beginsB at this
  rw [mk_size (signsL.getD k []),mk_toList (signsL.getD k [])] at this
  simp only [Bool.and_eq_true,decide_eq_true_eq,beq_iff_eq] at this
  rw [mk_toList (signsL.getD k [])];exact this.2
 refine⟨?_,hx⟩
 rw [signs_size k hk]
 by_cases h8:k<8
 ·rw [if_pos h8]
  unfold signN
  rw [if_pos (in_two.2 ⟨k,h8,hyes⟩)]
 ·rw [if_neg h8]
  unfold signN
  rw [if_neg,if_pos ((in_one hi).2 ⟨k,by omega,hk,hyes⟩)]
  intro hm
  obtain⟨j,h1,h3⟩:=in_two.1 hm
  rw [h j (by omega)] at h3;cases h3
end
section
theorem extract_list (s:ByteArray) (i m:Nat):(s.extract i m).data.toList=(s.data.toList.drop i).take (m - i):=by
 simp only [ByteArray.data_extract,Array.toList_extract]
theorem numV_nil (s:ByteArray) (i:Nat):numV (s.extract i i)=0:=by
 unfold numV
 rw [extract_list s i i]
 simp [Lib.decFrom]
theorem dec_exists (s:ByteArray) (i m:Nat) (h:i≤m) (hm:m≤s.size) (hd:∀ j,i≤j→j<m→digitB (at' s j)=true):∃ n,Lib.decFrom 0 ((s.data.toList.drop i).take (m - i))=some n:=by
 have hlen:s.data.toList.length=s.size:=by cases s;simp [ByteArray.size]
 refine decFrom_some _ 0 (fun j hj=>?_)
 simp only [List.length_take,List.length_drop] at hj
 have:=hd (i+j) (by omega) (by omega)
 have hj':j<m - i:=by omega
 simp only [at',List.getD_eq_getElem?_getD] at this ⊢
 rw [List.getElem?_take_of_lt hj',List.getElem?_drop]
 exact this
theorem numV_step (s:ByteArray) (i m:Nat) (h:i≤m) (hm:m<s.size) (hd:∀ j,i≤j→j<m→digitB (at' s j)=true) (hc:digitB (at' s m)=true) :
  numV (s.extract i (m+1))=10 * numV (s.extract i m)+((at' s m:Int) - 48):=by
 have hlen:s.data.toList.length=s.size:=by cases s;simp [ByteArray.size]
 obtain⟨n,hn⟩:=dec_exists s i m h (by omega) hd
 have hb:(s.data.toList.drop i)[m - i]? = some (s.data.toList.getD m 0):=by
  rw [List.getElem?_drop,show i+(m - i)=m from by omega,List.getD_eq_getElem?_getD,List.getElem?_eq_getElem (by omega)]
  simp
 have hc':=hc
 simp only [digitB,decide_eq_true_eq] at hc'
 have hv:Lib.digitVal (s.data.toList.getD m 0)=some (at' s m - 48):=by
  unfold Lib.digitVal
  have e:(s.data.toList.getD m 0).toNat=at' s m:=rfl
  rw [e,if_pos (by omega)]
 have:=Lib.decFrom_take (s.data.toList.drop i) (m - i) 0 n _ _ hn hb hv
 have e1:numV (s.extract i m)=(n:Int):=by
  unfold numV;rw [extract_list s i m,hn];rfl
 have e2:numV (s.extract i (m+1))=((n * 10+(at' s m - 48):Nat):Int):=by
  unfold numV;rw [extract_list s i (m+1),show m+1 - i=(m - i)+1 from by omega,this];rfl
 rw [e1,e2]
 omega
theorem numV_lt (s:ByteArray) (i:Nat):∀ (k:Nat),i+k≤s.size→(∀ j,i≤j→j<i+k→digitB (at' s j)=true)→0≤numV (s.extract i (i+k))∧numV (s.extract i (i+k))<(10:Int) ^ k
 | 0,h,_=>by rw [Nat.add_zero,numV_nil s i];simp
 | k+1,h,hd=>by
  have ih:=numV_lt s i k (by omega) (fun j h1 h2=>hd j h1 (by omega))
  have hc:=hd (i+k) (by omega) (by omega)
  rw [show i+(k+1)=(i+k)+1 from by omega,numV_step s i (i+k) (by omega) (by omega) (fun j h1 h2=>hd j h1 (by omega)) hc]
  simp only [digitB,decide_eq_true_eq] at hc
  have e:(10:Int) ^ (k+1)=10 * 10 ^ k:=by rw [Int.pow_succ];omega
  rw [e]
  omega
theorem pow_le {k:Nat}(h:k≤8):(10:Int) ^ k≤100000000:=by
 have:k=0∨k=1∨k=2∨k=3∨k=4∨k=5∨k=6∨k=7∨k=8:=by omega
 rcases this with rfl | rfl | rfl | rfl | rfl | rfl | rfl | rfl | rfl <;> decide
theorem numV_small (s:ByteArray) (i m:Nat) (h:i≤m) (hm:m≤s.size) (hd:∀ j,i≤j→j<m→digitB (at' s j)=true) (h8:m - i≤8):0≤numV (s.extract i m)∧numV (s.extract i m)<100000000:=by
 have:=numV_lt s i (m - i) (by omega) (fun j h1 h2=>hd j h1 (by omega))
 rw [show i+(m - i)=m from by omega] at this
 have:=pow_le h8
 omega
end
end Go.Proofs.YtdemnolanlfblaaGreatDoor
