import Derived.Lib.AtoiErrMem
import Derived.Test.YtdemnolanlfblaaGreatDoorZPiece
set_option linter.all false
namespace Go.Proofs.YtdemnolanlfblaaGreatDoor
section
open Go.RowKit
theorem decN_width (n b0 b1 b2 b3:Nat) (hn:1≤n):1≤(Lib.decodeN n b0 b1 b2 b3).2∧(Lib.decodeN n b0 b1 b2 b3).2≤n:=by
 unfold Lib.decodeN
 repeat' split
 all_goals simp
 all_goals omega
theorem dec_eq (s:ByteArray) (j:Nat) (h:j<s.size):dec s j=Utf8.decode (s.extract j s.size) 0:=by
 have:¬ (s.extract j s.size).size=0:=by simp;omega
 simp only [dec,Lib.decodeGo,this,if_false]
theorem dec_width (s:ByteArray) (j:Nat) (h:j<s.size):1≤(dec s j).2∧j+(dec s j).2≤s.size:=by
 rw [dec_eq s j h,Lib.decode_at]
 have hz:(s.extract j s.size).size=s.size - j:=by simp
 have:=decN_width ((s.extract j s.size).size - 0) ((s.extract j s.size).get! 0).toNat ((s.extract j s.size).get! (0+1)).toNat ((s.extract j s.size).get! (0+2)).toNat ((s.extract j s.size).get! (0+3)).toNat (by omega)
 omega
theorem dec_ascii (s:ByteArray) (j:Nat) (h:j<s.size) (ha:at' s j<128):dec s j=(at' s j,1):=by
 have hz:(s.extract j s.size).size=s.size - j:=by simp
 have e:at' (s.extract j s.size) 0=at' s j:=at_extract s j 0 (by omega)
 rw [dec_eq s j h,decode_ascii _ 0 (by omega) (by rw [at_lt,e];exact ha),at_lt,e]
theorem dec_high (s:ByteArray) (j:Nat) (h:j<s.size) (ha:128≤at' s j):128≤(dec s j).1:=by
 have hz:(s.extract j s.size).size=s.size - j:=by simp
 have e:at' (s.extract j s.size) 0=at' s j:=at_extract s j 0 (by omega)
 rw [dec_eq s j h]
 exact (decode_high _ 0 (by omega) (by rw [at_lt,e];exact ha)).1
theorem dec_le (s:ByteArray) (j:Nat) (h:j<s.size):(dec s j).1≤2147483647:=by
 rw [dec_eq s j h];exact decode_le _ _
theorem dec_ten (s:ByteArray) (j:Nat) (h:j<s.size):(dec s j).1=10↔at' s j=10:=by
 by_cases ha:at' s j<128
 ·rw [dec_ascii s j h ha]
 ·have:=dec_high s j h (by omega)
  omega
def noteGo:Nat→ByteArray→Nat→Int × Nat
 | 0,_,j=>(0,j)
 | f+1,s,j=>if j<s.size then (if at' s j=10 then (0,j) else if (dec s j).1=65533∧(dec s j).2=1 then (2,j) else noteGo f s (j+(dec s j).2)) else (0,j)
def note (s:ByteArray) (i:Nat):Int × Nat:=noteGo (s.size+1) s i
def numV (x:ByteArray):Int:=((Lib.decFrom 0 x.data.toList).getD 0:Nat)
def signN (s:ByteArray) (i:Nat):Nat :=
 if i+1<s.size∧(s.extract i (i+2)).toList ∈ two then 2 else if (at' s i:Int) ∈ oneSign then 1 else 0
structure LexOut where
 code:Int
 pos:Nat
 toks:List Tok
 mark:Bool
def numOut (s:ByteArray) (i:Nat) (o:Bool):LexOut :=
 if 9<spanN digitB s i∨(1<spanN digitB s i∧at' s i=48) then ⟨3,i,[],o⟩
 else ⟨0,i+spanN digitB s i,[⟨2,s.extract i (i+spanN digitB s i),numV (s.extract i (i+spanN digitB s i)),i⟩],true⟩
def kindOf (x:ByteArray):Int:=if wordB x=true then 4 else 1
def nameOut (s:ByteArray) (i:Nat):LexOut :=
 ⟨0,i+spanN partB s i,[⟨kindOf (s.extract i (i+spanN partB s i)),s.extract i (i+spanN partB s i),0,i⟩],endsB (kindOf (s.extract i (i+spanN partB s i))) (s.extract i (i+spanN partB s i))⟩
def signOut (s:ByteArray) (i:Nat) (o:Bool):LexOut :=
 if signN s i=0 then ⟨2,i,[],o⟩
 else ⟨0,i+signN s i,[⟨3,s.extract i (i+signN s i),0,i⟩],endsB 3 (s.extract i (i+signN s i))⟩
def stepS (s:ByteArray) (i:Nat) (o:Bool):LexOut :=
 if at' s i=10 then ⟨0,i+1,ending o i,false⟩
 else if blankB (at' s i)=true then ⟨0,i+1,[],o⟩
 else if at' s i=47∧i+1<s.size∧at' s (i+1)=47 then ⟨(note s i).1,(note s i).2,[],o⟩
 else if digitB (at' s i)=true then numOut s i o
 else if letterB (at' s i)=true then nameOut s i
 else signOut s i o
def scanGo:Nat→ByteArray→Nat→Bool→List Tok→Int × Nat × List Tok
 | 0,_,_,_,_=>(0,0,[])
 | f+1,s,i,o,acc =>
  if i<s.size then
   if (stepS s i o).code=0 then scanGo f s (stepS s i o).pos (stepS s i o).mark (acc++(stepS s i o).toks)
   else ((stepS s i o).code,(stepS s i o).pos,[])
  else (0,0,acc++ending o i)
def scan (s:ByteArray):Int × Nat × List Tok:=if 6000<s.size then (1,0,[]) else scanGo (s.size+1) s 0 false []
theorem takeWhile_le {p:UInt8→Bool}(l:List UInt8):(l.takeWhile p).length≤l.length:=(List.takeWhile_sublist p).length_le
theorem spanN_le (P:Int→Bool) (s:ByteArray) (i:Nat) (h:i≤s.size):i+spanN P s i≤s.size:=by
 have hlen:s.data.toList.length=s.size:=by cases s;simp [ByteArray.size]
 have:=takeWhile_le (p:=fun b:UInt8=>P (b.toNat:Int)) (s.data.toList.drop i)
 simp only [List.length_drop] at this
 unfold spanN
 omega
theorem spanN_pos (P:Int→Bool) (s:ByteArray) (i:Nat) (h:i<s.size) (hp:P (at' s i)=true):1≤spanN P s i:=by
 have hlen:s.data.toList.length=s.size:=by cases s;simp [ByteArray.size]
 have h':i<s.data.toList.length:=by omega
 unfold spanN
 rw [List.drop_eq_getElem_cons h']
 have:P ((s.data.toList[i].toNat:Nat):Int)=true:=by
  have:=hp
  simp only [at',List.getD_eq_getElem?_getD,List.getElem?_eq_getElem h'] at this
  simpa using this
 rw [List.takeWhile_cons,if_pos this]
 simp
theorem takeWhile_all {p:UInt8→Bool}:∀ (l:List UInt8) (j:Nat),j<(l.takeWhile p).length→p (l.getD j 0)=true
 | [],j,h=>by simp at h
 | a :: l,0,h=>by
  by_cases ha:p a=true
  ·simpa using ha
  ·simp [ha] at h
 | a :: l,j+1,h=>by
  by_cases ha:p a=true
  ·simp [ha] at h
   simpa using takeWhile_all l j h
  ·simp [ha] at h
theorem spanN_all (P:Int→Bool) (s:ByteArray) (i j:Nat) (h:j<spanN P s i):P (at' s (i+j))=true:=by
 have:=takeWhile_all (p:=fun b:UInt8=>P (b.toNat:Int)) (s.data.toList.drop i) j h
 simpa [at',List.getD_eq_getElem?_getD] using this
end
section
open Go.RowKit
theorem piece_size (s:ByteArray) (i n:Nat) (h:i+n≤s.size):(s.extract i (i+n)).size=n:=by simp;omega
theorem piece_at (s:ByteArray) (i n j:Nat) (h:i+n≤s.size) (hj:j<n):at' (s.extract i (i+n)) j=at' s (i+j):=by
 have hsz:=piece_size s i n h
 rw [← at_lt (s.extract i (i+n)) j (by omega),← at_lt s (i+j) (by omega)]
 congr 1
 simp [ByteArray.getElem_extract]
theorem decFrom_some:∀ (l:List UInt8) (a:Nat),(∀ j,j<l.length→digitB ((l.getD j 0).toNat:Int)=true)→∃ n,Lib.decFrom a l=some n
 | [],a,_=>⟨a,rfl⟩
 | b :: l,a,h=>by
  have h0:=h 0 (by simp)
  simp only [List.getD_cons_zero,digitB,decide_eq_true_eq] at h0
  have hd:Lib.digitVal b=some (b.toNat - 48):=by unfold Lib.digitVal;rw [if_pos (by omega)]
  obtain⟨n,hn⟩:=decFrom_some l (a * 10+(b.toNat - 48)) (fun j hj=>by simpa using h (j+1) (by simp;omega))
  exact⟨n,by simp only [Lib.decFrom,hd];exact hn⟩
theorem atoi_of (x:ByteArray) (h0:0<x.size) (h:∀ j,j<x.size→digitB (at' x j:Int)=true):Lib.atoi x.data.toList=some (numV x):=by
 have hlen:x.data.toList.length=x.size:=by cases x;simp [ByteArray.size]
 obtain⟨n,hn⟩:=decFrom_some x.data.toList 0 (fun j hj=>h j (by omega))
 have hv:numV x=(n:Int):=by simp [numV,hn]
 have hb:=h 0 h0
 rw [hv]
 unfold at' at hb
 cases hl:x.data.toList with
 | nil=>rw [hl] at hlen;simp at hlen;omega
 | cons b r =>
  rw [hl] at hn hb
  simp only [List.getD_cons_zero,digitB,decide_eq_true_eq] at hb
  have e1:(b == 45)=false:=by
   rw [beq_eq_false_iff_ne];intro e;subst e;simp at hb
  have e2:(b == 43)=false:=by
   rw [beq_eq_false_iff_ne];intro e;subst e;simp at hb
  simp [Lib.atoi,e1,e2,Lib.decNat,hn]
set_option maxHeartbeats 1000000 in
theorem num_bad (p:Nat) (s:ByteArray) (i:Nat) (o:Bool) (ts:List Tok) (v:Value) (w:World) (hst:St p s i o ts v w) (hi:i<s.size) (hs:s.size≤6000) (hd:digitB (at' s i)=true)
  (hbad:9<spanN digitB s i∨(1<spanN digitB s i∧at' s i=48)) :
  Calls Tryz.prog 93 #[.pointer (some ⟨p,0,none⟩)] w fun e w'=>e=.panicked [{ v:=.iface 25 (.agg #[.int .i64 3,.int .i64 i]),recovered:=false }]∧Below p w w':=by
 have hlt:=hst.lt
 have hle:=spanN_le digitB s i (by omega)
 have hpo:=spanN_pos digitB s i hi hd
 have hsz:=piece_size s i (spanN digitB s i) hle
 have hz0:=piece_at s i (spanN digitB s i) 0 hle (by omega)
 have hC:=hide (piece_digit p s i o ts v w hst (by omega) hs)
 generalize hx:s.extract i (i+spanN digitB s i)=x at *
 generalize hn:spanN digitB s i=n at *
 clear hx hn
 have hxs:x.size≤6000:=by omega
 have h0:0<x.size:=by omega
 have hb0:(x[0]'h0).toNat=at' s i:=by rw [at_lt];simpa using hz0
 have hb1:(((x[0]'h0).toNat:Nat):Int)=(at' s i:Nat):=by rw [hb0]
 clear hz0 hb0
 generalize at' s i=c at *
 by_cases h9:9<x.size
 ·have h9':(9:Int)<(x.size:Int):=by omega
  clear hbad
  go_enter Tryz.func93,Tryz.ntmps93
  go_wp2_with (first
   | (go_at_call 118;refine (uh hC).mono ?_;rintro e w1 ⟨rfl,hb⟩;have hst1:=hst.below hb)
   | (go_at_call 117;refine (giveUp_any p s i o ts v _ hst1 _).mono ?_;rintro e w2 ⟨rfl,rfl⟩))
  exact⟨rfl,rfl,hb.mono (by omega)⟩
 ·have h9':¬ (9:Int)<(x.size:Int):=by omega
  have h1':(1:Int)<(x.size:Int):=by omega
  have hc:c=48:=by omega
  subst hc
  clear hbad
  go_enter Tryz.func93,Tryz.ntmps93
  go_wp2_with (first
   | (go_at_call 118;refine (uh hC).mono ?_;rintro e w1 ⟨rfl,hb⟩;have hst1:=hst.below hb)
   | (go_at_call 117;refine (giveUp_any p s i o ts v _ hst1 _).mono ?_;rintro e w2 ⟨rfl,rfl⟩))
  exact⟨rfl,rfl,hb.mono (by omega)⟩
end
section
open Go.RowKit
set_option maxHeartbeats 1000000 in
theorem num_ok (p:Nat) (s:ByteArray) (i:Nat) (o:Bool) (ts:List Tok) (v:Value) (w:World) (hst:St p s i o ts v w) (hi:i<s.size) (hs:s.size≤6000) (hl:ts.length≤100000) (hd:digitB (at' s i)=true)
  (hok:¬ (9<spanN digitB s i∨(1<spanN digitB s i∧at' s i=48))) :
  Calls Tryz.prog 93 #[.pointer (some ⟨p,0,none⟩)] w fun e w'=>e=.returned (.tuple #[])∧∃ v',St p s (numOut s i o).pos (numOut s i o).mark (ts++(numOut s i o).toks) v' w'∧Below p w w':=by
 have hlt:=hst.lt
 have hle:=spanN_le digitB s i (by omega)
 have hpo:=spanN_pos digitB s i hi hd
 have hsz:=piece_size s i (spanN digitB s i) hle
 have hz0:=piece_at s i (spanN digitB s i) 0 hle (by omega)
 have hat:=hide (atoi_of (s.extract i (i+spanN digitB s i)) (by omega) (fun j hj=>by rw [piece_at s i _ j hle (by omega)];exact spanN_all digitB s i j (by omega)))
 have hC:=hide (piece_digit p s i o ts v w hst (by omega) hs)
 have hO:numOut s i o=⟨0,i+spanN digitB s i,[⟨2,s.extract i (i+spanN digitB s i),numV (s.extract i (i+spanN digitB s i)),i⟩],true⟩:=by unfold numOut;rw [if_neg hok]
 rw [hO]
 clear hO
 generalize hx:s.extract i (i+spanN digitB s i)=x at *
 generalize hn:spanN digitB s i=n at *
 clear hx hn
 subst hsz
 have hxs:x.size≤6000:=by omega
 have h0:0<x.size:=by omega
 have hb0:(x[0]'h0).toNat=at' s i:=by rw [at_lt];simpa using hz0
 have hb1:(((x[0]'h0).toNat:Nat):Int)=(at' s i:Nat):=by rw [hb0]
 clear hz0 hb0 hd
 generalize at' s i=c at *
 have h9':¬ (9:Int)<(x.size:Int):=by omega
 have h18:x.size≤18:=by omega
 by_cases h1:1<x.size
 ·have h1':(1:Int)<(x.size:Int):=by omega
  have hc:((c:Int) == 48)=false:=ne_b (by omega)
  clear hok
  go_enter Tryz.func93,Tryz.ntmps93
  go_wp2_with (first
   | (go_at_call 118;refine (uh hC).mono ?_;rintro e w1 ⟨rfl,hb⟩;have hst1:=hst.below hb)
   | (go_at_call 119;refine (Tryz.strconv_Atoi x (numV x) h18 (uh hat) _).mono ?_;rintro e w2 ⟨rfl,tt,rfl⟩;have hb2:=Lib.bytesWorld_below w1 5 tt;have hst2:=hst1.below hb2)
   | (go_at_call 120;refine (take_any p s i o ts v _ hst2 hl _ _ _ hxs (by omega)).mono ?_;rintro e w3 ⟨rfl,v3,hst3,hb3⟩))
  go_end0
  refine⟨rfl,v3,hst3,?_⟩
  exact ((hb.mono (by omega)).trans (hb2.mono (by have:=hb.size;omega))).trans hb3
 ·have h1':¬ (1:Int)<(x.size:Int):=by omega
  clear hok
  go_enter Tryz.func93,Tryz.ntmps93
  go_wp2_with (first
   | (go_at_call 118;refine (uh hC).mono ?_;rintro e w1 ⟨rfl,hb⟩;have hst1:=hst.below hb)
   | (go_at_call 119;refine (Tryz.strconv_Atoi x (numV x) h18 (uh hat) _).mono ?_;rintro e w2 ⟨rfl,tt,rfl⟩;have hb2:=Lib.bytesWorld_below w1 5 tt;have hst2:=hst1.below hb2)
   | (go_at_call 120;refine (take_any p s i o ts v _ hst2 hl _ _ _ hxs (by omega)).mono ?_;rintro e w3 ⟨rfl,v3,hst3,hb3⟩))
  go_end0
  refine⟨rfl,v3,hst3,?_⟩
  exact ((hb.mono (by omega)).trans (hb2.mono (by have:=hb.size;omega))).trans hb3
set_option maxHeartbeats 1000000 in
theorem name_any (p:Nat) (s:ByteArray) (i:Nat) (o:Bool) (ts:List Tok) (v:Value) (w:World) (hst:St p s i o ts v w) (hi:i<s.size) (hs:s.size≤6000) (hl:ts.length≤100000) :
  Calls Tryz.prog 95 #[.pointer (some ⟨p,0,none⟩)] w fun e w'=>e=.returned (.tuple #[])∧∃ v',St p s (nameOut s i).pos (nameOut s i).mark (ts++(nameOut s i).toks) v' w'∧Below p w w':=by
 have hlt:=hst.lt
 have hle:=spanN_le partB s i (by omega)
 have hsz:=piece_size s i (spanN partB s i) hle
 have hC:=hide (piece_part p s i o ts v w hst (by omega) hs)
 unfold nameOut
 simp only []
 generalize hx:s.extract i (i+spanN partB s i)=x at *
 generalize hn:spanN partB s i=n at *
 clear hx hn
 subst hsz
 have hxs:x.size≤6000:=by omega
 cases hw:wordB x with
 | true =>
  have hk:kindOf x=4:=by simp [kindOf,hw]
  rw [hk]
  clear hk
  go_enter Tryz.func95,Tryz.ntmps95
  go_wp2_with (first
   | (go_at_call 118;refine (uh hC).mono ?_;rintro e w1 ⟨rfl,hb⟩;have hst1:=hst.below hb)
   | (go_at_call 122;refine (word_any _ _).mono ?_;rintro e w2 ⟨rfl,rfl⟩)
   | (go_at_call 120;refine (take_any p s i o ts v _ hst1 hl _ _ _ hxs (by omega)).mono ?_;rintro e w3 ⟨rfl,v3,hst3,hb3⟩))
  go_end0
  exact⟨rfl,v3,hst3,(hb.mono (by omega)).trans hb3⟩
 | false =>
  have hk:kindOf x=1:=by simp [kindOf,hw]
  rw [hk]
  clear hk
  go_enter Tryz.func95,Tryz.ntmps95
  go_wp2_with (first
   | (go_at_call 118;refine (uh hC).mono ?_;rintro e w1 ⟨rfl,hb⟩;have hst1:=hst.below hb)
   | (go_at_call 122;refine (word_any _ _).mono ?_;rintro e w2 ⟨rfl,rfl⟩)
   | (go_at_call 120;refine (take_any p s i o ts v _ hst1 hl _ _ _ hxs (by omega)).mono ?_;rintro e w3 ⟨rfl,v3,hst3,hb3⟩))
  go_end0
  exact⟨rfl,v3,hst3,(hb.mono (by omega)).trans hb3⟩
end
section
open Go.RowKit
theorem sign_any (s:ByteArray) (i:Nat) (hi:i<s.size) (hs:s.size≤6000) (w:World):Calls Tryz.prog 123 #[.string (s.extract i s.size)] w fun e w'=>e=.returned (.int .i64 (signN s i))∧w'=w:=by
 have hz:(s.extract i s.size).size=s.size - i:=by simp
 have hc:(((s.extract i s.size)[0]'(by omega)).toNat:Int)=(at' s i:Int):=by
  rw [at_lt,at_extract s i 0 (by omega)];rfl
 by_cases h1:i+1<s.size
 ·have e2:(s.extract i s.size).extract 0 2=s.extract i (i+2):=extract_twice s i 2 (by omega)
  by_cases h2:(s.extract i (i+2)).toList ∈ two
  ·have hn:signN s i=2:=by unfold signN;rw [if_pos ⟨h1,h2⟩]
   rw [hn]
   exact sign_two _ w (by omega) (by omega) (by rw [e2];exact h2)
  ·by_cases h3:(at' s i:Int) ∈ oneSign
   ·have hn:signN s i=1:=by unfold signN;rw [if_neg (fun h=>h2 h.2),if_pos h3]
    rw [hn]
    exact sign_one _ w (by omega) (by omega) (Or.inr (by rw [e2];exact h2)) _ hc h3
   ·have hn:signN s i=0:=by unfold signN;rw [if_neg (fun h=>h2 h.2),if_neg h3]
    rw [hn]
    exact sign_no _ w (by omega) (by omega) (Or.inr (by rw [e2];exact h2)) _ hc h3
 ·by_cases h3:(at' s i:Int) ∈ oneSign
  ·have hn:signN s i=1:=by unfold signN;rw [if_neg (fun h=>h1 h.1),if_pos h3]
   rw [hn]
   exact sign_one _ w (by omega) (by omega) (Or.inl (by omega)) _ hc h3
  ·have hn:signN s i=0:=by unfold signN;rw [if_neg (fun h=>h1 h.1),if_neg h3]
   rw [hn]
   exact sign_no _ w (by omega) (by omega) (Or.inl (by omega)) _ hc h3
theorem signN_le (s:ByteArray) (i:Nat) (hi:i<s.size):i+signN s i≤s.size:=by
 unfold signN
 split
 ·omega
 ·split <;> omega
set_option maxHeartbeats 1000000 in
theorem sign_bad (p:Nat) (s:ByteArray) (i:Nat) (o:Bool) (ts:List Tok) (v:Value) (w:World) (hst:St p s i o ts v w) (hi:i<s.size) (hs:s.size≤6000) (hbad:signN s i=0) :
  Calls Tryz.prog 96 #[.pointer (some ⟨p,0,none⟩)] w fun e w'=>e=.panicked [{ v:=.iface 25 (.agg #[.int .i64 2,.int .i64 i]),recovered:=false }]∧Below p w w':=by
 obtain⟨c0,c1,c2,c3⟩:=hst.cells
 have hi1:(0:Int)≤(i:Int):=by omega
 have hi2:(i:Int)≤(s.size:Int):=by omega
 have hC:∀ w,Calls Tryz.prog 123 #[.string (s.extract i s.size)] w fun e w'=>e=.returned (.int .i64 0)∧w'=w:=fun w=>by
  have:=sign_any s i hi hs w
  rw [hbad] at this
  exact this
 have HC:=hide hC
 clear hC hbad
 have hlt:=hst.lt
 go_enter Tryz.func96,Tryz.ntmps96
 go_wp2
 go_quiet (fail)
 have hst1:St p s i o ts v (w.drewN nq):=⟨hst.block,hst.own⟩
 go_wp2_with (first
  | (go_at_call 123;refine (uh HC _).mono ?_;rintro e w1 ⟨rfl,rfl⟩)
  | (go_at_call 117;refine (giveUp_any p s i o ts v _ hst1 _).mono ?_;rintro e w2 ⟨rfl,rfl⟩))
 exact⟨rfl,rfl,(below_drewN w nq).mono (by omega)⟩
set_option maxHeartbeats 1000000 in
theorem sign_ok (p:Nat) (s:ByteArray) (i:Nat) (o:Bool) (ts:List Tok) (v:Value) (w:World) (hst:St p s i o ts v w) (hi:i<s.size) (hs:s.size≤6000) (hl:ts.length≤100000) (hok:¬ signN s i=0) :
  Calls Tryz.prog 96 #[.pointer (some ⟨p,0,none⟩)] w fun e w'=>e=.returned (.tuple #[])∧∃ v',St p s (signOut s i o).pos (signOut s i o).mark (ts++(signOut s i o).toks) v' w'∧Below p w w':=by
 have hO:signOut s i o=⟨0,i+signN s i,[⟨3,s.extract i (i+signN s i),0,i⟩],endsB 3 (s.extract i (i+signN s i))⟩:=by unfold signOut;rw [if_neg hok]
 rw [hO]
 clear hO
 have hle:=signN_le s i hi
 have e2:=extract_twice s i (signN s i) hle
 have hsz:=piece_size s i (signN s i) hle
 have hC:=hide (fun w=>sign_any s i hi hs w)
 obtain⟨c0,c1,c2,c3⟩:=hst.cells
 have hi1:(0:Int)≤(i:Int):=by omega
 have hi2:(i:Int)≤(s.size:Int):=by omega
 have hlt:=hst.lt
 have hrz:(s.extract i s.size).size=s.size - i:=by simp
 generalize hx:s.extract i (i+signN s i)=x at *
 generalize hn:signN s i=n at *
 clear hx hn
 subst hsz
 have hz:((x.size:Int) == 0)=false:=ne_b (by omega)
 have hxs:x.size≤6000:=by omega
 have E2:=hide e2
 have RZ:=hide hrz
 clear e2 hrz
 go_enter Tryz.func96,Tryz.ntmps96
 go_wp2
 go_quiet (fail)
 have hb0:=below_drewN w nq
 have hst1:St p s i o ts v (w.drewN nq):=⟨hst.block,hst.own⟩
 generalize hr:s.extract i s.size=r at *
 have hrz:=uh RZ
 have hxr:(x.size:Int)≤(r.size:Int):=by omega
 have e2:=uh E2
 clear hrz hr RZ E2
 go_wp2_with (first
  | (go_at_call 123;refine (uh hC _).mono ?_;rintro e w1 ⟨rfl,rfl⟩)
  | (go_at_call 120;refine (take_any p s i o ts v _ hst1 hl _ _ _ hxs (by omega)).mono ?_;rintro e w3 ⟨rfl,v3,hst3,hb3⟩))
 go_end0
 exact⟨rfl,v3,hst3,(hb0.mono (by omega)).trans hb3⟩
end
section
open Go.RowKit
set_option maxHeartbeats 1000000 in
theorem note_any (p:Nat) (s:ByteArray) (i:Nat) (o:Bool) (ts:List Tok) (v:Value) (w:World) (hst:St p s i o ts v w) (hi:i≤s.size) (hs:s.size≤6000) (hp:2≤p) (hT:Lib.Utf8Tabs 0 1 w) :
  Calls Tryz.prog 91 #[.pointer (some ⟨p,0,none⟩)] w fun e w'=>Below p w w'∧(((note s i).1=0∧e=.returned (.tuple #[])∧St p s (note s i).2 o ts v w')∨((note s i).1=2∧e=.panicked [{ v:=.iface 25 (.agg #[.int .i64 2,.int .i64 (note s i).2]),recovered:=false }])):=by
 generalize hN:note s i=N
 have HN:Hid (noteGo (s.size+1) s i=N):=hN
 clear hN
 go_enter Tryz.func91,Tryz.ntmps91
 go_wp2
 go_loopw [2,3] (fun _ _ wr=>∃ (j f:Nat),j≤s.size∧s.size<j+f∧noteGo f s j=N∧St p s j o ts v wr∧Below p w wr) (fun _ _ wr=>s.size - (intOf ((wr.cell? ⟨p,1,none⟩).getD undef)).toNat)
 case atStart=>exact⟨i,s.size+1,hi,by omega,uh HN,hst,Below.refl _ _⟩
 case round =>
  obtain⟨j,f,hj,hf,hgo,hst1,hb1⟩:=hrel
  obtain⟨c0,c1,c2,c3⟩:=hst1.cells
  have hlt:=hst1.lt
  obtain⟨f,rfl⟩:∃ g,f=g+1:=⟨f - 1,by omega⟩
  have HG:=hide hgo
  clear hgo HN
  have hT1:=hide (tabs_below hp hT hb1)
  by_cases hlt1:j<s.size
  ·have hltz:(j:Int)<(s.size:Int):=by omega
   have hd1:=dec_le s j hlt1
   have hd2:=dec_width s j hlt1
   have hd3:=dec_ten s j hlt1
   have hG:N=(if at' s j=10 then (0,j) else if (dec s j).1=65533∧(dec s j).2=1 then (2,j) else noteGo f s (j+(dec s j).2)):=by
    rw [← uh HG];simp only [noteGo];rw [if_pos hlt1]
   have hC:∀ w2,St p s j o ts v w2→Lib.Utf8Tabs 0 1 w2→Calls Tryz.prog 89 #[.pointer (some ⟨p,0,none⟩)] w2 fun e w'=>e=.returned (.tuple #[.int .i32 (dec s j).1,.int .i64 (dec s j).2])∧Below w2.heap.size w2 w' :=
    fun w2 h1 h2=>peek_any p s j o ts v w2 h1 hj h2
   generalize (dec s j).1=R at *
   generalize (dec s j).2=K at *
   have HC:=hide hC
   clear hC HG
   by_cases ha:at' s j=10
   ·rw [if_pos ha] at hG
    have hR:R=10:=hd3.2 ha
    subst hR
    have HG:=hide hG
    clear hG hd3 ha
    go_wp2
    go_quiet (fail)
    have hst2:St p s j o ts v (wr.drewN nq):=⟨hst1.block,hst1.own⟩
    go_wp2_with (go_at_call 89;refine (uh HC _ hst2 (uh hT1)).mono ?_;rintro e w3 ⟨rfl,hb3⟩)
    refine bodyPost_ret (results_none rfl _ _ _) rfl ?_
    have hG:=uh HG
    subst hG
    exact⟨hb1.trans ((below_drewN wr nq).mono (by omega) |>.trans (hb3.mono (by show p≤wr.heap.size;omega))),Or.inl ⟨rfl,rfl,hst2.below hb3⟩⟩
   ·rw [if_neg ha] at hG
    have hR:((R:Int) == 10)=false:=ne_b (fun h=>ha (hd3.1 (by omega)))
    clear hd3 ha
    by_cases hbad:R=65533∧K=1
    ·rw [if_pos hbad] at hG
     obtain⟨rfl,rfl⟩:=hbad
     have HG:=hide hG
     clear hG
     go_wp2
     go_quiet (fail)
     have hst2:St p s j o ts v (wr.drewN nq):=⟨hst1.block,hst1.own⟩
     go_wp2_with (first
      | (go_at_call 89;refine (uh HC _ hst2 (uh hT1)).mono ?_;rintro e w3 ⟨rfl,hb3⟩;have hst3:=hst2.below hb3)
      | (go_at_call 117;refine (giveUp_any p s j o ts v _ hst3 _).mono ?_;rintro e w4 ⟨rfl,rfl⟩))
     have hG:=uh HG
     subst hG
     exact⟨rfl,hb1.trans ((below_drewN wr nq).mono (by omega) |>.trans (hb3.mono (by show p≤wr.heap.size;omega))),Or.inr ⟨rfl,rfl⟩⟩
    ·rw [if_neg hbad] at hG
     have HG:=hide hG
     clear hG
     by_cases hR2:R=65533
     ·subst hR2
      have hK:((K:Int) == 1)=false:=ne_b (fun h=>hbad ⟨rfl,by omega⟩)
      clear hbad
      go_wp2
      go_quiet (fail)
      have hst2:St p s j o ts v (wr.drewN nq):=⟨hst1.block,hst1.own⟩
      go_wp2_with (first
       | (go_at_call 89;refine (uh HC _ hst2 (uh hT1)).mono ?_;rintro e w3 ⟨rfl,hb3⟩;have hst3:=hst2.below hb3;obtain⟨d0,d1,d2,d3⟩:=hst3.cells;have hf1:=hst3.free 1))
      go_roundw
      case rel =>
       refine⟨j+K,f,by omega,by omega,(uh HG).symm,hst3.setAt (j+K) (by omega),?_⟩
       exact (hb1.trans ((below_drewN wr nq).mono (by omega) |>.trans (hb3.mono (by show p≤wr.heap.size;omega)))).setCell (Nat.le_refl _) _
      case measure =>
       have e1:=((hst3.setAt (j+K) (n:=(j:Int)+K) (by omega)).cells).2.1
       rw [e1,c1]
       simp [intOf];omega
     ·have hR3:((R:Int) == 65533)=false:=ne_b (by omega)
      clear hbad hR2
      go_wp2
      go_quiet (fail)
      have hst2:St p s j o ts v (wr.drewN nq):=⟨hst1.block,hst1.own⟩
      go_wp2_with (first
       | (go_at_call 89;refine (uh HC _ hst2 (uh hT1)).mono ?_;rintro e w3 ⟨rfl,hb3⟩;have hst3:=hst2.below hb3;obtain⟨d0,d1,d2,d3⟩:=hst3.cells;have hf1:=hst3.free 1))
      go_roundw
      case rel =>
       refine⟨j+K,f,by omega,by omega,(uh HG).symm,hst3.setAt (j+K) (by omega),?_⟩
       exact (hb1.trans ((below_drewN wr nq).mono (by omega) |>.trans (hb3.mono (by show p≤wr.heap.size;omega)))).setCell (Nat.le_refl _) _
      case measure =>
       have e1:=((hst3.setAt (j+K) (n:=(j:Int)+K) (by omega)).cells).2.1
       rw [e1,c1]
       simp [intOf];omega
  ·have hltz:¬ (j:Int)<(s.size:Int):=by omega
   have hG:N=(0,j):=by
    rw [← uh HG];simp only [noteGo];rw [if_neg hlt1]
   clear HG
   go_wp2
   go_quiet (fail)
   have hst2:St p s j o ts v (wr.drewN nq):=⟨hst1.block,hst1.own⟩
   have HG:=hide hG
   clear hG
   go_wp2
   go_end0
   have hG:=uh HG
   subst hG
   exact⟨hb1.trans ((below_drewN wr nq).mono (by omega)),Or.inl ⟨rfl,rfl,hst2⟩⟩
end
section
open Go.RowKit
theorem blank_hi (r:Int) (h:128≤r):blankB r=false:=by unfold blankB;simp;omega
theorem letter_hi (r:Int) (h:128≤r):letterB r=false:=by unfold letterB;simp;omega
theorem dec_same (F:Int→Bool) (hF:∀ r,128≤r→F r=false) (s:ByteArray) (i:Nat) (hi:i<s.size):F ((dec s i).1:Nat)=F (at' s i):=by
 by_cases ha:at' s i<128
 ·rw [dec_ascii s i hi ha]
 ·have:=dec_high s i hi (by omega)
  rw [hF _ (by omega),hF _ (by omega)]
def noteB (s:ByteArray) (i:Nat):Bool:=decide (at' s i=47∧i+1<s.size∧at' s (i+1)=47)
theorem toNat_eq {a:UInt8}{n:Nat}(h:a.toNat=n) (hn:n<256):a=UInt8.ofNat n:=by
 subst h;simp
theorem hasPrefix_note (s:ByteArray) (i:Nat) (hi:i<s.size):Lib.hasPrefix (s.extract i s.size).data.toList [47,47]=noteB s i:=by
 have hlen:s.data.toList.length=s.size:=by cases s;simp [ByteArray.size]
 have hd:(s.extract i s.size).data.toList=s.data.toList.drop i:=by
  simp only [ByteArray.data_extract,Array.toList_extract]
  rw [List.extract_eq_take_drop]
  exact List.take_of_length_le (by simp [List.length_drop])
 rw [hd]
 unfold noteB Lib.hasPrefix at'
 rw [List.drop_eq_getElem_cons (by omega)]
 by_cases h1:i+1<s.size
 ·rw [List.drop_eq_getElem_cons (by omega)]
  have e1:s.data.toList.getD i 0=s.data.toList[i]'(by omega):=by simp [List.getD_eq_getElem?_getD,List.getElem?_eq_getElem (show i<s.data.toList.length by omega)]
  have e2:s.data.toList.getD (i+1) 0=s.data.toList[i+1]'(by omega):=by simp [List.getD_eq_getElem?_getD,List.getElem?_eq_getElem (show i+1<s.data.toList.length by omega)]
  rw [e1,e2]
  generalize s.data.toList[i]'(by omega)=a
  generalize s.data.toList[i+1]'(by omega)=b
  simp only [List.isPrefixOf,Bool.and_true]
  rw [Bool.eq_iff_iff]
  simp only [Bool.and_eq_true,beq_iff_eq,decide_eq_true_eq]
  constructor
  ·rintro ⟨h1',h2'⟩
   exact⟨by rw [← h1'];rfl,h1,by rw [← h2'];rfl⟩
  ·rintro ⟨h1',_,h2'⟩
   exact⟨(toNat_eq h1' (by omega)).symm,(toNat_eq h2' (by omega)).symm⟩
 ·have:s.data.toList.drop (i+1) = []:=List.drop_eq_nil_of_le (by omega)
  rw [this]
  simp only [List.isPrefixOf,Bool.and_false]
  rw [eq_comm,decide_eq_false_iff_not]
  omega
def Went (p:Nat) (s:ByteArray) (ts:List Tok) (w:World) (r:LexOut) (e:Ending) (w':World):Prop :=
 Below p w w'∧((r.code=0∧e=.returned (.tuple #[])∧∃ v',St p s r.pos r.mark (ts++r.toks) v' w')∨(r.code≠0∧e=.panicked [{ v:=.iface 25 (.agg #[.int .i64 r.code,.int .i64 r.pos]),recovered:=false }]))
set_option maxHeartbeats 1000000 in
theorem step_line (p:Nat) (s:ByteArray) (i:Nat) (o:Bool) (ts:List Tok) (v:Value) (w:World) (hst:St p s i o ts v w) (hi:i<s.size) (hs:s.size≤6000) (hl:ts.length≤100000) (hT:Lib.Utf8Tabs 0 1 w) (hc:at' s i=10):Calls Tryz.prog 65 #[.pointer (some ⟨p,0,none⟩)] w (Went p s ts w ⟨0,i+1,ending o i,false⟩):=by
 have hlt:=hst.lt
 have hC:=hide (peek_any p s i o ts v w hst (by omega) hT)
 have hd:dec s i=(10,1):=by rw [dec_ascii s i hi (by omega),hc]
 rw [hd] at hC
 clear hd
 go_enter Tryz.func65,Tryz.ntmps65
 go_wp2_with (first
  | (go_at_call 89;refine (uh hC).mono ?_;rintro e w1 ⟨rfl,hb1⟩;have hst1:=hst.below hb1)
  | (go_at_call 66;refine (endLine_any p s i o ts v _ hst1 hl).mono ?_;rintro e w2 ⟨rfl,v2,hst2,hb2⟩;obtain⟨d0,d1,d2,d3⟩:=hst2.cells;have hf1:=hst2.free 1))
 go_end0
 exact⟨((hb1.mono (B':=p) (by omega)).trans hb2).setCell (Nat.le_refl _) _,Or.inl ⟨rfl,rfl,v2,hst2.setAt (i+1) (by omega)⟩⟩
set_option maxHeartbeats 1000000 in
theorem step_blank (p:Nat) (s:ByteArray) (i:Nat) (o:Bool) (ts:List Tok) (v:Value) (w:World) (hst:St p s i o ts v w) (hi:i<s.size) (hs:s.size≤6000) (hT:Lib.Utf8Tabs 0 1 w) (hc:¬ at' s i=10) (hb:blankB (at' s i)=true):Calls Tryz.prog 65 #[.pointer (some ⟨p,0,none⟩)] w (Went p s ts w ⟨0,i+1,[],o⟩):=by
 have hlt:=hst.lt
 have hC:=hide (peek_any p s i o ts v w hst (by omega) hT)
 have h10:(((dec s i).1:Nat) == (10:Int))=false:=ne_b (fun h=>hc ((dec_ten s i hi).1 (by omega)))
 have hbl:blankB ((dec s i).1:Nat)=true:=by rw [dec_same blankB blank_hi s i hi];exact hb
 generalize (dec s i).1=R at *
 generalize (dec s i).2=K at *
 clear hb hc
 go_enter Tryz.func65,Tryz.ntmps65
 go_wp2_with (first
  | (go_at_call 89;refine (uh hC).mono ?_;rintro e w1 ⟨rfl,hb1⟩;have hst1:=hst.below hb1;obtain⟨d0,d1,d2,d3⟩:=hst1.cells;have hf1:=hst1.free 1)
  | (go_at_call 90;refine (blank_any _ _).mono ?_;rintro e w2 ⟨rfl,hww⟩;subst w2))
 go_end0
 refine⟨(hb1.mono (B':=p) (by omega)).setCell (Nat.le_refl _) _,Or.inl ⟨rfl,rfl,v,?_⟩⟩
 have:=hst1.setAt (i+1) (n:=(i:Int)+1) (by omega)
 simpa using this
set_option maxHeartbeats 1000000 in
theorem step_note (p:Nat) (s:ByteArray) (i:Nat) (o:Bool) (ts:List Tok) (v:Value) (w:World) (hst:St p s i o ts v w) (hi:i<s.size) (hs:s.size≤6000) (hT:Lib.Utf8Tabs 0 1 w) (hp:2≤p) (hc:¬ at' s i=10) (hb:blankB (at' s i)=false) (hn:noteB s i=true):Calls Tryz.prog 65 #[.pointer (some ⟨p,0,none⟩)] w (Went p s ts w ⟨(note s i).1,(note s i).2,[],o⟩):=by
 have hlt:=hst.lt
 have hC:=hide (peek_any p s i o ts v w hst (by omega) hT)
 have h10:(((dec s i).1:Nat) == (10:Int))=false:=ne_b (fun h=>hc ((dec_ten s i hi).1 (by omega)))
 have hbl:blankB ((dec s i).1:Nat)=false:=by rw [dec_same blankB blank_hi s i hi];exact hb
 have hP:∀ w,Calls Tryz.prog 49 #[.string (s.extract i s.size),.string ⟨#[47,47]⟩] w fun e w'=>e=.returned (.bool (noteB s i))∧w'=w:=fun w=>by
  have:=Tryz.strings_HasPrefix (s.extract i s.size) ⟨#[47,47]⟩ w
  rw [show (⟨#[47,47]⟩:ByteArray).data.toList = [47,47] from rfl,hasPrefix_note s i hi] at this
  exact this
 have hi1:(0:Int)≤(i:Int):=by omega
 have hi2:(i:Int)≤(s.size:Int):=by omega
 rw [hn] at hP
 have HP:=hide hP
 clear hP
 generalize (dec s i).1=R at *
 generalize (dec s i).2=K at *
 have HT:=hide hT
 clear hb hc hn hT
 go_enter Tryz.func65,Tryz.ntmps65
 go_wp2_with (first
  | (go_at_call 89;refine (uh hC).mono ?_;rintro e w1 ⟨rfl,hb1⟩;have hst1:=hst.below hb1;obtain⟨d0,d1,d2,d3⟩:=hst1.cells;have hf1:=hst1.free 1)
  | (go_at_call 90;refine (blank_any _ _).mono ?_;rintro e w2 ⟨rfl,hww⟩;subst w2))
 go_quiet ((go_at_call 49;exact Calls.quiet_of_same (uh HP _)))
 have hst2:St p s i o ts v (w1.drewN nq):=⟨hst1.block,hst1.own⟩
 have hbq:=(hb1.trans ((below_drewN w1 nq).mono hb1.size))
 go_wp2_with (go_at_call 91;refine (note_any p s i o ts v _ hst2 (by omega) hs hp (tabs_below (by omega) (uh HT) (hbq.mono (B':=p) (by omega)))).mono ?_;rintro e w3 ⟨hb3,⟨hN,rfl,hst3⟩ | ⟨hN,rfl⟩⟩)
 ·go_end0
  exact⟨(hbq.mono (B':=p) (by omega)).trans hb3,Or.inl ⟨hN,rfl,v,by simpa using hst3⟩⟩
 ·refine⟨rfl,(hbq.mono (B':=p) (by omega)).trans hb3,Or.inr ⟨by simp,?_⟩⟩
  simp
set_option maxHeartbeats 1000000 in
theorem step_num (p:Nat) (s:ByteArray) (i:Nat) (o:Bool) (ts:List Tok) (v:Value) (w:World) (hst:St p s i o ts v w) (hi:i<s.size) (hs:s.size≤6000) (hl:ts.length≤100000) (hT:Lib.Utf8Tabs 0 1 w) (hc:¬ at' s i=10) (hb:blankB (at' s i)=false) (hn:noteB s i=false) (hd:digitB (at' s i)=true):Calls Tryz.prog 65 #[.pointer (some ⟨p,0,none⟩)] w (Went p s ts w (numOut s i o)):=by
 have hlt:=hst.lt
 have hC:=hide (peek_any p s i o ts v w hst (by omega) hT)
 have h10:(((dec s i).1:Nat) == (10:Int))=false:=ne_b (fun h=>hc ((dec_ten s i hi).1 (by omega)))
 have hbl:blankB ((dec s i).1:Nat)=false:=by rw [dec_same blankB blank_hi s i hi];exact hb
 have hP:∀ w,Calls Tryz.prog 49 #[.string (s.extract i s.size),.string ⟨#[47,47]⟩] w fun e w'=>e=.returned (.bool (noteB s i))∧w'=w:=fun w=>by
  have:=Tryz.strings_HasPrefix (s.extract i s.size) ⟨#[47,47]⟩ w
  rw [show (⟨#[47,47]⟩:ByteArray).data.toList = [47,47] from rfl,hasPrefix_note s i hi] at this
  exact this
 have hi1:(0:Int)≤(i:Int):=by omega
 have hi2:(i:Int)≤(s.size:Int):=by omega
 rw [hn] at hP
 have HP:=hide hP
 clear hP
 have hdg:digitB ((dec s i).1:Nat)=true:=by rw [dec_same digitB digit_hi s i hi];exact hd
 generalize (dec s i).1=R at *
 generalize (dec s i).2=K at *
 clear hb hc hn hT
 go_enter Tryz.func65,Tryz.ntmps65
 go_wp2_with (first
  | (go_at_call 89;refine (uh hC).mono ?_;rintro e w1 ⟨rfl,hb1⟩;have hst1:=hst.below hb1;obtain⟨d0,d1,d2,d3⟩:=hst1.cells;have hf1:=hst1.free 1)
  | (go_at_call 90;refine (blank_any _ _).mono ?_;rintro e w2 ⟨rfl,hww⟩;subst w2))
 go_quiet ((go_at_call 49;exact Calls.quiet_of_same (uh HP _)))
 have hst2:St p s i o ts v (w1.drewN nq):=⟨hst1.block,hst1.own⟩
 have hbq:=(hb1.trans ((below_drewN w1 nq).mono hb1.size))
 by_cases hbad:9<spanN digitB s i∨(1<spanN digitB s i∧at' s i=48)
 ·have hcode:(numOut s i o).code=3:=by unfold numOut;rw [if_pos hbad]
  have hpos:(numOut s i o).pos=i:=by unfold numOut;rw [if_pos hbad]
  have HQ:=hide (num_bad p s i o ts v _ hst2 hi hs hd hbad)
  clear hbad hd
  go_wp2_with (first | (go_at_call 92;refine (digit_any _ _).mono ?_;rintro e w2 ⟨rfl,hww⟩;subst w2) | (go_at_call 93;refine (uh HQ).mono ?_;rintro e w3 ⟨rfl,hb3⟩))
  exact⟨rfl,(hbq.mono (B':=p) (by omega)).trans hb3,Or.inr ⟨by rw [hcode];simp,by rw [hcode,hpos]⟩⟩
 ·have hcode:(numOut s i o).code=0:=by unfold numOut;rw [if_neg hbad]
  have HQ:=hide (num_ok p s i o ts v _ hst2 hi hs hl hd hbad)
  clear hbad hd
  go_wp2_with (first | (go_at_call 92;refine (digit_any _ _).mono ?_;rintro e w2 ⟨rfl,hww⟩;subst w2) | (go_at_call 93;refine (uh HQ).mono ?_;rintro e w3 ⟨rfl,v3,hst3,hb3⟩))
  go_end0
  exact⟨(hbq.mono (B':=p) (by omega)).trans hb3,Or.inl ⟨hcode,rfl,v3,hst3⟩⟩
set_option maxHeartbeats 1000000 in
theorem step_name (p:Nat) (s:ByteArray) (i:Nat) (o:Bool) (ts:List Tok) (v:Value) (w:World) (hst:St p s i o ts v w) (hi:i<s.size) (hs:s.size≤6000) (hl:ts.length≤100000) (hT:Lib.Utf8Tabs 0 1 w) (hc:¬ at' s i=10) (hb:blankB (at' s i)=false) (hn:noteB s i=false) (hd:digitB (at' s i)=false) (hle:letterB (at' s i)=true):Calls Tryz.prog 65 #[.pointer (some ⟨p,0,none⟩)] w (Went p s ts w (nameOut s i)):=by
 have hlt:=hst.lt
 have hC:=hide (peek_any p s i o ts v w hst (by omega) hT)
 have h10:(((dec s i).1:Nat) == (10:Int))=false:=ne_b (fun h=>hc ((dec_ten s i hi).1 (by omega)))
 have hbl:blankB ((dec s i).1:Nat)=false:=by rw [dec_same blankB blank_hi s i hi];exact hb
 have hP:∀ w,Calls Tryz.prog 49 #[.string (s.extract i s.size),.string ⟨#[47,47]⟩] w fun e w'=>e=.returned (.bool (noteB s i))∧w'=w:=fun w=>by
  have:=Tryz.strings_HasPrefix (s.extract i s.size) ⟨#[47,47]⟩ w
  rw [show (⟨#[47,47]⟩:ByteArray).data.toList = [47,47] from rfl,hasPrefix_note s i hi] at this
  exact this
 have hi1:(0:Int)≤(i:Int):=by omega
 have hi2:(i:Int)≤(s.size:Int):=by omega
 rw [hn] at hP
 have HP:=hide hP
 clear hP
 have hdg:digitB ((dec s i).1:Nat)=false:=by rw [dec_same digitB digit_hi s i hi];exact hd
 have hlg:letterB ((dec s i).1:Nat)=true:=by rw [dec_same letterB letter_hi s i hi];exact hle
 generalize (dec s i).1=R at *
 generalize (dec s i).2=K at *
 clear hb hc hn hT
 go_enter Tryz.func65,Tryz.ntmps65
 go_wp2_with (first
  | (go_at_call 89;refine (uh hC).mono ?_;rintro e w1 ⟨rfl,hb1⟩;have hst1:=hst.below hb1;obtain⟨d0,d1,d2,d3⟩:=hst1.cells;have hf1:=hst1.free 1)
  | (go_at_call 90;refine (blank_any _ _).mono ?_;rintro e w2 ⟨rfl,hww⟩;subst w2))
 go_quiet ((go_at_call 49;exact Calls.quiet_of_same (uh HP _)))
 have hst2:St p s i o ts v (w1.drewN nq):=⟨hst1.block,hst1.own⟩
 have hbq:=(hb1.trans ((below_drewN w1 nq).mono hb1.size))
 have hcode:(nameOut s i).code=0:=rfl
 have HQ:=hide (name_any p s i o ts v _ hst2 hi hs hl)
 clear hd hle
 go_wp2_with (first | (go_at_call 92;refine (digit_any _ _).mono ?_;rintro e w2 ⟨rfl,hww⟩;subst w2) | (go_at_call 94;refine (letter_any _ _).mono ?_;rintro e w2 ⟨rfl,hww⟩;subst w2) | (go_at_call 95;refine (uh HQ).mono ?_;rintro e w3 ⟨rfl,v3,hst3,hb3⟩))
 go_end0
 exact⟨(hbq.mono (B':=p) (by omega)).trans hb3,Or.inl ⟨hcode,rfl,v3,hst3⟩⟩
set_option maxHeartbeats 1000000 in
theorem step_sign (p:Nat) (s:ByteArray) (i:Nat) (o:Bool) (ts:List Tok) (v:Value) (w:World) (hst:St p s i o ts v w) (hi:i<s.size) (hs:s.size≤6000) (hl:ts.length≤100000) (hT:Lib.Utf8Tabs 0 1 w) (hc:¬ at' s i=10) (hb:blankB (at' s i)=false) (hn:noteB s i=false) (hd:digitB (at' s i)=false) (hle:letterB (at' s i)=false):Calls Tryz.prog 65 #[.pointer (some ⟨p,0,none⟩)] w (Went p s ts w (signOut s i o)):=by
 have hlt:=hst.lt
 have hC:=hide (peek_any p s i o ts v w hst (by omega) hT)
 have h10:(((dec s i).1:Nat) == (10:Int))=false:=ne_b (fun h=>hc ((dec_ten s i hi).1 (by omega)))
 have hbl:blankB ((dec s i).1:Nat)=false:=by rw [dec_same blankB blank_hi s i hi];exact hb
 have hP:∀ w,Calls Tryz.prog 49 #[.string (s.extract i s.size),.string ⟨#[47,47]⟩] w fun e w'=>e=.returned (.bool (noteB s i))∧w'=w:=fun w=>by
  have:=Tryz.strings_HasPrefix (s.extract i s.size) ⟨#[47,47]⟩ w
  rw [show (⟨#[47,47]⟩:ByteArray).data.toList = [47,47] from rfl,hasPrefix_note s i hi] at this
  exact this
 have hi1:(0:Int)≤(i:Int):=by omega
 have hi2:(i:Int)≤(s.size:Int):=by omega
 rw [hn] at hP
 have HP:=hide hP
 clear hP
 have hdg:digitB ((dec s i).1:Nat)=false:=by rw [dec_same digitB digit_hi s i hi];exact hd
 have hlg:letterB ((dec s i).1:Nat)=false:=by rw [dec_same letterB letter_hi s i hi];exact hle
 generalize (dec s i).1=R at *
 generalize (dec s i).2=K at *
 clear hb hc hn hT
 go_enter Tryz.func65,Tryz.ntmps65
 go_wp2_with (first
  | (go_at_call 89;refine (uh hC).mono ?_;rintro e w1 ⟨rfl,hb1⟩;have hst1:=hst.below hb1;obtain⟨d0,d1,d2,d3⟩:=hst1.cells;have hf1:=hst1.free 1)
  | (go_at_call 90;refine (blank_any _ _).mono ?_;rintro e w2 ⟨rfl,hww⟩;subst w2))
 go_quiet ((go_at_call 49;exact Calls.quiet_of_same (uh HP _)))
 have hst2:St p s i o ts v (w1.drewN nq):=⟨hst1.block,hst1.own⟩
 have hbq:=(hb1.trans ((below_drewN w1 nq).mono hb1.size))
 by_cases hbad:signN s i=0
 ·have hcode:(signOut s i o).code=2:=by unfold signOut;rw [if_pos hbad]
  have hpos:(signOut s i o).pos=i:=by unfold signOut;rw [if_pos hbad]
  have HQ:=hide (sign_bad p s i o ts v _ hst2 hi hs hbad)
  clear hbad hd hle
  go_wp2_with (first | (go_at_call 92;refine (digit_any _ _).mono ?_;rintro e w2 ⟨rfl,hww⟩;subst w2) | (go_at_call 94;refine (letter_any _ _).mono ?_;rintro e w2 ⟨rfl,hww⟩;subst w2) | (go_at_call 96;refine (uh HQ).mono ?_;rintro e w3 ⟨rfl,hb3⟩))
  exact⟨rfl,(hbq.mono (B':=p) (by omega)).trans hb3,Or.inr ⟨by rw [hcode];simp,by rw [hcode,hpos]⟩⟩
 ·have hcode:(signOut s i o).code=0:=by unfold signOut;rw [if_neg hbad]
  have HQ:=hide (sign_ok p s i o ts v _ hst2 hi hs hl hbad)
  clear hbad hd hle
  go_wp2_with (first | (go_at_call 92;refine (digit_any _ _).mono ?_;rintro e w2 ⟨rfl,hww⟩;subst w2) | (go_at_call 94;refine (letter_any _ _).mono ?_;rintro e w2 ⟨rfl,hww⟩;subst w2) | (go_at_call 96;refine (uh HQ).mono ?_;rintro e w3 ⟨rfl,v3,hst3,hb3⟩))
  go_end0
  exact⟨(hbq.mono (B':=p) (by omega)).trans hb3,Or.inl ⟨hcode,rfl,v3,hst3⟩⟩
theorem step_any (p:Nat) (s:ByteArray) (i:Nat) (o:Bool) (ts:List Tok) (v:Value) (w:World) (hst:St p s i o ts v w) (hi:i<s.size) (hs:s.size≤6000) (hl:ts.length≤100000) (hT:Lib.Utf8Tabs 0 1 w) (hp:2≤p):Calls Tryz.prog 65 #[.pointer (some ⟨p,0,none⟩)] w (Went p s ts w (stepS s i o)):=by
 unfold stepS
 by_cases hc:at' s i=10
 ·rw [if_pos hc];exact step_line p s i o ts v w hst hi hs hl hT hc
 rw [if_neg hc]
 by_cases hb:blankB (at' s i)=true
 ·rw [if_pos hb];exact step_blank p s i o ts v w hst hi hs hT hc hb
 rw [if_neg hb]
 have hb':blankB (at' s i)=false:=by simpa using hb
 by_cases hn:at' s i=47∧i+1<s.size∧at' s (i+1)=47
 ·rw [if_pos hn];exact step_note p s i o ts v w hst hi hs hT hp hc hb' (by unfold noteB;simpa using hn)
 rw [if_neg hn]
 have hn':noteB s i=false:=by unfold noteB;simpa using hn
 by_cases hd:digitB (at' s i)=true
 ·rw [if_pos hd];exact step_num p s i o ts v w hst hi hs hl hT hc hb' hn' hd
 rw [if_neg hd]
 have hd':digitB (at' s i)=false:=by simpa using hd
 by_cases hle:letterB (at' s i)=true
 ·rw [if_pos hle];exact step_name p s i o ts v w hst hi hs hl hT hc hb' hn' hd' hle
 ·rw [if_neg hle];exact step_sign p s i o ts v w hst hi hs hl hT hc hb' hn' hd' (by simpa using hle)
end
end Go.Proofs.YtdemnolanlfblaaGreatDoor
