import Derived.Test.YtdemnolanlfblaaGreatDoorZRefNum
set_option linter.all false
namespace Go.Proofs.YtdemnolanlfblaaGreatDoor
section
open Go.RowKit
set_option maxHeartbeats 8000000 in
set_option maxRecDepth 100000 in
theorem ref_small (s:ByteArray) (w:World) (hs:s.size≤6000) (hT:Lib.Utf8Tabs 0 1 w) (h2:2≤w.heap.size) :
  Calls Tryz.prog 15 #[.string s] w fun e w'=>∃ v,e=.returned (.tuple #[v,.agg #[.int .i64 (scan s).1,.int .i64 (scan s).2.1]])∧w'.ownsRow w.heap.size 66 4 v (scan s).2.2.length (tcells (scan s).2.2)∧Below w.heap.size w w':=by
 have hz:¬ (6000:Int)<(s.size:Int):=by omega
 have hS:scan s=scanGo (s.size+1) s 0 false []:=by unfold scan;rw [if_neg (by omega)]
 have HS:=hide hS
 clear hS
 have HT:=hide hT
 clear hT
 obtain⟨i0,hi0,hz0,hz1,hz2⟩:=info_parts Tryz.info29
 go_enter Tryz.func15,Tryz.ntmps15
 go_wp2_with (first
  | (go_at_call 27;refine (words_any _).mono ?_;rintro e w1 ⟨rfl,hw1,hsz1,hb1⟩;have HW1:=hide hw1;have HZ1:=hide hsz1;clear hw1 hsz1)
  | (go_at_call 28;refine (signs_any _).mono ?_;rintro e w2 ⟨rfl,hw2,hsz2,hb2⟩;have HW2:=hide hw2;have HZ2:=hide hsz2;clear hw2 hsz2))
 obtain⟨B,hR0⟩:∃ B,Rm w.heap.size (w.heap.size+1) w1.heap.size B [] (.slice none 0 0) w w2:=by
  have e1:=uh HZ1
  have e2:=uh HZ2
  have e3:=uh HW1
  simp only [heap_size_alloc] at e1 e3 hb1
  refine⟨w2.heap.size,World.ownsRow_nil _ _ _ _,?_,e3.below hb2 (by omega),uh HW2,Nat.le_refl _,?_,by omega,by omega,by omega⟩
  ·rw [hb2.block _ (by omega),hb1.block _ (by omega)]
   show (Array.push _ _)[w.heap.size]? = _
   simp
  ·exact (((Below.refl _ w).alloc (Nat.le_refl _) _).trans (hb1.mono (by omega))).trans (hb2.mono (by omega))
 clear HW1 HZ1 HW2 HZ2 hb1 hb2
 generalize w1.heap.size=gS at *
 go_loopw [4,7,8] (fun a b c wr=>∃ (i f:Nat) (ro:Bool) (ts:List Tok),b=.bool ro∧c=.int .i64 i∧(i≤s.size∧s.size<i+f∧ts.length≤i∧(ro=true→ts≠[])∧Hid (scanGo f s i (ro && lastEnds ts) ts=scan s))∧Rm w.heap.size (w.heap.size+1) gS B ts a w wr) (fun _ _ c _=>s.size - (intOf c).toNat)
 case atStart=>exact⟨0,s.size+1,false,[],rfl,rfl,⟨Nat.zero_le _,by omega,Nat.le_refl _,(fun h=>by cases h),(uh HS).symm⟩,hR0⟩
 case round =>
  obtain⟨i,f,ro,ts,rfl,rfl,⟨hle,hfu,hlen,hhas,HG⟩,hR⟩:=hrel
  clear hR0 HS
  obtain⟨f,rfl⟩:∃ g,f=g+1:=⟨f - 1,by omega⟩
  have hB1:=hR.size
  have hB2:=hR.hN
  obtain⟨f0,f1,f2,f3⟩:=hR.fcells
  by_cases hi:i<s.size
  ·have hiz:((i:Int) == (s.size:Int))=false:=ne_b (by omega)
   have hiz2:(i:Int)<(s.size:Int):=by omega
   have hby:(((s[i]'hi).toNat:Nat):Int)=(at' s i:Nat):=by rw [at_lt]
   by_cases h10:at' s i=10
   ·as_aux_lemma =>
     have hG:=go_step hi (uh HG) (by rw [step_is_line h10])
     rw [step_is_line h10] at hG
     have HG2:=hide hG
     clear hG HG
     rw [h10] at hby
     clear h10
     cases ro with
     | false =>
      go_wp2
      go_roundw
      case rel =>
       refine⟨i+1,f,false,ts,rfl,by go_num,⟨by omega,by omega,by omega,(fun h=>by cases h),?_⟩,hR⟩
       have:=uh HG2
       exact hide (by simpa [ending] using this)
      case measure=>simp [intOf];omega
     | true =>
      obtain⟨tl,t,rfl⟩:∃ tl t,ts=tl++[t]:=⟨_,_,(List.dropLast_concat_getLast (hhas rfl)).symm⟩
      obtain⟨g,cap,rfl,l0,l1,l2,l3⟩:=own_last hR.own
      have hlen':tl.length≤6000:=by simp at hlen;omega
      have hlz:(tl++[t]).length=tl.length+1:=by simp
      cases hE:endsB t.kind t.text with
      | false =>
       go_wp2_with (go_at_call 29;refine (rcloses_any t.kind t.text t.num t.pos wr).mono ?_;rintro e w3 ⟨rfl,hb3⟩;have hR3:=hR.grow hb3;obtain⟨p0,p1,p2,p3⟩:=hR3.fcells;have hB3:=hR3.size)
       go_roundw
       case rel =>
        refine⟨i+1,f,false,tl++[t],rfl,by go_num,⟨by omega,by omega,by omega,(fun h=>by cases h),?_⟩,hR3⟩
        have:=uh HG2
        rw [lastEnds_snoc,hE] at this
        exact hide (by simpa [ending] using this)
       case measure=>simp [intOf];omega
      | true =>
       have HLZ:=hide hlz
       clear hlz
       go_wp2_with (first
        | (go_at_call 29;refine (rcloses_any t.kind t.text t.num t.pos wr).mono ?_;rintro e w3 ⟨rfl,hb3⟩;have hR3:=hR.grow hb3;obtain⟨p0,p1,p2,p3⟩:=hR3.fcells;have hB3:=hR3.size)
        | (at_builtin;refine wpList_append_own _ rfl (.tmp 46) (.tmp 49) 52 rfl B 66 i0 _ 4 40 Tryz.underlying52 hi0 hz0 hz1 hz2 rfl (by decide) _ _ _ rfl (hR3.own.alloc _) ⟨w3.heap.size,0,none⟩ 1 1 [.int .i64 3,.string ⟨#[59]⟩,.int .i64 0,.int .i64 i] rfl rfl (by exact new4 (by simp) _ _ _ _ _) (ones4 _ _ _ _) (by unfold maxLen;omega) (by omega) (by simp;omega) ?_;intro v1 w4 hown4 hg4 _;have hR4:=Rm.append (t:=semi i) (hR3.grow ((Below.refl _ _).alloc (Nat.le_refl _) _)) hown4 ⟨hg4.os,hg4.tape,hg4.output,hg4.size,hg4.block⟩;have HR4:=hide hR4;obtain⟨q0,q1,q2,q3⟩:=hR4.fcells;clear hown4 hg4 hR4))
       go_roundw
       case rel =>
        refine⟨i+1,f,false,(tl++[t])++[semi i],rfl,by go_num,⟨by omega,by omega,?_,(fun h=>by cases h),?_⟩,uh HR4⟩
        ·have:=uh HLZ
         simp at hlen ⊢;omega
        ·have:=uh HG2
         rw [lastEnds_snoc,hE] at this
         exact hide (by simpa [ending] using this)
       case measure=>simp [intOf];omega
   have n10:(((at' s i:Nat):Int) == 10)=false:=ne_b (by omega)
   by_cases hbk:blankB (at' s i)=true
   ·as_aux_lemma =>
     have hG:=go_step hi (uh HG) (by rw [step_is_blank h10 hbk])
     rw [step_is_blank h10 hbk] at hG
     have HG2:=hide hG
     clear hG HG h10 n10
     have hbk2:at' s i=32∨at' s i=9∨at' s i=13:=by unfold blankB at hbk;simp at hbk;omega
     clear hbk
     rcases hbk2 with h | h | h
     all_goals
      rw [h] at hby
      clear h
      go_wp2
      go_roundw
      case rel =>
       refine⟨i+1,f,ro,ts,rfl,by go_num,⟨by omega,by omega,by omega,hhas,?_⟩,hR⟩
       have:=uh HG2
       exact hide (by simpa using this)
      case measure=>simp [intOf];omega
   have nb:¬ (at' s i=32∨at' s i=9∨at' s i=13):=by unfold blankB at hbk;simp at hbk;omega
   have n32:(((at' s i:Nat):Int) == 32)=false:=ne_b (by omega)
   have n9:(((at' s i:Nat):Int) == 9)=false:=ne_b (by omega)
   have n13:(((at' s i:Nat):Int) == 13)=false:=ne_b (by omega)
   clear nb
   by_cases hnt:isNote s i
   ·as_aux_lemma =>
     have hnb:beginsB s i ⟨#[47,47]⟩=true:=(begins_note s i hi).2 hnt
     have hgt:=note_gt s i hi hnt.1
     have hst:∀ o,stepS s i o=⟨(note s i).1,(note s i).2,[],o⟩:=fun o=>step_is_note h10 hbk hnt
     have HST:=hide hst
     clear hst hnt h10 hbk
     have hN0:noteGo (s.size+1) s i=note s i:=rfl
     have HN0:=hide hN0
     clear hN0
     generalize note s i=nt at *
     generalize at' s i=c0 at *
     go_wp2_with (go_at_call 30;refine (begins_any s i ⟨#[47,47]⟩ _ hle hs (by decide)).mono ?_;rintro e w3 ⟨rfl,hww⟩;subst w3)
     go_loopw [8,12,13] (fun a _ _ wi=>∃ (j g:Nat),a=.int .i64 j∧(i≤j∧j≤s.size∧s.size<j+g∧Hid (noteGo g s j=nt))∧Rm w.heap.size (w.heap.size+1) gS B ts _ w wi) (fun a _ _ _=>s.size - (intOf a).toNat)
     case atStart=>exact⟨i,s.size+1,rfl,⟨Nat.le_refl _,hle,by omega,HN0⟩,hR⟩
     case round =>
      obtain⟨j,g,rfl,⟨hij,hj,hjg,HJ⟩,hRj⟩:=hrel
      obtain⟨g,rfl⟩:∃ x,g=x+1:=⟨g - 1,by omega⟩
      obtain⟨p0,p1,p2,p3⟩:=hRj.fcells
      have hBj:=hRj.size
      clear HN0
      by_cases hj1:j<s.size
      ·have hjz:(j:Int)<(s.size:Int):=by omega
       have hbj:(((s[j]'hj1).toNat:Nat):Int)=(at' s j:Nat):=by rw [at_lt]
       have hG:nt=(if at' s j=10 then (0,j) else if (dec s j).1=65533∧(dec s j).2=1 then (2,j) else noteGo g s (j+(dec s j).2)):=by
        rw [← uh HJ];simp only [noteGo];rw [if_pos hj1]
       by_cases ha:at' s j=10
       ·rw [if_pos ha] at hG
        have HN:=hide hG
        clear hG HJ
        rw [ha] at hbj
        clear ha
        go_wp2
        go_roundw
        case rel =>
         have hn:=uh HN
         subst hn
         have hG2:=go_step hi (uh HG) (by rw [uh HST])
         rw [uh HST] at hG2
         refine⟨j,f,ro,ts,rfl,rfl,⟨hj,by simp at hgt;omega,by omega,hhas,?_⟩,hRj⟩
         exact hide (by simpa using hG2)
        case measure =>
         have hn:=uh HN
         subst hn
         simp at hgt
         simp [intOf];omega
       ·rw [if_neg ha] at hG
        have na:((((at' s j:Nat):Int)) != 10)=true:=by simp;omega
        have hd1:=dec_le s j hj1
        have hd2:=dec_width s j hj1
        have hC:=hide (Tryz.utf8_DecodeRuneInString (s.extract j s.size) wr (tabs_below h2 (uh HT) hRj.below))
        have hdd:Lib.decodeGo (s.extract j s.size)=dec s j:=rfl
        rw [hdd] at hC
        clear hdd ha HJ
        generalize at' s j=cj at *
        generalize (dec s j).1=R at *
        generalize (dec s j).2=K at *
        by_cases hbad:R=65533∧K=1
        ·rw [if_pos hbad] at hG
         obtain⟨rfl,rfl⟩:=hbad
         have HN:=hide hG
         clear hG
         go_wp2_with (go_at_call 31;refine (uh hC).mono ?_;rintro e w4 ⟨rfl,hb4⟩;have hR4:=hRj.grow hb4;obtain⟨q0,q1,q2,q3⟩:=hR4.fcells)
         have hn:=uh HN
         subst hn
         have hG2:=go_fault hi (uh HG) (by rw [uh HST];simp)
         rw [uh HST] at hG2
         obtain⟨r1,r2,r3,r4⟩:=hR4.done (.int .i64 2) (.int .i64 j)
         refine bodyPost_ret (by simp [results,Tryz.results15,go_sem,r1,r2];rfl) rfl ?_
         rw [hG2]
         exact⟨_,rfl,World.ownsRow_nil _ _ _ _,r4⟩
        ·rw [if_neg hbad] at hG
         have HN:=hide hG
         clear hG
         by_cases hR2:R=65533
         ·subst hR2
          have hK:((K:Int) == 1)=false:=ne_b (fun h=>hbad ⟨rfl,by omega⟩)
          clear hbad
          go_wp2_with (go_at_call 31;refine (uh hC).mono ?_;rintro e w4 ⟨rfl,hb4⟩;have hR4:=hRj.grow hb4;obtain⟨q0,q1,q2,q3⟩:=hR4.fcells)
          go_roundw
          case rel=>exact⟨j+K,g,by go_num,⟨by omega,by omega,by omega,(uh HN).symm⟩,hR4⟩
          case measure=>simp [intOf];omega
         ·have hR3:((R:Int) == 65533)=false:=ne_b (by omega)
          clear hbad hR2
          go_wp2_with (go_at_call 31;refine (uh hC).mono ?_;rintro e w4 ⟨rfl,hb4⟩;have hR4:=hRj.grow hb4;obtain⟨q0,q1,q2,q3⟩:=hR4.fcells)
          go_roundw
          case rel=>exact⟨j+K,g,by go_num,⟨by omega,by omega,by omega,(uh HN).symm⟩,hR4⟩
          case measure=>simp [intOf];omega
      ·have hjz:¬ (j:Int)<(s.size:Int):=by omega
       have hG:nt=(0,j):=by
        rw [← uh HJ];simp only [noteGo];rw [if_neg hj1]
       have HN:=hide hG
       clear hG HJ
       go_wp2
       go_roundw
       case rel =>
        have hn:=uh HN
        subst hn
        have hG2:=go_step hi (uh HG) (by rw [uh HST])
        rw [uh HST] at hG2
        refine⟨j,f,ro,ts,rfl,rfl,⟨hj,by simp at hgt;omega,by omega,hhas,?_⟩,hRj⟩
        exact hide (by simpa using hG2)
       case measure =>
        have hn:=uh HN
        subst hn
        simp at hgt
        simp [intOf];omega
   have hnb:beginsB s i ⟨#[47,47]⟩=false:=by
    have:=mt (begins_note s i hi).1 hnt
    simpa using this
   by_cases hdg:digitB (at' s i)=true
   ·as_aux_lemma =>
     have hlt0:letterB (at' s i)=false:=by unfold digitB at hdg;unfold letterB;simp at hdg ⊢;omega
     have hst:∀ o,stepS s i o=numOut s i o:=fun o=>step_is_num h10 hbk hnt hdg
     have HST:=hide hst
     clear hst h10 hbk hnt
     have hblk0:(wr.alloc (.cells #[.int .i64 0,.string ⟨#[]⟩,.int .i64 0,.int .i64 i] 66)).heap[wr.heap.size]? = some (.cells #[.int .i64 0,.string ⟨#[]⟩,.int .i64 0,.int .i64 i] 66 (0,0)):=heap_alloc_new _ _
     have hHid0:Hid ((∀ j,i≤j→j<i→digitB (at' s j)=true)∧true=(decide (i<s.size) && digitB (at' s i))∧(i - i≤9→(0:Int)=numV (s.extract i i))):=⟨fun j h1 h2=>by omega,by simp [hi,hdg],fun _=>(numV_nil s i).symm⟩
     have HB0:=hide hblk0
     clear hblk0
     have hbel0:∀ o,Below wr.heap.size wr (wr.alloc o):=fun o=>(Below.refl _ wr).alloc (Nat.le_refl _) o
     have HBE:=hide hbel0
     clear hbel0
     have hRg:∀ w5,Below wr.heap.size wr w5→Rm w.heap.size (w.heap.size+1) gS B ts _ w w5:=fun w5 h=>hR.grow h
     have HRG:=hide hRg
     clear hRg
     generalize hTT:wr.heap.size=T at *
     have HTT:=hide hTT
     go_wp2_with (first | (go_at_call 30;refine (begins_any s i ⟨#[47,47]⟩ _ hle hs (by decide)).mono ?_;rintro e w3 ⟨rfl,hww⟩;subst w3) | (go_at_call 32;refine (rletter_any _ _).mono ?_;rintro e w3 ⟨rfl,hww⟩;subst w3) | (go_at_call 33;refine (rdigit_any _ _).mono ?_;rintro e w3 ⟨rfl,hww⟩;subst w3))
     obtain⟨wo,rfl⟩:∃ x,x=wr:=⟨wr,rfl⟩
     clear f0 f1 f2 f3 hby n10 n32 n9 n13 hnb hlt0 hTT
     go_loopw [8,15] (fun a d wi=>∃ (m:Nat) (num:Int) (db:Bool),a=.int .i64 m∧d=.bool db∧i≤m∧m≤s.size∧0≤num∧num≤1000000000000∧Hid ((∀ j,i≤j→j<m→digitB (at' s j)=true)∧db=(decide (m<s.size) && digitB (at' s m))∧(m - i≤9→num=numV (s.extract i m)))∧Hid (wi.heap[T]? = some (.cells #[.int .i64 0,.string ⟨#[]⟩,.int .i64 num,.int .i64 i] 66 (0,0)))∧Below T wo wi) (fun a _ _=>s.size - (intOf a).toNat)
     case atStart=>exact⟨i,0,true,rfl,rfl,Nat.le_refl _,hle,by omega,by omega,hHid0,HB0,uh HBE _⟩
     case round =>
      obtain⟨m,num,db,rfl,rfl,him,hms,hn0,hn1,HM,HBL,hbw⟩:=hrel
      clear hHid0 HB0
      obtain⟨t0,t1,t2,t3⟩:=box_cells (uh HBL)
      have tf:=box_free (uh HBL)
      have tf0:=tf 0
      have tf1:=tf 1
      have tf2:=tf 2
      clear tf
      cases db with
      | true =>
       have hm1:m<s.size∧digitB (at' s m)=true:=by
        have:=(uh HM).2.1
        simpa using this.symm
       obtain⟨hm2,hd2⟩:=hm1
       have hbd:48≤at' s m∧at' s m≤57:=by unfold digitB at hd2;simp at hd2;omega
       have hmz:(m:Int)<(s.size:Int):=by omega
       have hbm:(((s[m]'hm2).toNat:Nat):Int)=(at' s m:Nat):=by rw [at_lt]
       have hcb1:(48:Int)≤((at' s m:Nat):Int):=by omega
       have hcb2:((at' s m:Nat):Int)≤57:=by omega
       have hall1:∀ j,i≤j→j<m+1→digitB (at' s j)=true:=by
        intro j h1 h2
        rcases Nat.lt_or_ge j m with h | h
        ·exact (uh HM).1 j h1 h
        ·have:j=m:=by omega
         subst this;exact hd2
       have hnum1:¬ 1000000000000<10 * num+(at' s m:Nat) - 48→(m+1 - i≤9→10 * num+(at' s m:Nat) - 48=numV (s.extract i (m+1))):=by
        intro _ h9
        rw [numV_step s i m him hm2 (uh HM).1 hd2,← (uh HM).2.2 (by omega)]
        omega
       have hnum2:1000000000000<10 * num+(at' s m:Nat) - 48→(m+1 - i≤9→(1000000000000:Int)=numV (s.extract i (m+1))):=by
        intro hb h9
        exfalso
        have h1:=(uh HM).2.2 (by omega)
        have h3:=numV_small s i m him (by omega) (uh HM).1 (by omega)
        omega
       have HL:=hide hall1
       have HN1:=hide hnum1
       have HN2:=hide hnum2
       have hv0:0≤10 * num+(at' s m:Nat) - 48:=by omega
       have hv1:10 * num+(at' s m:Nat) - 48≤10000000000009:=by omega
       clear hall1 hnum1 hnum2 HM hbd
       by_cases hm3:m+1<s.size
       ·have hmz3:(m:Int)+1<(s.size:Int):=by omega
        have hbm3:(((s[m+1]'hm3).toNat:Nat):Int)=(at' s (m+1):Nat):=by rw [at_lt]
        have hdn:digitB (at' s (m+1))=(decide (m+1<s.size) && digitB (at' s (m+1))):=by simp [hm3]
        have HDN:=hide hdn
        clear hdn
        by_cases hbig:1000000000000<10 * num+(at' s m:Nat) - 48
        ·go_wp2
         go_region
         all_goals
          have hbl5:(wr.setCell ⟨T,2,none⟩ (Value.int IntKind.i64 (10 * num+(at' s m:Nat) - 48))).drew.heap[T]? = some (.cells #[.int .i64 0,.string ⟨#[]⟩,.int .i64 (10 * num+(at' s m:Nat) - 48),.int .i64 i] 66 (0,0)):=block_set (j:=2) (uh HBL)
          have hb5:Below T wo (wr.setCell ⟨T,2,none⟩ (Value.int IntKind.i64 (10 * num+(at' s m:Nat) - 48))).drew:=(hbw.setCell (p:=⟨T,2,none⟩) (Nat.le_refl _) _).drew
          clear t0 t1 t2 t3 tf0 tf1 tf2 hbw
          generalize (wr.setCell ⟨T,2,none⟩ (Value.int IntKind.i64 (10 * num+(at' s m:Nat) - 48))).drew=w5 at *
          obtain⟨t0,t1,t2,t3⟩:=box_cells hbl5
          have tf2:=box_free hbl5 2
          have HBL5:=hide hbl5
          clear hbl5 HBL
          go_wp2_with (go_at_call 33;refine (rdigit_any _ _).mono ?_;rintro e w3 ⟨rfl,hww⟩;subst w3)
          go_roundw
          case rel=>exact⟨m+1,1000000000000,_,by go_num,rfl,by omega,by omega,by omega,by omega,⟨uh HL,uh HDN,uh HN2 hbig⟩,hide (block_set (j:=2) (uh HBL5)),hb5.setCell (p:=⟨T,2,none⟩) (Nat.le_refl _) _⟩
          case measure=>simp [intOf];omega
        ·go_wp2
         go_region
         all_goals
          have hbl5:(wr.setCell ⟨T,2,none⟩ (Value.int IntKind.i64 (10 * num+(at' s m:Nat) - 48))).drew.heap[T]? = some (.cells #[.int .i64 0,.string ⟨#[]⟩,.int .i64 (10 * num+(at' s m:Nat) - 48),.int .i64 i] 66 (0,0)):=block_set (j:=2) (uh HBL)
          have hb5:Below T wo (wr.setCell ⟨T,2,none⟩ (Value.int IntKind.i64 (10 * num+(at' s m:Nat) - 48))).drew:=(hbw.setCell (p:=⟨T,2,none⟩) (Nat.le_refl _) _).drew
          clear t0 t1 t2 t3 tf0 tf1 tf2 hbw
          generalize (wr.setCell ⟨T,2,none⟩ (Value.int IntKind.i64 (10 * num+(at' s m:Nat) - 48))).drew=w5 at *
          obtain⟨t0,t1,t2,t3⟩:=box_cells hbl5
          have tf2:=box_free hbl5 2
          have HBL5:=hide hbl5
          clear hbl5 HBL
          go_wp2_with (go_at_call 33;refine (rdigit_any _ _).mono ?_;rintro e w3 ⟨rfl,hww⟩;subst w3)
          go_roundw
          case rel=>exact⟨m+1,10 * num+(at' s m:Nat) - 48,_,by go_num,rfl,by omega,by omega,by omega,by omega,⟨uh HL,uh HDN,uh HN1 hbig⟩,HBL5,hb5⟩
          case measure=>simp [intOf];omega
       ·have hmz3:¬ (m:Int)+1<(s.size:Int):=by omega
        have hdn:false=(decide (m+1<s.size) && digitB (at' s (m+1))):=by simp [hm3]
        have HDN:=hide hdn
        clear hdn
        by_cases hbig:1000000000000<10 * num+(at' s m:Nat) - 48
        ·go_wp2
         go_region
         all_goals
          have hbl5:(wr.setCell ⟨T,2,none⟩ (Value.int IntKind.i64 (10 * num+(at' s m:Nat) - 48))).drew.heap[T]? = some (.cells #[.int .i64 0,.string ⟨#[]⟩,.int .i64 (10 * num+(at' s m:Nat) - 48),.int .i64 i] 66 (0,0)):=block_set (j:=2) (uh HBL)
          have hb5:Below T wo (wr.setCell ⟨T,2,none⟩ (Value.int IntKind.i64 (10 * num+(at' s m:Nat) - 48))).drew:=(hbw.setCell (p:=⟨T,2,none⟩) (Nat.le_refl _) _).drew
          clear t0 t1 t2 t3 tf0 tf1 tf2 hbw
          generalize (wr.setCell ⟨T,2,none⟩ (Value.int IntKind.i64 (10 * num+(at' s m:Nat) - 48))).drew=w5 at *
          obtain⟨t0,t1,t2,t3⟩:=box_cells hbl5
          have tf2:=box_free hbl5 2
          have HBL5:=hide hbl5
          clear hbl5 HBL
          go_wp2_with (go_at_call 33;refine (rdigit_any _ _).mono ?_;rintro e w3 ⟨rfl,hww⟩;subst w3)
          go_roundw
          case rel=>exact⟨m+1,1000000000000,_,by go_num,rfl,by omega,by omega,by omega,by omega,⟨uh HL,uh HDN,uh HN2 hbig⟩,hide (block_set (j:=2) (uh HBL5)),hb5.setCell (p:=⟨T,2,none⟩) (Nat.le_refl _) _⟩
          case measure=>simp [intOf];omega
        ·go_wp2
         go_region
         all_goals
          have hbl5:(wr.setCell ⟨T,2,none⟩ (Value.int IntKind.i64 (10 * num+(at' s m:Nat) - 48))).drew.heap[T]? = some (.cells #[.int .i64 0,.string ⟨#[]⟩,.int .i64 (10 * num+(at' s m:Nat) - 48),.int .i64 i] 66 (0,0)):=block_set (j:=2) (uh HBL)
          have hb5:Below T wo (wr.setCell ⟨T,2,none⟩ (Value.int IntKind.i64 (10 * num+(at' s m:Nat) - 48))).drew:=(hbw.setCell (p:=⟨T,2,none⟩) (Nat.le_refl _) _).drew
          clear t0 t1 t2 t3 tf0 tf1 tf2 hbw
          generalize (wr.setCell ⟨T,2,none⟩ (Value.int IntKind.i64 (10 * num+(at' s m:Nat) - 48))).drew=w5 at *
          obtain⟨t0,t1,t2,t3⟩:=box_cells hbl5
          have tf2:=box_free hbl5 2
          have HBL5:=hide hbl5
          clear hbl5 HBL
          go_wp2_with (go_at_call 33;refine (rdigit_any _ _).mono ?_;rintro e w3 ⟨rfl,hww⟩;subst w3)
          go_roundw
          case rel=>exact⟨m+1,10 * num+(at' s m:Nat) - 48,_,by go_num,rfl,by omega,by omega,by omega,by omega,⟨uh HL,uh HDN,uh HN1 hbig⟩,HBL5,hb5⟩
          case measure=>simp [intOf];omega
      | false =>
       have hsp:spanN digitB s i=m - i:=by
        have:=(uh HM).2.1
        refine spanN_eq (P:=digitB) (s:=s) (i:=i) (k:=m - i) (by omega) (fun j hj=>(uh HM).1 (i+j) (by omega) (by omega)) ?_
        rw [show i+(m - i)=m from by omega]
        simp at this
        by_cases hm1:m<s.size
        ·exact Or.inr (this hm1)
        ·exact Or.inl (by omega)
       have hmi:i<m:=by
        have:=spanN_pos digitB s i hi hdg
        omega
       have him1:(i:Int)≤(m:Int):=by omega
       have him2:(m:Int)≤(s.size:Int):=by omega
       have hRw:=uh HRG wr hbw
       obtain⟨p0,p1,p2,p3⟩:=hRw.fcells
       have hBw:=hRw.size
       have hnT:w.heap.size<T:=by omega
       by_cases hbad:9<m - i∨(1<m - i∧at' s i=48)
       ·have hst:∀ o,stepS s i o=⟨3,i,[],o⟩:=fun o=>by
         rw [uh HST];unfold numOut;rw [hsp,if_pos hbad]
        have hG2:=go_fault hi (uh HG) (by rw [hst];simp)
        rw [hst] at hG2
        have HG2:=hide hG2
        clear hG2 hst HG
        have hsz:(s.extract i m).size=m - i:=by simp;omega
        clear hsp HM
        generalize m - i=n at *
        have hRd:∀ u1 u2,Rm w.heap.size (w.heap.size+1) gS B ts _ w ((wr.setCell ⟨T,0,none⟩ u1).setCell ⟨T,1,none⟩ u2):=fun u1 u2=>uh HRG _ ((hbw.setCell (p:=⟨T,0,none⟩) (Nat.le_refl _) u1).setCell (p:=⟨T,1,none⟩) (Nat.le_refl _) u2)
        have HRD:=hide hRd
        clear hRd
        by_cases h9:9<n
        ·have h9z:(9:Int)<(n:Int):=by omega
         clear hbad
         go_wp2
         obtain⟨r1,r2,r3,r4⟩:=(uh HRD (.int .i64 2) (.string (s.extract i m))).done (.int .i64 3) (.int .i64 i)
         refine bodyPost_ret (by simp [results,Tryz.results15,go_sem,r1,r2];rfl) rfl ?_
         rw [uh HG2]
         exact⟨_,rfl,World.ownsRow_nil _ _ _ _,r4⟩
        ·have h9z:¬ (9:Int)<(n:Int):=by omega
         have h1z:(1:Int)<(n:Int):=by omega
         have hc48:(((at' s i:Nat):Int) == 48)=true:=beq_iff_eq.2 (by omega)
         clear hbad
         go_wp2
         obtain⟨r1,r2,r3,r4⟩:=(uh HRD (.int .i64 2) (.string (s.extract i m))).done (.int .i64 3) (.int .i64 i)
         refine bodyPost_ret (by simp [results,Tryz.results15,go_sem,r1,r2];rfl) rfl ?_
         rw [uh HG2]
         exact⟨_,rfl,World.ownsRow_nil _ _ _ _,r4⟩
       ·have hG2:=go_step hi (uh HG) (by rw [uh HST];unfold numOut;rw [hsp,if_neg hbad])
        rw [uh HST] at hG2
        unfold numOut at hG2
        rw [hsp,if_neg hbad] at hG2
        have HG2:=hide hG2
        have hnv:=(uh HM).2.2 (by omega)
        have HNV:=hide hnv
        clear hG2 HG hnv
        have hsz:(s.extract i m).size=m - i:=by simp;omega
        clear hsp HM
        have h9z:¬ (9:Int)<((m - i:Nat):Int):=by omega
        by_cases h1:1<m - i
        ·have h1z:(1:Int)<((m - i:Nat):Int):=by omega
         have hc48:(((at' s i:Nat):Int) == 48)=false:=ne_b (by omega)
         clear hbad
         go_wp2_with (first
          | (at_builtin;refine wpList_append_own _ rfl (.tmp 229) (.tmp 231) 52 rfl B 66 i0 _ 4 40 Tryz.underlying52 hi0 hz0 hz1 hz2 rfl (by decide) _ _ _ rfl ((uh HRG _ ((hbw.setCell (p:=⟨T,0,none⟩) (Nat.le_refl _) (.int .i64 2)).setCell (p:=⟨T,1,none⟩) (Nat.le_refl _) (.string (s.extract i m)))).own.alloc _) ⟨wr.heap.size,0,none⟩ 1 1 [.int .i64 2,.string (s.extract i m),.int .i64 num,.int .i64 i] rfl rfl (by exact new4 (by simp) _ _ _ _ _) (ones4 _ _ _ _) (by unfold maxLen;omega) (by omega) (by simp;omega) ?_;intro v1 w4 hown4 hg4 _;have hR4:=Rm.append (t:=⟨2,s.extract i m,num,i⟩) ((uh HRG _ ((hbw.setCell (p:=⟨T,0,none⟩) (Nat.le_refl _) (.int .i64 2)).setCell (p:=⟨T,1,none⟩) (Nat.le_refl _) (.string (s.extract i m)))).grow ((Below.refl _ _).alloc (Nat.le_refl _) _)) hown4 ⟨hg4.os,hg4.tape,hg4.output,hg4.size,hg4.block⟩;have HR4:=hide hR4;obtain⟨q0,q1,q2,q3⟩:=hR4.fcells;clear hown4 hg4 hR4))
         go_roundw
         case rel =>
          refine⟨m,f,true,ts++[⟨2,s.extract i m,num,i⟩],rfl,rfl,⟨hms,by omega,by simp;omega,(fun _=>by simp),?_⟩,uh HR4⟩
          have:=uh HG2
          rw [show i+(m - i)=m from by omega,← uh HNV] at this
          exact hide (by rw [lastEnds_snoc];simpa [endsB] using this)
         case measure=>simp [intOf];omega
        ·have h1z:¬ (1:Int)<((m - i:Nat):Int):=by omega
         clear hbad
         go_wp2_with (first
          | (at_builtin;refine wpList_append_own _ rfl (.tmp 229) (.tmp 231) 52 rfl B 66 i0 _ 4 40 Tryz.underlying52 hi0 hz0 hz1 hz2 rfl (by decide) _ _ _ rfl ((uh HRG _ ((hbw.setCell (p:=⟨T,0,none⟩) (Nat.le_refl _) (.int .i64 2)).setCell (p:=⟨T,1,none⟩) (Nat.le_refl _) (.string (s.extract i m)))).own.alloc _) ⟨wr.heap.size,0,none⟩ 1 1 [.int .i64 2,.string (s.extract i m),.int .i64 num,.int .i64 i] rfl rfl (by exact new4 (by simp) _ _ _ _ _) (ones4 _ _ _ _) (by unfold maxLen;omega) (by omega) (by simp;omega) ?_;intro v1 w4 hown4 hg4 _;have hR4:=Rm.append (t:=⟨2,s.extract i m,num,i⟩) ((uh HRG _ ((hbw.setCell (p:=⟨T,0,none⟩) (Nat.le_refl _) (.int .i64 2)).setCell (p:=⟨T,1,none⟩) (Nat.le_refl _) (.string (s.extract i m)))).grow ((Below.refl _ _).alloc (Nat.le_refl _) _)) hown4 ⟨hg4.os,hg4.tape,hg4.output,hg4.size,hg4.block⟩;have HR4:=hide hR4;obtain⟨q0,q1,q2,q3⟩:=hR4.fcells;clear hown4 hg4 hR4))
         go_roundw
         case rel =>
          refine⟨m,f,true,ts++[⟨2,s.extract i m,num,i⟩],rfl,rfl,⟨hms,by omega,by simp;omega,(fun _=>by simp),?_⟩,uh HR4⟩
          have:=uh HG2
          rw [show i+(m - i)=m from by omega,← uh HNV] at this
          exact hide (by rw [lastEnds_snoc];simpa [endsB] using this)
         case measure=>simp [intOf];omega
   have hdg':digitB (at' s i)=false:=by simpa using hdg
   by_cases hlt:letterB (at' s i)=true
   ·as_aux_lemma =>
     have hst:∀ o,stepS s i o=nameOut s i:=fun o=>step_is_name h10 hbk hnt hdg hlt
     have hG:=go_step hi (uh HG) (by rw [hst];rfl)
     rw [hst] at hG
     have HG2:=hide hG
     clear hG hst h10 hbk hnt HG hdg
     have hall0:∀ j,i≤j→j<i→partB (at' s j)=true:=fun j h1 h2=>by omega
     have hst0:(true || false)=(decide (i<s.size) && partB (at' s i)):=by simp [hi,letter_part hlt]
     have HA0:=hide (And.intro hall0 hst0)
     clear hall0 hst0
     have hRA:∀ o,Rm w.heap.size (w.heap.size+1) gS B ts _ w (wr.alloc o):=fun o=>hR.grow ((Below.refl _ wr).alloc (Nat.le_refl _) o)
     have HRA:=hide hRA
     clear hRA
     go_wp2_with (first | (go_at_call 30;refine (begins_any s i ⟨#[47,47]⟩ _ hle hs (by decide)).mono ?_;rintro e w3 ⟨rfl,hww⟩;subst w3) | (go_at_call 32;refine (rletter_any _ _).mono ?_;rintro e w3 ⟨rfl,hww⟩;subst w3) | (go_at_call 33;refine (rdigit_any _ _).mono ?_;rintro e w3 ⟨rfl,hww⟩;subst w3))
     go_loop [8,14,15] (fun a b d=>∃ (m:Nat) (lb db:Bool),a=.int .i64 m∧b=.bool lb∧d=.bool db∧i≤m∧m≤s.size∧Hid ((∀ j,i≤j→j<m→partB (at' s j)=true)∧(lb || db)=(decide (m<s.size) && partB (at' s m)))) (fun a _ _=>s.size - (intOf a).toNat)
     case atStart=>exact⟨i,true,false,rfl,rfl,rfl,Nat.le_refl _,hle,HA0⟩
     case round =>
      obtain⟨m,lb,db,rfl,rfl,rfl,him,hms,HM⟩:=hrel
      clear HA0
      by_cases hgo:(lb || db)=true
      ·have hm1:m<s.size∧partB (at' s m)=true:=by
        have:=(uh HM).2
        rw [hgo] at this
        simpa using this.symm
       have hall1:∀ j,i≤j→j<m+1→partB (at' s j)=true:=by
        intro j h1 h2
        rcases Nat.lt_or_ge j m with h | h
        ·exact (uh HM).1 j h1 h
        ·have:j=m:=by omega
         subst this;exact hm1.2
       have hm2:=hm1.1
       have HL:=hide hall1
       clear hall1 hm1 HM
       by_cases hm3:m+1<s.size
       ·have hmz:(m:Int)+1<(s.size:Int):=by omega
        have hbm:(((s[m+1]'hm3).toNat:Nat):Int)=(at' s (m+1):Nat):=by rw [at_lt]
        have hpp:=@letter_or (at' s (m+1):Nat)
        have HP:=hide hpp
        clear hpp
        have hfin:Hid ((∀ j,i≤j→j<m+1→partB (at' s j)=true)∧(letterB (at' s (m+1):Nat) || digitB (at' s (m+1):Nat))=(decide (m+1<s.size) && partB (at' s (m+1)))):=⟨uh HL,by rw [← uh HP];simp [hm3]⟩
        cases lb with
        | true =>
         go_wp2_with (first | (go_at_call 32;refine (rletter_any _ _).mono ?_;rintro e w3 ⟨rfl,hww⟩;subst w3) | (go_at_call 33;refine (rdigit_any _ _).mono ?_;rintro e w3 ⟨rfl,hww⟩;subst w3))
         go_round
         case rel=>exact⟨m+1,_,_,by go_num,rfl,rfl,by omega,by omega,hfin⟩
         case measure=>simp [intOf];omega
        | false =>
         have hdb:db=true:=by simpa using hgo
         subst hdb
         go_wp2_with (first | (go_at_call 32;refine (rletter_any _ _).mono ?_;rintro e w3 ⟨rfl,hww⟩;subst w3) | (go_at_call 33;refine (rdigit_any _ _).mono ?_;rintro e w3 ⟨rfl,hww⟩;subst w3))
         go_round
         case rel=>exact⟨m+1,_,_,by go_num,rfl,rfl,by omega,by omega,hfin⟩
         case measure=>simp [intOf];omega
       ·have hmz:¬ (m:Int)+1<(s.size:Int):=by omega
        have hfin:Hid ((∀ j,i≤j→j<m+1→partB (at' s j)=true)∧(false || false)=(decide (m+1<s.size) && partB (at' s (m+1)))):=⟨uh HL,by simp [hm3]⟩
        cases lb with
        | true =>
         go_wp2
         go_round
         case rel=>exact⟨m+1,_,_,by go_num,rfl,rfl,by omega,by omega,hfin⟩
         case measure=>simp [intOf];omega
        | false =>
         have hdb:db=true:=by simpa using hgo
         subst hdb
         go_wp2
         go_round
         case rel=>exact⟨m+1,_,_,by go_num,rfl,rfl,by omega,by omega,hfin⟩
         case measure=>simp [intOf];omega
      ·have hlb:lb=false∧db=false:=by cases lb <;> cases db <;> simp_all
       obtain⟨rfl,rfl⟩:=hlb
       clear hgo
       have hsp:i+spanN partB s i=m:=by
        have:=(uh HM).2
        have e:=spanN_eq (P:=partB) (s:=s) (i:=i) (k:=m - i) (by omega) (fun j hj=>(uh HM).1 (i+j) (by omega) (by omega)) (by
         rw [show i+(m - i)=m from by omega]
         simp at this
         by_cases hm1:m<s.size
         ·exact Or.inr (this hm1)
         ·exact Or.inl (by omega))
        omega
       have hG3:=uh HG2
       unfold nameOut at hG3
       simp only [hsp] at hG3
       have HG3:=hide hG3
       clear hG3 HM HG2
       have him1:(i:Int)≤(m:Int):=by omega
       have him2:(m:Int)≤(s.size:Int):=by omega
       have hmi:i<m:=by
        have:=spanN_pos partB s i hi (letter_part hlt)
        omega
       clear hsp
       have hC:=hide (fun o=>has_any (w.heap.size+1) wordsL (s.extract i m) (wr.alloc o) ((uh HRA) o).words (by decide))
       have hwB:hasB wordsL (s.extract i m)=wordB (s.extract i m):=rfl
       cases hw:wordB (s.extract i m) with
       | true =>
        rw [hw] at hwB
        have hk:kindOf (s.extract i m)=4:=by unfold kindOf;rw [if_pos hw]
        have HK:=hide hk
        clear hk hw
        go_wp2_with (first
         | (go_at_call 34;refine (uh hC _).mono ?_;rintro e w3 ⟨rfl,hww⟩;subst w3)
         | (at_builtin;refine wpList_append_own _ rfl (.tmp 229) (.tmp 231) 52 rfl B 66 i0 _ 4 40 Tryz.underlying52 hi0 hz0 hz1 hz2 rfl (by decide) _ _ _ rfl (((uh HRA) _).own.alloc _) ⟨wr.heap.size+1,0,none⟩ 1 1 [.int .i64 4,.string (s.extract i m),.int .i64 0,.int .i64 i] rfl rfl (by exact new4 (by simp) _ _ _ _ _) (ones4 _ _ _ _) (by unfold maxLen;omega) (by omega) (by simp;omega) ?_;intro v1 w4 hown4 hg4 _;have hR4:=Rm.append (t:=⟨4,s.extract i m,0,i⟩) (((uh HRA) _).grow ((Below.refl _ _).alloc (Nat.le_refl _) _)) hown4 ⟨hg4.os,hg4.tape,hg4.output,hg4.size,hg4.block⟩;have HR4:=hide hR4;obtain⟨q0,q1,q2,q3⟩:=hR4.fcells;clear hown4 hg4 hR4))
        go_roundw
        case rel =>
         refine⟨m,f,true,ts++[⟨4,s.extract i m,0,i⟩],rfl,rfl,⟨hms,by omega,by simp;omega,(fun _=>by simp),?_⟩,uh HR4⟩
         have:=uh HG3
         rw [uh HK] at this
         exact hide (by rw [lastEnds_snoc];simpa using this)
        case measure=>simp [intOf];omega
       | false =>
        rw [hw] at hwB
        have hk:kindOf (s.extract i m)=1:=by unfold kindOf;rw [if_neg (by rw [hw];simp)]
        have HK:=hide hk
        clear hk hw
        go_wp2_with (first
         | (go_at_call 34;refine (uh hC _).mono ?_;rintro e w3 ⟨rfl,hww⟩;subst w3)
         | (at_builtin;refine wpList_append_own _ rfl (.tmp 229) (.tmp 231) 52 rfl B 66 i0 _ 4 40 Tryz.underlying52 hi0 hz0 hz1 hz2 rfl (by decide) _ _ _ rfl (((uh HRA) _).own.alloc _) ⟨wr.heap.size+1,0,none⟩ 1 1 [.int .i64 1,.string (s.extract i m),.int .i64 0,.int .i64 i] rfl rfl (by exact new4 (by simp) _ _ _ _ _) (ones4 _ _ _ _) (by unfold maxLen;omega) (by omega) (by simp;omega) ?_;intro v1 w4 hown4 hg4 _;have hR4:=Rm.append (t:=⟨1,s.extract i m,0,i⟩) (((uh HRA) _).grow ((Below.refl _ _).alloc (Nat.le_refl _) _)) hown4 ⟨hg4.os,hg4.tape,hg4.output,hg4.size,hg4.block⟩;have HR4:=hide hR4;obtain⟨q0,q1,q2,q3⟩:=hR4.fcells;clear hown4 hg4 hR4))
        go_roundw
        case rel =>
         refine⟨m,f,true,ts++[⟨1,s.extract i m,0,i⟩],rfl,rfl,⟨hms,by omega,by simp;omega,(fun _=>by simp),?_⟩,uh HR4⟩
         have:=uh HG3
         rw [uh HK] at this
         exact hide (by rw [lastEnds_snoc];simpa using this)
        case measure=>simp [intOf];omega
   ·as_aux_lemma =>
     have hlt':letterB (at' s i)=false:=by simpa using hlt
     have hst:∀ o,stepS s i o=signOut s i o:=fun o=>step_is_sign h10 hbk hnt hdg hlt
     have HST:=hide hst
     clear hst h10 hbk hnt hdg hlt
     have hblk0:(wr.alloc (.cells #[.int .i64 3,.string ⟨#[]⟩,.int .i64 0,.int .i64 i] 66)).heap[wr.heap.size]? = some (.cells #[.int .i64 3,.string ⟨#[]⟩,.int .i64 0,.int .i64 i] 66 (0,0)):=heap_alloc_new _ _
     have HB0:=hide hblk0
     clear hblk0
     have hbel0:∀ o,Below wr.heap.size wr (wr.alloc o):=fun o=>(Below.refl _ wr).alloc (Nat.le_refl _) o
     have HBE:=hide hbel0
     clear hbel0
     have hRg:∀ w5,Below wr.heap.size wr w5→Rm w.heap.size (w.heap.size+1) gS B ts _ w w5:=fun w5 h=>hR.grow h
     have HRG:=hide hRg
     clear hRg
     generalize hTT:wr.heap.size=T at *
     go_wp2_with (first | (go_at_call 30;refine (begins_any s i ⟨#[47,47]⟩ _ hle hs (by decide)).mono ?_;rintro e w3 ⟨rfl,hww⟩;subst w3) | (go_at_call 32;refine (rletter_any _ _).mono ?_;rintro e w3 ⟨rfl,hww⟩;subst w3) | (go_at_call 33;refine (rdigit_any _ _).mono ?_;rintro e w3 ⟨rfl,hww⟩;subst w3))
     obtain⟨wo,rfl⟩:∃ x,x=wr:=⟨wr,rfl⟩
     clear f0 f1 f2 f3 hby n10 n32 n9 n13 hnb hlt' hdg' hTT
     go_loopw [19,20] (fun a _ wi=>∃ (k:Nat) (x:ByteArray),a=.int .i64 k∧k≤25∧Hid ((x=⟨#[]⟩∧∀ j,j<k→signAt s i j=false)∨(∃ k',k=k'+1∧x=⟨(signsL.getD k' []).toArray⟩∧signAt s i k'=true∧∀ j,j<k'→signAt s i j=false))∧Hid (wi.heap[T]? = some (.cells #[.int .i64 3,.string x,.int .i64 0,.int .i64 i] 66 (0,0)))∧Below T wo wi) (fun a _ _=>25 - (intOf a).toNat)
     case atStart=>exact⟨0,⟨#[]⟩,rfl,by omega,hide (Or.inl ⟨rfl,fun j h=>absurd h (by omega)⟩),HB0,uh HBE _⟩
     case round =>
      obtain⟨k,x,rfl,hk,HX,HBL,hbw⟩:=hrel
      clear HB0
      have hRw:=uh HRG wr hbw
      obtain⟨p0,p1,p2,p3⟩:=hRw.fcells
      have hBw:=hRw.size
      have hnT:w.heap.size<T:=by omega
      obtain⟨t0,t1,t2,t3⟩:=box_cells (uh HBL)
      have tf1:=box_free (uh HBL) 1
      rcases uh HX with⟨rfl,hno⟩ | ⟨k',rfl,hxk,hyes,hno⟩
      ·have HNO:=hide hno
       clear hno HX
       by_cases hk25:k<25
       ·have hkz:(k:Int)<25:=by omega
        have hcell:=hRw.signs.cell k hk25
        have hC:=begins_any s i ⟨(signsL.getD k []).toArray⟩ wr hle hs (by rw [mk_size];have:=signs_size k hk25;split at this <;> omega)
        have hsa:beginsB s i ⟨(signsL.getD k []).toArray⟩=signAt s i k:=rfl
        rw [hsa] at hC
        obtain⟨y,hy⟩:∃ y:ByteArray,(⟨(signsL.getD k []).toArray⟩:ByteArray)=y:=⟨_,rfl⟩
        rw [hy] at hC hcell
        have HC:=hide hC
        have HY:=hide hy
        clear hC hsa hy
        by_cases hsg:signAt s i k=true
        ·go_wp2_with (go_at_call 30;refine (uh HC).mono ?_;rintro e w3 ⟨rfl,hww⟩;subst w3)
         go_roundw
         case rel=>exact⟨k+1,y,by go_num,by omega,Or.inr ⟨k,rfl,(uh HY).symm,hsg,uh HNO⟩,hide (block_set (j:=1) (uh HBL)),hbw.setCell (p:=⟨T,1,none⟩) (Nat.le_refl _) _⟩
         case measure=>simp [intOf];omega
        ·have hsg':signAt s i k=false:=by simpa using hsg
         clear hsg
         go_wp2_with (go_at_call 30;refine (uh HC).mono ?_;rintro e w3 ⟨rfl,hww⟩;subst w3)
         go_roundw
         case rel =>
          refine⟨k+1,⟨#[]⟩,by go_num,by omega,Or.inl ⟨rfl,?_⟩,HBL,hbw⟩
          intro j hj
          rcases Nat.lt_or_ge j k with h | h
          ·exact uh HNO j h
          ·have:j=k:=by omega
           subst this;exact hsg'
         case measure=>simp [intOf];omega
       ·have hk2:k=25:=by omega
        subst hk2
        have hn0:=sign_none hi (fun j hj=>uh HNO j hj)
        have hst:∀ o,stepS s i o=⟨2,i,[],o⟩:=fun o=>by
         rw [uh HST];unfold signOut;rw [if_pos hn0]
        have hG2:=go_fault hi (uh HG) (by rw [hst];simp)
        rw [hst] at hG2
        have HG2:=hide hG2
        clear hG2 hst HG hn0
        go_wp2
        obtain⟨r1,r2,r3,r4⟩:=hRw.done (.int .i64 2) (.int .i64 i)
        refine bodyPost_ret (by simp [results,Tryz.results15,go_sem,r1,r2];rfl) rfl ?_
        rw [uh HG2]
        exact⟨_,rfl,World.ownsRow_nil _ _ _ _,r4⟩
      ·have hk':k'<25:=by omega
       obtain⟨e1,e2⟩:=sign_first hi hk' hyes hno
       have hyl:=signs_size k' hk'
       rw [← hxk] at e2
       have hys:x.size=(signsL.getD k' []).length:=by rw [hxk,mk_size]
       rw [← hys] at e1 e2 hyl
       have hy1:1≤x.size∧x.size≤2:=by split at hyl <;> omega
       have hle2:=signN_le s i hi
       rw [e1] at hle2
       have hx0:(x.toList == [])=false:=by
        refine ne_b (fun h=>?_)
        rw [ByteArray.toList_eq] at h
        have:x.size=x.data.toList.length:=by cases x;simp [ByteArray.size]
        rw [h] at this
        simp only [List.length_nil] at this
        omega
       have hst:∀ o,stepS s i o=⟨0,i+x.size,[⟨3,x,0,i⟩],endsB 3 x⟩:=fun o=>by
        rw [uh HST];unfold signOut;rw [if_neg (by omega),e1,e2]
       have hG2:=go_step hi (uh HG) (by rw [hst])
       rw [hst] at hG2
       have HG2:=hide hG2
       clear hG2 hst HG e1 e2 hys hxk hyl hyes hno HX
       by_cases hk25:k'+1<25
       ·have hkz:(k':Int)+1<25:=by omega
        go_wp2_with (first
         | (at_builtin;refine wpList_append_own _ rfl (.tmp 229) (.tmp 231) 52 rfl B 66 i0 _ 4 40 Tryz.underlying52 hi0 hz0 hz1 hz2 rfl (by decide) _ _ _ rfl ((uh HRG _ hbw).own.alloc _) ⟨wr.heap.size,0,none⟩ 1 1 [.int .i64 3,.string x,.int .i64 0,.int .i64 i] rfl rfl (by exact new4 (by simp) _ _ _ _ _) (ones4 _ _ _ _) (by unfold maxLen;omega) (by omega) (by simp;omega) ?_;intro v1 w4 hown4 hg4 _;have hR4:=Rm.append (t:=⟨3,x,0,i⟩) ((uh HRG _ hbw).grow ((Below.refl _ _).alloc (Nat.le_refl _) _)) hown4 ⟨hg4.os,hg4.tape,hg4.output,hg4.size,hg4.block⟩;have HR4:=hide hR4;obtain⟨q0,q1,q2,q3⟩:=hR4.fcells;clear hown4 hg4 hR4))
        go_roundw
        case rel =>
         refine⟨i+x.size,f,true,ts++[⟨3,x,0,i⟩],rfl,by go_num,⟨hle2,by omega,by simp;omega,(fun _=>by simp),?_⟩,uh HR4⟩
         have:=uh HG2
         exact hide (by rw [lastEnds_snoc];simpa using this)
        case measure=>simp [intOf];omega
       ·have hkz:¬ (k':Int)+1<25:=by omega
        go_wp2_with (first
         | (at_builtin;refine wpList_append_own _ rfl (.tmp 229) (.tmp 231) 52 rfl B 66 i0 _ 4 40 Tryz.underlying52 hi0 hz0 hz1 hz2 rfl (by decide) _ _ _ rfl ((uh HRG _ hbw).own.alloc _) ⟨wr.heap.size,0,none⟩ 1 1 [.int .i64 3,.string x,.int .i64 0,.int .i64 i] rfl rfl (by exact new4 (by simp) _ _ _ _ _) (ones4 _ _ _ _) (by unfold maxLen;omega) (by omega) (by simp;omega) ?_;intro v1 w4 hown4 hg4 _;have hR4:=Rm.append (t:=⟨3,x,0,i⟩) ((uh HRG _ hbw).grow ((Below.refl _ _).alloc (Nat.le_refl _) _)) hown4 ⟨hg4.os,hg4.tape,hg4.output,hg4.size,hg4.block⟩;have HR4:=hide hR4;obtain⟨q0,q1,q2,q3⟩:=hR4.fcells;clear hown4 hg4 hR4))
        go_roundw
        case rel =>
         refine⟨i+x.size,f,true,ts++[⟨3,x,0,i⟩],rfl,by go_num,⟨hle2,by omega,by simp;omega,(fun _=>by simp),?_⟩,uh HR4⟩
         have:=uh HG2
         exact hide (by rw [lastEnds_snoc];simpa using this)
        case measure=>simp [intOf];omega
  ·as_aux_lemma =>
    have hiz:((i:Int) == (s.size:Int))=true:=beq_iff_eq.2 (by omega)
    have hG:=go_done hi (uh HG)
    have HG2:=hide hG
    clear hG HG
    cases ro with
    | false =>
     go_wp2
     obtain⟨r1,r2,r3,r4⟩:=hR.done (.int .i64 0) (.int .i64 0)
     refine bodyPost_ret (by simp [results,Tryz.results15,go_sem,r1,r2];rfl) rfl ?_
     rw [uh HG2]
     exact⟨_,rfl,by simpa [ending] using r3,r4⟩
    | true =>
     obtain⟨tl,t,rfl⟩:∃ tl t,ts=tl++[t]:=⟨_,_,(List.dropLast_concat_getLast (hhas rfl)).symm⟩
     obtain⟨g,cap,rfl,l0,l1,l2,l3⟩:=own_last hR.own
     have hlen':tl.length≤6000:=by simp at hlen;omega
     have hlz:(tl++[t]).length=tl.length+1:=by simp
     cases hE:endsB t.kind t.text with
     | false =>
      go_wp2_with (go_at_call 29;refine (rcloses_any t.kind t.text t.num t.pos wr).mono ?_;rintro e w3 ⟨rfl,hb3⟩;have hR3:=hR.grow hb3;obtain⟨p0,p1,p2,p3⟩:=hR3.fcells;have hB3:=hR3.size)
      obtain⟨r1,r2,r3,r4⟩:=hR3.done (.int .i64 0) (.int .i64 0)
      refine bodyPost_ret (by simp [results,Tryz.results15,go_sem,r1,r2];rfl) rfl ?_
      rw [uh HG2]
      refine⟨_,rfl,?_,r4⟩
      rw [lastEnds_snoc,hE]
      simpa [ending] using r3
     | true =>
      have HLZ:=hide hlz
      clear hlz
      go_wp2_with (first
       | (go_at_call 29;refine (rcloses_any t.kind t.text t.num t.pos wr).mono ?_;rintro e w3 ⟨rfl,hb3⟩;have hR3:=hR.grow hb3;obtain⟨p0,p1,p2,p3⟩:=hR3.fcells;have hB3:=hR3.size)
       | (at_builtin;refine wpList_append_own _ rfl (.tmp 46) (.tmp 49) 52 rfl B 66 i0 _ 4 40 Tryz.underlying52 hi0 hz0 hz1 hz2 rfl (by decide) _ _ _ rfl (hR3.own.alloc _) ⟨w3.heap.size,0,none⟩ 1 1 [.int .i64 3,.string ⟨#[59]⟩,.int .i64 0,.int .i64 i] rfl rfl (by exact new4 (by simp) _ _ _ _ _) (ones4 _ _ _ _) (by unfold maxLen;omega) (by omega) (by simp;omega) ?_;intro v1 w4 hown4 hg4 _;have hR4:=Rm.append (t:=semi i) (hR3.grow ((Below.refl _ _).alloc (Nat.le_refl _) _)) hown4 ⟨hg4.os,hg4.tape,hg4.output,hg4.size,hg4.block⟩;have HR4:=hide hR4;obtain⟨q0,q1,q2,q3⟩:=hR4.fcells;clear hown4 hg4 hR4))
      obtain⟨r1,r2,r3,r4⟩:=(uh HR4).done (.int .i64 0) (.int .i64 0)
      refine bodyPost_ret (by simp [results,Tryz.results15,go_sem,r1,r2];rfl) rfl ?_
      rw [uh HG2]
      refine⟨_,rfl,?_,r4⟩
      rw [lastEnds_snoc,hE]
      exact r3
set_option maxHeartbeats 1000000 in
set_option maxRecDepth 100000 in
theorem ref_big (s:ByteArray) (w:World) (hbig:6000<s.size) (hs:s.size≤maxLen) :
  Calls Tryz.prog 15 #[.string s] w fun e w'=>e=.returned (.tuple #[.slice none 0 0,.agg #[.int .i64 1,.int .i64 0]])∧Below w.heap.size w w':=by
 unfold maxLen at hs
 have hz:(6000:Int)<(s.size:Int):=by omega
 go_enter Tryz.func15,Tryz.ntmps15
 go_wp2
 refine bodyPost_ret (by simp [results,Tryz.results15,go_sem];rfl) rfl ?_
 exact⟨rfl,(Below.refl _ w).alloc (Nat.le_refl _) _⟩
theorem ref_any (s:ByteArray) (w:World) (hs:s.size≤maxLen) (hT:Lib.Utf8Tabs 0 1 w) (h2:2≤w.heap.size) :
  Calls Tryz.prog 15 #[.string s] w fun e w'=>∃ v,e=.returned (.tuple #[v,.agg #[.int .i64 (scan s).1,.int .i64 (scan s).2.1]])∧w'.ownsRow w.heap.size 66 4 v (scan s).2.2.length (tcells (scan s).2.2)∧Below w.heap.size w w':=by
 by_cases hb:6000<s.size
 ·have hS:scan s=(1,0,[]):=by unfold scan;rw [if_pos hb]
  rw [hS]
  refine (ref_big s w hb hs).mono ?_
  rintro e w' ⟨rfl,h⟩
  exact⟨_,rfl,World.ownsRow_nil _ _ _ _,h⟩
 ·exact ref_small s w (by omega) hT h2
end
end Go.Proofs.YtdemnolanlfblaaGreatDoor
