import Derived.Handy
import Derived.Test.YtdemnolanlfblaaGreatDoorZPiece
import Derived.Test.YtdemnolanlfblaaGreatDoorShelfB
set_option linter.all false
namespace Go.Proofs.YtdemnolanlfblaaGreatDoor
section
open Go.RowKit
structure Nd where
 kind:Int
 pos:Int
 num:Int
 text:ByteArray
 kids:List Nat
structure PS where
 rest:List Tok
 nodes:List Nd
def phi (s:PS):Nat:=s.nodes.length+3 * s.rest.length
def Res (α:Type):Type:=Except (Int × Int) (α × PS)
def Res.ok {α:Type}(a:α) (s:PS):Res α:=Except.ok (a,s)
def Res.bad {α:Type}(c q:Int):Res α:=Except.error (c,q)
theorem Res.parts {α:Type}{motive:Res α→Prop}(r:Res α) (ok:∀ (a:α) (s:PS),motive (Res.ok a s)) (bad:∀ c q:Int,motive (Res.bad c q)):motive r:=match r with
 | Except.ok (a,s)=>ok a s
 | Except.error (c,q)=>bad c q
def M (α:Type):Type:=PS→Res α
def Res.andThen {α β:Type}(r:Res α) (f:α→PS→Res β):Res β:=match (r:Except (Int × Int) (α × PS)) with
 | Except.ok (a,s)=>f a s
 | Except.error (c,q)=>Res.bad c q
def Res.fold {α β:Type}(r:Res α) (f:α→PS→β) (g:Int→Int→β):β:=match (r:Except (Int × Int) (α × PS)) with
 | Except.ok (a,s)=>f a s
 | Except.error (c,q)=>g c q
theorem fold_ok {α β:Type}(a:α) (s:PS) (f:α→PS→β) (g:Int→Int→β):(Res.ok a s).fold f g=f a s:=rfl
theorem fold_bad {α β:Type}(c q:Int) (f:α→PS→β) (g:Int→Int→β):(Res.bad c q:Res α).fold f g=g c q:=rfl
def M.bind {α β:Type}(m:M α) (f:α→M β):M β:=fun s=>(m s).andThen f
def M.ret {α:Type}(a:α):M α:=fun s=>.ok a s
theorem bind_at {α β:Type}(m:M α) (f:α→M β) (s:PS):M.bind m f s=(m s).andThen f:=rfl
theorem ite_at {α:Type}(c:Prop) [Decidable c] (m n:M α) (s:PS):(if c then m else n) s=if c then m s else n s:=by split <;> rfl
@[simp] theorem andThen_ok {α β:Type} (a:α) (s:PS) (f:α→PS→Res β):(Res.ok a s).andThen f=f a s:=rfl
@[simp] theorem andThen_bad {α β:Type} (c q:Int) (f:α→PS→Res β):(Res.bad c q:Res α).andThen f=.bad c q:=rfl
@[simp] theorem ok_same {α:Type} (a b:α) (s t:PS):(Res.ok a s=Res.ok b t)=(a=b∧s=t):=propext ⟨fun h=>by cases h;exact⟨rfl,rfl⟩,fun ⟨h1,h2⟩=>by rw [h1,h2]⟩
@[simp] theorem bad_same {α:Type} (c q d r:Int):((Res.bad c q:Res α)=Res.bad d r)=(c=d∧q=r):=propext ⟨fun h=>by cases h;exact⟨rfl,rfl⟩,fun ⟨h1,h2⟩=>by rw [h1,h2]⟩
@[simp] theorem ok_bad {α:Type} (a:α) (s:PS) (c q:Int):(Res.ok a s=Res.bad c q)=False:=by simp [Res.ok,Res.bad]
@[simp] theorem bad_ok {α:Type} (a:α) (s:PS) (c q:Int):(Res.bad c q=Res.ok a s)=False:=by simp [Res.ok,Res.bad]
def look (E:Nat) (s:PS) (k:Nat):Tok:=s.rest.getD k ⟨0,⟨#[]⟩,0,E⟩
def isB (E:Nat) (s:PS) (ws:List ByteArray):Bool:=ws.any fun x=>decide ((look E s 0).text=x)
def looking (E k:Nat):M Tok:=fun s=>.ok (look E s k) s
def is (E:Nat) (ws:List ByteArray):M Bool:=fun s=>.ok (isB E s ws) s
def isKind (E:Nat) (k:Int):M Bool:=fun s=>.ok (decide ((look E s 0).kind=k)) s
def next (E:Nat):M Tok:=fun s=>.ok (look E s 0) { s with rest:=s.rest.tail }
def fault {α:Type}(c q:Int):M α:=fun _=>.bad c q
def refuse {α:Type}(E:Nat):M α:=fun s=>.bad 3 (look E s 0).pos
def want (E:Nat) (ws:List ByteArray):M Tok:=fun s=>if isB E s ws then next E s else refuse E s
def wantKind (E:Nat) (k:Int):M Tok:=fun s=>if (look E s 0).kind=k then next E s else refuse E s
def wantName (E:Nat):M ByteArray :=
 (wantKind E 1).bind fun t =>
 M.ret t.text
def opens (E r:Nat) (ws:List ByteArray):M Tok :=
 (want E ws).bind fun t =>
 if r=0 then fault 4 t.pos else M.ret t
def put (n:Nd):M Nat:=fun s=>.ok s.nodes.length { s with nodes:=s.nodes++[n] }
def defines (E:Nat) (s:PS):Bool:=decide ((look E s 0).kind=1) && decide ((look E s 1).text=⟨#[58,61]⟩)
def signLevel (x:ByteArray):Nat :=
 if x=⟨#[124,124]⟩ then 1 else if x=⟨#[38,38]⟩ then 2
 else if x=⟨#[61,61]⟩∨x=⟨#[33,61]⟩∨x=⟨#[60]⟩∨x=⟨#[60,61]⟩∨x=⟨#[62]⟩∨x=⟨#[62,61]⟩ then 3
 else if x=⟨#[43]⟩∨x=⟨#[45]⟩ then 4
 else if x=⟨#[42]⟩∨x=⟨#[47]⟩∨x=⟨#[37]⟩ then 5 else 0
def commaOf (E:Nat) (ks:List Nat):M Tok:=if ks.length=0 then M.ret ⟨0,⟨#[]⟩,0,0⟩ else want E [⟨#[44]⟩]
def listedGo (E:Nat) (item:M Nat):Nat→List Nat→M (List Nat)
 | 0,_=>fault 0 0
 | n+1,ks =>
  (is E [⟨#[41]⟩]).bind fun yes=>if yes then M.ret ks
  else
   (commaOf E ks).bind fun _ =>
   (item).bind fun k =>
   listedGo E item n (ks++[k])
def listed (E r:Nat) (item:M Nat):M (List Nat) :=
 (opens E r [⟨#[40]⟩]).bind fun _ =>
 M.bind (fun s=>listedGo E item (phi s+1) [] s) fun ks =>
 (want E [⟨#[41]⟩]).bind fun _ =>
 M.ret ks
def semiOf (E:Nat):M Tok :=
 (is E [⟨#[125]⟩]).bind fun yes=>if yes then M.ret ⟨0,⟨#[]⟩,0,0⟩ else want E [⟨#[59]⟩]
def rowsGo (E:Nat) (item:M Nat) (ends:List ByteArray):Nat→List Nat→M (List Nat)
 | 0,_=>fault 0 0
 | n+1,ks =>
  (is E ends).bind fun yes=>if yes then M.ret ks
  else
   (item).bind fun k =>
   (semiOf E).bind fun _ =>
   rowsGo E item ends n (ks++[k])
def rows (E:Nat) (item:M Nat) (ends:List ByteArray):M (List Nat):=fun s=>rowsGo E item ends (phi s+1) [] s
def braced (E r:Nat) (item:M Nat):M (Int × List Nat) :=
 (opens E r [⟨#[123]⟩]).bind fun t =>
 (rows E item [⟨#[125]⟩]).bind fun ks =>
 (want E [⟨#[125]⟩]).bind fun _ =>
 M.ret (t.pos,ks)
structure Rd where
 typ:M Nat
 typs:M (List Nat)
 chan:M (Int × Nat)
 one:M Nat
 expr:M Nat
 stmt:M Nat
 ifs:M Nat
 sel:M Nat
def pointer (E:Nat):M Nat :=
 (want E [⟨#[42]⟩]).bind fun t =>
 (wantName E).bind fun n =>
 put ⟨4,t.pos,0,n,[]⟩
def withResult (E:Nat) (ty:M Nat) (ks:List Nat):M (List Nat) :=
 (is E [⟨#[105,110,116]⟩,⟨#[98,111,111,108]⟩,⟨#[99,104,97,110]⟩,⟨#[102,117,110,99]⟩,⟨#[42]⟩]).bind fun a =>
 (if a then M.ret true else isKind E 1).bind fun b =>
 if b then
  (ty).bind fun k =>
  M.ret (ks++[k])
 else M.ret ks
def channel (E r:Nat) (lo:Rd):M (Int × Nat) :=
 (opens E r [⟨#[99,104,97,110]⟩]).bind fun t =>
 (lo.typ).bind fun k =>
 M.ret (t.pos,k)
def funcType (E r:Nat) (lo:Rd):M Nat :=
 (opens E r [⟨#[102,117,110,99]⟩]).bind fun t =>
 (lo.typs).bind fun ks =>
 (withResult E lo.typ ks).bind fun ks' =>
 put ⟨6,t.pos,ks.length,⟨#[]⟩,ks'⟩
def typ (E r:Nat) (lo:Rd):M Nat :=
 (is E [⟨#[105,110,116]⟩]).bind fun yes=>if yes then
  (next E).bind fun t =>
  put ⟨1,t.pos,0,⟨#[]⟩,[]⟩
 else (is E [⟨#[98,111,111,108]⟩]).bind fun yes=>if yes then
  (next E).bind fun t =>
  put ⟨2,t.pos,0,⟨#[]⟩,[]⟩
 else (is E [⟨#[42]⟩]).bind fun yes=>if yes then pointer E
 else (is E [⟨#[99,104,97,110]⟩]).bind fun yes=>if yes then
  (channel E r lo).bind fun c =>
  put ⟨5,c.1,0,⟨#[]⟩,[c.2]⟩
 else (is E [⟨#[102,117,110,99]⟩]).bind fun yes=>if yes then funcType E r lo
 else
  (wantKind E 1).bind fun t =>
  put ⟨3,t.pos,0,t.text,[]⟩
def typed (E:Nat) (ty:M Nat) (kind:Int):M Nat :=
 (wantKind E 1).bind fun t =>
 (ty).bind fun k =>
 put ⟨kind,t.pos,0,t.text,[k]⟩
def sig (E r:Nat) (lo:Rd):M Nat :=
 (looking E 0).bind fun t =>
 (listed E r (typed E lo.typ 7)).bind fun ks =>
 (withResult E (typ E r lo) ks).bind fun ks' =>
 put ⟨8,t.pos,ks.length,⟨#[]⟩,ks'⟩
def block (E r:Nat) (lo:Rd):M Nat :=
 (braced E r lo.stmt).bind fun c =>
 put ⟨16,c.1,0,⟨#[]⟩,c.2⟩
def newOf (E r:Nat):M Nat :=
 (want E [⟨#[110,101,119]⟩]).bind fun t =>
 (opens E r [⟨#[40]⟩]).bind fun _ =>
 (wantName E).bind fun n =>
 (want E [⟨#[41]⟩]).bind fun _ =>
 put ⟨41,t.pos,0,n,[]⟩
def makeEnd (E:Nat) (pos:Int) (k:Nat) (room:Int):M Nat :=
 (want E [⟨#[41]⟩]).bind fun _ =>
 put ⟨42,pos,room,⟨#[]⟩,[k]⟩
def makeOf (E r:Nat) (lo:Rd):M Nat :=
 (want E [⟨#[109,97,107,101]⟩]).bind fun t =>
 (opens E r [⟨#[40]⟩]).bind fun _ =>
 (lo.chan).bind fun c =>
 (is E [⟨#[44]⟩]).bind fun yes=>if yes then
  (next E).bind fun _ =>
  (wantKind E 2).bind fun m =>
  makeEnd E t.pos c.2 m.num
 else makeEnd E t.pos c.2 0
def first (E r:Nat) (lo:Rd):M Nat :=
 (looking E 0).bind fun t =>
 if t.text=⟨#[116,114,117,101]⟩ then
  (next E).bind fun _ =>
  put ⟨34,t.pos,1,⟨#[]⟩,[]⟩
 else if t.text=⟨#[102,97,108,115,101]⟩ then
  (next E).bind fun _ =>
  put ⟨34,t.pos,0,⟨#[]⟩,[]⟩
 else if t.text=⟨#[110,105,108]⟩ then
  (next E).bind fun _ =>
  put ⟨35,t.pos,0,⟨#[]⟩,[]⟩
 else if t.text=⟨#[40]⟩ then
  (opens E r [⟨#[40]⟩]).bind fun _ =>
  (lo.expr).bind fun k =>
  (want E [⟨#[41]⟩]).bind fun _ =>
  M.ret k
 else if t.text=⟨#[102,117,110,99]⟩ then
  (next E).bind fun _ =>
  (sig E r lo).bind fun g =>
  (block E r lo).bind fun b =>
  put ⟨40,t.pos,0,⟨#[]⟩,[g,b]⟩
 else if t.text=⟨#[110,101,119]⟩ then newOf E r
 else if t.text=⟨#[109,97,107,101]⟩ then makeOf E r lo
 else if t.kind=2 then
  (next E).bind fun _ =>
  put ⟨33,t.pos,t.num,⟨#[]⟩,[]⟩
 else
  (wantName E).bind fun n =>
  put ⟨36,t.pos,0,n,[]⟩
def call (E r:Nat) (lo:Rd) (left:Nat):M Nat :=
 (looking E 0).bind fun t =>
 (listed E r lo.expr).bind fun ks =>
 put ⟨38,t.pos,0,⟨#[]⟩,left :: ks⟩
def dot (E r:Nat) (lo:Rd) (left:Nat):M Nat :=
 (want E [⟨#[46]⟩]).bind fun t =>
 (isKind E 1).bind fun yes=>if yes then
  (wantName E).bind fun n =>
  put ⟨37,t.pos,0,n,[left]⟩
 else
  (opens E r [⟨#[40]⟩]).bind fun _ =>
  (lo.typ).bind fun k =>
  (want E [⟨#[41]⟩]).bind fun _ =>
  put ⟨39,t.pos,0,⟨#[]⟩,[left,k]⟩
def partGo (E r:Nat) (lo:Rd):Nat→Nat→M Nat
 | 0,_=>fault 0 0
 | n+1,k =>
  (is E [⟨#[46]⟩,⟨#[40]⟩]).bind fun yes=>if yes then
   (is E [⟨#[40]⟩]).bind fun yes=>if yes then
    (call E r lo k).bind fun k' =>
    partGo E r lo n k'
   else
    (dot E r lo k).bind fun k' =>
    partGo E r lo n k'
  else M.ret k
def part (E r:Nat) (lo:Rd):M Nat :=
 (first E r lo).bind fun k =>
 fun s=>partGo E r lo (phi s+1) k s
def signed (E r:Nat) (lo:Rd) (kind:Int):M Nat :=
 (opens E r [⟨#[33]⟩,⟨#[45]⟩,⟨#[60,45]⟩]).bind fun t =>
 (lo.one).bind fun k =>
 put ⟨kind,t.pos,0,⟨#[]⟩,[k]⟩
def one (E r:Nat) (lo:Rd):M Nat :=
 (looking E 0).bind fun t =>
 if t.text=⟨#[33]⟩ then signed E r lo 43
 else if t.text=⟨#[45]⟩ then signed E r lo 44
 else if t.text=⟨#[60,45]⟩ then signed E r lo 45
 else part E r lo
def opsGo (E:Nat) (level:Nat) (tighter:M Nat):Nat→Nat→M Nat
 | 0,_=>fault 0 0
 | n+1,left =>
  (looking E 0).bind fun t =>
  if signLevel t.text=level then
   (next E).bind fun g =>
   (tighter).bind fun k =>
   (put ⟨46,g.pos,0,g.text,[left,k]⟩).bind fun left' =>
   opsGo E level tighter n left'
  else M.ret left
def row (E:Nat) (o:M Nat):Nat→M Nat
 | 0=>o
 | n+1 =>
  (row E o n).bind fun left =>
  fun s=>opsGo E (5 - n) (row E o n) (phi s+1) left s
def expr (E r:Nat) (lo:Rd):M Nat:=row E (one E r lo) 5
def wordStmt (E r:Nat) (lo:Rd) (kind:Int):M Nat :=
 (next E).bind fun t =>
 (opens E r [⟨#[40]⟩]).bind fun _ =>
 (lo.expr).bind fun k =>
 (want E [⟨#[41]⟩]).bind fun _ =>
 put ⟨kind,t.pos,0,⟨#[]⟩,[k]⟩
def elsePart (E r:Nat) (lo:Rd):M Nat :=
 (looking E 1).bind fun t =>
 if t.text=⟨#[105,102]⟩ then
  (opens E r [⟨#[101,108,115,101]⟩]).bind fun _ =>
  lo.ifs
 else
  (want E [⟨#[101,108,115,101]⟩]).bind fun _ =>
  block E r lo
def ifStmt (E r:Nat) (lo:Rd):M Nat :=
 (want E [⟨#[105,102]⟩]).bind fun t =>
 (expr E r lo).bind fun c =>
 (block E r lo).bind fun b =>
 (is E [⟨#[101,108,115,101]⟩]).bind fun yes=>if yes then
  (elsePart E r lo).bind fun o =>
  put ⟨22,t.pos,0,⟨#[]⟩,[c,b,o]⟩
 else put ⟨22,t.pos,0,⟨#[]⟩,[c,b]⟩
def returnStmt (E r:Nat) (lo:Rd):M Nat :=
 (want E [⟨#[114,101,116,117,114,110]⟩]).bind fun t =>
 (is E [⟨#[59]⟩,⟨#[125]⟩]).bind fun yes=>if yes then put ⟨24,t.pos,0,⟨#[]⟩,[]⟩
 else
  (expr E r lo).bind fun k =>
  put ⟨24,t.pos,0,⟨#[]⟩,[k]⟩
def asking (f:PS→Bool):M Bool:=fun s=>.ok (f s) s
def plainStmt (E r:Nat) (lo:Rd):M Nat :=
 (looking E 0).bind fun t =>
 (asking (defines E)).bind fun yes=>if yes then
  (wantName E).bind fun n =>
  (want E [⟨#[58,61]⟩]).bind fun _ =>
  (expr E r lo).bind fun k =>
  put ⟨17,t.pos,0,n,[k]⟩
 else
  (expr E r lo).bind fun left =>
  (is E [⟨#[61]⟩]).bind fun yes=>if yes then
   (next E).bind fun _ =>
   (expr E r lo).bind fun k =>
   put ⟨18,t.pos,0,⟨#[]⟩,[left,k]⟩
  else (is E [⟨#[60,45]⟩]).bind fun yes=>if yes then
   (next E).bind fun _ =>
   (expr E r lo).bind fun k =>
   put ⟨20,t.pos,0,⟨#[]⟩,[left,k]⟩
  else put ⟨19,t.pos,0,⟨#[]⟩,[left]⟩
def caseBlock (E:Nat) (st:M Nat):M Nat :=
 (want E [⟨#[58]⟩]).bind fun t =>
 (rows E st [⟨#[125]⟩,⟨#[99,97,115,101]⟩,⟨#[100,101,102,97,117,108,116]⟩]).bind fun ks =>
 put ⟨16,t.pos,0,⟨#[]⟩,ks⟩
def recvEnd (E:Nat) (ex st:M Nat) (pos:Int) (n:ByteArray):M Nat :=
 (want E [⟨#[60,45]⟩]).bind fun _ =>
 (ex).bind fun c =>
 (caseBlock E st).bind fun b =>
 put ⟨27,pos,0,n,[c,b]⟩
def recvCase (E:Nat) (ex st:M Nat) (pos:Int):M Nat :=
 (asking (defines E)).bind fun yes=>if yes then
  (wantName E).bind fun n =>
  (want E [⟨#[58,61]⟩]).bind fun _ =>
  recvEnd E ex st pos n
 else recvEnd E ex st pos ⟨#[]⟩
def selectCase (E:Nat) (ex st:M Nat):M Nat :=
 (want E [⟨#[99,97,115,101]⟩,⟨#[100,101,102,97,117,108,116]⟩]).bind fun t =>
 if t.text=⟨#[100,101,102,97,117,108,116]⟩ then
  (caseBlock E st).bind fun b =>
  put ⟨29,t.pos,0,⟨#[]⟩,[b]⟩
 else
  (is E [⟨#[60,45]⟩]).bind fun a =>
  (if a then M.ret true else asking (defines E)).bind fun b =>
  if b then recvCase E ex st t.pos
  else
   (ex).bind fun c =>
   (want E [⟨#[60,45]⟩]).bind fun _ =>
   (ex).bind fun v =>
   (caseBlock E st).bind fun b =>
   put ⟨28,t.pos,0,⟨#[]⟩,[c,v,b]⟩
def casesGo (E:Nat) (sel:M Nat):Nat→List Nat→M (List Nat)
 | 0,_=>fault 0 0
 | n+1,ks =>
  (is E [⟨#[125]⟩]).bind fun yes=>if yes then M.ret ks
  else
   (sel).bind fun k =>
   casesGo E sel n (ks++[k])
def selectStmt (E r:Nat) (lo:Rd):M Nat :=
 (want E [⟨#[115,101,108,101,99,116]⟩]).bind fun t =>
 (opens E r [⟨#[123]⟩]).bind fun _ =>
 M.bind (fun s=>casesGo E lo.sel (phi s+1) [] s) fun ks =>
 (want E [⟨#[125]⟩]).bind fun _ =>
 put ⟨26,t.pos,0,⟨#[]⟩,ks⟩
def stmt (E r:Nat) (lo:Rd):M Nat :=
 (looking E 0).bind fun t =>
 if t.text=⟨#[103,111]⟩ then
  (next E).bind fun _ =>
  (expr E r lo).bind fun k =>
  put ⟨21,t.pos,0,⟨#[]⟩,[k]⟩
 else if t.text=⟨#[99,108,111,115,101]⟩ then wordStmt E r lo 30
 else if t.text=⟨#[112,97,110,105,99]⟩ then wordStmt E r lo 31
 else if t.text=⟨#[112,114,105,110,116]⟩ then wordStmt E r lo 32
 else if t.text=⟨#[105,102]⟩ then ifStmt E r lo
 else if t.text=⟨#[102,111,114]⟩ then
  (next E).bind fun _ =>
  (expr E r lo).bind fun c =>
  (block E r lo).bind fun b =>
  put ⟨23,t.pos,0,⟨#[]⟩,[c,b]⟩
 else if t.text=⟨#[114,101,116,117,114,110]⟩ then returnStmt E r lo
 else if t.text=⟨#[98,114,101,97,107]⟩ then
  (next E).bind fun _ =>
  put ⟨25,t.pos,0,⟨#[]⟩,[]⟩
 else if t.text=⟨#[115,101,108,101,99,116]⟩ then selectStmt E r lo
 else plainStmt E r lo
def readers (E r:Nat) (lo:Rd):Rd :=
 {typ:=typ E r lo,typs:=listed E r lo.typ,chan:=channel E r lo,one:=one E r lo,expr:=expr E r lo,stmt:=stmt E r lo,ifs:=ifStmt E r lo,sel:=selectCase E (expr E r lo) (stmt E r lo) }
def noRd:Rd:={ typ:=fault 0 0,typs:=fault 0 0,chan:=fault 0 0,one:=fault 0 0,expr:=fault 0 0,stmt:=fault 0 0,ifs:=fault 0 0,sel:=fault 0 0 }
def rd (E:Nat):Nat→Rd
 | 0=>readers E 0 noRd
 | r+1=>readers E (r+1) (rd E r)
def lower (E:Nat):Nat→Rd
 | 0=>noRd
 | r+1=>rd E r
theorem rd_eq (E r:Nat):rd E r=readers E r (lower E r):=by cases r <;> rfl
def methodSig (E r:Nat) (lo:Rd):M Nat :=
 (wantKind E 1).bind fun t =>
 (sig E r lo).bind fun k =>
 put ⟨11,t.pos,0,t.text,[k]⟩
def receiver (E r:Nat):M Nat :=
 (opens E r [⟨#[40]⟩]).bind fun _ =>
 (wantKind E 1).bind fun t =>
 (pointer E).bind fun k =>
 (want E [⟨#[41]⟩]).bind fun _ =>
 put ⟨7,t.pos,0,t.text,[k]⟩
def funcDecl (E r:Nat) (lo:Rd):M Nat :=
 (want E [⟨#[102,117,110,99]⟩]).bind fun t =>
 (is E [⟨#[40]⟩]).bind fun yes=>if yes then
  (receiver E r).bind fun v =>
  (wantName E).bind fun n =>
  (sig E r lo).bind fun g =>
  (block E r lo).bind fun b =>
  put ⟨14,t.pos,0,n,[v,g,b]⟩
 else
  (wantName E).bind fun n =>
  (sig E r lo).bind fun g =>
  (block E r lo).bind fun b =>
  put ⟨13,t.pos,0,n,[g,b]⟩
end
section
open Go.RowKit
def ivals (ks:List Nat):List Value:=ks.map fun (k:Nat)=>Value.int .i64 k
def Ints (w:World) (B:Nat) (v:Value) (ks:List Nat):Prop:=w.ownsRow B 3 1 v ks.length (ivals ks)
def Nd.cells (n:Nd) (kv:Value):List Value:=[.int .i64 n.kind,.int .i64 n.pos,.int .i64 n.num,.string n.text,kv]
def ncells (ns:List Nd) (kvs:List Value):List Value:=(ns.zip kvs).flatMap fun x=>x.1.cells x.2
def PlainObj:Obj→Prop
 | .cells c t _=>t≠81∧(t=36→c.size=5)
 | _=>True
structure Fr (p B:Nat) (w w':World):Prop where
 le:B≤w.heap.size
 lp:p<w.heap.size
 below:Below p w w'
 keep:∀ (k:Nat) (o:Obj),k<B→w.heap[k]? = some o→PlainObj o→w'.heap[k]? = some o
structure PSt (p:Nat) (T:List Tok) (tv:Value) (E r:Nat) (A:Nat→Prop) (s:PS) (w:World):Prop where
 room:r≤30
 suffix:s.rest=T.drop (T.length - s.rest.length)
 few:T.length≤100000
 small:E≤100000
 cap:phi s≤900000
 sep:∀ k,A k→k<w.heap.size
 own:∃ v kvs,w.heap[p]? = some (.cells #[tv,.int .i64 ((T.length - s.rest.length:Nat):Int),.int .i64 E,.int .i64 ((30 - r:Nat):Int),v] 81 (0,0)) ∧
  w.ownsRow (p+1) 36 5 v s.nodes.length (ncells s.nodes kvs)∧(kvs.length=s.nodes.length∧(s.nodes = []→v=.slice none 0 0)∧∀ k,v.ownBlock=some k→¬ A k)∧(∀ (i:Nat) (n:Nd) (kv:Value),s.nodes[i]? = some n→kvs[i]? = some kv→Ints w (p+1) kv n.kids∧∀ k,kv.ownBlock=some k→¬ A k)
 toks:w.ownsRow 0 66 4 tv T.length (tcells T)
theorem Fr.refl {p B:Nat}{w:World}(hB:B≤w.heap.size) (hp:p<w.heap.size):Fr p B w w:=⟨hB,hp,Below.refl _ _,fun _ _ _ h _=>h⟩
theorem Fr.size {p B:Nat}{w w1:World}(h:Fr p B w w1):w.heap.size≤w1.heap.size:=h.below.size
theorem Fr.trans {p B B':Nat}{w w1 w2:World}(h:Fr p B w w1) (h':Fr p B' w1 w2) (hB:B≤B'):Fr p B w w2 :=
 ⟨h.le,h.lp,h.below.trans h'.below,fun k o hk ho hp=>h'.keep k o (by omega) (h.keep k o hk ho hp) hp⟩
theorem Fr.step {p B:Nat}{w w1 w2:World}(h:Fr p B w w1) (h':Fr p w1.heap.size w1 w2):Fr p B w w2:=h.trans h' (Nat.le_trans h.le h.size)
theorem Fr.new {p B:Nat}{w w1 w2:World}(h:Fr p B w w1) (hb:Below w1.heap.size w1 w2):Fr p B w w2:=by
 have h1:=h.size
 have h2:=h.le
 have h3:=h.lp
 exact⟨h.le,h.lp,h.below.trans (hb.mono (by omega)),fun k o hk ho hq=>by rw [hb.block k (by omega)];exact h.keep k o hk ho hq⟩
theorem Fr.of {p:Nat}{w w2:World}(hb:Below w.heap.size w w2) (hp:p<w.heap.size):Fr p w.heap.size w w2:=(Fr.refl (Nat.le_refl _) hp).new hb
theorem blA (w:World) (o:Obj):Below w.heap.size w (w.alloc o):=(Below.refl _ w).alloc (Nat.le_refl _) o
theorem below_drew (w:World):Below w.heap.size w w.drew:=below_of_drew (Below.refl _ _)
theorem szA (w:World) (o:Obj):(w.alloc o).heap.size=w.heap.size+1:=by show (w.heap.push o).size=_;simp
theorem bset {B:Nat}{a w:World}{ad:Addr}{u:Value}(h:Below B a w) (hB:B≤ad.block):Below B a (w.setCell ad u):=h.setCell hB u
theorem bdrewN {B:Nat}{a w:World}{n:Nat}(h:Below B a w):Below B a (w.drewN n):=⟨h.os,h.tape,h.output,h.size,h.block⟩
theorem balloc {w w1:World}{o:Obj}(h:Below w.heap.size w w1):Below w.heap.size w (w1.alloc o):=h.alloc h.size o
theorem Fr.set {p B:Nat}{w w1:World}(h:Fr p B w w1) {a:Addr}(ha:p≤a.block) (hB:B≤a.block) (u:Value):Fr p B w (w1.setCell a u) :=
 ⟨h.le,h.lp,h.below.setCell ha u,fun k o hk ho hq=>by rw [Below.heap_setCell _ _ _ _ (by omega)];exact h.keep k o hk ho hq⟩
theorem Ints.fr {w w':World}{p B B':Nat}{v:Value}{ks:List Nat}(h:Ints w B' v ks) (hf:Fr p B w w') (hB:∀ k,v.ownBlock=some k→k<B):Ints w' B' v ks:=by
 refine⟨h.1,?_⟩
 rcases h.2 with h2 | ⟨g,cap,cur,hv,hg,hh,rr⟩
 ·exact Or.inl h2
 ·exact Or.inr ⟨g,cap,cur,hv,hg,hf.keep g _ (hB g (by rw [hv];rfl)) hh (by simp [PlainObj]),rr⟩
theorem Ints.lt {w:World}{B:Nat}{v:Value}{ks:List Nat}(h:Ints w B v ks):∀ k,v.ownBlock=some k→k<w.heap.size:=fun k hk=>(World.ownsRow.lt h k hk).2
theorem PSt.lt {p T tv E r A s w}(h:PSt p T tv E r A s w):p<w.heap.size:=by
 obtain⟨v,kvs,hb,_⟩:=h.own
 exact (Array.getElem?_eq_some_iff.1 hb).1
theorem PSt.new {p T tv E r A s w w'}(h:PSt p T tv E r A s w) (hb:Below w.heap.size w w'):PSt p T tv E r A s w':=by
 obtain⟨v,kvs,hblk,hown,hl,hk⟩:=h.own
 refine⟨h.room,h.suffix,h.few,h.small,h.cap,fun k hk=>Nat.lt_of_lt_of_le (h.sep k hk) hb.size,⟨v,kvs,?_,own_below hown hb,hl,fun i n kv hi hj=>⟨own_below (hk i n kv hi hj).1 hb,(hk i n kv hi hj).2⟩⟩,own_below h.toks hb⟩
 rw [hb.block p h.lt];exact hblk
theorem PSt.alloc {p T tv E r A s w}(h:PSt p T tv E r A s w) (o:Obj):PSt p T tv E r A s (w.alloc o):=h.new (blA w o)
theorem PSt.drew {p T tv E r A s w}(h:PSt p T tv E r A s w):PSt p T tv E r A s w.drew:=h.new (below_drew w)
theorem heap_set_other {w:World}{a:Addr}{u:Value}{k:Nat}(h:k≠a.block):(w.setCell a u).heap[k]? = w.heap[k]?:=Below.heap_setCell _ _ _ _ h
theorem own_set_ne {w:World}{b e z:Nat}{v:Value}{n:Nat}{xs:List Value}(h:w.ownsRow b e z v n xs) {a:Addr}(ha:∀ k,v.ownBlock=some k→k≠a.block) (u:Value):(w.setCell a u).ownsRow b e z v n xs:=by
 refine⟨h.1,?_⟩
 rcases h.2 with h2 | ⟨g,cap,cur,hv,hg,hh,rr⟩
 ·exact Or.inl h2
 ·exact Or.inr ⟨g,cap,cur,hv,hg,by rw [heap_set_other (ha g (by rw [hv];rfl))];exact hh,rr⟩
theorem own_type {w:World}{b e z:Nat}{v:Value}{n:Nat}{xs:List Value}(h:w.ownsRow b e z v n xs) {k:Nat}(hk:v.ownBlock=some k):∃ c,w.heap[k]? = some (.cells c e (0,0)):=by
 rcases h.2 with⟨rfl,_⟩ | ⟨g,cap,cur,hv,hg,hh,rr⟩
 ·cases hk
 ·subst hv;simp [Value.ownBlock] at hk;subst hk;exact⟨_,hh⟩
theorem own_ne {w:World}{b e z:Nat}{v:Value}{n:Nat}{xs:List Value}(h:w.ownsRow b e z v n xs) {q:Nat}{c:Array Value}{t:TypeId}{f:Nat × Nat}(hq:w.heap[q]? = some (.cells c t f)) (hne:t≠e):∀ k,v.ownBlock=some k→k≠q:=by
 intro k hk he
 obtain⟨c',hc'⟩:=own_type h hk
 subst he
 rw [hc'] at hq
 simp at hq
 exact hne hq.2.1.symm
theorem PSt.cells {p T tv E r A s w}(h:PSt p T tv E r A s w):∃ v,w.cell? ⟨p,0,none⟩=some tv∧w.cell? ⟨p,1,none⟩=some (.int .i64 ((T.length - s.rest.length:Nat):Int))∧w.cell? ⟨p,2,none⟩=some (.int .i64 E)∧w.cell? ⟨p,3,none⟩=some (.int .i64 ((30 - r:Nat):Int))∧w.cell? ⟨p,4,none⟩=some v∧(∀ j,w.frozen? ⟨p,j,none⟩=false):=by
 obtain⟨v,kvs,hb,_⟩:=h.own
 exact⟨v,by simp [World.cell?,hb],by simp [World.cell?,hb],by simp [World.cell?,hb],by simp [World.cell?,hb],by simp [World.cell?,hb],fun j=>by simp [World.frozen?,hb]⟩
end
section
open Go.RowKit
theorem tcells_app (a b:List Tok):tcells (a++b)=tcells a++tcells b:=by simp [tcells]
theorem tcells_get (ts:List Tok) (k:Nat) (t:Tok) (h:ts[k]? = some t) (j:Nat) (hj:j<4):(tcells ts)[k * 4+j]? = t.cells[j]?:=by
 have hk:k<ts.length:=(List.getElem?_eq_some_iff.1 h).1
 have ht:ts[k]=t:=(List.getElem?_eq_some_iff.1 h).2
 have hsplit:ts=ts.take k++(t :: ts.drop (k+1)):=by rw [← ht];simp
 rw [hsplit,tcells_app,List.getElem?_append_right (by rw [tcells_len];simp;omega),tcells_len]
 have hl:(ts.take k).length=k:=by simp;omega
 rw [hl,Nat.add_sub_cancel_left]
 show (t.cells++tcells (ts.drop (k+1)))[j]? = _
 rw [List.getElem?_append_left (by simpa [Tok.cells] using hj)]
theorem own_toks {w:World}{B:Nat}{v:Value}{ts:List Tok}(h:w.ownsRow B 66 4 v ts.length (tcells ts)):∃ a cap,v=.slice a ts.length cap:=by
 rcases h.2 with⟨rfl,h0⟩ | ⟨g,cap,cur,hv,_⟩
 ·exact⟨none,0,by rw [h0]⟩
 ·exact⟨_,_,hv⟩
theorem own_toks_at {w:World}{B:Nat}{a:Option Addr}{n cap:Nat}{ts:List Tok}(h:w.ownsRow B 66 4 (.slice a n cap) ts.length (tcells ts)) (k:Nat) (t:Tok) (hk:ts[k]? = some t) :
  ∃ g,a=some ⟨g,0,none⟩∧B≤g∧w.cell? ⟨g,k * 4,none⟩=some (.int .i64 t.kind)∧w.cell? ⟨g,k * 4+1,none⟩=some (.string t.text)∧w.cell? ⟨g,k * 4+2,none⟩=some (.int .i64 t.num)∧w.cell? ⟨g,k * 4+3,none⟩=some (.int .i64 t.pos):=by
 have hlt:k<ts.length:=(List.getElem?_eq_some_iff.1 hk).1
 rcases h.2 with⟨_,h0⟩ | ⟨g,cap',cur,hv,hg,_⟩
 ·omega
 ·simp only [Value.slice.injEq] at hv
  obtain⟨rfl,rfl,rfl⟩:=hv
  have hc:=h.cells (g:=g) rfl
  have hx:∀ j u,j<4→t.cells[j]? = some u→w.cell? ⟨g,k * 4+j,none⟩=some u:=by
   intro j u hj hu
   have:=hc (k * 4+j) u (by rw [tcells_get ts k t hk j hj];exact hu)
   unfold Addr.add at this
   split at this
   ·rename_i h0
    rw [h0];exact this
   ·simpa using this
  exact⟨g,rfl,hg,hx 0 _ (by omega) rfl,hx 1 _ (by omega) rfl,hx 2 _ (by omega) rfl,hx 3 _ (by omega) rfl⟩
theorem rest_get {p T tv E r A s w}(h:PSt p T tv E r A s w) (k:Nat):T[T.length - s.rest.length+k]? = s.rest[k]?:=by
 have:=h.suffix
 conv=>rhs;rw [this]
 rw [List.getElem?_drop]
theorem rest_le {p T tv E r A s w}(h:PSt p T tv E r A s w):s.rest.length≤T.length:=by
 have:=congrArg List.length h.suffix
 simp at this
 omega
set_option maxHeartbeats 1000000 in
theorem look_any {p T tv E r A s w}(h:PSt p T tv E r A s w) (k:Nat) (hk:k≤10) :
  Calls Tryz.prog 126 #[.pointer (some ⟨p,0,none⟩),.int .i64 (k:Int)] w fun e w'=>e=.returned (.agg #[.int .i64 (look E s k).kind,.string (look E s k).text,.int .i64 (look E s k).num,.int .i64 (look E s k).pos])∧Below w.heap.size w w':=by
 obtain⟨v,c0,c1,c2,c3,c4,cf⟩:=h.cells
 have hp:=h.lt
 have hrl:=rest_le h
 have hfew:=h.few
 obtain⟨ta,tc,rfl⟩:=own_toks h.toks
 by_cases hlt:k<s.rest.length
 ·obtain⟨t,ht⟩:∃ t,s.rest[k]? = some t:=⟨_,List.getElem?_eq_getElem hlt⟩
  have hT:=(rest_get h k).trans ht
  obtain⟨g,rfl,hg,l0,l1,l2,l3⟩:=own_toks_at h.toks _ t hT
  have hgl:=World.block_lt_of_cell? w _ l0
  simp only [] at hgl
  have hlook:look E s k=t:=by simp [look,List.getD,ht]
  rw [hlook]
  have H:=hide h
  clear h
  have hz:((T.length - s.rest.length:Nat):Int)+(k:Int)<(T.length:Int):=by omega
  have hz0:0≤((T.length - s.rest.length:Nat):Int)+(k:Int):=by omega
  generalize (T.length - s.rest.length:Nat)=i at *
  go_enter Tryz.func126,Tryz.ntmps126
  go_wp2
  go_quiet (fail)
  go_wp2
  go_region
  all_goals
   go_wp2
   go_returns
   refine⟨rfl,?_⟩
   (repeat (first | exact Below.refl _ _ | with_reducible assumption | (refine bset ?_ (by first | exact Nat.le_refl _ | (simp;done) | (simp;omega))) | refine bdrewN ?_ | refine bdrew ?_ | refine balloc ?_))
 ·have hlook:look E s k=⟨0,⟨#[]⟩,0,E⟩:=by simp [look,List.getD,List.getElem?_eq_none (Nat.le_of_not_lt hlt)]
  rw [hlook]
  have H:=hide h
  clear h
  have hz:¬ ((T.length - s.rest.length:Nat):Int)+(k:Int)<(T.length:Int):=by omega
  have hz0:0≤((T.length - s.rest.length:Nat):Int)+(k:Int):=by omega
  have hz1:((T.length - s.rest.length:Nat):Int)+(k:Int)≤100010:=by omega
  generalize (T.length - s.rest.length:Nat)=i at *
  go_enter Tryz.func126,Tryz.ntmps126
  go_wp2
  go_quiet (fail)
  go_wp2
  go_returns
  refine⟨rfl,?_⟩
  (repeat (first | exact Below.refl _ _ | with_reducible assumption | (refine bset ?_ (by first | exact Nat.le_refl _ | (simp;done) | (simp;omega))) | refine bdrewN ?_ | refine bdrew ?_ | refine balloc ?_))
theorem look0_any {p T tv E r A s w}(h:PSt p T tv E r A s w) :
  Calls Tryz.prog 126 #[.pointer (some ⟨p,0,none⟩),.int .i64 0] w fun e w'=>e=.returned (.agg #[.int .i64 (look E s 0).kind,.string (look E s 0).text,.int .i64 (look E s 0).num,.int .i64 (look E s 0).pos])∧Below w.heap.size w w':=look_any h 0 (by omega)
theorem look1_any {p T tv E r A s w}(h:PSt p T tv E r A s w) :
  Calls Tryz.prog 126 #[.pointer (some ⟨p,0,none⟩),.int .i64 1] w fun e w'=>e=.returned (.agg #[.int .i64 (look E s 1).kind,.string (look E s 1).text,.int .i64 (look E s 1).num,.int .i64 (look E s 1).pos])∧Below w.heap.size w w':=look_any h 1 (by omega)
theorem isB_contains (E:Nat) (s:PS) (ws:List ByteArray):isB E s ws=Lib.containsS ws (look E s 0).text:=by
 rw [Bool.eq_iff_iff,Lib.containsS_iff]
 simp [isB,List.any_eq_true]
def Words (w:World) (g:Nat) (ws:List ByteArray):Prop:=∀ j,j<ws.length→w.cell? ⟨g,0+j,none⟩=some (.string (ws.getD j ByteArray.empty))
theorem Words.new {w w':World}{g:Nat}{ws:List ByteArray}(h:Words w g ws) (hb:Below w.heap.size w w'):Words w' g ws:=by
 intro j hj
 have h1:=h j hj
 rw [← h1]
 exact hb.cell (World.block_lt_of_cell? w _ h1)
theorem field_text (a c d:Value) (x:ByteArray) (w:World):(Instr.field 66 (.agg #[a,.string x,c,d]) 1).run Tryz.prog w=.ok (.string x) w:=by kernel_rfl
theorem field_pos (a b c:Value) (x:Int) (w:World):(Instr.field 66 (.agg #[a,b,c,.int .i64 x]) 3).run Tryz.prog w=.ok (.int .i64 x) w:=by kernel_rfl
theorem field_kind (b c d:Value) (x:Int) (w:World):(Instr.field 66 (.agg #[.int .i64 x,b,c,d]) 0).run Tryz.prog w=.ok (.int .i64 x) w:=by kernel_rfl
theorem field_num (a b d:Value) (x:Int) (w:World):(Instr.field 66 (.agg #[a,b,.int .i64 x,d]) 2).run Tryz.prog w=.ok (.int .i64 x) w:=by kernel_rfl
theorem contains_any (E:Nat) (s:PS) (ws:List ByteArray) (g c:Nat) (hl:ws.length≤100) (w:World) (hw:Words w g ws) :
  Calls Tryz.prog 125 #[.slice (some ⟨g,0,none⟩) ws.length c,.string (look E s 0).text] w fun e w'=>e=.returned (.bool (isB E s ws))∧w'=w:=by
 have hx:isB E s ws=Lib.containsS (ws.take ws.length) (look E s 0).text:=by rw [List.take_length,isB_contains]
 rw [hx]
 exact Tryz.slices_Contains_string g 0 ws.length c ws _ w (Nat.le_refl _) (by omega) hw
set_option maxHeartbeats 1000000 in
theorem is_any {p T tv E r A s w}(h:PSt p T tv E r A s w) (g c:Nat) (ws:List ByteArray) (hw:Words w g ws) (hl:ws.length≤100) :
  Calls Tryz.prog 98 #[.pointer (some ⟨p,0,none⟩),.slice (some ⟨g,0,none⟩) ws.length c] w fun e w'=>e=.returned (.bool (isB E s ws))∧Below w.heap.size w w':=by
 have HL:=hide (look0_any h)
 have HC:=hide (contains_any E s ws g c hl)
 have HW:=hide hw
 clear hw
 generalize isB E s ws=b at *
 generalize look E s 0=t at *
 generalize ws.length=n at *
 have hf1:=field_text
 go_enter Tryz.func98,Tryz.ntmps98
 go_wp2_with (first
  | (go_at_call 126;refine (uh HL).mono ?_;rintro e w1 ⟨rfl,hb1⟩)
  | (go_at_call 125;refine (uh HC _ ((uh HW).new hb1)).mono ?_;rintro e w2 ⟨rfl,rfl⟩))
 go_returns
 exact⟨rfl,hb1⟩
end
end Go.Proofs.YtdemnolanlfblaaGreatDoor
