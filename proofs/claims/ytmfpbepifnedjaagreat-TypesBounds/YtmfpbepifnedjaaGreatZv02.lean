/- types. -/
import Derived.Test.YtmfpbepifnedjaaGreatZv01
import Derived.Test.YtmfpbepifnedjaaGreatChecked
import Derived.WalkKit
import Derived.WalkMore
import Derived.ScopeJumps
import Derived.Handy
import Derived.Lib.AtoiTie
import Derived.Lib.AtoiErrMem
import Derived.Lib.Builder
import Derived.Shelf.Strings.Prefix
import Derived.Test.YtmfpbepifnedjaaGreatProg
import Derived.Below
import Derived.RowKit
import Derived.Lib.Strings
import Derived.Lib.AtoiAll
import Derived.ProofKit
set_option maxRecDepth 100000
set_option maxHeartbeats 32000000
namespace Go.Proofs.YtmfpbepifnedjaaGreat
section
def tNum:Txt:=[110,117,109,98,101,114]
def tSym:Txt:=[115,121,109,98,111,108]

def asc{α : Type}(l:List (Txt × α))(t:Txt):Option α :=(l.find? fun q=>decide (q.1=t)).map (·.2)
theorem asc_nil{α : Type}(t:Txt):asc ([]:List (Txt × α)) t=none:=rfl
theorem Qck{α : Type}(l m:List (Txt × α))(t:Txt):asc (l++m) t=(asc l t).or (asc m t):=by
 unfold asc;rw[List.find?_append];cases l.find? fun q=>decide (q.1=t)<;>simp
theorem Qez{α : Type}(n:Txt)(v:α)(t:Txt):asc [(n,v)] t=if n=t then some v else none:=by
 unfold asc;by_cases h:n=t<;>simp[h]
theorem Qji{α : Type}(l:List (Txt × α))(n:Txt)(v:α)(t:Txt):asc (l++[(n,v)]) t=match asc l n with|some _=>asc l t|none=>if n=t then some v else asc l t:=by
 rw[Qck,Qez]
 cases h:asc l n with
 |some u=>
  simp only;by_cases e:n=t
  ·subst e;rw[h];rfl
  ·rw[if_neg e];cases asc l t<;>rfl
 |none=>
  simp only;by_cases e:n=t
  ·subst e;rw[h,if_pos rfl];rfl
  ·rw[if_neg e,if_neg e];cases asc l t<;>rfl
def tyRow(ts:List Typ):List (Txt×Nat):=(tNum,1) :: (tSym,2) :: (ts.zipIdx.map fun q=>(q.1.name,3+q.2))
def dcRow(ds:List Dcl):List (Txt×Nat):=ds.zipIdx.map fun q=>(q.1.name,q.2)
def ctRow(ts:List Typ):List (Txt×(Nat×Nat)):=ts.zipIdx.flatMap fun q=>q.1.ctors.zipIdx.map fun c=>(c.1.name,(q.2,c.2))

def tyNo(p:Pg)(t:Txt):Nat:=(asc (tyRow p.types) t).getD 0
def kName(p:Pg)(k:Nat):Txt:=if k=1 then tNum else if k=2 then tSym else if k<3 then [] else ((p.types[k - 3]?).map (·.name)).getD []
def kSub(p:Pg)(k:Nat):Nat:=if k<3 then 0 else ((p.types[k - 3]?).map fun t=>tyNo p t.sub).getD 0

def kInit(p:Pg)(k:Nat):Int:=if k<3 then (k:Int) else match p.types[k - 3]? with|some t=>if t.sub=[] then (k:Int) else -1|none=>0

def root(p:Pg):Nat->Nat->Int
 | 0,_=>-2
 |f+1,k=>if kInit p k = -1 then root p f (kSub p k) else kInit p k
def kBase(p:Pg)(k:Nat):Int:=root p (p.types.length+1) k
theorem Qtb(p:Pg)(k:Nat):kInit p k = -1∨0<=kInit p k:=by
 unfold kInit;split
 ·right;omega
 split
 ·
  split
  ·right;omega
  ·left;rfl
 ·right;omega
theorem Qcm{p:Pg}{k:Nat}(h:kInit p k = -1):3<=k/\k - 3<p.types.length:=by
 unfold kInit at h;split at h
 ·omega
 refine⟨by omega,?_⟩;split at h
 ·rename_i t a;exact(List.getElem?_eq_some_iff.1 a).1
 ·omega
def far(p:Pg):Nat->Nat->Nat
 | 0,k=>k
 |n+1,k=>far p n (kSub p k)
theorem Qdb(p:Pg):∀n k,far p (n+1) k=kSub p (far p n k)
 | 0,_=>rfl
 |n+1,k=>Qdb p n (kSub p k)
theorem Qda(p:Pg):∀m n k,far p (m+n) k=far p n (far p m k)
 | 0,n,k=>by rw[Nat.zero_add];rfl
 |m+1,n,k=>by rw[Nat.add_right_comm];exact Qda p m n (kSub p k)
theorem Qhp(p:Pg):∀f k,root p f k = -2 ↔ ∀i,i<f->kInit p (far p i k) = -1
 | 0,_=>⟨fun _ i h=>absurd h (Nat.not_lt_zero i),fun _=>rfl⟩
 |f+1,k=>by
  unfold root;by_cases h:kInit p k = -1
  ·
   rw[if_pos h,Qhp p f (kSub p k)];constructor
   ·
    intro hh i hi
    cases i with
    |zero=>exact h
    |succ i=>exact hh i (by omega)
   intro hh i hi;exact hh (i+1) (by omega)
  rw[if_neg h];constructor
  ·intro e;rcases Qtb p k with e2|e2<;>omega
  ·intro hh;exact absurd (hh 0 (by omega)) h
theorem pigeon:∀(n:Nat) (g:Nat->Nat),(∀i,i<=n->g i<n) -> ∃i j,i<j/\j<=n/\g i=g j
 | 0,g,h=>absurd (h 0 (Nat.le_refl _)) (Nat.not_lt_zero _)
 |n+1,g,h=>by
  by_cases hc:∃i,i<=n/\g i=g (n+1)
  ·
   obtain⟨i,hi,e⟩:=hc;exact⟨i,n+1,by omega,Nat.le_refl _,e⟩
  have d:∀i,i<=n->g i≠g (n+1):=fun i hi e=>hc ⟨i,hi,e⟩
  obtain⟨i,j,k,l,m⟩:=pigeon n (fun i=>if g i<g (n+1) then g i else g i - 1) (fun i hi=>by
   have a:=h i (by omega);have b:=d i hi;have c:=h (n+1) (Nat.le_refl _);show(if g i<g (n+1) then g i else g i - 1)<n
   split<;>omega)
  refine⟨i,j,k,by omega,?_⟩;have a:=d i (by omega);have b:=d j l;have f:(if g i<g (n+1) then g i else g i - 1)=(if g j<g (n+1) then g j else g j - 1):=m;split at f<;>split at f<;>omega
theorem Qpq(p:Pg)(k:Nat)(h:∀i,i<p.types.length+1->kInit p (far p i k) = -1):∀i,kInit p (far p i k) = -1:=by
 obtain⟨a,b,l,m,f⟩:=pigeon p.types.length (fun i=>far p i k - 3) (fun i c=>(Qcm (h i (by omega))).2);have g:=Qcm (h a (by omega));have j:=Qcm (h b (by omega));have e:far p a k=far p b k:=by have n:far p a k - 3=far p b k - 3:=f;omega
 intro i
 induction i using Nat.strongRecOn with
 |ind i ih=>
  by_cases c:i<p.types.length+1
  ·exact h i c
  have q:far p i k=far p (a+(i - b)) k:=by
   have d:i=b+(i - b):=by omega
   rw[Qda,e,<- Qda,<- d]
  rw[q];exact ih _ (by omega)
theorem Qfg(p:Pg):∀f k r,root p f k=r->r ≠ -2 -> ∃i,i<f/\(∀j,j<i->kInit p (far p j k) = -1)/\kInit p (far p i k)=r/\r ≠ -1
 | 0,k,r,h,hn=>absurd h.symm hn
 |f+1,k,r,h,hn=>by
  unfold root at h;by_cases hk:kInit p k = -1
  ·
   rw[if_pos hk]at h;obtain⟨i,h1,h2,h3⟩:=Qfg p f (kSub p k) r h hn;refine⟨i+1,by omega,fun j a=>?_,h3⟩
   cases j with
   |zero=>exact hk
   |succ j=>exact h2 j (by omega)
  rw[if_neg hk]at h;exact⟨0,by omega,fun j a=>absurd a (Nat.not_lt_zero _),h,h▸hk⟩
theorem Qro(p:Pg):∀i f k,i<f->(∀j,j<i->kInit p (far p j k) = -1)->kInit p (far p i k) ≠ -1->root p f k=kInit p (far p i k)
 | 0,f+1,k,_,_,h=>by
  unfold root;exact if_neg h
 |i+1,f+1,k,hf,h1,h2=>by
  unfold root;rw[if_pos (show kInit p k = -1 from h1 0 (by omega))];exact Qro p i f (kSub p k) (by omega) (fun j hj=>h1 (j+1) (by omega)) h2
theorem Qih(p:Pg)(i k:Nat)(h1:∀j,j<i->kInit p (far p j k) = -1)(h2:kInit p (far p i k) ≠ -1):kBase p k=kInit p (far p i k):=by
 by_cases a:i<p.types.length+1
 ·exact Qro p i _ k a h1 h2
 ·exact absurd (Qpq p k (fun j b=>h1 j (by omega)) i) h2
theorem Qeg(p:Pg)(k:Nat):kBase p k = -2 ↔ ∀i,kInit p (far p i k) = -1:=by
 unfold kBase;rw[Qhp];exact⟨Qpq p k,fun h i _=>h i⟩
theorem Qfb{p:Pg}{k:Nat}(h:kInit p k ≠ -1):kBase p k=kInit p k:=Qih p 0 k (fun _ a=>absurd a (Nat.not_lt_zero _)) h
theorem Qfc{p:Pg}{k:Nat}(h:kInit p k = -1):kBase p k=kBase p (kSub p k):=by
 by_cases a:kBase p (kSub p k) = -2
 ·
  rw[a,Qeg];intro i
  cases i with
  |zero=>exact h
  |succ i=>exact(Qeg p (kSub p k)).1 a i
 obtain⟨i,f,c,b,d⟩:=Qfg p _ _ _ rfl a
 have e:=Qih p (i+1) k (fun j g=>by
  cases j with
  |zero=>exact h
  |succ j=>exact c j (by omega)) (by show kInit p (far p i (kSub p k)) ≠ -1;rw[b];exact d)
 rw[e];exact b
theorem Qnt{p:Pg}{k m:Nat}(hm:0<m)(h:∀i,i<m->kInit p (far p i k) = -1)(e:far p m k=k):kBase p k = -2:=by
 rw[Qeg];intro i
 induction i using Nat.strongRecOn with
 |ind i ih=>
  by_cases b:i<m
  ·exact h i b
  have q:far p i k=far p (i - m) k:=by
   have a:i=m+(i - m):=by omega
   rw[a,Qda,e];congr 1;omega
  rw[q];exact ih _ (by omega)
theorem Qfn(p:Pg)(k:Nat):kBase p k ≠ -1:=by
 by_cases h:kBase p k = -2
 ·rw[h];decide
 obtain⟨_,_,_,e,a⟩:=Qfg p _ _ _ rfl h;exact a
def hasB(b:Int):Bool:=!(decide (b=0) || decide (b = -2))
def baseP(p:Pg)(t:Txt):Option Txt:=if hasB (kBase p (tyNo p t))=true then some (kName p (kBase p (tyNo p t)).toNat) else none

def upTo(p:Pg)(tq:Nat)(b:Int):Nat->Nat->Bool
 | 0,k=>decide (k=tq)
 |f+1,k=>if k=tq then true else if (k:Int)=b then false else upTo p tq b f (kSub p k)
def belowP(p:Pg)(a b:Txt):Bool:=hasB (kBase p (tyNo p a))&&upTo p (tyNo p b) (kBase p (tyNo p a)) (p.types.length+1) (tyNo p a)
def declP2(p:Pg)(t:Txt):Option Dcl:=(asc (dcRow p.decls) t).bind fun i=>p.decls[i]?
def ctorP2(p:Pg)(t:Txt):Option (Ctr×Txt):=(asc (ctRow p.types) t).bind fun q=>(p.types[q.1]?).bind fun ty=>(ty.ctors[q.2]?).map fun c=>(c,ty.name)

abbrev Flt:=Int×Int
def hasP(p:Pg)(t b:Txt):Bool:=decide (baseP p t=some b)
def alikeP(p:Pg)(a b:Txt):Bool:=decide (baseP p a=baseP p b)
def typV(vs:List Fld)(s:Txt):Option Txt:=(vs.find? fun v=>decide (v.name=s)).map (·.type)
def openP(vs:List Fld)(x:Ex):Bool:=decide (x.kind=1)&&(typV vs x.txt).isNone
def putT(vs:List Fld)(s t:Txt):List Fld:=vs.map fun v=>if v.name=s then ⟨v.name,t⟩ else v
def opsA:List Txt:=[[43],[45],[42],[47],[37]]
def opsC:List Txt:=[[61],[33,61],[60],[60,61],[62],[62,61]]
mutual

def valP(p:Pg)(vs:List Fld):Ex->Except Flt Txt
 | .mk k _ s ks a=>
  if k=1 then (match typV vs s with|some t=>.ok t|none=>.error (15,a))
  else if k=4 then .error (15,a)
  else if k=2 then .ok tNum
  else if k=3 then .ok tSym
  else if k=5 then (if ks.length≠2∨s∉opsA then .error (1,a) else match opnP p vs ks with | .ok _=>.ok tNum | .error f=>.error f)
  else if k = 6 then (match ctorP2 p s with
   |none=>.error (6,a)
   |some (c,sum)=>if ks.length≠c.fields.length then .error (14,a) else match fitsP p vs ks c.fields with | .ok _=>.ok sum | .error f=>.error f)
  else .error (1,a)

def opnP(p:Pg)(vs:List Fld):List Ex->Except Flt Unit
 | []=>.ok ()
 |x :: xs=>match valP p vs x with
  | .error f=>.error f
  | .ok t=>if hasP p t tNum=true then opnP p vs xs else .error (13,x.at_)

def fitsP(p:Pg)(vs:List Fld):List Ex->List Fld->Except Flt Unit
 | [],_=>.ok ()
 |_ :: _,[]=>.ok ()
 |x :: xs,f :: fs=>match valP p vs x with
  | .error e=>.error e
  | .ok own=>if ((decide (x.kind=2) || decide (x.kind=3))&&hasP p f.type own) || belowP p own f.type then fitsP p vs xs fs else .error (13,x.at_)
end
def fitP(p:Pg)(vs:List Fld)(x:Ex)(t:Txt):Except Flt Unit:=match valP p vs x with
  | .error e=>.error e
  | .ok own=>if ((decide (x.kind=2) || decide (x.kind=3))&&hasP p t own) || belowP p own t then .ok () else .error (13,x.at_)
def likeP(p:Pg)(vs:List Fld)(x:Ex)(t:Txt):Except Flt Unit:=match valP p vs x with
  | .error e=>.error e
  | .ok own=>if alikeP p own t=true then .ok () else .error (13,x.at_)
def narP(p:Pg)(vs:List Fld)(x:Ex)(t:Txt):Except Flt (List Fld):=match typV vs x.txt with
 |none=>.ok (vs++[⟨x.txt,t⟩])
 |some own=>if belowP p own t=true then .ok vs else if belowP p t own=true then .ok (putT vs x.txt t) else .error (13,x.at_)
mutual

def patP(p:Pg):Ex->Txt->List Fld->Except Flt (List Fld)
 | .mk k n s ks a,t,vs=>
  if k=1 then narP p vs (.mk k n s ks a) t
  else if k=4 then .ok vs
  else if k=2 then (if hasP p t tNum=true then .ok vs else .error (13,a))
  else if k=3 then (if hasP p t tSym=true then .ok vs else .error (13,a))
  else if k=5 then (if hasP p t tNum=true then (if ks.length≠2∨s∉opsA then .error (1,a) else match opnP p vs ks with | .ok _=>.ok vs | .error f=>.error f) else .error (13,a))
  else if k = 6 then (match ctorP2 p s with
   |none=>.error (6,a)
   |some (c,sum)=>if hasP p t sum=false then .error (13,a) else if ks.length≠c.fields.length then .error (14,a) else patsP p ks c.fields vs)
  else .error (1,a)
def patsP(p:Pg):List Ex->List Fld->List Fld->Except Flt (List Fld)
 | [],_,vs=>.ok vs
 |_ :: _,[],vs=>.ok vs
 |x :: xs,f :: fs,vs=>match patP p x f.type vs with
  | .error e=>.error e
  | .ok vs'=>patsP p xs fs vs'
end
def likesP(p:Pg)(vs:List Fld):List Ex->List Fld->Except Flt Unit
 |x :: xs,f :: fs=>match likeP p vs x f.type with
  | .error e=>.error e
  | .ok _=>likesP p vs xs fs
 |_,_=>.ok ()
def watP(p:Pg)(a:Atm):Flt:=match declP2 p a.rel with
 |none=>(6,a.at_)
 |some d=>if a.args.length≠d.cols.length then (14,a.at_) else (0,0)
def watsP(p:Pg):List Lt->Flt
 | []=>(0,0)
 |l :: ls=>if l.kind≠1/\l.kind≠2 then watsP p ls else if (watP p l.atom).1≠0 then watP p l.atom else watsP p ls
def colsP(p:Pg)(a:Atm):List Fld:=((declP2 p a.rel).map (·.cols)).getD []
def sidesP(p:Pg)(l:Lt)(a b:Txt):Except Flt Unit:=
 if l.op=[61]∨l.op=[33,61] then (if alikeP p a b=true then .ok () else .error (13,l.r.at_))
 else if hasP p a tNum=false then .error (13,l.l.at_)
 else if hasP p b tNum=false then .error (13,l.r.at_) else .ok ()
def cmpP(p:Pg)(l:Lt)(vs:List Fld):Except Flt (List Fld):=
 if l.op∉opsC then .error (1,l.at_)
 else if l.op=[61]/\openP vs l.l=true then (match valP p vs l.r with | .error e=>.error e | .ok t=>.ok (vs++[⟨l.l.txt,t⟩]))
 else if l.op=[61]/\openP vs l.r=true then (match valP p vs l.l with | .error e=>.error e | .ok t=>.ok (vs++[⟨l.r.txt,t⟩]))
 else match valP p vs l.l with
  | .error e=>.error e
  | .ok a=>match valP p vs l.r with
   | .error e=>.error e
   | .ok b=>match sidesP p l a b with
    | .error e=>.error e
    | .ok _=>.ok vs
def litP2(p:Pg)(l:Lt)(vs:List Fld):Except Flt (List Fld):=
 if l.kind=1 then patsP p l.atom.args (colsP p l.atom) vs
 else if l.kind=2 then (match likesP p vs l.atom.args (colsP p l.atom) with | .ok _=>.ok vs | .error e=>.error e)
 else if l.kind=3 then cmpP p l vs
 else .error (1,l.at_)
def litsP(p:Pg):List Lt->List Fld->Except Flt (List Fld)
 | [],vs=>.ok vs
 |l :: ls,vs=>match litP2 p l vs with
  | .error e=>.error e
  | .ok vs'=>litsP p ls vs'

def infP(p:Pg)(c:Cls):Except Flt (List Fld):=
 if (watP p c.head).1≠0 then .error (watP p c.head)
 else if (watsP p c.body).1≠0 then .error (watsP p c.body)
 else match litsP p c.body [] with
  | .error e=>.error e
  | .ok vs=>match fitsP p vs c.head.args (colsP p c.head) with
   | .error e=>.error e
   | .ok _=>.ok vs
def twiceP:List Fld->List Txt->Bool
 | [],_=>false
 |f :: fs,met=>decide (f.name∈met) || twiceP fs (f.name :: met)
def wNameP(p:Pg):List (Typ×Nat)->Flt
 | []=>(0,0)
 |(t,i) :: r=>if t.name=tNum∨t.name=tSym then (1,t.at_)
  else if tyNo p t.name≠3+i∨(t.ctors.zipIdx.any fun c=>decide (asc (ctRow p.types) c.1.name≠some (i,c.2)) || twiceP c.1.fields [])=true then (11,t.at_) else wNameP p r
def noneP(p:Pg)(fs:List Fld):Bool:=fs.any fun f=>decide (tyNo p f.type=0)
def wTypeP(p:Pg):List (Typ×Nat)->Flt
 | []=>(0,0)
 |(t,i) :: r=>if (t.sub≠[]/\tyNo p t.sub=0)∨(t.ctors.any fun c=>noneP p c.fields)=true then (6,t.at_)
  else if kBase p (3+i) = -2 then (12,t.at_) else wTypeP p r
def wDeclP(p:Pg):List (Dcl×Nat)->Flt
 | []=>(0,0)
 |(d,i) :: r=>if asc (dcRow p.decls) d.name≠some i∨twiceP d.cols []=true then (11,d.at_)
  else if noneP p d.cols=true then (6,d.at_) else wDeclP p r
def wClauseP(p:Pg):List Cls->Flt
 | []=>(0,0)
 |c :: r=>match infP p c with | .error e=>e | .ok _=>wClauseP p r
def checkP(p:Pg):Flt:=
 match p.comps,p.inits with
 |c :: _,_=>(1,c.2.2.2)
 | [],i :: _=>(1,i.at_)
 | [],[]=>
  if (wNameP p p.types.zipIdx).1≠0 then wNameP p p.types.zipIdx
  else if (wTypeP p p.types.zipIdx).1≠0 then wTypeP p p.types.zipIdx
  else if (wDeclP p p.decls.zipIdx).1≠0 then wDeclP p p.decls.zipIdx
  else wClauseP p p.clauses
end
section
open Go.RowKit
theorem hide{p:Prop}(h:p):Hid p:=h
theorem Qa{p:Prop}(h:Hid p):p:=h.out
theorem Ya{p q:Prop}(a:p)(b:q):p/\q:=⟨a,b⟩
theorem Qdd{a b:Bool}(h:a=b):Ending.returned (.bool a) = .returned (.bool b):=by rw[h]
theorem Qci{a b:Int}(h:a=b):Ending.returned (Ji a) = .returned (Ji b):=by rw[h]
theorem Qce(n:Int)(w:World):Calls Tryz.prog 89 #[.int .u8 n] w fun e w'=>e = .returned (.bool (isL n))/\w'=w:=by
 go_enter Tryz.func89,Tryz.ntmps89
 go_wp2
 all_goals
  go_ret;refine⟨Qdd ?_,rfl⟩;unfold isL;rw[Bool.eq_iff_iff];simp<;>omega
theorem Qbn(n:Int)(w:World):Calls Tryz.prog 52 #[.int .u8 n] w fun e w'=>e = .returned (.bool (isD n))/\w'=w:=by
 go_enter Tryz.func52,Tryz.ntmps52
 go_wp2
 all_goals
  go_ret;refine⟨Qdd ?_,rfl⟩;unfold isD;rw[Bool.eq_iff_iff];simp<;>omega
theorem Qar(s:ByteArray)(k:Nat)(h:k<s.size):s.data.toList.drop k=s[k] :: s.data.toList.drop (k+1):=by
 rw[List.drop_eq_getElem_cons (by simpa using h)];rfl
theorem Qby(s:ByteArray)(k:Nat)(h:s.size<=k):s.data.toList.drop k=[]:=
 List.drop_eq_nil_of_le (by rw[Array.length_toList];exact h)
theorem Qbp(s:ByteArray)(k:Nat):(s.data.toList.drop k).length=s.size - k:=by rw[List.length_drop,Array.length_toList];rfl
theorem Qfu{c:UInt8}{k:Nat}(hk:k<256):bv c=k↔c=UInt8.ofNat k:=by
 unfold bv;constructor
 ·
  intro h;exact UInt8.toNat_inj.1 (by rw[UInt8.toNat_ofNat',Nat.mod_eq_of_lt (by omega)];omega)
 rintro rfl;rw[UInt8.toNat_ofNat',Nat.mod_eq_of_lt (by omega)]
def intOf:Value->Int | .int _ q=>q|_=>0
theorem Qpj{s:ByteArray}{k:Nat}(h:k<s.size)(h0:bv s[k]=48):dgLen (s.data.toList.drop k)=1:=by
 have e:s[k]=48:=(Qfu (k:=48) (by omega)).1 h0;rw[Qar s k h,Qic,if_pos e]
theorem Qmc{s:ByteArray}{k:Nat}(h:k<s.size)(h0:¬bv s[k]=48):dgLen (s.data.toList.drop k)=dcn (s.data.toList.drop k):=by
 rw[Qar s k h,Qic,if_neg];intro e;exact h0 (by rw[e];rfl)
def escI(n:Int):Int×Bool:=if n=34∨n=92 then (n,true) else if n=110 then (10,true) else if n=116 then (9,true) else (0,false)
def escR:Txt->Int×Bool
 | []=>(0,false)
 |c :: _=>escI (bv c)
theorem at_pre(s:ByteArray)(k:Nat)(t:ByteArray)(h:k+t.size<=s.size):((s.extract k (k+t.size)).toList==t.toList)=pre t.data.toList (s.data.toList.drop k):=by
 rw[Lib.toList_data,Lib.toList_data];unfold pre;rw[<- Lib.hasPrefix_of_take];have e:(s.extract k (k+t.size)).data.toList=(s.data.toList.drop k).take t.data.toList.length:=by
  have:(s.extract k (k+t.size)).data=s.data.extract k (k+t.size):=by simp
  rw[this,Array.toList_extract];simp[List.take_drop]
 rw[e];have a:decide (t.data.toList.length<=(s.data.toList.drop k).length)=true:=by
  rw[decide_eq_true_eq,Qbp,Array.length_toList];have:t.size=t.data.size:=rfl;omega
 rw[a,Bool.true_and]
theorem Qrc{s:ByteArray}{k:Nat}{t:ByteArray}(h:¬k+t.size<=s.size)(hk:k<=s.size):pre t.data.toList (s.data.toList.drop k)=false:=by
 cases a:pre t.data.toList (s.data.toList.drop k) with
 |false=>rfl
 |true=>
  have:=Qff a;rw[Qbp,Array.length_toList]at this;have:t.size=t.data.size:=rfl;omega
theorem at_any(s:ByteArray)(k:Nat)(t:ByteArray)(hk:k<=s.size)(hs:s.size<=140737488355328)(ht:t.size<=1000)(w:World):
  Calls Tryz.prog 87 #[.string s,Ji (k:Int),.string t] w fun e w'=>e = .returned (.bool (pre t.data.toList (s.data.toList.drop k)))/\w'=w:=by
 by_cases h:k+t.size<=s.size
 ·
  have H:=hide (at_pre s k t h);have a:((k:Int)+(t.size:Int)).toNat=k+t.size:=by omega
  have c:∀w:World,(Instr.slice 9 (.string s) (some (Ji (k:Int))) (some (Ji ((k:Int)+(t.size:Int)))) none).run Tryz.prog w = .ok (.string (s.extract k (k+t.size))) w:=by
   intro w;have:=run_slice_string (P:=Tryz.prog) w 9 s .i64 .i64 (k:Int) ((k:Int)+(t.size:Int)) Tryz.underlying9 (by omega) (by omega) (by omega);rw[a]at this;exact this
  obtain⟨u,b⟩:=JF (s.extract k (k+t.size));rw[b]at c H;clear a b;go_enter Tryz.func87,Tryz.ntmps87
  go_wp2
  go_ret;exact⟨Qdd (Qa H),rfl⟩
 have H:=hide (Qrc h hk);go_enter Tryz.func87,Tryz.ntmps87
 go_wp2
 go_ret;exact⟨Qdd (Qa H).symm,rfl⟩
def wdAt(s:ByteArray)(i n:Nat):Nat:=if n=0 then wdLen (s.data.toList.drop i) else n+wcn (s.data.toList.drop (i+n))
theorem Qkn{s:ByteArray}{i n:Nat}(h:i+n<s.size)(hc:isL (bv s[i+n])=true∨(0<n/\isD (bv s[i+n])=true)):wdAt s i n=wdAt s i (n+1):=by
 unfold wdAt;rw[if_neg (by omega:¬n+1=0)];by_cases a:n=0
 ·
  subst a;rw[if_pos rfl];rcases hc with hc|hc
  ·
   simp only[Nat.add_zero,Nat.zero_add]at hc ⊢;rw[Qar s i (by omega),Qgr,if_pos hc];omega
  ·exact absurd hc.1 (by omega)
 rw[if_neg a,Qar s (i+n) h];have:inW (bv s[i+n])=true:=by
  rcases hc with hc|hc
  ·exact Qpy hc
  ·exact inW_D hc.2
 have e:wcn (s[i+n] :: s.data.toList.drop (i+n+1))=wcn (s.data.toList.drop (i+n+1))+1:=by simp[wcn,this]
 have b:i+(n+1)=i+n+1:=rfl;rw[e,b];omega
theorem Qiy{s:ByteArray}{i n:Nat}(h:∀hlt:i+n<s.size,isL (bv s[i+n])=false/\(0<n->isD (bv s[i+n])=false)):wdAt s i n=n:=by
 unfold wdAt;by_cases hlt:i+n<s.size
 ·
  obtain⟨b,c⟩:=h hlt;by_cases a:n=0
  ·
   subst a;rw[if_pos rfl];simp only[Nat.add_zero]at b hlt;rw[Qar s i hlt,Qgr,if_neg (by simp[b])]
  rw[if_neg a,Qar s (i+n) hlt];have:inW (bv s[i+n])=false:=by unfold inW;rw[b,c (by omega)];rfl
  simp[wcn,this]
 by_cases a:n=0
 ·
  subst a;rw[if_pos rfl,Qby s i (by omega)];rfl
 ·rw[if_neg a,Qby s (i+n) (by omega)];rfl
theorem Qkg(s:ByteArray)(k:Nat)(hk:k<=s.size)(hs:s.size<=140737488355328)(w:World):
  Calls Tryz.prog 88 #[.string s,Ji (k:Int)] w fun e w'=>e = .returned (Ji (wdLen (s.data.toList.drop k):Int))/\w'=w:=by
 go_enter Tryz.func88,Tryz.ntmps88
 go_wp2
 go_loop [5] (fun i=>∃m:Nat,k+m<=s.size/\i = Ji (m:Int)/\Hid (wdLen (s.data.toList.drop k)=wdAt s k m)) (fun i=>s.size - (intOf i).toNat)
 case atStart=>exact⟨0,by omega,rfl,hide rfl⟩
 obtain⟨m,g,rfl,b⟩:=hrel;by_cases d:k+m<s.size
 rotate_left
 ·
  go_wp2
  go_ret;exact⟨Qci (by have:=Qa b;have:=Qiy (s:=s) (i:=k) (n:=m) (fun h=>absurd h d);omega),rfl⟩
 cases a:isL (s[k+m].toNat:Int) with
 |true=>
  go_wp2_with (go_at_call 89;refine(Qce _ _).mono ?_;rintro e w'⟨rfl,rfl⟩;rw[a])
  go_round
  case rel=>exact⟨m+1,by omega,by go_num,hide ((Qa b).trans (Qkn d (.inl a)))⟩
  case measure=>simp[intOf];omega
 |false=>
  by_cases f:0<m
  ·
   cases c:isD (s[k+m].toNat:Int) with
   |true=>
    go_wp2_with (first
     |(go_at_call 89;refine(Qce _ _).mono ?_;rintro e w'⟨rfl,rfl⟩;rw[a])
     |(go_at_call 52;refine(Qbn _ _).mono ?_;rintro e w'⟨rfl,rfl⟩;rw[c]))
    go_round
    case rel=>exact⟨m+1,by omega,by go_num,hide ((Qa b).trans (Qkn d (.inr ⟨f,c⟩)))⟩
    case measure=>simp[intOf];omega
   |false=>
    go_wp2_with (first
     |(go_at_call 89;refine(Qce _ _).mono ?_;rintro e w'⟨rfl,rfl⟩;rw[a])
     |(go_at_call 52;refine(Qbn _ _).mono ?_;rintro e w'⟨rfl,rfl⟩;rw[c]))
    go_ret;exact⟨Qci (by have:=Qa b;have:=Qiy (s:=s) (i:=k) (n:=m) (fun _=>⟨a,fun _=>c⟩);omega),rfl⟩
  go_wp2_with (go_at_call 89;refine(Qce _ _).mono ?_;rintro e w'⟨rfl,rfl⟩;rw[a]);go_ret;exact⟨Qci (by have:=Qa b;have:=Qiy (s:=s) (i:=k) (n:=m) (fun _=>⟨a,fun h=>absurd h f⟩);omega),rfl⟩
end
end Go.Proofs.YtmfpbepifnedjaaGreat
namespace Go.Proofs.YtmfpbepifnedjaaGreat
section
open Go.RowKit
theorem Qee(s:ByteArray)(a:Int)(k:Nat)(t:ByteArray)(b:Bool)(ha:a=(k:Int))(hb:pre t.data.toList (s.data.toList.drop k)=b)(hk:k<=s.size)(hs:s.size<=140737488355328)(ht:t.size<=1000)(w:World):
    Calls Tryz.prog 87 #[.string s,Ji a,.string t] w fun e w'=>e = .returned (.bool b)/\w'=w:=by
  subst ha hb;exact at_any s k t hk hs ht w
theorem Qes(s:ByteArray)(a:Int)(k n:Nat)(ha:a=(k:Int))(hn:wdLen (s.data.toList.drop k)=n)(hk:k<=s.size)(hs:s.size<=140737488355328)(w:World):
    Calls Tryz.prog 88 #[.string s,Ji a] w fun e w'=>e = .returned (Ji (n:Int))/\w'=w:=by
  subst ha hn;exact Qkg s k hk hs w
theorem pre1{c:UInt8}{r:Txt}:pre [c] r=true ↔ ∃t,r=c :: t:=by
  unfold pre Lib.hasPrefix
  cases r with
  |nil=>simp
  |cons d u=>
    simp only[List.isPrefixOf,Bool.and_true,beq_iff_eq];constructor
    ·rintro rfl;exact⟨u,rfl⟩
    ·rintro⟨t,h⟩;injection h with h _;exact h.symm
theorem Qlr{s:ByteArray}{k:Nat}{c:UInt8}(h:pre [c] (s.data.toList.drop k)=true):∃hk:k<s.size,s[k]=c:=by
  obtain⟨t,a⟩:=pre1.1 h;by_cases hk:k<s.size
  · rw[Qar s k hk]at a
    exact⟨hk,by injection a⟩
  · rw[Qby s k (by omega)]at a
    cases a
def rnm(r:Txt):Nat:=if wdLen r=0 then 0 else nmLen r
def rnmAt(s:ByteArray)(k n:Nat):Nat:=if n=0 then 0 else n+nmLen (s.data.toList.drop (k+n))
theorem Qrn(s:ByteArray)(k:Nat):rnm (s.data.toList.drop k)=rnmAt s k (wdLen (s.data.toList.drop k)):=by
  unfold rnm rnmAt;split
  ·rfl
  ·rw[nm_wd (by omega),List.drop_drop]
theorem Qqv{s:ByteArray}{k:Nat}(h:¬wdLen (s.data.toList.drop k)=0):noW (s.data.toList.drop (k+wdLen (s.data.toList.drop k)))=true:=by
  rw[<- List.drop_drop];exact Quy (by omega)
theorem rnm_go{s:ByteArray}{k n:Nat}(h0:0<n)(hp:pre [46] (s.data.toList.drop (k+n))=true)(hw:0<wdLen (s.data.toList.drop (k+n+1))):
    rnmAt s k n=rnmAt s k (n+(1+wdLen (s.data.toList.drop (k+n+1))))/\noW (s.data.toList.drop (k+(n+(1+wdLen (s.data.toList.drop (k+n+1))))))=true:=by
  obtain⟨a,c⟩:=Qlr hp;have e:s.data.toList.drop (k+n)=46 :: s.data.toList.drop (k+n+1):=by rw[Qar s _ a,c]
  have b:k+(n+(1+wdLen (s.data.toList.drop (k+n+1))))=(k+n+1)+wdLen (s.data.toList.drop (k+n+1)):=by omega
  unfold rnmAt;rw[if_neg (by omega),if_neg (by omega),e,nm_go hw,b,<- List.drop_drop (i:=wdLen (s.data.toList.drop (k+n+1))) (j:=k+n+1)];exact⟨by omega,Quy hw⟩
theorem Qrm{s:ByteArray}{k n:Nat}(hn:noW (s.data.toList.drop (k+n))=true)(h:pre [46] (s.data.toList.drop (k+n))=true->wdLen (s.data.toList.drop (k+n+1))=0):rnmAt s k n=n:=by
  unfold rnmAt;split
  ·omega
  · rw[nm_end hn];· omega
    intro t a;have b:pre [46] (s.data.toList.drop (k+n))=true:=pre1.2 ⟨t,a⟩;obtain⟨c,_⟩:=Qlr b;have:=h b;rw[Qar s _ c]at a;injection a with _ h2
    rw[<- h2];exact this
theorem Qsh(s:ByteArray)(k:Nat)(hk:k<=s.size):k+wdLen (s.data.toList.drop k)<=s.size:=by
  have:=wd_le (s.data.toList.drop k);rw[Qbp]at this;omega
def RNm(s:ByteArray)(k n:Nat):Prop:=k+n<=s.size/\rnm (s.data.toList.drop k)=rnmAt s k n/\(n=0∨noW (s.data.toList.drop (k+n))=true)
theorem Qrl(s:ByteArray)(k:Nat)(hk:k<=s.size)(hs:s.size<=140737488355328)(w:World):
    Calls Tryz.prog 51 #[.string s,Ji (k:Int)] w fun e w'=>e = .returned (Ji (rnm (s.data.toList.drop k):Int))/\w'=w:=by
  obtain⟨j,b⟩:=JF (wdLen (s.data.toList.drop k));have t:Hid (RNm s k j):=by
    refine hide ⟨by rw[<- b];exact Qsh s k hk,by rw[<- b];exact Qrn s k,?_⟩;by_cases h:j=0
    ·exact .inl h
    ·exact .inr (by rw[<- b];exact Qqv (by rw[b];exact h))
  have r:=hide b;clear b;go_enter Tryz.func51,Tryz.ntmps51;go_wp2_with (go_at_call 88;refine(Qes s _ k j rfl (Qa r) hk hs _).mono ?_;rintro e w'⟨rfl,rfl⟩)
  go_loop [5] (fun i=>∃n:Nat,i = Ji (n:Int)/\Hid (RNm s k n)) (fun i=>s.size - (intOf i).toNat)
  case atStart=>exact⟨j,rfl,t⟩
  obtain⟨n,rfl,d⟩:=hrel;have y:=(Qa d).1;by_cases v:0<n
  · cases g:pre [46] (s.data.toList.drop (k+n)) with
    |true=>
      obtain⟨z,x⟩:=Qlr g;clear x;obtain⟨m,p⟩:=JF (wdLen (s.data.toList.drop (k+n+1)));have f:=hide p;have q:=Qsh s (k+n+1) (by omega);rw[p]at q;have c:=hide g;clear p g;by_cases hw:0<m
      · go_wp2_with (first
          |(go_at_call 87;refine(Qee s _ (k+n) ⟨#[46]⟩ true (by omega) (Qa c) (by omega) hs (by decide) _).mono ?_;rintro e w'⟨rfl,rfl⟩)
          |(go_at_call 88;refine(Qes s _ (k+n+1) m (by omega) (Qa f) (by omega) hs _).mono ?_;rintro e w'⟨rfl,rfl⟩))
        go_round
        case rel=>
          have a:=Qa d;have o:=rnm_go v (Qa c) (by rw[Qa f];exact hw);rw[Qa f]at o;exact⟨n+(1+m),by go_num,hide ⟨by omega,a.2.1.trans o.1,.inr o.2⟩⟩
        case measure=>simp[intOf];omega
      · go_wp2_with (first
          |(go_at_call 87;refine(Qee s _ (k+n) ⟨#[46]⟩ true (by omega) (Qa c) (by omega) hs (by decide) _).mono ?_;rintro e w'⟨rfl,rfl⟩)
          |(go_at_call 88;refine(Qes s _ (k+n+1) m (by omega) (Qa f) (by omega) hs _).mono ?_;rintro e w'⟨rfl,rfl⟩))
        go_ret;have a:=Qa d;have l:noW (s.data.toList.drop (k+n))=true:=by
          rcases a.2.2 with h|h
          ·omega
          ·exact h
        exact⟨Qci (by rw[a.2.1,Qrm l (fun _=>by rw[Qa f];omega)]),rfl⟩
    |false=>
      have c:=hide g;clear g;go_wp2_with (go_at_call 87;refine(Qee s _ (k+n) ⟨#[46]⟩ false (by omega) (Qa c) (by omega) hs (by decide) _).mono ?_;rintro e w'⟨rfl,rfl⟩);go_ret;have a:=Qa d;have l:noW (s.data.toList.drop (k+n))=true:=by
        rcases a.2.2 with h|h
        ·omega
        ·exact h
      exact⟨Qci (by rw[a.2.1,Qrm l (fun h=>by rw[Qa c]at h;cases h)]),rfl⟩
  · go_wp2
    go_ret;have a:=Qa d;have u:n=0:=by omega
    subst u;exact⟨Qci (by rw[a.2.1];rfl),rfl⟩
def nameP(l:Txt):Bool:=decide (l≠[])&&decide (l.length<=64)&&decide (wdLen l≠0)&&decide (nmLen l=l.length)
theorem Qcu(s:ByteArray):s.size=s.data.toList.length:=by rw[Array.length_toList];rfl
theorem Qfw{s:ByteArray}(h:0<s.size):s.data.toList=s[0] :: s.data.toList.drop 1:=by
  have:=Qar s 0 h;rwa [List.drop_zero]at this
theorem Qme{s:ByteArray}(h:¬0<s.size):s=⟨#[]⟩:=ByteArray.ext (Array.eq_empty_of_size_eq_zero (by have:s.size=s.data.size:=rfl;omega))
theorem Qv(s:ByteArray)(hs:s.size<=140737488355328)(w:World):
    Calls Tryz.prog 88 #[.string s,Ji 0] w fun e w'=>e = .returned (Ji (wdLen s.data.toList:Int))/\w'=w:=by
  have:=Qkg s 0 (Nat.zero_le _) hs w;rw[List.drop_zero]at this;exact this
def wordP(l:Txt):Bool:=decide (l≠[])&&decide (wdLen l=l.length)&&decide (l.length<=64)
theorem Qke(s:ByteArray)(hs:s.size<=140737488355328)(w:World):
    Calls Tryz.prog 92 #[.string s] w fun e w'=>e = .returned (.bool (wordP s.data.toList))/\w'=w:=by
  by_cases c:0<s.size
  · have f:s.toList.isEmpty=false:=by rw[Lib.toList_data,Qfw c];rfl
    have H:=hide (show wordP s.data.toList=(decide (wdLen s.data.toList=s.size)&&decide (s.size<=64)) by
      unfold wordP;rw[decide_eq_true (by rw[Qfw c];simp),<- Qcu,Bool.true_and])
    go_enter Tryz.func92,Tryz.ntmps92;by_cases a:wdLen s.data.toList=s.size
    · have d:((wdLen s.data.toList:Int)==(s.size:Int))=true:=by rw[beq_iff_eq,a]
      have b:=hide a;clear a;go_wp2_with (go_at_call 88;refine(Qv s hs _).mono ?_;rintro e w'⟨rfl,rfl⟩);go_ret;refine⟨Qdd ?_,rfl⟩;rw[Qa H,decide_eq_true (Qa b),Bool.true_and,Bool.eq_iff_iff];simp<;>omega
    · have d:((wdLen s.data.toList:Int)==(s.size:Int))=false:=by rw[beq_eq_false_iff_ne];omega
      have b:=hide a;clear a;go_wp2_with (go_at_call 88;refine(Qv s hs _).mono ?_;rintro e w'⟨rfl,rfl⟩);go_ret;exact⟨Qdd (by rw[Qa H,decide_eq_false (Qa b)];rfl),rfl⟩
  · have e:=Qme c
    subst e;go_enter Tryz.func92,Tryz.ntmps92
    go_wp2
    go_ret;exact⟨rfl,rfl⟩
def cmV:Option Nat->Value
 |none=>.tuple #[.int .i64 0,.bool false]
 |some n=>.tuple #[.int .i64 ((n:Int)+4),.bool true]
theorem Qjn(s:ByteArray)(k n:Nat):(s.extract k (k+n)).data.toList=(s.data.toList.drop k).take n:=by
 have:(s.extract k (k+n)).data=s.data.extract k (k+n):=by simp
 rw[this,Array.toList_extract];simp[List.take_drop]
theorem Qdr{s:ByteArray}{l:Txt}(h:s.data.toList=l):s=⟨l.toArray⟩:=by
 cases s with
 |mk d=>subst h;rfl
theorem Qkf(s:ByteArray)(k n:Nat)(a b:Int)(ha:a=(k:Int))(hb:b=((k+n:Nat):Int))(hk:k+n<=s.size)(w:World):
  (Instr.slice 9 (.string s) (some (Ji a)) (some (Ji b)) none).run Tryz.prog w = .ok (.string (s.extract k (k+n))) w:=by
 subst ha hb;have:=run_slice_string (P:=Tryz.prog) w 9 s .i64 .i64 (k:Int) ((k+n:Nat):Int) Tryz.underlying9 (by omega) (by omega) (by omega);rwa [Int.toNat_natCast,Int.toNat_natCast]at this
theorem Qpv{s:ByteArray}{m:Nat}(h:m<s.size)(hb:isB (bv s[m])=true):gapAt (s.data.toList.drop m) = .gap 1:=by
  rw[Qar s m h,Qeo,if_pos hb]
theorem Qt{s:ByteArray}{m:Nat}(h:m<s.size)(hb:isB (bv s[m])=false)(hp:pre [47,47] (s.data.toList.drop m)=true):gapAt (s.data.toList.drop m) = .gap (lnLen (s.data.toList.drop m)):=by
  rw[Qar s m h]at hp ⊢;rw[Qeo,if_neg (by simp[hb]),if_pos hp]
theorem Qsz{s:ByteArray}{m:Nat}(h:m<s.size)(hb:isB (bv s[m])=false)(hp:pre [47,47] (s.data.toList.drop m)=false)(hq:pre [47,42] (s.data.toList.drop m)=true):
    gapAt (s.data.toList.drop m)=cGap (s.data.toList.drop (m+2)):=by
  rw[Qar s m h]at hp hq ⊢;rw[Qeo,if_neg (by simp[hb]),if_neg (by simp[hp]),if_pos hq,List.drop_drop]
theorem gap_not{s:ByteArray}{m:Nat}(h:m<s.size)(hb:isB (bv s[m])=false)(hp:pre [47,47] (s.data.toList.drop m)=false)(hq:pre [47,42] (s.data.toList.drop m)=false):
    gapAt (s.data.toList.drop m) = .none:=by
  rw[Qar s m h]at hp hq ⊢;rw[Qeo,if_neg (by simp[hb]),if_neg (by simp[hp]),if_neg (by simp[hq])]
theorem pre_two{s:ByteArray}{m:Nat}{a b:UInt8}(h:pre [a,b] (s.data.toList.drop m)=true):m+2<=s.size:=by
  have:=Qff h;rw[Qbp]at this;simp only[List.length_cons,List.length_nil]at this;omega
def Gone(s:ByteArray)(k m:Nat):Prop:=k<=m/\m<=s.size/\scan k (s.data.toList.drop k)=scan m (s.data.toList.drop m)
theorem Gone.step{s:ByteArray}{k m n:Nat}(h:Gone s k m)(hg:gapAt (s.data.toList.drop m) = .gap n):Gone s k (m+n)/\0<n:=by
  have a:=Qdj hg;rw[Qbp]at a;refine⟨⟨by have:=h.1;omega,by have:=h.2.1;omega,?_⟩,a.1⟩;rw[h.2.2,Qdx hg,List.drop_drop]
def GapEnd(s:ByteArray)(k:Nat)(e:Ending):Prop:=∃m,Gone s k m /\
  ((gapAt (s.data.toList.drop m) = .never ∧ e = .returned (.tuple #[.int .i64 0, .agg #[.int .i64 7, .int .i64 (m : Int)]])) ∨
   (gapAt (s.data.toList.drop m) = .none/\e = .returned (.tuple #[.int .i64 (m:Int),.agg #[.int .i64 0,.int .i64 0]])))
end
end Go.Proofs.YtmfpbepifnedjaaGreat
namespace Go.Proofs.YtmfpbepifnedjaaGreat.Num
open Go.RowKit

def Fits(n:Int):Prop:=-9223372036854775808<=n/\n<=9223372036854775807
def addP(a b:Int):Int×Int:=if -9223372036854775808<=a+b/\a+b<=9223372036854775807 then (a+b,0) else (0,8)
def subP(a b:Int):Int×Int:=if -9223372036854775808<=a - b/\a - b<=9223372036854775807 then (a - b,0) else (0,8)
def mulP(a b:Int):Int×Int:=if -9223372036854775808<=a*b/\a*b<=9223372036854775807 then (a*b,0) else (0,8)
def divP(a b:Int):Int×Int:=if b=0 then (0,9) else if a = -9223372036854775808/\b = -1 then (0,8) else (a.tdiv b,0)
def remP(a b:Int):Int×Int:=if b=0 then (0,9) else (a.tmod b,0)
theorem mulP_in{a b:Int}(h:Fits (a*b)):mulP a b=(a*b,0):=by unfold mulP;exact if_pos h
theorem zero_mul(b:Int):mulP 0 b=(0,0):=by
 rw[mulP_in (by unfold Fits;omega)];simp
end Go.Proofs.YtmfpbepifnedjaaGreat.Num
namespace Go.Proofs.YtmfpbepifnedjaaGreat.Num
open Go.RowKit
def dig(c:UInt8):Bool:=decide (48<=c.toNat)&&decide (c.toNat<=57)
def valFrom:Nat->List UInt8->Nat
 |acc,[]=>acc
 |acc,c :: r=>valFrom (acc*10+(c.toNat - 48)) r
def trim(l:List UInt8):List UInt8:=Lib.trimPrefix l [45]
def isNeg(l:List UInt8):Bool:=l.head?==some 45
def numForm(l:List UInt8):Bool:=l==[48] || (!(trim l).isEmpty&&(trim l).head? != some 48&&(trim l).all dig)
def numVal(l:List UInt8):Int:=if isNeg l=true then -(valFrom 0 (trim l):Int) else (valFrom 0 (trim l):Int)
def parseP(l:List UInt8):Int×Int:=
 if numForm l=true then (if -9223372036854775808<=numVal l/\numVal l<=9223372036854775807 then (numVal l,0) else (0,8)) else (0,7)
end Go.Proofs.YtmfpbepifnedjaaGreat.Num
namespace Go.Proofs.YtmfpbepifnedjaaGreat.Num
open Go.ChangeShapes Go.WideShapes Go.ChangeAt Go.RowKit
theorem Qdd{a b:Bool}(h:a=b):Ending.returned (.bool a) = .returned (.bool b):=by rw[h]

def allDig(l:List UInt8):Bool:=l.all dig
end Go.Proofs.YtmfpbepifnedjaaGreat.Num
namespace Go.Proofs.YtmfpbepifnedjaaGreat
section
open Go.RowKit
structure TV where
 kd:Int
 tx:ByteArray
 nm:Int
 at_:Int
 nd:Int
 why:Int
 fa:Int
abbrev TV.val(t:TV):Value:=.tuple #[.agg #[.int .i64 t.kd,.string t.tx,.int .i64 t.nm,.int .i64 t.at_],.int .i64 t.nd,.agg #[.int .i64 t.why,.int .i64 t.fa]]
def resT(k:Nat):Res->TV
 | .tok kd tx nm n=>⟨kd,⟨tx.toArray⟩,nm,(k:Int),((k+n:Nat):Int),0,0⟩
 | .bad why o=>⟨0,⟨#[]⟩,0,0,0,why,((k+o:Nat):Int)⟩
abbrev tokZ:Obj:=.cells #[.int .i64 0,.string ⟨#[]⟩,.int .i64 0,.int .i64 0] 73
abbrev fltZ:Obj:=.cells #[.int .i64 0,.int .i64 0] 31
structure Boxes(w:World)(b c:Nat):Prop where
 x0:w.cell? ⟨b,0,none⟩=some (.int .i64 0)
 x1:w.cell? ⟨b,1,none⟩=some (.string ⟨#[]⟩)
 x2:w.cell? ⟨b,2,none⟩=some (.int .i64 0)
 x3:w.cell? ⟨b,3,none⟩=some (.int .i64 0)
 y0:w.cell? ⟨c,0,none⟩=some (.int .i64 0)
 y1:w.cell? ⟨c,1,none⟩=some (.int .i64 0)
 fx:∀o,w.frozen? ⟨b,o,none⟩=false
 fy:∀o,w.frozen? ⟨c,o,none⟩=false
theorem Qn(w:World):Below w.heap.size w ((w.alloc tokZ).alloc fltZ):=((Below.refl _ w).alloc (Nat.le_refl _) _).alloc (by simp) _
theorem Qcl{w w2:World}(h:Below (w.heap.size+2) ((w.alloc tokZ).alloc fltZ) w2):Boxes w2 w.heap.size (w.heap.size+1):=by
 have a:w2.heap[w.heap.size]?=some tokZ:=by
  rw[h.block _ (by omega),Lib.alloc_old (w.alloc tokZ) _ _ (by simp)];exact heap_alloc_new w _
 have b:w2.heap[w.heap.size+1]?=some fltZ:=by
  rw[h.block _ (by omega)];have:=heap_alloc_new (w.alloc tokZ) fltZ;rwa [show(w.alloc tokZ).heap.size=w.heap.size+1 by simp]at this
 exact⟨by rw[Lib.cell_of_heap a];rfl,by rw[Lib.cell_of_heap a];rfl,by rw[Lib.cell_of_heap a];rfl,by rw[Lib.cell_of_heap a];rfl,
  by rw[Lib.cell_of_heap b];rfl,by rw[Lib.cell_of_heap b];rfl,fun o=>Lib.frozen_of_heap a o,fun o=>Lib.frozen_of_heap b o⟩
theorem Qbw{B:Nat}{w w2:World}(h:Below B w w2){b c:Nat}(hb:B<=b)(hc:B<=c)(q0 q1 q2 q3 q4 q5:Value):
  Below B w ((((((w2.setCell (Ja b 0) q0).setCell (Ja b 1) q1).setCell (Ja b 2) q2).setCell (Ja b 3) q3).setCell (Ja c 0) q4).setCell (Ja c 1) q5):=
 (((((h.setCell (p:=(Ja b 0)) hb q0).setCell (p:=(Ja b 1)) hb q1).setCell (p:=(Ja b 2)) hb q2).setCell (p:=(Ja b 3)) hb q3).setCell (p:=(Ja c 0)) hc q4).setCell (p:=(Ja c 1)) hc q5
theorem Qdg{a b:TV}(h:a=b):Ending.returned a.val = .returned b.val:=by rw[h]
theorem Qqu{s:ByteArray}{m:Nat}(h:m<s.size):noW (s.data.toList.drop m) = !inW (bv s[m]):=by rw[Qar s m h];rfl
end
end Go.Proofs.YtmfpbepifnedjaaGreat
