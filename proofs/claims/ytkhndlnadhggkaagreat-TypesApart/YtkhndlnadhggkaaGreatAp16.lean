/- types. -/
import Derived.Test.YtkhndlnadhggkaaGreatAp01
import Derived.Test.YtkhndlnadhggkaaGreatAp02
import Derived.Test.YtkhndlnadhggkaaGreatAp14
import Derived.Test.YtkhndlnadhggkaaGreatAp04
set_option maxRecDepth 100000
set_option maxHeartbeats 32000000
namespace Go.Proofs.YtkhndlnadhggkaaGreat
section
def tNum:Txt:=[110,117,109,98,101,114]
def tSym:Txt:=[115,121,109,98,111,108]

def asc{α : Type}(l:List (Txt × α))(t:Txt):Option α :=(l.find? fun q=>decide (q.1=t)).map (·.2)
theorem asc_nil{α : Type}(t:Txt):asc ([]:List (Txt × α)) t=none:=rfl
theorem Qcl{α : Type}(l m:List (Txt × α))(t:Txt):asc (l++m) t=(asc l t).or (asc m t):=by
 unfold asc;rw[List.find?_append];cases l.find? fun q=>decide (q.1=t)<;>simp
theorem Qeq{α : Type}(n:Txt)(v:α)(t:Txt):asc [(n,v)] t=if n=t then some v else none:=by
 unfold asc;by_cases h:n=t<;>simp[h]
theorem Qiu{α : Type}(l:List (Txt × α))(n:Txt)(v:α)(t:Txt):asc (l++[(n,v)]) t=match asc l n with|some _=>asc l t|none=>if n=t then some v else asc l t:=by
 rw[Qcl,Qeq]
 cases h:asc l n with
 |some u=>
  simp only;by_cases e:n=t
  ·subst e;rw[h];rfl
  ·rw[if_neg e];cases asc l t<;>rfl
 |none=>
  simp only;by_cases e:n=t
  ·subst e;rw[h,if_pos rfl];rfl
  ·rw[if_neg e,if_neg e];cases asc l t<;>rfl
def tyRow(ts:List Typ):List (Txt×Nat):=(tNum,1) :: (tSym,2) :: (ts.zipIdx.map fun q=>(q.1.name,3+q.2))
def dcRow(ds:List Dcl):List (Txt×Nat):=ds.zipIdx.map fun q=>(q.1.name,q.2)
def ctRow(ts:List Typ):List (Txt×(Nat×Nat)):=ts.zipIdx.flatMap fun q=>q.1.ctors.zipIdx.map fun c=>(c.1.name,(q.2,c.2))

def tyNo(p:Pg)(t:Txt):Nat:=(asc (tyRow p.types) t).getD 0
def kName(p:Pg)(k:Nat):Txt:=if k=1 then tNum else if k=2 then tSym else if k<3 then [] else ((p.types[k - 3]?).map (·.name)).getD []
def kSub(p:Pg)(k:Nat):Nat:=if k<3 then 0 else ((p.types[k - 3]?).map fun t=>tyNo p t.sub).getD 0

def kInit(p:Pg)(k:Nat):Int:=if k<3 then (k:Int) else match p.types[k - 3]? with|some t=>if t.sub=[] then (k:Int) else -1|none=>0

def root(p:Pg):Nat->Nat->Int
 | 0,_=>-2
 |f+1,k=>if kInit p k = -1 then root p f (kSub p k) else kInit p k
def kBase(p:Pg)(k:Nat):Int:=root p (p.types.length+1) k
theorem Qsj(p:Pg)(k:Nat):kInit p k = -1∨0<=kInit p k:=by
 unfold kInit;split
 ·right;omega
 split
 ·
  split
  ·right;omega
  ·left;rfl
 ·right;omega
theorem Qfv{p:Pg}{k:Nat}(h:kInit p k = -1):3<=k/\k - 3<p.types.length:=by
 unfold kInit at h;split at h
 ·omega
 refine⟨by omega,?_⟩;split at h
 ·rename_i t b;exact(List.getElem?_eq_some_iff.1 b).1
 ·omega
def far(p:Pg):Nat->Nat->Nat
 | 0,k=>k
 |n+1,k=>far p n (kSub p k)
theorem Qhu(p:Pg):∀n k,far p (n+1) k=kSub p (far p n k)
 | 0,_=>rfl
 |n+1,k=>Qhu p n (kSub p k)
theorem Qht(p:Pg):∀m n k,far p (m+n) k=far p n (far p m k)
 | 0,n,k=>by rw[Nat.zero_add];rfl
 |m+1,n,k=>by rw[Nat.add_right_comm];exact Qht p m n (kSub p k)
theorem Qhe(p:Pg):∀f k,root p f k = -2 ↔ ∀i,i<f->kInit p (far p i k) = -1
 | 0,_=>⟨fun _ i h=>absurd h (Nat.not_lt_zero i),fun _=>rfl⟩
 |f+1,k=>by
  unfold root;by_cases h:kInit p k = -1
  ·
   rw[if_pos h,Qhe p f (kSub p k)];constructor
   ·
    intro hh i hi
    cases i with
    |zero=>exact h
    |succ i=>exact hh i (by omega)
   intro hh i hi;exact hh (i+1) (by omega)
  rw[if_neg h];constructor
  ·intro e;rcases Qsj p k with e2|e2<;>omega
  ·intro hh;exact absurd (hh 0 (by omega)) h
theorem pigeon:∀(n:Nat) (g:Nat->Nat),(∀i,i<=n->g i<n) -> ∃i j,i<j/\j<=n/\g i=g j
 | 0,g,h=>absurd (h 0 (Nat.le_refl _)) (Nat.not_lt_zero _)
 |n+1,g,h=>by
  by_cases hc:∃i,i<=n/\g i=g (n+1)
  ·
   obtain⟨i,hi,e⟩:=hc;exact⟨i,n+1,by omega,Nat.le_refl _,e⟩
  have f:∀i,i<=n->g i≠g (n+1):=fun i hi e=>hc ⟨i,hi,e⟩
  obtain⟨i,j,o,q,r⟩:=pigeon n (fun i=>if g i<g (n+1) then g i else g i - 1) (fun i hi=>by
   have a:=h i (by omega);have b:=f i hi;have c:=h (n+1) (Nat.le_refl _);show(if g i<g (n+1) then g i else g i - 1)<n
   split<;>omega)
  refine⟨i,j,o,by omega,?_⟩;have a:=f i (by omega);have b:=f j q;have m:(if g i<g (n+1) then g i else g i - 1)=(if g j<g (n+1) then g j else g j - 1):=r;split at m<;>split at m<;>omega
theorem Qoy(p:Pg)(k:Nat)(h:∀i,i<p.types.length+1->kInit p (far p i k) = -1):∀i,kInit p (far p i k) = -1:=by
 obtain⟨a,b,o,r,j⟩:=pigeon p.types.length (fun i=>far p i k - 3) (fun i c=>(Qfv (h i (by omega))).2);have m:=Qfv (h a (by omega));have n:=Qfv (h b (by omega));have e:far p a k=far p b k:=by have s:far p a k - 3=far p b k - 3:=j;omega
 intro i
 induction i using Nat.strongRecOn with
 |ind i ih=>
  by_cases c:i<p.types.length+1
  ·exact h i c
  have q:far p i k=far p (a+(i - b)) k:=by
   have f:i=b+(i - b):=by omega
   rw[Qht,e,<- Qht,<- f]
  rw[q];exact ih _ (by omega)
theorem Qgc(p:Pg):∀f k r,root p f k=r->r ≠ -2 -> ∃i,i<f/\(∀j,j<i->kInit p (far p j k) = -1)/\kInit p (far p i k)=r/\r ≠ -1
 | 0,k,r,h,hn=>absurd h.symm hn
 |f+1,k,r,h,hn=>by
  unfold root at h;by_cases hk:kInit p k = -1
  ·
   rw[if_pos hk]at h;obtain⟨i,h1,h2,h3⟩:=Qgc p f (kSub p k) r h hn;refine⟨i+1,by omega,fun j b=>?_,h3⟩
   cases j with
   |zero=>exact hk
   |succ j=>exact h2 j (by omega)
  rw[if_neg hk]at h;exact⟨0,by omega,fun j b=>absurd b (Nat.not_lt_zero _),h,h▸hk⟩
theorem Qqt(p:Pg):∀i f k,i<f->(∀j,j<i->kInit p (far p j k) = -1)->kInit p (far p i k) ≠ -1->root p f k=kInit p (far p i k)
 | 0,f+1,k,_,_,h=>by
  unfold root;exact if_neg h
 |i+1,f+1,k,hf,h1,h2=>by
  unfold root;rw[if_pos (show kInit p k = -1 from h1 0 (by omega))];exact Qqt p i f (kSub p k) (by omega) (fun j hj=>h1 (j+1) (by omega)) h2
theorem Qly(p:Pg)(i k:Nat)(h1:∀j,j<i->kInit p (far p j k) = -1)(h2:kInit p (far p i k) ≠ -1):kBase p k=kInit p (far p i k):=by
 by_cases b:i<p.types.length+1
 ·exact Qqt p i _ k b h1 h2
 ·exact absurd (Qoy p k (fun j c=>h1 j (by omega)) i) h2
theorem Qe(p:Pg)(k:Nat):kBase p k = -2 ↔ ∀i,kInit p (far p i k) = -1:=by
 unfold kBase;rw[Qhe];exact⟨Qoy p k,fun h i _=>h i⟩
theorem Qna{p:Pg}{k:Nat}(h:kInit p k ≠ -1):kBase p k=kInit p k:=Qly p 0 k (fun _ b=>absurd b (Nat.not_lt_zero _)) h
theorem Qgy{p:Pg}{k:Nat}(h:kInit p k = -1):kBase p k=kBase p (kSub p k):=by
 by_cases b:kBase p (kSub p k) = -2
 ·
  rw[b,Qe];intro i
  cases i with
  |zero=>exact h
  |succ i=>exact(Qe p (kSub p k)).1 b i
 obtain⟨i,n,f,c,m⟩:=Qgc p _ _ _ rfl b
 have e:=Qly p (i+1) k (fun j o=>by
  cases j with
  |zero=>exact h
  |succ j=>exact f j (by omega)) (by show kInit p (far p i (kSub p k)) ≠ -1;rw[c];exact m)
 rw[e];exact c
theorem Qnb{p:Pg}{k m:Nat}(hm:0<m)(h:∀i,i<m->kInit p (far p i k) = -1)(e:far p m k=k):kBase p k = -2:=by
 rw[Qe];intro i
 induction i using Nat.strongRecOn with
 |ind i ih=>
  by_cases c:i<m
  ·exact h i c
  have q:far p i k=far p (i - m) k:=by
   have b:i=m+(i - m):=by omega
   rw[b,Qht,e];congr 1;omega
  rw[q];exact ih _ (by omega)
theorem Qfc(p:Pg)(k:Nat):kBase p k ≠ -1:=by
 by_cases h:kBase p k = -2
 ·rw[h];decide
 obtain⟨_,_,_,e,b⟩:=Qgc p _ _ _ rfl h;exact b
def hasB(b:Int):Bool:=!(decide (b=0) || decide (b = -2))
def baseP(p:Pg)(t:Txt):Option Txt:=if hasB (kBase p (tyNo p t))=true then some (kName p (kBase p (tyNo p t)).toNat) else none

def upTo(p:Pg)(tq:Nat)(b:Int):Nat->Nat->Bool
 | 0,k=>decide (k=tq)
 |f+1,k=>if k=tq then true else if (k:Int)=b then false else upTo p tq b f (kSub p k)
def belowP(p:Pg)(a b:Txt):Bool:=hasB (kBase p (tyNo p a))&&upTo p (tyNo p b) (kBase p (tyNo p a)) (p.types.length+1) (tyNo p a)
def declP2(p:Pg)(t:Txt):Option Dcl:=(asc (dcRow p.decls) t).bind fun i=>p.decls[i]?
def ctorP2(p:Pg)(t:Txt):Option (Ctr×Txt):=(asc (ctRow p.types) t).bind fun q=>(p.types[q.1]?).bind fun ty=>(ty.ctors[q.2]?).map fun c=>(c,ty.name)

abbrev Flt:=Int×Int
def hasP(p:Pg)(t b:Txt):Bool:=decide (baseP p t=some b)
def alikeP(p:Pg)(a b:Txt):Bool:=decide (baseP p a=baseP p b)
def typV(vs:List Fld)(s:Txt):Option Txt:=(vs.find? fun v=>decide (v.name=s)).map (·.type)
def openP(vs:List Fld)(x:Ex):Bool:=decide (x.kind=1)&&(typV vs x.txt).isNone
def putT(vs:List Fld)(s t:Txt):List Fld:=vs.map fun v=>if v.name=s then ⟨v.name,t⟩ else v
def opsA:List Txt:=[[43],[45],[42],[47],[37]]
def opsC:List Txt:=[[61],[33,61],[60],[60,61],[62],[62,61]]
mutual

def valP(p:Pg)(vs:List Fld):Ex->Except Flt Txt
 | .mk k _ s ks a=>
  if k=1 then (match typV vs s with|some t=>.ok t|none=>.error (15,a))
  else if k=4 then .error (15,a)
  else if k=2 then .ok tNum
  else if k=3 then .ok tSym
  else if k=5 then (if ks.length≠2∨s∉opsA then .error (1,a) else match opnP p vs ks with | .ok _=>.ok tNum | .error f=>.error f)
  else if k = 6 then (match ctorP2 p s with
   |none=>.error (6,a)
   |some (c,sum)=>if ks.length≠c.fields.length then .error (14,a) else match fitsP p vs ks c.fields with | .ok _=>.ok sum | .error f=>.error f)
  else .error (1,a)

def opnP(p:Pg)(vs:List Fld):List Ex->Except Flt Unit
 | []=>.ok ()
 |x :: xs=>match valP p vs x with
  | .error f=>.error f
  | .ok t=>if hasP p t tNum=true then opnP p vs xs else .error (13,x.at_)

def fitsP(p:Pg)(vs:List Fld):List Ex->List Fld->Except Flt Unit
 | [],_=>.ok ()
 |_ :: _,[]=>.ok ()
 |x :: xs,f :: fs=>match valP p vs x with
  | .error e=>.error e
  | .ok own=>if ((decide (x.kind=2) || decide (x.kind=3))&&hasP p f.type own) || belowP p own f.type then fitsP p vs xs fs else .error (13,x.at_)
end
def fitP(p:Pg)(vs:List Fld)(x:Ex)(t:Txt):Except Flt Unit:=match valP p vs x with
  | .error e=>.error e
  | .ok own=>if ((decide (x.kind=2) || decide (x.kind=3))&&hasP p t own) || belowP p own t then .ok () else .error (13,x.at_)
def likeP(p:Pg)(vs:List Fld)(x:Ex)(t:Txt):Except Flt Unit:=match valP p vs x with
  | .error e=>.error e
  | .ok own=>if alikeP p own t=true then .ok () else .error (13,x.at_)
def narP(p:Pg)(vs:List Fld)(x:Ex)(t:Txt):Except Flt (List Fld):=match typV vs x.txt with
 |none=>.ok (vs++[⟨x.txt,t⟩])
 |some own=>if belowP p own t=true then .ok vs else if belowP p t own=true then .ok (putT vs x.txt t) else .error (13,x.at_)
mutual

def patP(p:Pg):Ex->Txt->List Fld->Except Flt (List Fld)
 | .mk k n s ks a,t,vs=>
  if k=1 then narP p vs (.mk k n s ks a) t
  else if k=4 then .ok vs
  else if k=2 then (if hasP p t tNum=true then .ok vs else .error (13,a))
  else if k=3 then (if hasP p t tSym=true then .ok vs else .error (13,a))
  else if k=5 then (if hasP p t tNum=true then (if ks.length≠2∨s∉opsA then .error (1,a) else match opnP p vs ks with | .ok _=>.ok vs | .error f=>.error f) else .error (13,a))
  else if k = 6 then (match ctorP2 p s with
   |none=>.error (6,a)
   |some (c,sum)=>if hasP p t sum=false then .error (13,a) else if ks.length≠c.fields.length then .error (14,a) else patsP p ks c.fields vs)
  else .error (1,a)
def patsP(p:Pg):List Ex->List Fld->List Fld->Except Flt (List Fld)
 | [],_,vs=>.ok vs
 |_ :: _,[],vs=>.ok vs
 |x :: xs,f :: fs,vs=>match patP p x f.type vs with
  | .error e=>.error e
  | .ok vs'=>patsP p xs fs vs'
end
def likesP(p:Pg)(vs:List Fld):List Ex->List Fld->Except Flt Unit
 |x :: xs,f :: fs=>match likeP p vs x f.type with
  | .error e=>.error e
  | .ok _=>likesP p vs xs fs
 |_,_=>.ok ()
def watP(p:Pg)(a:Atm):Flt:=match declP2 p a.rel with
 |none=>(6,a.at_)
 |some d=>if a.args.length≠d.cols.length then (14,a.at_) else (0,0)
def watsP(p:Pg):List Lt->Flt
 | []=>(0,0)
 |l :: ls=>if l.kind≠1/\l.kind≠2 then watsP p ls else if (watP p l.atom).1≠0 then watP p l.atom else watsP p ls
def colsP(p:Pg)(a:Atm):List Fld:=((declP2 p a.rel).map (·.cols)).getD []
def sidesP(p:Pg)(l:Lt)(a b:Txt):Except Flt Unit:=
 if l.op=[61]∨l.op=[33,61] then (if alikeP p a b=true then .ok () else .error (13,l.r.at_))
 else if hasP p a tNum=false then .error (13,l.l.at_)
 else if hasP p b tNum=false then .error (13,l.r.at_) else .ok ()
def cmpP(p:Pg)(l:Lt)(vs:List Fld):Except Flt (List Fld):=
 if l.op∉opsC then .error (1,l.at_)
 else if l.op=[61]/\openP vs l.l=true then (match valP p vs l.r with | .error e=>.error e | .ok t=>.ok (vs++[⟨l.l.txt,t⟩]))
 else if l.op=[61]/\openP vs l.r=true then (match valP p vs l.l with | .error e=>.error e | .ok t=>.ok (vs++[⟨l.r.txt,t⟩]))
 else match valP p vs l.l with
  | .error e=>.error e
  | .ok a=>match valP p vs l.r with
   | .error e=>.error e
   | .ok b=>match sidesP p l a b with
    | .error e=>.error e
    | .ok _=>.ok vs
def litP2(p:Pg)(l:Lt)(vs:List Fld):Except Flt (List Fld):=
 if l.kind=1 then patsP p l.atom.args (colsP p l.atom) vs
 else if l.kind=2 then (match likesP p vs l.atom.args (colsP p l.atom) with | .ok _=>.ok vs | .error e=>.error e)
 else if l.kind=3 then cmpP p l vs
 else .error (1,l.at_)
def litsP(p:Pg):List Lt->List Fld->Except Flt (List Fld)
 | [],vs=>.ok vs
 |l :: ls,vs=>match litP2 p l vs with
  | .error e=>.error e
  | .ok vs'=>litsP p ls vs'

def infP(p:Pg)(c:Cls):Except Flt (List Fld):=
 if (watP p c.head).1≠0 then .error (watP p c.head)
 else if (watsP p c.body).1≠0 then .error (watsP p c.body)
 else match litsP p c.body [] with
  | .error e=>.error e
  | .ok vs=>match fitsP p vs c.head.args (colsP p c.head) with
   | .error e=>.error e
   | .ok _=>.ok vs
def twiceP:List Fld->List Txt->Bool
 | [],_=>false
 |f :: fs,met=>decide (f.name∈met) || twiceP fs (f.name :: met)
def wNameP(p:Pg):List (Typ×Nat)->Flt
 | []=>(0,0)
 |(t,i) :: r=>if t.name=tNum∨t.name=tSym then (1,t.at_)
  else if tyNo p t.name≠3+i∨(t.ctors.zipIdx.any fun c=>decide (asc (ctRow p.types) c.1.name≠some (i,c.2)) || twiceP c.1.fields [])=true then (11,t.at_) else wNameP p r
def noneP(p:Pg)(fs:List Fld):Bool:=fs.any fun f=>decide (tyNo p f.type=0)
def wTypeP(p:Pg):List (Typ×Nat)->Flt
 | []=>(0,0)
 |(t,i) :: r=>if (t.sub≠[]/\tyNo p t.sub=0)∨(t.ctors.any fun c=>noneP p c.fields)=true then (6,t.at_)
  else if kBase p (3+i) = -2 then (12,t.at_) else wTypeP p r
def wDeclP(p:Pg):List (Dcl×Nat)->Flt
 | []=>(0,0)
 |(d,i) :: r=>if asc (dcRow p.decls) d.name≠some i∨twiceP d.cols []=true then (11,d.at_)
  else if noneP p d.cols=true then (6,d.at_) else wDeclP p r
def wClauseP(p:Pg):List Cls->Flt
 | []=>(0,0)
 |c :: r=>match infP p c with | .error e=>e | .ok _=>wClauseP p r
def checkP(p:Pg):Flt:=
 match p.comps,p.inits with
 |c :: _,_=>(1,c.2.2.2)
 | [],i :: _=>(1,i.at_)
 | [],[]=>
  if (wNameP p p.types.zipIdx).1≠0 then wNameP p p.types.zipIdx
  else if (wTypeP p p.types.zipIdx).1≠0 then wTypeP p p.types.zipIdx
  else if (wDeclP p p.decls.zipIdx).1≠0 then wDeclP p p.decls.zipIdx
  else wClauseP p p.clauses
end
section
open Go.RowKit Go.Maps
def Qo{α : Type}(p:PS α)(k:Nat)(T:TypeId)(base:Nat)(wr:World)(sl:Value)(acc:List α):Prop:=∃css,wr.ownsRow base T k sl acc.length css.flatten/\All p k (fun b=>base<=b/\some b≠sl.ownBlock) wr css acc
section
variable {α : Type}{p:PS α}{k:Nat}{T:TypeId}{base:Nat}
theorem Qo.nil(wr:World):Qo p k T base wr (Jn) []:=⟨[],World.ownsRow_nil _ _ _ _,⟨rfl,fun j x cs b=>by simp at b⟩⟩
theorem Qo.move(hp:PSok p){wr w':World}{sl:Value}{acc:List α}(h:Qo p k T base wr sl acc)(hs:wr.heap.size<=w'.heap.size)(hb:∀b,base<=b->b<wr.heap.size->w'.heap[b]?=wr.heap[b]?):Qo p k T base w' sl acc:=by
 obtain⟨m,j,r⟩:=h;refine⟨m,⟨j.1,?_⟩,r.same hp hs (fun b hs s=>hb b hs.1 s)⟩;rcases j.2 with e|⟨g,cap,n,o,c,f,q⟩
 ·exact .inl e
 ·exact .inr ⟨g,cap,n,o,c,(hb g c (Qaa f)).trans f,q⟩
theorem Qo.sl{wr:World}{sl:Value}{acc:List α}(h:Qo p k T base wr sl acc):∃a c,sl = .slice a acc.length c/\acc.length<=c/\c<=maxLen:=by
 obtain⟨n,m,_⟩:=h;rcases m.2 with ⟨e,b⟩|⟨g,cap,o,e,_,_,f,j,_⟩
 ·exact⟨none,0,by rw[e,b],by omega,by unfold maxLen;omega⟩
 ·exact⟨_,_,e,f,j⟩
theorem Qo.ls(hp:PSok p){wr:World}{sl:Value}{acc:List α}(h:Qo p k T base wr sl acc):LsAt p k (fun b=>base<=b) wr sl acc:=by
 obtain⟨j,e,c⟩:=h;exact LsAt.of e (c.mono hp (fun b _ f=>f.1))
theorem Qo.more(hp:PSok p){ST:TypeId}{i0:TypeInfo}{z:Value}{by_:Nat}(ht:Tryz.prog.underlying ST=some (.slice T))(hi:Tryz.prog.info? T=some i0)(hz:i0.zero=some z)(hsz:i0.size=k)(hby:i0.bytes=by_)(hzc:z.cells.size=k)(hk:0<k)(hb6:by_<=1000)
  {rb g cap a d i:Nat}{l:List Tok}{y f:Int}{wr w2:World}{sl:Value}{acc:List α}(h:Qo p k T base wr sl acc)(hbw:base<=wr.heap.size){x:α}{cs:List Value}
  (hl:cs.length=k)(h1:∀c∈cs,c.oneCell'=true)(hx:p (fun b=>wr.heap.size<=b) w2 cs x)(hR:Rr rb g cap l w2 a d i y f)(k2:Kp rb wr w2)(hrb:rb<base)(hg:g<base)(hf:acc.length<=65536):
  ∃r w8,(Builtin.append_ #[ST,ST] ST #[sl,.slice (Js w2.heap.size) 1 1]).run Tryz.prog (w2.alloc (.cells cs.toArray T)) = .ok r w8/\KB rb rb base wr w8/\w2.heap.size<=w8.heap.size/\Rr rb g cap l w8 a d i y f/\Qo p k T base w8 r (acc++[x]):=by
 obtain⟨s,G,Y⟩:=h;have N:=k2.size;have q:∀b,some b=sl.ownBlock->base<=b/\b<wr.heap.size:=fun b e=>World.ownsRow.lt G b e.symm;have L:(w2.alloc (.cells cs.toArray T)).ownsRow base T k sl acc.length s.flatten:=by
  refine World.ownsRow.alloc ?_ _;refine⟨G.1,?_⟩;rcases G.2 with e|⟨g,cap,K,C,t,V,X⟩
  ·exact .inl e
  ·exact .inr ⟨g,cap,K,C,t,k2.keep V (by omega),X⟩
 obtain⟨r,w8,Z,o8,A,_,U⟩:=run_append_own_at (P:=Tryz.prog) (w2.alloc (.cells cs.toArray T)) base ST ST T i0 z k by_ ht hi hz hsz hby hzc hk sl acc.length s.flatten L (Ja w2.heap.size 0) 1 1 cs (by rw[hl,Nat.one_mul]) (fun j u I=>by
  have C:((Ja w2.heap.size 0):Addr).add j=(Ja w2.heap.size j):=by cases j<;>simp[Addr.add]
  rw[C,Qad (heap_alloc_new w2 _)]
  simpa using I) h1 (by unfold maxLen;omega) (by
  have B:acc.length+1<=65537:=by omega
  have:=Nat.mul_le_mul B hb6
  omega) (by simp;omega)
 have a1:(w2.alloc (.cells cs.toArray T)).heap.size=w2.heap.size+1:=by simp
 have a0:=A.size;have o:∀b,b<w2.heap.size->some b≠sl.ownBlock->w8.heap[b]?=w2.heap[b]?:=fun b n F=>by
  rw[A.block b (by omega) F,Below.heap_alloc _ _ _ n]
 have Q:KB rb rb base wr w8:=by
  have n:=(Below.refl w2.heap.size w2).alloc (Nat.le_refl _) (.cells cs.toArray T);refine⟨A.os.trans (n.os.trans k2.os),A.tape.trans (n.tape.trans k2.tape),A.output.trans (n.output.trans k2.output),by omega,fun j I F _=>?_⟩;rw[o j (by omega) (fun e=>by have:=(q j e).1;omega),k2.block j (by omega) F]
 have R:Rr rb g cap l w8 a d i y f:=hR.move (by omega) (o rb (by omega) (fun e=>by have:=(q rb e).1;omega)) (o g (by omega) (fun e=>by have:=(q g e).1;omega));have H:∀b,some b=r.ownBlock->some b=sl.ownBlock∨w2.heap.size<b+1/\w2.heap.size+1<=b:=fun b e=>by
  rcases U with t|t
  ·exact .inl (e.trans t)
  rw[t]at e;simp only[Option.some.injEq]at e;exact .inr (by omega)
 refine⟨r,w8,Z,Q,by omega,R,s++[cs],by rw[List.length_append];simpa using o8,?_⟩;have J:All p k (fun b=>base<=b/\some b≠r.ownBlock) w8 s acc:=by
  have D:All p k (fun b=>(base<=b/\some b≠sl.ownBlock)/\b<wr.heap.size) w2 s acc:=(Y.mono hp (fun b n m=>⟨m,n⟩)).same hp N (fun b m n=>k2.block b n (by omega));have B:=D.same hp (w':=w8) (by omega) (fun b m n=>o b n m.1.2);refine B.mono hp (fun b _ m=>⟨m.1.1,fun e=>?_⟩);rcases H b e with e|e
  ·exact m.1.2 e
  have:=m.2;omega
 have O:p (fun b=>base<=b/\some b≠r.ownBlock) w8 cs x:=by
  have D:=hp.mono _ (fun b=>wr.heap.size<=b/\b<w2.heap.size) _ _ _ hx (fun b n m=>⟨m,n⟩);have B:=hp.same _ _ w8 _ _ D (by omega) (fun b m n=>o b n (fun e=>by have:=(q b e).2;have:=m.1;omega));refine hp.mono _ _ _ _ _ B (fun b _ m=>⟨by have:=m.1;omega,fun e=>?_⟩);rcases H b e with e|e
  ·
   have:=(q b e).2;have:=m.1;omega
  have:=m.2;omega
 exact J.snoc hl O
end
structure Bx(rb g:Nat)(w:World)(xb:Nat)(T:TypeId)(zs cs:Array Value)(W:World):Prop where
 kp:Kp rb w W
 box:W.heap[xb]?=some (.cells cs T (0,0))
 res:W.heap[w.heap.size]?=some (.cells zs T (0,0))
 r1:rb<w.heap.size
 g1:g<w.heap.size
 x1:w.heap.size<xb
section
variable {rb g:Nat}{w:World}{xb:Nat}{T:TypeId}{zs cs:Array Value}{W W':World}
theorem Bx.call(h:Bx rb g w xb T zs cs W)(k:Kp rb W W'):Bx rb g w xb T zs cs W':=
 ⟨h.kp.trans k,k.keep h.box (by have:=h.r1;have:=h.x1;omega),k.keep h.res (by have:=h.r1;omega),h.r1,h.g1,h.x1⟩
theorem Bx.set(h:Bx rb g w xb T zs cs W)(j:Nat)(v:Value):Bx rb g w xb T zs (cs.setIfInBounds j v) (W.setCell (Ja xb j) v):=
 ⟨h.kp.set2 (by have:=h.x1;omega),Qah h.box j v,(hpS (by have:=h.x1;show w.heap.size≠xb;omega)).trans h.res,h.r1,h.g1,h.x1⟩
theorem Rr.atBox{cap a d i:Nat}{l:List Tok}{y f:Int}(h:Rr rb g cap l W a d i y f)(hx:rb<xb/\g<xb)(j:Nat)(v:Value):Rr rb g cap l (W.setCell (Ja xb j) v) a d i y f:=
 h.move (by simp) (hpS (by show rb≠xb;omega)) (hpS (by show g≠xb;omega))
end
def EK(w:World)(xb:Nat)(E:World->Prop):Prop:=∀W W':World,W.heap.size<=W'.heap.size->(∀q,w.heap.size<q->q<xb->q<W.heap.size->W'.heap[q]?=W.heap[q]?)->E W->E W'
theorem EK.none(w:World)(xb:Nat):EK w xb (fun _=>True):=fun _ _ _ _ _=>trivial
structure Gx{α : Type}(p:PS α)(k:Nat)(TE:TypeId)(rb g cap:Nat)(l:List Tok)(w:World)(d i a:Nat)(y:Int)(xb:Nat)(T:TypeId)(zs:Array Value)(E:World->Prop)(W:World)(cs:Array Value)(aX:Nat)(yX fX:Int)(sl:Value)(acc:List α):Prop where
 r:Rr rb g cap l W aX d i yX fX
 b:Bx rb g w xb T zs cs W
 e:E W
 q:Qo p k TE (xb+1) W sl acc
 le:a<=aX
 y0:yX=0->y=0/\a<aX
 n:acc.length<=aX+1
 n0:yX=0->acc.length<=aX
section
variable {α : Type}{p:PS α}{k:Nat}{TE:TypeId}{rb g cap:Nat}{l:List Tok}{w:World}{d i a:Nat}{y:Int}{xb:Nat}{T:TypeId}{zs:Array Value}{E:World->Prop}{W W':World}{cs:Array Value}{aX a2:Nat}{yX fX y2 f2:Int}{sl:Value}{acc:List α}
theorem Gx.call(hp:PSok p)(hE:EK w xb E)(h:Gx p k TE rb g cap l w d i a y xb T zs E W cs aX yX fX sl acc)(kk:Kp rb W W')(hR:Rr rb g cap l W' a2 d i y2 f2)(ha:aX<=a2)(hy:y2=0->yX=0):Gx p k TE rb g cap l w d i a y xb T zs E W' cs a2 y2 f2 sl acc:=
 ⟨hR,h.b.call kk,hE _ _ kk.size (fun q f _ c=>kk.block q c (by have:=h.b.r1;omega)) h.e,h.q.move hp kk.size (fun b j c=>kk.block b c (by have:=h.b.r1;have:=h.b.x1;omega)),by have:=h.le;omega,fun e=>⟨(h.y0 (hy e)).1,by have:=(h.y0 (hy e)).2;omega⟩,by have:=h.n;omega,fun e=>by have:=h.n0 (hy e);omega⟩
theorem Gx.more(hp:PSok p)(hE:EK w xb E){ST:TypeId}{i0:TypeInfo}{z:Value}{by_:Nat}(ht:Tryz.prog.underlying ST=some (.slice TE))(hi:Tryz.prog.info? TE=some i0)(hz:i0.zero=some z)(hsz:i0.size=k)(hby:i0.bytes=by_)(hzc:z.cells.size=k)(hk:0<k)(hb6:by_<=1000)
  (h:Gx p k TE rb g cap l w d i a y xb T zs E W cs aX yX fX sl acc){w2:World}{x:α}{cx:List Value}(hl:cx.length=k)(h1:∀c∈cx,c.oneCell'=true)(hx:p (fun b=>W.heap.size<=b) w2 cx x)(hR:Rr rb g cap l w2 a2 d i y2 f2)(k2:Kp rb W w2)(ha:aX<=a2)(hy:y2=0->yX=0/\aX<a2)(hn:acc.length<=aX)(j:Nat):
  ∃ra rc w8,(Builtin.append_ #[ST,ST] ST #[sl,.slice (Js w2.heap.size) 1 1]).run Tryz.prog (w2.alloc (.cells cx.toArray TE)) = .ok (.slice ra (acc.length+1) rc) w8/\acc.length+1<=rc/\rc<=maxLen/\w8.heap[xb]?=some (.cells cs T (0,0))/\Gx p k TE rb g cap l w d i a y xb T zs E (w8.setCell (Ja xb j) (.slice ra (acc.length+1) rc)) (cs.setIfInBounds j (.slice ra (acc.length+1) rc)) a2 y2 f2 (.slice ra (acc.length+1) rc) (acc++[x]):=by
 have F:=h.b.x1;have C:=h.b.r1;have B:=h.b.g1;have L:=Qaa h.b.box;obtain⟨r,w8,J,f,K,H,A⟩:=h.q.more hp ht hi hz hsz hby hzc hk hb6 (by omega) hl h1 hx hR k2 (by omega) (by omega) (by have:=h.r.lt;have:=h.r.few;omega);obtain⟨ra,rc,t,s,I⟩:=A.sl;have m:(acc++[x]).length=acc.length+1:=by simp
 rw[m]at t s;subst t;have D:=f.size;have o:w8.heap[xb]?=some (.cells cs T (0,0)):=(f.block xb (by omega) (by omega) (by omega)).trans h.b.box;have G:Bx rb g w xb T zs cs w8:=⟨⟨f.os.trans h.b.kp.os,f.tape.trans h.b.kp.tape,f.output.trans h.b.kp.output,Nat.le_trans h.b.kp.size D,fun q n hn=>(f.block q (by omega) hn hn).trans (h.b.kp.block q n hn)⟩,o,(f.block _ (by omega) (by omega) (by omega)).trans h.b.res,C,B,F⟩;have u:∀q,q≠xb->(w8.setCell (Ja xb j) (.slice ra (acc.length+1) rc)).heap[q]?=w8.heap[q]?:=fun q n=>hpS n;have P:(w8.setCell (Ja xb j) (.slice ra (acc.length+1) rc)).heap.size=w8.heap.size:=by simp
 refine⟨ra,rc,w8,J,s,I,o,H.atBox ⟨by omega,by omega⟩ j _,G.set j _,?_,?_,by have:=h.le;omega,fun e=>⟨(h.y0 (hy e).1).1,by have:=(h.y0 (hy e).1).2;omega⟩,by rw[m];omega,fun e=>by rw[m];have:=(hy e).2;omega⟩
 ·exact hE W _ (by omega) (fun q h1 N hl=>(u q (by omega)).trans (f.block q (by omega) (by omega) (by omega))) h.e
 ·exact A.move hp (by omega) (fun b O _=>u b (by omega))
theorem Gx.fin(hp:PSok p)(hE:EK w xb E)(h:Gx p k TE rb g cap l w d i a y xb T zs E W cs aX yX fX sl acc)(hs:W'.heap.size=W.heap.size)(ho:W'.os=W.os/\W'.tape=W.tape/\W'.output=W.output)(hb:∀q,q≠w.heap.size->W'.heap[q]?=W.heap[q]?):
  Rr rb g cap l W' aX d i yX fX/\Kp rb w W'/\E W'/\Qo p k TE (xb+1) W' sl acc:=by
 have n:=h.b.x1;have m:=h.b.r1;have j:=h.b.g1;refine⟨h.r.move (by omega) (hb rb (by omega)) (hb g (by omega)),⟨ho.1.trans h.b.kp.os,ho.2.1.trans h.b.kp.tape,ho.2.2.trans h.b.kp.output,by rw[hs];exact h.b.kp.size,fun q f c=>(hb q (by omega)).trans (h.b.kp.block q f c)⟩,hE _ _ (by omega) (fun q o _ _=>hb q (by omega)) h.e,h.q.move hp (by omega) (fun b s _=>hb b (by omega))⟩
end
theorem str_beq(s t:Txt):((⟨s.toArray⟩:ByteArray)==⟨t.toArray⟩)=decide (s=t):=by
 have e:((⟨s.toArray⟩:ByteArray)==⟨t.toArray⟩)=(s.toArray==t.toArray):=rfl;rw[e];by_cases h:s=t
 ·subst h;simp
 rw[decide_eq_false h];exact beq_eq_false_iff_ne.2 fun e=>h (by simpa using congrArg Array.toList e)
def findS{α : Type}(t:Txt):List (Txt × α)->Nat->Option (Nat × α)
 | [],_=>none
 |p :: r,i=>if t=p.1 then some (i,p.2) else findS t r (i+1)
theorem Qfq{α : Type}(t:Txt):∀(l:List (Txt × α)) (i:Nat),(findS t l i).map (·.2)=asc l t
 | [],_=>rfl
 |p :: r,i=>by
  unfold findS asc;by_cases h:t=p.1
  ·rw[if_pos h];simp[h]
  rw[if_neg h,Qfq t r (i+1)];have h2:¬p.1=t:=fun e=>h e.symm;simp[asc,h2]
theorem Qty(t:Txt):∀(es:List MapEntry) (ms:List (Txt×Value)) (i:Nat),es.map (fun e=>(e.key,e.val))=ms.map (fun p=>(str p.1,p.2)) ->
  Instr.findNow .string (str t) es i=some (findS t ms i)
 | [],[],_,_=>rfl
 | [],_ :: _,_,h=>by simp at h
 |_ :: _,[],_,h=>by simp at h
 |e :: es,p :: ms,i,h=>by
  simp only[List.map_cons,List.cons.injEq,Prod.mk.injEq]at h;obtain⟨⟨h1,h2⟩,h3⟩:=h;have ih:=Qty t es ms (i+1) h3;unfold Instr.findNow findS;rw[h1];simp only[Instr.sameNow,str_beq];by_cases b:t=p.1
  ·simp[b,h2]
  ·simp[b,ih]
def MpS(w:World)(mb:Nat)(ms:List (Txt×Value)):Prop:=∃es clock,w.heap[mb]?=some (.map es clock)/\es.toList.map (fun e=>(e.key,e.val))=ms.map (fun p=>(str p.1,p.2))
theorem MpS.lt{w:World}{mb:Nat}{ms:List (Txt×Value)}(h:MpS w mb ms):mb<w.heap.size:=by
 obtain⟨_,_,h,_⟩:=h;exact(Array.getElem?_eq_some_iff.1 h).1
theorem MpS.keep{w w':World}{mb:Nat}{ms:List (Txt×Value)}(h:MpS w mb ms)(e:w'.heap[mb]?=w.heap[mb]?):MpS w' mb ms:=by
 obtain⟨b,c,f,j⟩:=h;exact⟨b,c,e.trans f,j⟩
theorem MpS.new(w:World):MpS (w.alloc (.map #[] 0)) w.heap.size []:=⟨#[],0,heap_alloc_new w _,rfl⟩
section
variable {M KT ET:TypeId}(hK:Tryz.prog.underlying KT=some .string)
include hK
theorem Qtz(w:World)(t:Txt)(es:List MapEntry)(ms:List (Txt×Value))(h:es.map (fun e=>(e.key,e.val))=ms.map (fun p=>(str p.1,p.2))):
  (Instr.findKey KT (str t) es).run Tryz.prog w = .ok (findS t ms 0) w:=by
 unfold Instr.findKey;simp only[Sem.run_bind,run_underlying hK,Result.andThen_ok,Qty t es ms 0 h,Sem.run_pure]
theorem Qoo(w:World)(em:Bool)(d:Nat)(t:Txt):(Instr.checkKey em (d+1) KT (str t)).run Tryz.prog w = .ok () w:=by
 simp[Instr.checkKey,run_underlying hK]
variable (hM:Tryz.prog.underlying M=some (.map KT ET))
include hM
theorem Qdx{z:Value}(hz:∀w,(zeroValue ET).run Tryz.prog w = .ok z w)(w:World)(mb:Nat)(ms:List (Txt×Value))(t:Txt)(h:MpS w mb ms)(c:Bool):
  (Instr.lookup M (.map (some mb)) (str t) c).run Tryz.prog w = .ok (if c then .tuple #[(asc ms t).getD z,.bool (asc ms t).isSome] else (asc ms t).getD z) w:=by
 obtain⟨b,e,r,n⟩:=h;have j:=fun f=>Qoo hK w f 9999 t;have m:=Qtz hK w t b.toList ms n;have o:(getObj mb).run Tryz.prog w = .ok (.map b e) w:=MapKept.run_getObj_map r;unfold Instr.lookup;simp only[Sem.run_bind,run_underlying hM,Result.andThen_ok,o,Sem.run_pure,j,m];rw[<- Qfq t ms 0]
 cases s:findS t ms 0 with
 |none=>simp[hz]
 |some q=>obtain⟨k,v⟩:=q;simp
theorem Qqw(w:World)(mb:Nat)(ms:List (Txt×Value))(t:Txt)(v:Value)(h:MpS w mb ms)(hn:asc ms t=none):
  ∃w',(Instr.mapUpdate M (.map (some mb)) (str t) v).run Tryz.prog w = .ok () w'/\MpS w' mb (ms++[(t,v)])/\w'.heap.size=w.heap.size/\w'.os=w.os/\w'.tape=w.tape/\w'.output=w.output /\ ∀b,b≠mb->w'.heap[b]?=w.heap[b]?:=by
 obtain⟨e,c,f,j⟩:=h;have o:=fun n=>Qoo hK w n 9999 t;have q:=Qtz hK w t e.toList ms j;have u:(getObj mb).run Tryz.prog w = .ok (.map e c) w:=MapKept.run_getObj_map f;have m:mb<w.heap.size:=(Array.getElem?_eq_some_iff.1 f).1;have s:findS t ms 0=none:=by
  have:=Qfq t ms 0;rw[hn]at this
  simpa using this
 refine⟨{ w with heap:=w.heap.setIfInBounds mb (.map (e.push { key:=str t,val:=v,born:=c }) (c+1)) },?_,⟨e.push { key:=str t,val:=v,born:=c },c+1,?_,?_⟩,by simp,rfl,rfl,rfl,fun b r=>?_⟩
 ·
  unfold Instr.mapUpdate;simp only[Sem.run_bind,run_underlying hM,Result.andThen_ok,u,o,q,s];exact MapKept.run_setObj_map _ f
 ·
  show(w.heap.setIfInBounds mb _)[mb]?=some _;exact Array.getElem?_setIfInBounds_self_of_lt m
 ·simp[j]
 show(w.heap.setIfInBounds mb _)[b]?=_;exact Array.getElem?_setIfInBounds_ne (Ne.symm r)
end
theorem mI:Tryz.prog.underlying 125=some (.map 9 3):=by kernel_rfl
theorem mP:Tryz.prog.underlying 126=some (.map 9 133):=by kernel_rfl
theorem uS:Tryz.prog.underlying 9=some .string:=by kernel_rfl
theorem zI(w:World):(zeroValue 3).run Tryz.prog w = .ok (Ji 0) w:=Tryz.zeroValue3 w
theorem zP(w:World):(zeroValue 133).run Tryz.prog w = .ok (.agg #[Ji 0,Ji 0]) w:=Tryz.zeroValue133 w
def addF(ms:List (Txt×Value))(n:Txt)(v:Value):List (Txt×Value):=match asc ms n with|some _=>ms|none=>ms++[(n,v)]
theorem Qsb(ms:List (Txt×Value))(n:Txt)(v:Value)(t:Txt):asc (addF ms n v) t=asc (ms++[(n,v)]) t:=by
 rw[Qiu];unfold addF
 cases h:asc ms n with
 |some _=>rfl
 |none=>
  simp only;rw[Qiu,h]
theorem Qlk{w:World}{mb:Nat}{ms:List (Txt×Value)}(h:MpS w mb ms)(n:Txt)(k:Int):
  Calls Tryz.prog 69 #[.map (some mb),str n,Ji k] w fun en w'=>en = .returned (.tuple #[])/\MpS w' mb (addF ms n (Ji k))/\Kp mb w w':=by
 have e:=Qdx uS mI zI w mb ms n h true;rw[if_pos rfl]at e;have H:=hide h;unfold addF
 cases c:asc ms n with
 |some u=>
  rw[c]at e;simp only[Option.getD_some,Option.isSome_some]at e;clear h c;go_enter Tryz.func69,Tryz.ntmps69;go_wp2_with fail
  go_end0
  exact⟨rfl,Qa H,Kp.refl _ _⟩
 |none=>
  rw[c]at e;simp only[Option.getD_none,Option.isSome_none]at e;obtain⟨w',x,j,t,m,o,q,f⟩:=Qqw uS mI w mb ms n (Ji k) h c;have r:=hide (show MpS w' mb (ms++[(n,Ji k)])/\Kp mb w w' from ⟨j,m,o,q,by omega,fun b _ s=>f b s⟩);clear h c j t m o q f;go_enter Tryz.func69,Tryz.ntmps69;go_wp2_with fail
  go_end0
  exact⟨rfl,Qa r⟩
theorem Qrz{w:World}{mb:Nat}{ms:List (Txt×Value)}(h:MpS w mb ms)(n:Txt)(i k:Int)(hp:∀u,asc ms n=some u -> ∃a b:Int,u = .agg #[Ji a,Ji b]):
  Calls Tryz.prog 70 #[.map (some mb),str n,.agg #[Ji i,Ji k]] w fun en w'=>en = .returned (.tuple #[])/\MpS w' mb (addF ms n (.agg #[Ji i,Ji k]))/\Kp mb w w':=by
 obtain⟨r,e⟩:=JE (w.alloc (.cells #[Ji i,Ji k] 133));have o:=bnw e;have A:=nnw e;have J:r.heap.size=w.heap.size+1:=by rw[e];simp
 have j:=h.keep (o.block _ h.lt);have q:=Qdx uS mP zP r mb ms n j true;rw[if_pos rfl]at q;unfold addF
 cases m:asc ms n with
 |some u=>
  rw[m]at q;obtain⟨a,b,rfl⟩:=hp u m;simp only[Option.getD_some,Option.isSome_some]at q;obtain⟨s,f⟩:=JE (r.alloc (.cells #[Ji a,Ji b] 133));have c:=bnw f;have z:=hide (show MpS s mb ms/\Kp mb w s from ⟨j.keep (c.block _ j.lt),(Kp.of_below o).trans (Kp.of_below c)⟩);have t:=hide e;have x:=hide f;clear h hp m j o A J c e f;go_enter Tryz.func70,Tryz.ntmps70;go_upto_region 1 with fail;rw[<- Qa t];go_wp2_with fail;rw[<- Qa x]
  go_end0
  exact⟨rfl,Qa z⟩
 |none=>
  rw[m]at q;simp only[Option.getD_none,Option.isSome_none]at q;obtain⟨s,f⟩:=JE (r.alloc (.cells #[Ji 0,Ji 0] 133));have c:=bnw f;have B:=j.keep (c.block _ j.lt);have I:=(c.block _ (by omega)).trans A;obtain⟨O,P,Q⟩:=cl2 I;obtain⟨w',N,D,L,F,G,H,C⟩:=Qqw uS mP s mb ms n (.agg #[Ji i,Ji k]) B m;have z:=hide (show MpS w' mb (ms++[(n,.agg #[Ji i,Ji k])])/\Kp mb w w' from ⟨D,((Kp.of_below o).trans (Kp.of_below c)).trans ⟨F,G,H,by omega,fun b _ K=>C b K⟩⟩);have t:=hide e;have x:=hide f;clear h hp m j o A J c B I D L F G H C e f;go_enter Tryz.func70,Tryz.ntmps70;go_upto_region 1 with fail;rw[<- Qa t];go_upto_region 2 with fail;rw[<- Qa x];go_wp2_with fail
  go_end0
  exact⟨rfl,Qa z⟩
def LsO{α : Type}(p:PS α)(k:Nat)(S:Nat->Prop)(w:World)(v:Value)(xs:List α):Prop:=
 (∃a cap,v = .slice a xs.length cap/\xs.length<=cap/\cap<=maxLen) /\ ∀j x,xs[j]?=some x -> ∃b o cap cs,v = .slice (some ⟨b,o,none⟩) xs.length cap/\b<w.heap.size/\S b/\cs.length=k/\p S w cs x /\ ∀q c,cs[q]?=some c->w.cell? ⟨b,o+j*k+q,none⟩=some c
section
variable {α : Type}{p:PS α}{k:Nat}{S:Nat->Prop}{w:World}{v:Value}{xs:List α}
theorem LsAt.toO(h:LsAt p k S w v xs):LsO p k S w v xs:=by
 refine⟨?_,fun j x t=>?_⟩
 ·
  obtain⟨a,cap,_,e,f,m,_⟩:=h;exact⟨a,cap,e,f,m⟩
 obtain⟨b,cap,cs,e,f,m,n,o,r⟩:=h.elem t;exact⟨b,0,cap,cs,e,f,m,n,o,fun q c s=>by rw[Nat.zero_add];exact r q c s⟩
theorem LsO.elem(h:LsO p k S w v xs){j:Nat}{x:α}(hx:xs[j]?=some x):∃b o cap cs,v = .slice (some (Ja b o)) xs.length cap/\b<w.heap.size/\S b/\cs.length=k/\p S w cs x /\ ∀q c,cs[q]?=some c->w.cell? (Ja b (o+j*k+q))=some c:=h.2 j x hx
theorem LsO.sl(h:LsO p k S w v xs):∃a c,v = .slice a xs.length c:=by
 obtain⟨a,c,e,_⟩:=h.1;exact⟨a,c,e⟩
theorem LsO.cap(h:LsO p k S w v xs){a:Option Addr}{n c:Nat}(e:v = .slice a n c):n<=c/\c<=9223372036854775807:=by
 obtain⟨j,m,rfl,f,b⟩:=h.1;cases e
 unfold maxLen at b;exact⟨f,b⟩
theorem LsO.mono(hp:PSok p){S':Nat->Prop}(h:LsO p k S w v xs)(hS:∀b,b<w.heap.size->S b->S' b):LsO p k S' w v xs:=
 ⟨h.1,fun j x r=>by
  obtain⟨b,o,cap,cs,e,c,f,m,n,q⟩:=h.2 j x r
  exact⟨b,o,cap,cs,e,c,hS b c f,m,hp.mono _ _ _ _ _ n hS,q⟩⟩
theorem LsO.same(hp:PSok p){w':World}(h:LsO p k S w v xs)(hs:w.heap.size<=w'.heap.size)(hb:∀b,S b->b<w.heap.size->w'.heap[b]?=w.heap[b]?):LsO p k S w' v xs:=
 ⟨h.1,fun j x u=>by
  obtain⟨b,o,cap,cs,e,m,f,n,r,s⟩:=h.2 j x u
  exact⟨b,o,cap,cs,e,by omega,f,n,hp.same _ _ _ _ _ r hs hb,fun q c t=>by
   have:=s q c t;simp only[World.cell?]at this ⊢;rw[hb b f m]
   exact this⟩⟩
theorem LsO.later(hp:PSok p){w':World}(h:LsO p k S w v xs)(b:Below w.heap.size w w'):LsO p k S w' v xs:=h.same hp b.size (fun k _ c=>b.block k c)
end
def PgO(S:Nat->Prop)(w:World)(v:List Value)(p:Pg):Prop:=∃vt vd vc vi vl,v=[vt,vd,vc,vi,vl]/\LsAt PTy 4 S w vt p.types/\LsAt PDc 5 S w vd p.decls/\LsAt PCo 8 S w vc p.comps/\LsAt PIn 3 S w vi p.inits/\LsO PCl 5 S w vl p.clauses
theorem PgO.cells{S:Nat->Prop}{w:World}{v:List Value}{p:Pg}(h:PgO S w v p):∃vt vd vc vi vl,v=[vt,vd,vc,vi,vl]/\LsAt PTy 4 S w vt p.types/\LsAt PDc 5 S w vd p.decls/\LsAt PCo 8 S w vc p.comps/\LsAt PIn 3 S w vi p.inits/\LsO PCl 5 S w vl p.clauses:=h
theorem PgS.toO{S:Nat->Prop}{w:World}{v:List Value}{p:Pg}(h:PgS S w v p):PgO S w v p:=by
 obtain⟨r,o,n,q,vl,e,b,c,f,j,m⟩:=PgS.cells h;exact⟨r,o,n,q,vl,e,b,c,f,j,m.toO⟩
theorem Qcj:PSok (α :=Pg) PgO where
 mono:=fun _ _ _ _ _ ⟨vt,vd,vc,vi,vl,e,h0,h1,h2,h3,h4⟩ hS=>⟨vt,vd,vc,vi,vl,e,h0.mono Qbe hS,h1.mono Qav hS,h2.mono Qbj hS,h3.mono Qbg hS,h4.mono Qaw hS⟩
 same:=fun _ _ _ _ _ ⟨vt,vd,vc,vi,vl,e,h0,h1,h2,h3,h4⟩ hs hb=>⟨vt,vd,vc,vi,vl,e,h0.same Qbe hs hb,h1.same Qav hs hb,h2.same Qbj hs hb,h3.same Qbg hs hb,h4.same Qaw hs hb⟩
end
end Go.Proofs.YtkhndlnadhggkaaGreat
