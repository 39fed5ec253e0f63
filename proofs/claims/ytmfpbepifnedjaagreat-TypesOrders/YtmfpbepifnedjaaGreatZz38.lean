/- The document's row of a type, purely. -/
import Derived.Test.YtmfpbepifnedjaaGreatZz01
import Derived.Test.YtmfpbepifnedjaaGreatZz37
import Derived.Test.YtmfpbepifnedjaaGreatZz18
import Derived.Test.YtmfpbepifnedjaaGreatZz31
set_option maxRecDepth 100000
set_option maxHeartbeats 32000000
namespace Go.Proofs.YtmfpbepifnedjaaGreat
section
open Go.RowKit Go.Maps
theorem Qby{α : Type}(n:Txt)(v:α)(l:List (Txt × α))(t:Txt):asc ((n,v) :: l) t=if n=t then some v else asc l t:=by
 unfold asc
 rw[List.find?_cons]
 by_cases h:n=t<;>simp[h]
theorem Qfp:∀(ts:List Typ) (o:Nat) (t:Txt),
  (ts.find? (fun x=>x.name==t)=none->asc ((ts.zipIdx o).map fun q=>(q.1.name,3+q.2)) t=none) /\
  (∀x,ts.find? (fun x=>x.name==t)=some x -> ∃j,ts[j]?=some x/\x.name=t/\asc ((ts.zipIdx o).map fun q=>(q.1.name,3+q.2)) t=some (3+(o+j)))
 | [],o,t=>⟨fun _=>rfl,fun x h=>by cases h⟩
 |y :: ts,o,t=>by
  have ih:=Qfp ts (o+1) t
  rw[List.find?_cons,List.zipIdx_cons,List.map_cons,Qby]
  by_cases h:y.name=t
  ·
   have a:(y.name==t)=true:=by simpa using h
   rw[a,if_pos h]
   exact⟨fun e=>(by cases e),fun x e=>(by cases e;exact⟨0,rfl,h,rfl⟩)⟩
  have a:(y.name==t)=false:=by simpa using h
  rw[a,if_neg h]
  refine⟨fun e=>ih.1 e,fun x e=>?_⟩
  obtain⟨j,b,c,d⟩:=ih.2 x e
  exact⟨j+1,by simpa using b,c,by rw[d];congr 1;omega⟩
theorem Qqa(p:Pg):tyNo p tNum=1:=by
 unfold tyNo tyRow
 rw[Qby,if_pos rfl]
 rfl
theorem Qqb(p:Pg):tyNo p tSym=2:=by
 unfold tyNo tyRow
 rw[Qby,if_neg (by decide),Qby,if_pos rfl]
 rfl
theorem Qq{p:Pg}{t:Txt}(h1:t≠tNum)(h2:t≠tSym)(h:kdP p t=none):tyNo p t=0:=by
 unfold tyNo tyRow
 rw[Qby,if_neg (fun e=>h1 e.symm),Qby,if_neg (fun e=>h2 e.symm),(Qfp p.types 0 t).1 h]
 rfl
theorem Qkz{p:Pg}{t:Txt}{x:Typ}(h1:t≠tNum)(h2:t≠tSym)(h:kdP p t=some x):∃j,p.types[j]?=some x/\x.name=t/\tyNo p t=3+j:=by
 obtain⟨j,a,b,c⟩:=(Qfp p.types 0 t).2 x h
 refine⟨j,a,b,?_⟩
 unfold tyNo tyRow
 rw[Qby,if_neg (fun e=>h1 e.symm),Qby,if_neg (fun e=>h2 e.symm),c]
 simp
theorem Qdk{p:Pg}{t:Txt}(h:tyNo p t≠0):kName p (tyNo p t)=t:=by
 by_cases a:t=tNum
 ·rw[a,Qqa];rfl
 by_cases b:t=tSym
 ·rw[b,Qqb];rfl
 cases c:kdP p t with
 |none=>exact absurd (Qq a b c) h
 |some x=>
  obtain⟨j,d,e,f⟩:=Qkz a b c
  rw[f,(Qpi d).1,e]
theorem Qjj{p:Pg}{k:Nat}:∀i,(∀j,j<i->kInit p (far p j k) = -1)->kBase p k=kBase p (far p i k)
 | 0,_=>rfl
 |i+1,h=>by
  rw[Qjj i (fun j hj=>h j (by omega)),Qez (h i (by omega)),Qdb]
structure Rwy(p:Pg)(k0 i:Nat)(l:List Txt)(t:Txt):Prop where
 no:tyNo p t=far p i k0
 own:∀j,j<i->kInit p (far p j k0) = -1
 nam:l=(List.range i).map fun j=>kName p (far p j k0)
 ims:∀j,j<i->tyNo p (kName p (far p j k0))=far p j k0
 apart:∀a b,a<b->b<i->far p a k0≠far p b k0
section
variable {p:Pg}{k0 i:Nat}{l:List Txt}{t:Txt}
theorem Rwy.start(p:Pg)(t:Txt):Rwy p (tyNo p t) 0 [] t:=⟨rfl,fun j h=>absurd h (Nat.not_lt_zero j),rfl,fun j h=>absurd h (Nat.not_lt_zero j),fun _ b _ h=>absurd h (Nat.not_lt_zero b)⟩
theorem Rwy.len(h:Rwy p k0 i l t):i<=p.types.length:=by
 by_cases e:i<=p.types.length
 ·exact e
 obtain⟨a,b,c,m,d⟩:=pigeon p.types.length (fun j=>far p j k0 - 3) (fun j o=>(Qco (h.own j (by omega))).2)
 have f:=Qco (h.own a (by omega))
 have g:=Qco (h.own b (by omega))
 have n:far p a k0 - 3=far p b k0 - 3:=d
 exact absurd (by omega) (h.apart a b c (by omega))
theorem Rwy.size(h:Rwy p k0 i l t):l.length=i:=by rw[h.nam];simp
theorem Rwy.snoc(h:Rwy p k0 i l t)(hz:tyNo p t≠0):l++[t]=(List.range (i+1)).map fun j=>kName p (far p j k0):=by
 rw[List.range_succ,List.map_append,<- h.nam]
 show l++[t]=l++[kName p (far p i k0)]
 rw[<- h.no,Qdk hz]
theorem Rwy.next(h:Rwy p k0 i l t)(ha:l.any (· == t)=false)(h1:t≠tNum)(h2:t≠tSym){x:Typ}(hk:kdP p t=some x)(hc:x.ctors=[])(hw:WfT p):Rwy p k0 (i+1) (l++[t]) x.sub:=by
 obtain⟨j,g,w,m⟩:=Qkz h1 h2 hk
 have u:x.sub≠[]:=fun e=>(hw x (List.mem_of_getElem? g)).1 e hc
 obtain⟨z,v,n⟩:=Qpi g
 rw[if_neg u,<- m,h.no]at n
 have d:tyNo p t≠0:=by omega
 refine⟨?_,?_,h.snoc d,?_,?_⟩
 ·rw[Qdb,<- h.no,m,v]
 ·
  intro q s
  by_cases c:q=i
  ·rw[c];exact n
  ·exact h.own q (by omega)
 ·
  intro q s
  by_cases c:q=i
  ·rw[c,<- h.no,Qdk d]
  ·exact h.ims q (by omega)
 intro a b f y
 by_cases o:b=i
 ·
  subst o
  intro e
  have r:l.any (· == t)=true:=by
   rw[h.nam,List.any_eq_true]
   refine⟨t,List.mem_map.2 ⟨a,List.mem_range.2 f,?_⟩,by simp⟩
   rw[e,<- h.no,Qdk d]
  rw[r]at ha
  cases ha
 ·exact h.apart a b f (by omega)
structure RwyE(p:Pg)(k0 i:Nat)(l:List Txt):Prop where
 nam:l=(List.range (i+1)).map fun j=>kName p (far p j k0)
 own:∀j,j<i->kInit p (far p j k0) = -1
 last:kInit p (far p i k0)=(far p i k0:Int)
 nz:far p i k0≠0
 ims:∀j,j<=i->tyNo p (kName p (far p j k0))=far p j k0
 cnt:i<=p.types.length
theorem Rwy.fin(h:Rwy p k0 i l t)(hi:kInit p (tyNo p t)=(tyNo p t:Int))(hz:tyNo p t≠0):RwyE p k0 i (l++[t]):=by
 refine⟨h.snoc hz,h.own,by rw[<- h.no];exact hi,by rw[<- h.no];exact hz,?_,h.len⟩
 intro j b
 by_cases a:j=i
 ·rw[a,<- h.no,Qdk hz]
 ·exact h.ims j (by omega)
theorem Rwy.num(h:Rwy p k0 i l t)(e:t=tNum∨t=tSym):RwyE p k0 i (l++[t]):=by
 rcases e with e|e
 ·
  refine h.fin ?_ ?_<;>rw[e,Qqa]
  ·rfl
  ·decide
 refine h.fin ?_ ?_<;>rw[e,Qqb]
 ·rfl
 ·decide
theorem Rwy.sum(h:Rwy p k0 i l t)(h1:t≠tNum)(h2:t≠tSym){x:Typ}(hk:kdP p t=some x)(hc:x.ctors≠[])(hw:WfT p):RwyE p k0 i (l++[t]):=by
 obtain⟨j,a,d,c⟩:=Qkz h1 h2 hk
 obtain⟨e,f,b⟩:=Qpi a
 rw[if_pos ((hw x (List.mem_of_getElem? a)).2 hc),<- c]at b
 exact h.fin b (by omega)
theorem Rwy.none(h:Rwy p k0 i l t)(h1:t≠tNum)(h2:t≠tSym)(hk:kdP p t=none):kBase p k0=0:=by
 have e:=Qq h1 h2 hk
 rw[Qjj i h.own,<- h.no,e]
 exact Qey (by show((0:Nat):Int) ≠ -1;decide)
theorem RwyE.base(h:RwyE p k0 i l):kBase p k0=(far p i k0:Int):=by
 rw[Qia p i k0 h.own (by rw[h.last];omega),h.last]
theorem RwyE.has(h:RwyE p k0 i l):hasB (kBase p k0)=true:=by
 have:=h.nz
 rw[h.base]
 unfold hasB
 rw[decide_eq_false (by omega),decide_eq_false (by omega)]
 rfl
theorem RwyE.size(h:RwyE p k0 i l):l.length=i+1:=by rw[h.nam];simp
theorem Qmt(h:RwyE p k0 i l)(to0:Nat):∀f j,j<=i->i - j<=f->upTo p to0 (far p i k0:Int) f (far p j k0)=(List.range' j (i+1 - j)).any fun q=>decide (far p q k0=to0)
 | 0,j,h1,h2=>by
  have e:j=i:=by omega
  subst e
  rw[show j+1 - j=1 by omega]
  simp[upTo]
 |f+1,j,h1,h2=>by
  rw[show i+1 - j=(i - j)+1 by omega,List.range'_succ,List.any_cons]
  unfold upTo
  by_cases a:far p j k0=to0
  ·rw[if_pos a,decide_eq_true a];rfl
  rw[if_neg a,decide_eq_false a,Bool.false_or]
  by_cases c:j=i
  ·
   subst c
   rw[if_pos rfl,Nat.sub_self]
   rfl
  have d:¬((far p j k0:Int)=(far p i k0:Int)):=fun e=>by
   have b:far p j k0=far p i k0:=by omega
   have q:=h.own j (by omega)
   rw[b,h.last]at q
   omega
  rw[if_neg d,<- Qdb,Qmt h to0 f (j+1) (by omega) (by omega),show i+1 - (j+1)=i - j by omega]
theorem RwyE.below(h:RwyE p k0 i l)(b:Txt):upTo p (tyNo p b) (kBase p k0) (p.types.length+1) k0=l.any (· == b):=by
 rw[h.base]
 have e:=Qmt h (tyNo p b) (p.types.length+1) 0 (Nat.zero_le _) (by have:=h.cnt;omega)
 rw[show far p 0 k0=k0 from rfl]at e
 rw[e,h.nam,List.any_map,Nat.sub_zero,List.range_eq_range']
 refine Bool.eq_iff_iff.2 ?_
 rw[List.any_eq_true,List.any_eq_true]
 constructor
 ·
  rintro⟨q,c,d⟩
  refine⟨q,c,?_⟩
  have f:q<i+1:=by simpa using c
  have a:far p q k0=tyNo p b:=of_decide_eq_true d
  have m:tyNo p b≠0:=fun j=>by
   rw[j]at a
   by_cases g:q=i
   ·rw[g]at a;exact h.nz a
   have:=h.own q (by omega)
   rw[a]at this
   cases this
  have:kName p (far p q k0)=b:=by rw[a,Qdk m]
  simpa using this
 rintro⟨q,c,d⟩
 refine⟨q,c,?_⟩
 have f:q<i+1:=by simpa using c
 have a:kName p (far p q k0)=b:=by simpa using d
 have:=h.ims q (by omega)
 rw[a]at this
 exact decide_eq_true this.symm
end
end
section
structure OkT(p:Pg):Prop where
 nm:∀(i:Nat) (t:Typ),p.types[i]?=some t->tyNo p t.name=3+i
 sb:∀(i:Nat) (t:Typ),p.types[i]?=some t->t.sub≠[]->tyNo p t.sub≠0
 bs:∀i,i<p.types.length->kBase p (3+i) ≠ -2
theorem Qmv(p:Pg):∀(ts:List Typ) (o:Nat),(wNameP p (ts.zipIdx o)).1=0 -> ∀(i:Nat) (t:Typ),ts[i]?=some t->tyNo p t.name=3+(o+i)
 | [],o,_,i,t,h=>by simp at h
 |x :: ts,o,hw,i,t,h=>by
  rw[List.zipIdx_cons]at hw
  unfold wNameP at hw
  split at hw
  ·exact absurd hw (by show(1:Int)≠0;decide)
  split at hw
  ·exact absurd hw (by show(11:Int)≠0;decide)
  rename_i h2
  cases i with
  |zero=>
   simp only[List.getElem?_cons_zero,Option.some.injEq]at h
   subst h
   exact Classical.not_not.1 (fun e=>h2 (.inl e))
  |succ i=>
   have:=Qmv p ts (o+1) hw i t (by simpa using h)
   rw[this]
   omega
theorem Qip(p:Pg):∀(ts:List Typ) (o:Nat),(wTypeP p (ts.zipIdx o)).1=0 -> ∀(i:Nat) (t:Typ),ts[i]?=some t->(t.sub≠[]->tyNo p t.sub≠0)/\kBase p (3+(o+i)) ≠ -2
 | [],o,_,i,t,h=>by simp at h
 |x :: ts,o,hw,i,t,h=>by
  rw[List.zipIdx_cons]at hw
  unfold wTypeP at hw
  split at hw
  ·exact absurd hw (by show(6:Int)≠0;decide)
  split at hw
  ·exact absurd hw (by show(12:Int)≠0;decide)
  rename_i h1 h2
  cases i with
  |zero=>
   simp only[List.getElem?_cons_zero,Option.some.injEq]at h
   subst h
   exact⟨fun e1 e2=>h1 (.inl ⟨e1,e2⟩),h2⟩
  |succ i=>
   have:=Qip p ts (o+1) hw i t (by simpa using h)
   rw[show o+(i+1)=o+1+i by omega]
   exact this
theorem ckF_ok{p:Pg}(h:(ckF p 0).1=0):(wNameP p p.types.zipIdx).1=0/\(wTypeP p p.types.zipIdx).1=0/\(wDeclP p p.decls.zipIdx).1=0/\(wClauseP p p.clauses).1=0:=by
 rw[ckF]at h
 by_cases a:(wNameP p p.types.zipIdx).1=0
 ·
  rw[if_neg (fun e=>e a)]at h
  by_cases b:(wTypeP p p.types.zipIdx).1=0
  ·
   rw[if_neg (fun e=>e b)]at h
   by_cases c:(wDeclP p p.decls.zipIdx).1=0
   ·
    rw[if_neg (fun e=>e c)]at h
    by_cases d:(wClauseP p p.clauses).1=0
    ·exact⟨a,b,c,d⟩
    ·rw[if_pos d]at h;exact absurd h d
   ·rw[if_pos c]at h;exact absurd h c
  ·rw[if_pos b]at h;exact absurd h b
 ·rw[if_pos a]at h;exact absurd h a
theorem okT_of{p:Pg}(h:(ckF p 0).1=0):OkT p:=by
 obtain⟨b,a,_,_⟩:=ckF_ok h
 refine⟨fun i t e=>?_,fun i t e=>?_,fun i c=>?_⟩
 ·
  have:=Qmv p p.types 0 b i t e
  rw[this];omega
 ·exact(Qip p p.types 0 a i t e).1
 have:=(Qip p p.types 0 a i _ (List.getElem?_eq_getElem c)).2
 rw[Nat.zero_add]at this
 exact this
def Vk(p:Pg)(k:Nat):Prop:=1<=k/\k<p.types.length+3
section
variable {p:Pg}(ok:OkT p)
include ok
theorem OkT.sub{k:Nat}(h:kInit p k = -1):Vk p (kSub p k):=by
 obtain⟨d,b⟩:=Qco h
 obtain⟨t,a⟩:∃t,p.types[k - 3]?=some t:=⟨_,List.getElem?_eq_getElem b⟩
 have c:t.sub≠[]:=fun e=>by
  unfold kInit at h
  rw[if_neg (by omega),a]at h
  simp only[if_pos e]at h
  omega
 have e:kSub p k=tyNo p t.sub:=by
  unfold kSub
  rw[if_neg (by omega),a]
  rfl
 rw[e]
 exact⟨by have:=ok.sb _ t a c;omega,Qio p t.sub⟩
theorem OkT.far{k:Nat}(hk:Vk p k):∀i,(∀j,j<i->kInit p (far p j k) = -1)->Vk p (far p i k)
 | 0,_=>hk
 |i+1,h=>by
  rw[Qdb]
  exact ok.sub (h i (by omega))
theorem OkT.name{k:Nat}(hk:Vk p k):tyNo p (kName p k)=k:=by
 obtain⟨d,f⟩:=hk
 by_cases a:k=1
 ·subst a;exact Qqa p
 by_cases b:k=2
 ·subst b;exact Qqb p
 obtain⟨t,c⟩:∃t,p.types[k - 3]?=some t:=⟨_,List.getElem?_eq_getElem (by omega)⟩
 have e:kName p k=t.name:=by
  unfold kName
  rw[if_neg a,if_neg b,if_neg (by omega),c]
  rfl
 rw[e,ok.nm _ t c]
 omega
theorem OkT.base{k:Nat}(hk:Vk p k):kBase p k ≠ -2:=by
 obtain⟨a,b⟩:=hk
 by_cases e:k<3
 ·
  rw[Qey (by unfold kInit;rw[if_pos e];omega)]
  unfold kInit
  rw[if_pos e]
  omega
 have:=ok.bs (k - 3) (by omega)
 rw[show 3+(k - 3)=k by omega]at this
 exact this
theorem OkT.row{k:Nat}(hk:Vk p k):∃i l,RwyE p k i l:=by
 obtain⟨i,f,a,d,e⟩:=Qfb p _ _ _ rfl (ok.base hk)
 have b:=ok.far hk i a
 have c:kInit p (Go.Proofs.YtmfpbepifnedjaaGreat.far p i k) ≠ -1:=by rw[d];exact e
 refine⟨i,_,rfl,a,Qhc b.2 c,by have:=b.1;omega,fun j g=>?_,by omega⟩
 exact ok.name (ok.far hk j (fun q h=>a q (by omega)))
end
section
variable {p:Pg}{k i:Nat}{l:List Txt}
theorem RwyE.mem(h:RwyE p k i l){b:Txt}:b∈l ↔ ∃q,q<=i/\far p q k=tyNo p b/\tyNo p b≠0:=by
 rw[h.nam]
 constructor
 ·
  intro g
  obtain⟨q,c,e⟩:=List.mem_map.1 g
  have m:q<i+1:=List.mem_range.1 c
  have a:=h.ims q (by omega)
  rw[e]at a
  refine⟨q,by omega,a.symm,?_⟩
  rw[a]
  by_cases d:q=i
  ·rw[d];exact h.nz
  intro f
  have:=h.own q (by omega)
  rw[f]at this
  cases this
 rintro⟨q,c,e,j⟩
 refine List.mem_map.2 ⟨q,List.mem_range.2 (by omega),?_⟩
 rw[e,Qdk j]
theorem RwyE.suffix(h:RwyE p k i l){q:Nat}(hq:q<=i):∃m,RwyE p (far p q k) (i - q) m:=by
 refine⟨_,rfl,fun j a=>?_,?_,?_,fun j a=>?_,by have:=h.cnt;omega⟩
 ·rw[<- Qcv];exact h.own _ (by omega)
 ·rw[<- Qcv,show q+(i - q)=i by omega];exact h.last
 ·rw[<- Qcv,show q+(i - q)=i by omega];exact h.nz
 ·rw[<- Qcv];exact h.ims _ (by omega)
theorem RwyE.uniq{i':Nat}{l':List Txt}(h:RwyE p k i l)(h':RwyE p k i' l'):i=i':=by
 have ne:∀{a b:Nat} {m m':List Txt},RwyE p k a m->RwyE p k b m' -> ¬a<b:=fun e f c=>by
  have d:=f.own _ c
  rw[e.last]at d
  omega
 have g:=ne h h'
 have j:=ne h' h
 omega
end
theorem Qch{p:Pg}{a b:Txt}{i:Nat}{l:List Txt}(h:RwyE p (tyNo p a) i l):belowP p a b=true↔b∈l:=by
 unfold belowP
 rw[h.has,h.below,Bool.true_and,List.any_eq_true]
 constructor
 ·
  rintro⟨x,d,e⟩
  rw[<- (show x=b by simpa using e)]
  exact d
 intro c
 exact⟨b,c,by simp⟩
theorem Qkm{p:Pg}{a:Txt}{i:Nat}{l:List Txt}(h:RwyE p (tyNo p a) i l):baseP p a=some (kName p (far p i (tyNo p a))):=by
 unfold baseP
 rw[if_pos h.has,h.base]
 rfl
def NmT(p:Pg)(a:Txt):Prop:=tyNo p a≠0
theorem NmT.vk{p:Pg}{a:Txt}(ha:NmT p a):Vk p (tyNo p a):=⟨by have:tyNo p a≠0:=ha;omega,Qio p a⟩
section
variable {p:Pg}(ok:OkT p)
include ok
theorem Qmg{a:Txt}(ha:NmT p a):∃x,baseP p a=some x/\belowP p a a=true/\belowP p a x=true:=by
 obtain⟨i,l,h⟩:=ok.row ha.vk
 refine⟨_,Qkm h,(Qch h).2 (h.mem.2 ⟨0,Nat.zero_le _,rfl,ha⟩),(Qch h).2 ?_⟩
 refine h.mem.2 ⟨i,Nat.le_refl _,(h.ims i (Nat.le_refl _)).symm,?_⟩
 rw[h.ims i (Nat.le_refl _)]
 exact h.nz
theorem ord_one{a b:Txt}(ha:NmT p a)(hab:belowP p a b=true):baseP p b=baseP p a:=by
 obtain⟨i,l,h⟩:=ok.row ha.vk
 obtain⟨q,d,e,f⟩:=h.mem.1 ((Qch h).1 hab)
 obtain⟨m,c⟩:=h.suffix d
 rw[e]at c
 rw[Qkm c,Qkm h,<- e,<- Qcv,show q+(i - q)=i by omega]
theorem Qqc{a b c:Txt}(ha:NmT p a)(hab:belowP p a b=true)(hbc:belowP p b c=true):belowP p a c=true:=by
 obtain⟨i,l,h⟩:=ok.row ha.vk
 obtain⟨q,j,e,o⟩:=h.mem.1 ((Qch h).1 hab)
 obtain⟨m,d⟩:=h.suffix j
 rw[e]at d
 obtain⟨r,n,g,f⟩:=d.mem.1 ((Qch d).1 hbc)
 refine(Qch h).2 (h.mem.2 ⟨q+r,by omega,?_,f⟩)
 rw[Qcv,e,g]
theorem Qss{a b:Txt}(ha:NmT p a)(hb:NmT p b)(hab:belowP p a b=true)(hba:belowP p b a=true):a=b:=by
 obtain⟨i,l,h⟩:=ok.row ha.vk
 obtain⟨q,n,e,v⟩:=h.mem.1 ((Qch h).1 hab)
 obtain⟨m,c⟩:=h.suffix n
 rw[e]at c
 obtain⟨r,o,g,s⟩:=c.mem.1 ((Qch c).1 hba)
 obtain⟨w,d⟩:=c.suffix o
 rw[g]at d
 have u:=h.uniq d
 have f:q=0:=by omega
 subst f
 have j:tyNo p a=tyNo p b:=e
 rw[<- Qdk ha,<- Qdk hb,j]
end
end
section
open Go.RowKit Go.Maps
def VtR(R:Except Flt Txt)(t:Txt)(ft:Flt):Prop:=match R with | .ok s=>t=s/\ft=(0,0) | .error e=>ft=e/\e.1≠0
def VlA(w:World)(R:Except Flt Txt)(en:Ending)(w':World):Prop:=∃t ft,en = .returned (.tuple #[str t,ftV ft])/\VtR R t ft/\Below w.heap.size w w'
def FuR(R:Except Flt Unit)(ft:Flt):Prop:=match R with | .ok _=>ft=(0,0) | .error e=>ft=e/\e.1≠0
def opR(R:Except Flt Unit):Except Flt Txt:=match R with | .ok _=>.ok tNum | .error f=>.error f
def OpA(w:World)(R:Except Flt Unit)(en:Ending)(w':World):Prop:=∃ft,en = .returned (ftV ft)/\FuR R ft/\Below w.heap.size w w'
theorem Qnx(w:World)(wb:Nat)(x:Ex)(hk:x.kind=4)(xa:Option Addr)(xn xc:Nat):
  Calls Tryz.prog 117 #[.pointer (Js wb),.agg #[Ji x.kind,Ji x.num,str x.txt,.slice xa xn xc,Ji x.at_]] w fun en w'=>VlA w (.error (15,x.at_)) en w':=by
 obtain⟨D,h,a,o,b,c⟩:=Qas w #[Ji x.kind,Ji x.num,str x.txt,.slice xa xn xc,Ji x.at_] 59
 have I:(x.kind==1)=false:=by rw[hk];rfl
 have J:(x.kind==4)=true:=beq_iff_eq.2 hk
 have j:=Qbd D 15 x.kind x.num x.txt (.slice xa xn xc) ⟨_,_,_,rfl⟩ x.at_
 obtain⟨r,s,u,y,z,E⟩:=cl5 o
 have n:=hide (Ya a (Ya b c))
 have C:=hide h
 clear h a o b c hk
 go_enter Tryz.func117,Tryz.ntmps117
 go_upto_region 1 with fail
 rw[<- Qa C]
 go_wp2_with fail
 refine j.mono ?_
 clear j r s u y z E
 rintro en K⟨rfl,e⟩
 obtain⟨a,b,c⟩:=Qa n
 have d:=(e.block _ (Qaa b)).trans b
 have f:=a.trans (e.mono a.size)
 obtain⟨H,g,sc⟩:=sc2 d (Ji 15) (Ji x.at_)
 obtain⟨F,G,L⟩:=cl2 d
 have m:=hide (Ya (sc.below f (by omega)) sc.box)
 have q:=hide g
 clear a b c d f e g sc n
 go_wp2_with fail
 rw[<- Qa q]
 obtain⟨A,B,M⟩:=cl2 (Qa m).2
 refine bodyPost_ret (v:=.tuple #[Je,ftV (15,x.at_)]) (by simp[results,Tryz.results117,go_sem,A,B,ftV]) rfl ?_
 exact⟨[],_,rfl,⟨rfl,(by show(15:Int)≠0;decide)⟩,(Qa m).1⟩
theorem Qrh(w:World)(wb:Nat)(x:Ex)(hk:x.kind≠1/\x.kind≠4/\x.kind≠2/\x.kind≠3/\x.kind≠5/\x.kind≠6)(xa:Option Addr)(xn xc:Nat):
  Calls Tryz.prog 117 #[.pointer (Js wb),.agg #[Ji x.kind,Ji x.num,str x.txt,.slice xa xn xc,Ji x.at_]] w fun en w'=>VlA w (.error (1,x.at_)) en w':=by
 obtain⟨D,h,a,o,b,c⟩:=Qas w #[Ji x.kind,Ji x.num,str x.txt,.slice xa xn xc,Ji x.at_] 59
 have I:(x.kind==1)=false:=beq_eq_false_iff_ne.2 hk.1
 have L:(x.kind==4)=false:=beq_eq_false_iff_ne.2 hk.2.1
 have J:(x.kind==2)=false:=beq_eq_false_iff_ne.2 hk.2.2.1
 have K:(x.kind==3)=false:=beq_eq_false_iff_ne.2 hk.2.2.2.1
 have M:(x.kind==5)=false:=beq_eq_false_iff_ne.2 hk.2.2.2.2.1
 have N:(x.kind==6)=false:=beq_eq_false_iff_ne.2 hk.2.2.2.2.2
 have j:=Qbd D 1 x.kind x.num x.txt (.slice xa xn xc) ⟨_,_,_,rfl⟩ x.at_
 obtain⟨r,s,u,y,z,E⟩:=cl5 o
 have n:=hide (Ya a (Ya b c))
 have C:=hide h
 clear h a o b c hk
 go_enter Tryz.func117,Tryz.ntmps117
 go_upto_region 1 with fail
 rw[<- Qa C]
 go_wp2_with fail
 refine j.mono ?_
 clear j r s u y z E
 rintro en O⟨rfl,e⟩
 obtain⟨a,b,c⟩:=Qa n
 have d:=(e.block _ (Qaa b)).trans b
 have f:=a.trans (e.mono a.size)
 obtain⟨H,g,sc⟩:=sc2 d (Ji 1) (Ji x.at_)
 obtain⟨F,G,P⟩:=cl2 d
 have m:=hide (Ya (sc.below f (by omega)) sc.box)
 have q:=hide g
 clear a b c d f e g sc n
 go_wp2_with fail
 rw[<- Qa q]
 obtain⟨A,B,Q⟩:=cl2 (Qa m).2
 refine bodyPost_ret (v:=.tuple #[Je,ftV (1,x.at_)]) (by simp[results,Tryz.results117,go_sem,A,B,ftV]) rfl ?_
 exact⟨[],_,rfl,⟨rfl,(by show(1:Int)≠0;decide)⟩,(Qa m).1⟩
theorem Qrj(w:World)(wb:Nat)(x:Ex)(hk:x.kind=2)(xa:Option Addr)(xn xc:Nat):
  Calls Tryz.prog 117 #[.pointer (Js wb),.agg #[Ji x.kind,Ji x.num,str x.txt,.slice xa xn xc,Ji x.at_]] w fun en w'=>VlA w (.ok tNum) en w':=by
 obtain⟨E,c,e,f,a,n⟩:=Qas w #[Ji x.kind,Ji x.num,str x.txt,.slice xa xn xc,Ji x.at_] 59
 have B:(x.kind==1)=false:=by rw[hk];rfl
 have D:(x.kind==4)=false:=by rw[hk];rfl
 have C:(x.kind==2)=true:=beq_iff_eq.2 hk
 obtain⟨A,b,sc⟩:=sc2 a (Ji 0) (Ji 0)
 obtain⟨o,q,r,s,u,F⟩:=cl5 f
 obtain⟨y,z,G⟩:=cl2 a
 have d:=hide (Ya (sc.below e (by omega)) sc.box)
 have g:=hide b
 have m:=hide c
 clear c e f a n hk b sc
 go_enter Tryz.func117,Tryz.ntmps117
 go_upto_region 1 with fail
 rw[<- Qa m]
 go_wp2_with fail
 rw[<- Qa g]
 obtain⟨h,j,H⟩:=cl2 (Qa d).2
 refine bodyPost_ret (v:=.tuple #[str tNum,ftV (0,0)]) (by simp[results,Tryz.results117,go_sem,h,j,ftV,str,tNum]) rfl ?_
 exact⟨_,_,rfl,⟨rfl,rfl⟩,(Qa d).1⟩
theorem Qnz(w:World)(wb:Nat)(x:Ex)(hk:x.kind=3)(xa:Option Addr)(xn xc:Nat):
  Calls Tryz.prog 117 #[.pointer (Js wb),.agg #[Ji x.kind,Ji x.num,str x.txt,.slice xa xn xc,Ji x.at_]] w fun en w'=>VlA w (.ok tSym) en w':=by
 obtain⟨F,c,e,f,a,n⟩:=Qas w #[Ji x.kind,Ji x.num,str x.txt,.slice xa xn xc,Ji x.at_] 59
 have B:(x.kind==1)=false:=by rw[hk];rfl
 have E:(x.kind==4)=false:=by rw[hk];rfl
 have C:(x.kind==2)=false:=by rw[hk];rfl
 have D:(x.kind==3)=true:=beq_iff_eq.2 hk
 obtain⟨A,b,sc⟩:=sc2 a (Ji 0) (Ji 0)
 obtain⟨o,q,r,s,u,G⟩:=cl5 f
 obtain⟨y,z,H⟩:=cl2 a
 have d:=hide (Ya (sc.below e (by omega)) sc.box)
 have g:=hide b
 have m:=hide c
 clear c e f a n hk b sc
 go_enter Tryz.func117,Tryz.ntmps117
 go_upto_region 1 with fail
 rw[<- Qa m]
 go_wp2_with fail
 rw[<- Qa g]
 obtain⟨h,j,I⟩:=cl2 (Qa d).2
 refine bodyPost_ret (v:=.tuple #[str tSym,ftV (0,0)]) (by simp[results,Tryz.results117,go_sem,h,j,ftV,str,tSym]) rfl ?_
 exact⟨_,_,rfl,⟨rfl,rfl⟩,(Qa d).1⟩
theorem Qtj(w:World)(wb:Nat)(x:Ex)(hk:x.kind=5)(xa:Option Addr)(xn xc:Nat){R:Except Flt Unit}(hC:∀W,Below w.heap.size w W->Calls Tryz.prog 124 #[.pointer (Js wb),.agg #[Ji x.kind,Ji x.num,str x.txt,.slice xa xn xc,Ji x.at_]] W fun en w'=>OpA W R en w'):
  Calls Tryz.prog 117 #[.pointer (Js wb),.agg #[Ji x.kind,Ji x.num,str x.txt,.slice xa xn xc,Ji x.at_]] w fun en w'=>VlA w (opR R) en w':=by
 obtain⟨F,o,a,r,b,c⟩:=Qas w #[Ji x.kind,Ji x.num,str x.txt,.slice xa xn xc,Ji x.at_] 59
 have K:(x.kind==1)=false:=by rw[hk];rfl
 have N:(x.kind==4)=false:=by rw[hk];rfl
 have L:(x.kind==2)=false:=by rw[hk];rfl
 have M:(x.kind==3)=false:=by rw[hk];rfl
 have O:(x.kind==5)=true:=beq_iff_eq.2 hk
 have m:=hC F a
 obtain⟨u,y,z,A,B,G⟩:=cl5 r
 have q:=hide (Ya a (Ya b c))
 have E:=hide o
 clear o a r b c hk hC
 go_enter Tryz.func117,Tryz.ntmps117
 go_upto_region 1 with fail
 rw[<- Qa E]
 go_wp2_with fail
 refine m.mono ?_
 clear m u y z A B G
 rintro en P⟨ft,rfl,n,g⟩
 obtain⟨a,b,c⟩:=Qa q
 have d:=(g.block _ (Qaa b)).trans b
 have h:=a.trans (g.mono a.size)
 obtain⟨J,j,sc⟩:=sc2 d (Ji ft.1) (Ji ft.2)
 obtain⟨H,I,Q⟩:=cl2 d
 have f:=hide (Ya (sc.below h (by omega)) (Ya sc.box n))
 have s:=hide j
 clear a b c d h g j sc q n
 unfold ftV
 go_wp2_with fail
 rw[<- Qa s]
 obtain⟨C,D,S⟩:=cl2 (Qa f).2.1
 refine bodyPost_ret (v:=.tuple #[.string ⟨#[110,117,109,98,101,114]⟩,ftV ft]) (by simp[results,Tryz.results117,go_sem,C,D,ftV]) rfl ?_
 exact⟨tNum,_,rfl,(by
  have:=(Qa f).2.2
  cases R with
  |ok _=>exact⟨rfl,this⟩
  |error e=>exact this),(Qa f).1⟩
theorem Qri(w:World)(wb:Nat)(x:Ex)(hk:x.kind=6)(xa:Option Addr)(xn xc:Nat){R:Except Flt Txt}(hC:∀W,Below w.heap.size w W->Calls Tryz.prog 131 #[.pointer (Js wb),.agg #[Ji x.kind,Ji x.num,str x.txt,.slice xa xn xc,Ji x.at_]] W fun en w'=>VlA W R en w'):
  Calls Tryz.prog 117 #[.pointer (Js wb),.agg #[Ji x.kind,Ji x.num,str x.txt,.slice xa xn xc,Ji x.at_]] w fun en w'=>VlA w R en w':=by
 obtain⟨F,n,a,q,b,c⟩:=Qas w #[Ji x.kind,Ji x.num,str x.txt,.slice xa xn xc,Ji x.at_] 59
 have K:(x.kind==1)=false:=by rw[hk];rfl
 have N:(x.kind==4)=false:=by rw[hk];rfl
 have L:(x.kind==2)=false:=by rw[hk];rfl
 have M:(x.kind==3)=false:=by rw[hk];rfl
 have O:(x.kind==5)=false:=by rw[hk];rfl
 have P:(x.kind==6)=true:=beq_iff_eq.2 hk
 have j:=hC F a
 obtain⟨s,u,y,z,A,G⟩:=cl5 q
 have o:=hide (Ya a (Ya b c))
 have D:=hide n
 clear n a q b c hk hC
 go_enter Tryz.func117,Tryz.ntmps117
 go_upto_region 1 with fail
 rw[<- Qa D]
 go_wp2_with fail
 refine j.mono ?_
 clear j s u y z A G
 rintro en Q⟨E,ft,rfl,m,f⟩
 obtain⟨a,b,c⟩:=Qa o
 have d:=(f.block _ (Qaa b)).trans b
 have g:=a.trans (f.mono a.size)
 obtain⟨J,h,sc⟩:=sc2 d (Ji ft.1) (Ji ft.2)
 obtain⟨H,I,S⟩:=cl2 d
 have e:=hide (Ya (sc.below g (by omega)) (Ya sc.box m))
 have r:=hide h
 clear a b c d g f h sc o m
 unfold ftV
 go_wp2_with fail
 rw[<- Qa r]
 obtain⟨B,C,T⟩:=cl2 (Qa e).2.1
 refine bodyPost_ret (v:=.tuple #[str E,ftV ft]) (by simp[results,Tryz.results117,go_sem,B,C,ftV]) rfl ?_
 exact⟨_,_,rfl,(Qa e).2.2,(Qa e).1⟩
end
end Go.Proofs.YtmfpbepifnedjaaGreat
