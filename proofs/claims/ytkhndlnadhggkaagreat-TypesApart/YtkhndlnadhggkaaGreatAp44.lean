/- types. -/
import Derived.Test.YtkhndlnadhggkaaGreatAp01
import Derived.Test.YtkhndlnadhggkaaGreatAp43
import Derived.Test.YtkhndlnadhggkaaGreatAp38
import Derived.Test.YtkhndlnadhggkaaGreatAp10
import Derived.Test.YtkhndlnadhggkaaGreatAp11
set_option maxRecDepth 100000
set_option maxHeartbeats 32000000
namespace Go.Proofs.YtkhndlnadhggkaaGreat
section
open Go.RowKit Go.Maps
section
variable {n0:Nat}{p:Pg}{w:World}{a0 a1 a2 a3 a4:Option Addr}{k0 k1 k2 k3 k4 c0 c1 c2 c3 c4:Nat}
theorem flat_no(w:World)(hk:k2≠0∨k3≠0):Calls Tryz.prog 28 #[.agg #[.slice a0 k0 c0,.slice a1 k1 c1,.slice a2 k2 c2,.slice a3 k3 c3,.slice a4 k4 c4]] w fun en w'=>en = .returned (.bool false)/\Below w.heap.size w w':=by
 obtain⟨u,b⟩:=JE (w.alloc (.cells #[.slice a0 k0 c0,.slice a1 k1 c1,.slice a2 k2 c2,.slice a3 k3 c3,.slice a4 k4 c4] 28));have f:=bnw b;have j:=nnw b;obtain⟨m,n,o,q,r,v⟩:=cl5 j;have k:=hide b;have e:=hide f;clear b f j;go_enter Tryz.func28,Tryz.ntmps28;go_upto_region 1 with fail;rw[<- Qa k];by_cases c:k2=0
 ·
  subst c;have h:k3≠0:=by omega
  have t:((k3:Int)==0)=false:=by simpa using h
  clear hk h;go_wp2_with fail;go_ret;exact⟨rfl,Qa e⟩
 have s:((k2:Int)==0)=false:=by simpa using c
 clear hk c;go_wp2_with fail;go_ret;exact⟨rfl,Qa e⟩
def nfA(p:Pg):Int:=match p.comps,p.inits with
 |c :: _,_=>c.2.2.2
 | [],i :: _=>i.at_
 | [],[]=>0
theorem Qku{S:Nat->Prop}(hP:PgO S w [.slice a0 k0 c0,.slice a1 k1 c1,.slice a2 k2 c2,.slice a3 k3 c3,.slice a4 k4 c4] p)(hk:k2≠0∨k3≠0):Calls Tryz.prog 29 #[.agg #[.slice a0 k0 c0,.slice a1 k1 c1,.slice a2 k2 c2,.slice a3 k3 c3,.slice a4 k4 c4]] w fun en w'=>en = .returned (ftV (1,nfA p))/\Below w.heap.size w w':=by
 obtain⟨L,y,e,K,s,R⟩:=Qat w #[.slice a0 k0 c0,.slice a1 k1 c1,.slice a2 k2 c2,.slice a3 k3 c3,.slice a4 k4 c4] 28;obtain⟨v0,v1,v2,v3,v4,I,O,P,t,u,Q⟩:=(Qcj.same _ _ L _ _ hP e.size (fun q _ W=>e.block q W)).cells;obtain⟨rfl,rfl,rfl,rfl,rfl⟩:=list5 I;obtain⟨_,_,z⟩:=t.sl;obtain⟨_,_,A⟩:=u.sl;simp only[Value.slice.injEq]at z A;have c:k2=p.comps.length:=z.2.1;have k:k3=p.inits.length:=A.2.1;obtain⟨a6,a7,a8,a9,aa,xf⟩:=cl5 K;obtain⟨ab,ac,yf⟩:=cl2 s;have Z:=t.cap rfl;have a5:=u.cap rfl
 cases b:p.comps with
 |cons cc cr=>
  obtain⟨J,cap,N,n,D,_,E,C,h⟩:=t.elem (j:=0) (x:=cc) (by rw[b];rfl);obtain⟨vb,V,rfl,M,_⟩:=C;have m7:L.cell? (Ja J 7)=some (Ji cc.2.2.2):=by
   have:=h 7 (Ji cc.2.2.2) (by
    show(V++[Value.int .i64 cc.2.2.2])[5]?=_;rw[List.getElem?_append_right (by omega),M]
    rfl)
   simpa using this
  simp only[Value.slice.injEq]at n;obtain⟨rfl,-,-⟩:=n;have T:0<k2:=by rw[c,b];simp
  have hg:(0:Int)<(k2:Int):=by omega
  have o:nfA p=cc.2.2.2:=by unfold nfA;rw[b]
  rw[o];obtain⟨U,f,sc⟩:=sc2 s (Ji 1) (Ji cc.2.2.2);have m:=hide (Ya (sc.below e (by omega)) sc.box);have B:=hide f;have H:=hide y;clear y e K s R hP hk I O P t u Q z A c k b D E M h o f sc;go_enter Tryz.func29,Tryz.ntmps29;go_upto_region 1 with fail;rw[<- Qa H];go_wp2_with fail;rw[<- Qa B];obtain⟨F,G,Y⟩:=cl2 (Qa m).2;refine bodyPost_ret (v:=ftV (1,cc.2.2.2)) (by simp[results,Tryz.results29,go_sem,F,G,ftV]) rfl ?_;exact⟨rfl,(Qa m).1⟩
 |nil=>
  cases r:p.inits with
  |nil=>rw[b]at c;rw[r]at k;simp at c k;omega
  |cons ii ir=>
   obtain⟨J,cap,N,n,D,_,E,C,h⟩:=u.elem (j:=0) (x:=ii) (by rw[r];rfl);obtain rfl:N=_:=C;have m2:L.cell? (Ja J 2)=some (Ji ii.at_):=by simpa using h 2 _ rfl
   simp only[Value.slice.injEq]at n;obtain⟨rfl,-,-⟩:=n;have X:k2=0:=by rw[c,b];rfl
   subst X;have T:0<k3:=by rw[k,r];simp
   have o:nfA p=ii.at_:=by unfold nfA;rw[b,r]
   rw[o];obtain⟨U,f,sc⟩:=sc2 s (Ji 1) (Ji ii.at_);have m:=hide (Ya (sc.below e (by omega)) sc.box);have B:=hide f;have H:=hide y;clear y e K s R hP hk I O P t u Q z A c k b r D E h o f sc;go_enter Tryz.func29,Tryz.ntmps29;go_upto_region 1 with fail;rw[<- Qa H];go_wp2_with fail;rw[<- Qa B];obtain⟨F,G,Y⟩:=cl2 (Qa m).2;refine bodyPost_ret (v:=ftV (1,ii.at_)) (by simp[results,Tryz.results29,go_sem,F,G,ftV]) rfl ?_;exact⟨rfl,(Qa m).1⟩
theorem Qon{S:Nat->Prop}(hP:PgO S w [.slice a0 k0 c0,.slice a1 k1 c1,.slice a2 k2 c2,.slice a3 k3 c3,.slice a4 k4 c4] p)(hk:k2≠0∨k3≠0):Calls Tryz.prog 10 #[.agg #[.slice a0 k0 c0,.slice a1 k1 c1,.slice a2 k2 c2,.slice a3 k3 c3,.slice a4 k4 c4]] w fun en w'=>en = .returned (ftV (1,nfA p))/\Below w.heap.size w w':=by
 obtain⟨O,D,h,c,j,n⟩:=Qat w #[.slice a0 k0 c0,.slice a1 k1 c1,.slice a2 k2 c2,.slice a3 k3 c3,.slice a4 k4 c4] 28;have C:=flat_no (a0:=a0) (k0:=k0) (c0:=c0) (a1:=a1) (k1:=k1) (c1:=c1) (a2:=a2) (c2:=c2) (a3:=a3) (c3:=c3) (a4:=a4) (k4:=k4) (c4:=c4) O hk;obtain⟨r,s,t,u,x,z⟩:=cl5 c;obtain⟨H,e⟩:=JF (nfA p);rw[e];have M:=hide D;have G:=hide (Ya h (Ya c (Ya j (Ya hP (Ya hk (Ya e n))))));clear D h c j n hP hk e;go_enter Tryz.func10,Tryz.ntmps10;go_upto_region 1 with fail;rw[<- Qa M];go_wp2_with fail;refine C.mono ?_;clear C r s t u x z;rintro en P⟨rfl,m⟩;obtain⟨h,c,j,hP,hk,e,n⟩:=Qa G;have E:=(m.block _ (Qaa c)).trans c;have f:=(m.block _ (Qaa j)).trans j;have b:=h.trans (m.mono h.size);have k:=Qku (Qcj.same _ _ P _ _ hP b.size (fun q _ N=>b.block q N)) hk;rw[e]at k;unfold ftV at k;obtain⟨r,s,t,u,x,z⟩:=cl5 E;have L:=hide (Ya b f);clear h c j hP hk e n m E f b G;go_wp2_with fail;refine k.mono ?_;clear k r s t u x z;rintro en U⟨rfl,y⟩;obtain⟨b,f⟩:=Qa L;have o:=(y.block _ (Qaa f)).trans f;have A:=b.trans (y.mono b.size);obtain⟨T,B,sc⟩:=sc2 o (Ji 1) (Ji H);obtain⟨Q,R,V⟩:=cl2 o;have F:=hide (Ya (sc.below A (by omega)) sc.box);have I:=hide B;clear b f o A y B sc;go_wp2_with fail;rw[<- Qa I];obtain⟨J,K,W⟩:=cl2 (Qa F).2;refine bodyPost_ret (v:=ftV (1,H)) (by simp[results,Tryz.results10,go_sem,J,K,ftV]) rfl ?_;exact⟨rfl,(Qa F).1⟩
def chkP(p:Pg):Flt:=if p.comps=[]/\p.inits=[] then ckF p 0 else (1,nfA p)
theorem Qer(hn0:n0<=w.heap.size)(hP:PgO (fun b=>b<n0) w [.slice a0 k0 c0,.slice a1 k1 c1,.slice a2 k2 c2,.slice a3 k3 c3,.slice a4 k4 c4] p)(hts:p.types.length<=1000000000)(hsz:∀x∈p.clauses,ltBs x.body<=1000000000):
  Calls Tryz.prog 10 #[.agg #[.slice a0 k0 c0,.slice a1 k1 c1,.slice a2 k2 c2,.slice a3 k3 c3,.slice a4 k4 c4]] w fun en w'=>en = .returned (ftV (chkP p))/\Below w.heap.size w w':=by
 obtain⟨v,y,z,A,B,n,s,t,q,r,u⟩:=hP.cells;obtain⟨rfl,rfl,rfl,rfl,rfl⟩:=list5 n;obtain⟨_,_,f⟩:=q.sl;obtain⟨_,_,h⟩:=r.sl;simp only[Value.slice.injEq]at f h;have j:k2=p.comps.length:=f.2.1;have k:k3=p.inits.length:=h.2.1;unfold chkP;by_cases c:p.comps=[]/\p.inits=[]
 ·
  rw[if_pos c];obtain rfl:k2=0:=by rw[j,c.1];rfl
  obtain rfl:k3=0:=by rw[k,c.2];rfl
  exact Qfk hn0 hP hts (fun m x o=>Qfs (hsz x o) m)
 rw[if_neg c];refine Qon hP ?_;by_cases e:p.comps=[]
 ·refine .inr (fun h=>c ⟨e,List.eq_nil_of_length_eq_zero (by omega)⟩)
 ·refine .inl (fun f=>e (List.eq_nil_of_length_eq_zero (by omega)))
theorem Qom(hn0:n0<=w.heap.size)(hP:PgS (fun b=>b<n0) w [.slice a0 k0 c0,.slice a1 k1 c1,.slice a2 k2 c2,.slice a3 k3 c3,.slice a4 k4 c4] p)(hts:p.types.length<=1000000000)(hsz:∀x∈p.clauses,ltBs x.body<=1000000000):
  Calls Tryz.prog 10 #[.agg #[.slice a0 k0 c0,.slice a1 k1 c1,.slice a2 k2 c2,.slice a3 k3 c3,.slice a4 k4 c4]] w fun en w'=>en = .returned (ftV (chkP p))/\Below w.heap.size w w':=Qer hn0 hP.toO hts hsz
theorem Qpg(hn0:n0<=w.heap.size)(hP:PgS (fun b=>b<n0) w [.slice a0 k0 c0,.slice a1 k1 c1,.slice a2 k2 c2,.slice a3 k3 c3,.slice a4 k4 c4] p)(hts:p.types.length<=1000000000)(x:Cls){aa ba:Option Addr}{an ac bn bc:Nat}(hA:LsAt PE 5 (fun b=>b<n0) w (.slice aa an ac) x.head.args)(hB:LsAt PLt 16 (fun b=>b<n0) w (.slice ba bn bc) x.body)(hsz:ltBs x.body<=1000000000):
  Calls Tryz.prog 14 #[.agg #[.slice a0 k0 c0,.slice a1 k1 c1,.slice a2 k2 c2,.slice a3 k3 c3,.slice a4 k4 c4],.agg #[str x.head.rel,.slice aa an ac,Ji x.head.at_,.slice ba bn bc,Ji x.at_]] w fun en w'=>InfA (infP p x) w en w':=Qjq hn0 hP hts x hA hB (fun c=>Qfs hsz c)
end
end
section
structure SmP(p q:Pg):Prop where
 ts:p.types=q.types
 ds:p.decls=q.decls
 ty:tyNo p=tyNo q
 kb:kBase p=kBase q
 hs:hasP p=hasP q
 al:alikeP p=alikeP q
 bl:belowP p=belowP q
 dc:declP2 p=declP2 q
 ct:ctorP2 p=ctorP2 q
theorem Quh{p q:Pg}(h1:p.types=q.types)(h2:p.decls=q.decls):SmP p q:=by
 have ty:tyNo p=tyNo q:=by funext t;unfold tyNo;rw[h1]
 have h:kSub p=kSub q:=by funext k;unfold kSub;simp only[h1,ty]
 have j:kInit p=kInit q:=by funext k;unfold kInit;rw[h1]
 have m:kName p=kName q:=by funext k;unfold kName;rw[h1]
 have n:∀f k,root p f k=root q f k:=fun f=>by
  induction f with
  |zero=>intro k;rfl
  |succ f ih=>intro k;unfold root;rw[j,h,ih]
 have c:kBase p=kBase q:=by funext k;unfold kBase;rw[n,h1]
 have e:baseP p=baseP q:=by funext t;unfold baseP;rw[c,ty,m]
 have up:∀t b f k,upTo p t b f k=upTo q t b f k:=fun t b f=>by
  induction f with
  |zero=>intro k;rfl
  |succ f ih=>intro k;unfold upTo;rw[h,ih]
 refine⟨h1,h2,ty,c,?_,?_,?_,?_,?_⟩
 ·funext t b;unfold hasP;rw[e]
 ·funext a b;unfold alikeP;rw[e]
 ·funext a b;unfold belowP;rw[c,ty,up,h1]
 ·funext t;unfold declP2;rw[h2]
 ·funext t;unfold ctorP2;rw[h1]
mutual
theorem Qju{p q:Pg}(s:SmP p q)(vs:List Fld):∀x,valP p vs x=valP q vs x
 | .mk k n t ks a=>by
  rw[valP,valP,Qqd s vs ks,s.ct]
  cases ctorP2 q t with
  |none=>rfl
  |some o=>
   obtain⟨d,sum⟩:=o;simp only;rw[Qkj s vs ks d.fields]
theorem Qqd{p q:Pg}(s:SmP p q)(vs:List Fld):∀xs,opnP p vs xs=opnP q vs xs
 | []=>by rw[opnP,opnP]
 |x :: xs=>by
  rw[opnP,opnP,Qju s vs x,s.hs,Qqd s vs xs]
theorem Qkj{p q:Pg}(s:SmP p q)(vs:List Fld):∀xs fs,fitsP p vs xs fs=fitsP q vs xs fs
 | [],fs=>by rw[fitsP,fitsP]
 |x :: xs,[]=>by rw[fitsP,fitsP]
 |x :: xs,f :: fs=>by
  rw[fitsP,fitsP,Qju s vs x,s.hs,s.bl,Qkj s vs xs fs]
end
theorem nar_sm{p q:Pg}(s:SmP p q)(vs:List Fld)(x:Ex)(t:Txt):narP p vs x t=narP q vs x t:=by
 unfold narP;rw[s.bl]
mutual
theorem pat_sm{p q:Pg}(s:SmP p q):∀x t vs,patP p x t vs=patP q x t vs
 | .mk k n c ks a,t,vs=>by
  rw[patP,patP,nar_sm s,Qqd s vs ks,s.hs,s.ct]
  cases ctorP2 q c with
  |none=>rfl
  |some o=>
   obtain⟨d,sum⟩:=o;simp only;rw[Qkv s ks d.fields vs]
theorem Qkv{p q:Pg}(s:SmP p q):∀xs fs vs,patsP p xs fs vs=patsP q xs fs vs
 | [],fs,vs=>by rw[patsP,patsP]
 |x :: xs,[],vs=>by rw[patsP,patsP]
 |x :: xs,f :: fs,vs=>by
  rw[patsP,patsP,pat_sm s x f.type vs]
  cases patP q x f.type vs with
  |error e=>rfl
  |ok us=>exact Qkv s xs fs us
end
theorem like_sm{p q:Pg}(s:SmP p q)(vs:List Fld)(x:Ex)(t:Txt):likeP p vs x t=likeP q vs x t:=by
 unfold likeP;rw[Qju s,s.al]
theorem Qlz{p q:Pg}(s:SmP p q)(vs:List Fld):∀xs fs,likesP p vs xs fs=likesP q vs xs fs
 | [],fs=>by cases fs<;>rfl
 |x :: xs,[]=>rfl
 |x :: xs,f :: fs=>by
  rw[likesP,likesP,like_sm s,Qlz s vs xs fs]
theorem Qoq{p q:Pg}(s:SmP p q)(a:Atm):colsP p a=colsP q a:=by unfold colsP;rw[s.dc]
theorem Qui{p q:Pg}(s:SmP p q)(a:Atm):watP p a=watP q a:=by unfold watP;rw[s.dc]
theorem Qrn{p q:Pg}(s:SmP p q):∀ls,watsP p ls=watsP q ls
 | []=>rfl
 |l :: ls=>by rw[watsP,watsP,Qrn s ls,Qui s]
theorem cmp_sm{p q:Pg}(s:SmP p q)(y:Lt)(vs:List Fld):cmpP p y vs=cmpP q y vs:=by
 unfold cmpP sidesP;rw[Qju s,Qju s,s.hs,s.al]
theorem lit_sm{p q:Pg}(s:SmP p q)(y:Lt)(vs:List Fld):litP2 p y vs=litP2 q y vs:=by
 unfold litP2;rw[Qkv s,Qlz s,cmp_sm s,Qoq s]
theorem Qpo{p q:Pg}(s:SmP p q):∀ys vs,litsP p ys vs=litsP q ys vs
 | [],vs=>rfl
 |y :: ys,vs=>by
  rw[litsP,litsP,lit_sm s]
  cases litP2 q y vs with
  |error e=>rfl
  |ok us=>exact Qpo s ys us
theorem inf_sm{p q:Pg}(s:SmP p q)(x:Cls):infP p x=infP q x:=by
 unfold infP;rw[Qui s,Qrn s,Qpo s,Qoq s]
 cases litsP q x.body [] with
 |error e=>rfl
 |ok us=>
  simp only;rw[Qkj s]
theorem Qmq{p q:Pg}(s:SmP p q):∀l,wNameP p l=wNameP q l
 | []=>rfl
 |(t,i) :: r=>by
  rw[wNameP,wNameP,Qmq s r,s.ty,s.ts]
theorem Qqc{p q:Pg}(s:SmP p q):noneP p=noneP q:=by
 funext fs;unfold noneP;rw[s.ty]
theorem Qmr{p q:Pg}(s:SmP p q):∀l,wTypeP p l=wTypeP q l
 | []=>rfl
 |(t,i) :: r=>by
  rw[wTypeP,wTypeP,Qmr s r,s.ty,s.kb];simp only[Qqc s]
theorem Qmp{p q:Pg}(s:SmP p q):∀l,wDeclP p l=wDeclP q l
 | []=>rfl
 |(d,i) :: r=>by
  rw[wDeclP,wDeclP,Qmp s r,Qqc s,s.ds]
def fltR(R:Except Flt (List Fld)):Flt:=match R with | .ok _=>(0,0) | .error e=>e
theorem Qkg{p q:Pg}(h1:p.types=q.types)(h2:p.decls=q.decls)(hq:q.clauses=[]):((ckF q 0).1≠0->ckF p 0=ckF q 0)/\((ckF q 0).1=0->ckF p 0=if (wClauseP p p.clauses).1≠0 then wClauseP p p.clauses else (0,0)):=by
 have s:=Quh h1 h2;have b:wNameP p p.types.zipIdx=wNameP q q.types.zipIdx:=by rw[Qmq s,h1]
 have c:wTypeP p p.types.zipIdx=wTypeP q q.types.zipIdx:=by rw[Qmr s,h1]
 have f:wDeclP p p.decls.zipIdx=wDeclP q q.decls.zipIdx:=by rw[Qmp s,h2]
 rw[ckF,ckF,b,c,f,hq];have h:wClauseP q []=(0,0):=rfl;rw[h];by_cases c1:(wNameP q q.types.zipIdx).1≠0
 ·
  simp only[if_pos c1];exact⟨fun _=>trivial,fun e=>absurd e c1⟩
 simp only[if_neg c1];by_cases c2:(wTypeP q q.types.zipIdx).1≠0
 ·
  simp only[if_pos c2];exact⟨fun _=>trivial,fun e=>absurd e c2⟩
 simp only[if_neg c2];by_cases c3:(wDeclP q q.decls.zipIdx).1≠0
 ·
  simp only[if_pos c3];exact⟨fun _=>trivial,fun e=>absurd e c3⟩
 simp only[if_neg c3];exact⟨fun e=>absurd rfl e,fun _=>trivial⟩
theorem ck_one{p q r:Pg}{x:Cls}(h1:p.types=q.types)(h2:p.decls=q.decls)(hp:p.clauses=[x])(hq:q.clauses=[])(hr1:p.types=r.types)(hr2:p.decls=r.decls)(h0:(ckF q 0).1=0)(hf:∀e,infP r x = .error e->e.1≠0):ckF p 0=fltR (infP r x):=by
 rw[(Qkg h1 h2 hq).2 h0,hp];have e:wClauseP p [x]=fltR (infP r x):=by
  rw[wClauseP,inf_sm (Quh hr1 hr2)]
  cases infP r x with
  |error e=>rfl
  |ok vs=>rfl
 rw[e]
 cases b:infP r x with
 |ok vs=>rfl
 |error f=>
  have:=hf f b;show(if f.1≠0 then f else (0,0))=f;rw[if_pos this]
end
section
open Go.RowKit Go.Maps
def XA(rb g cap:Nat)(l:List Tok)(w:World)(d:Nat)(R:World->Value->Prop)(a' i':Nat)(en:Ending)(w':World):Prop:=
 ∃v,en = .returned v/\R w' v/\Rr rb g cap l w' a' d i' 0 0/\Kp rb w w'
def isSg(t:Tok)(s:Txt):Bool:=decide (t.kind=4)&&decide (t.text=s)
theorem Qgk{rb g cap a d i:Nat}{l:List Tok}{w:World}(h:Rr rb g cap l w a d i 0 0){t:Tok}(ht:l[a]?=some t)(s:Txt):
  Calls Tryz.prog 56 #[.pointer (Js rb),str s] w fun en w'=>en = .returned (.bool (isSg t s))/\Below w.heap.size w w':=by
 have f:=Qax h;have v:∀w',Below w.heap.size w w'->Calls Tryz.prog 22 #[.pointer (Js rb)] w' fun en n=>en = .returned (.agg #[Ji t.kind,str t.text,Ji t.num,Ji (t.at_:Int)])/\Below w'.heap.size w' n:=fun w' y=>Qap (h.later y) ht;rw[decide_eq_true rfl]at f;have o:=hide v;clear h ht v;by_cases k:t.kind=4
 rotate_left
 ·
  have x:(t.kind==4)=false:=beq_eq_false_iff_ne.2 k;have q:=hide (show isSg t s=false by unfold isSg;rw[decide_eq_false k];rfl);have b:=Qa o w (Below.refl _ _);clear k;go_enter Tryz.func56,Tryz.ntmps56;go_wp2_with fail;refine f.mono ?_;clear f;rintro en _⟨rfl,rfl⟩;go_wp2_with fail;refine b.mono ?_;clear b;rintro en n⟨rfl,e⟩;have j:=hide e;clear e;go_wp2_with fail;rename_i c;refine c _ _ ?_;clear c;go_wp2_with fail;go_ret;rw[Qa q];exact⟨rfl,Qa j⟩
 have x:(t.kind==4)=true:=beq_iff_eq.2 k;have b:=Qa o w (Below.refl _ _);by_cases m:t.text=s
 ·
  have q:=hide (show isSg t s=true by unfold isSg;rw[decide_eq_true k,decide_eq_true m];rfl);rw[m]at b o;clear k m;go_enter Tryz.func56,Tryz.ntmps56;go_wp2_with fail;refine f.mono ?_;clear f;rintro en _⟨rfl,rfl⟩;go_wp2_with fail;refine b.mono ?_;clear b;rintro en n⟨rfl,e⟩;have b:=Qa o n e;have j:=hide e;clear e;go_wp2_with fail;rename_i c;refine c _ _ ?_;clear c;go_wp2_with fail;refine b.mono ?_;clear b;rintro en z⟨rfl,r⟩;have u:=hide ((Qa j).trans (r.mono (Qa j).size));clear r;go_wp2_with fail;rename_i c;refine c _ _ ?_;clear c;go_wp2_with fail;go_ret;rw[Qa q];exact⟨by simp,Qa u⟩
 have q:=hide (show isSg t s=false by unfold isSg;rw[decide_eq_false m,Bool.and_false]);have A:(t.text==s)=false:=by simpa using m
 clear k m;go_enter Tryz.func56,Tryz.ntmps56;go_wp2_with fail;refine f.mono ?_;clear f;rintro en _⟨rfl,rfl⟩;go_wp2_with fail;refine b.mono ?_;clear b;rintro en n⟨rfl,e⟩;have b:=Qa o n e;have j:=hide e;clear e;go_wp2_with fail;rename_i c;refine c _ _ ?_;clear c;go_wp2_with fail;refine b.mono ?_;clear b;rintro en z⟨rfl,r⟩;have u:=hide ((Qa j).trans (r.mono (Qa j).size));clear r;go_wp2_with fail;rename_i c;refine c _ _ ?_;clear c;go_wp2_with fail;go_ret;rw[Qa q];exact⟨by simp[str],Qa u⟩
theorem Qpi{t:Tok}{s:Txt}(h:isSg t s=true):t.kind=4/\t.text=s:=by
 unfold isSg at h
 simpa using h
theorem Qgl{rb g cap a d i:Nat}{l:List Tok}{w:World}(h:Rr rb g cap l w a d i 0 0){t:Tok}(ht:l[a]?=some t)(hk:t.kind≠0):
  Calls Tryz.prog 61 #[.pointer (Js rb)] w fun en w'=>XA rb g cap l w d (fun _ v=>v=tkA t) (a+1) i en w':=by
 have m:=h.more ht hk;refine(Qba h ht).mono ?_;rintro en w'⟨v,o,r,s,q,c,e,⟨rfl,rfl,j⟩,b,f⟩;rcases j with ⟨_,_,rfl⟩|⟨_,n⟩
 ·
  have k:=b.z rfl;subst k;exact⟨v,c,e,b,f⟩
 ·exact absurd m (n rfl)
theorem Qio{rb g cap a d i:Nat}{l:List Tok}{w:World}(h:Rr rb g cap l w a d i 0 0){t:Tok}(ht:l[a]?=some t)(s:Txt):
  Calls Tryz.prog 57 #[.pointer (Js rb),str s] w fun en w'=>XA rb g cap l w d (fun _ v=>v = .bool (isSg t s)) (if isSg t s=true then a+1 else a) i en w':=by
 have f:=Qgk h ht s;have H:=hide (Ya h ht);obtain⟨b,j⟩:=JF (isSg t s);rw[j]at f ⊢;have o:=hide j;clear h ht j;go_enter Tryz.func57,Tryz.ntmps57;go_wp2_with fail;refine f.mono ?_;clear f;rintro en q⟨rfl,c⟩;cases b
 ·
  have e:=hide c;clear c;go_wp2_with fail;go_ret;exact⟨_,rfl,rfl,(Qa H).1.later (Qa e),Kp.of_below (Qa e)⟩
 have k:=Qgl ((Qa H).1.later c) (Qa H).2 (by rw[(Qpi (Qa o)).1];decide);have e:=hide c;clear c;go_wp2_with fail;refine k.mono ?_;clear k;rintro en r⟨_,rfl,rfl,n,k3⟩;have m:=hide (Ya n k3);clear n k3;go_wp2_with fail;go_ret;exact⟨_,rfl,rfl,(Qa m).1,(Kp.of_below (Qa e)).trans (Qa m).2⟩
theorem Qrs{rb g cap a d i:Nat}{l:List Tok}{w:World}(h:Rr rb g cap l w a d i 0 0){t:Tok}(ht:l[a]?=some t){s:Txt}(hs:isSg t s=true):
  Calls Tryz.prog 64 #[.pointer (Js rb),str s] w fun en w'=>XA rb g cap l w d noV (a+1) i en w':=by
 have b:=Qio h ht s;rw[if_pos hs,hs]at b;clear h hs;go_enter Tryz.func64,Tryz.ntmps64;go_wp2_with fail;refine b.mono ?_;clear b;rintro en f⟨_,rfl,rfl,c,k2⟩;have e:=hide (Ya c k2);clear c k2;go_wp2_with fail
 go_end0
 exact⟨_,rfl,rfl,Qa e⟩
theorem Qk{rb g cap a d i:Nat}{l:List Tok}{w:World}(h:Rr rb g cap l w a d i 0 0){t:Tok}(ht:l[a]?=some t)(hk:t.kind=1):
  Calls Tryz.prog 65 #[.pointer (Js rb)] w fun en w'=>XA rb g cap l w d (fun _ v=>v=str t.text) (a+1) i en w':=by
 have c:=Qap h ht;unfold tkA at c;have H:=hide (Ya h (Ya ht hk));have o:(t.kind != 1)=false:=by simpa using hk
 clear h ht hk;go_enter Tryz.func65,Tryz.ntmps65;go_wp2_with fail;refine c.mono ?_;clear c;rintro en q⟨rfl,f⟩;have k:=(Qa H).1.later f;have e:=Qgl k (Qa H).2.1 (by rw[(Qa H).2.2];decide);unfold tkA at e;have n:=hide f;clear k f;go_wp2_with fail;rename_i b;refine b _ _ ?_;clear b;go_wp2_with fail;refine e.mono ?_;clear e;rintro en r⟨_,rfl,rfl,m,k3⟩;have j:=hide (Ya m k3);clear m k3;go_wp2_with fail;rename_i b;refine b _ _ ?_;clear b;go_wp2_with fail;go_ret;exact⟨_,rfl,rfl,(Qa j).1,(Kp.of_below (Qa n)).trans (Qa j).2⟩
theorem Qka{rb g cap a d i:Nat}{l:List Tok}{w:World}(h:Rr rb g cap l w a d i 0 0){t:Tok}(ht:l[a]?=some t)(hk:t.kind=1)(hw:wordP t.text=true)(h95:t.text≠[95]):
  Calls Tryz.prog 63 #[.pointer (Js rb)] w fun en w'=>XA rb g cap l w d (fun _ v=>v=str t.text) (a+1) i en w':=by
 have q:∀w',Below w.heap.size w w'->Calls Tryz.prog 22 #[.pointer (Js rb)] w' fun en f=>en = .returned (.agg #[Ji t.kind,str t.text,Ji t.num,Ji (t.at_:Int)])/\Below w'.heap.size w' f:=fun w' F=>Qap (h.later F) ht;have r:(⟨t.text.toArray⟩:ByteArray).size<=140737488355328:=by
  have:=h.tx t (List.mem_of_getElem? ht);have e:(⟨t.text.toArray⟩:ByteArray).size=t.text.length:=by simp[ByteArray.size]
  omega
 have s:∀w',Calls Tryz.prog 92 #[str t.text] w' fun e f=>e = .returned (.bool true)/\f=w':=fun w'=>by
  have:=Qjm ⟨t.text.toArray⟩ r w'
  simpa[str,hw] using this
 have I:(t.text==[95])=false:=by simpa using h95
 have j:=hide q;have D:=hide s;have H:=hide (Ya h (Ya ht hk));have J:(t.kind != 1)=false:=by simpa using hk
 have c:=Qa j w (Below.refl _ _);clear h ht q s r hk hw;go_enter Tryz.func63,Tryz.ntmps63;go_wp2_with fail;refine c.mono ?_;clear c;rintro en f⟨rfl,n⟩;have c:=Qa j f n;have u:=hide (n);clear n;go_wp2_with fail;rename_i b;refine b _ _ ?_;clear b;go_wp2_with fail;refine c.mono ?_;clear c;rintro en G⟨rfl,z⟩;have m:=hide ((Qa u).trans (z.mono (Qa u).size));clear z;have o:=Qa D G;go_wp2_with fail;rename_i b;refine b _ _ ?_;clear b;go_wp2_with fail;refine o.mono ?_;clear o;rintro en E⟨rfl,rfl⟩;have c:=Qa j E (Qa m);go_wp2_with fail;refine c.mono ?_;clear c;rintro en K⟨rfl,A⟩;have x:=hide ((Qa m).trans (A.mono (Qa m).size));clear A;have k:=Qgl ((Qa H).1.later (Qa x)) (Qa H).2.1 (by rw[(Qa H).2.2];decide);unfold tkA at k;go_wp2_with fail;rename_i b;refine b _ _ ?_;clear b;go_wp2_with fail;refine k.mono ?_;clear k;rintro en L⟨_,rfl,rfl,B,C⟩;have y:=hide (Ya B C);clear B C;go_wp2_with fail;rename_i b;refine b _ _ ?_;clear b;go_wp2_with fail;go_ret;exact⟨_,rfl,rfl,(Qa y).1,(Kp.of_below (Qa x)).trans (Qa y).2⟩
def zk(t:Tok):Int×Txt×Int:=(t.kind,t.text,t.num)
def Nxt(l:List Tok)(a:Nat)(ks:List Tok):Prop:=(l.drop a).map zk=ks.map zk
theorem Nxt.at{l:List Tok}{a:Nat}{t0:Tok}{ks:List Tok}(h:Nxt l a (t0 :: ks)):∃t,l[a]?=some t/\zk t=zk t0/\Nxt l (a+1) ks:=by
 unfold Nxt at h
 cases b:l.drop a with
 |nil=>rw[b]at h;simp at h
 |cons t m=>
  rw[b,List.map_cons,List.map_cons,List.cons.injEq]at h;have c:l[a]?=some t:=by rw[<- List.head?_drop,b];rfl
  refine⟨t,c,h.1,?_⟩;unfold Nxt;rw[<- List.drop_drop,b];exact h.2
def sgQ(s:Txt):Tok:=⟨4,s,0,0⟩
def nmR(s:Txt):Tok:=⟨1,s,0,0⟩
theorem Qfu{t t0:Tok}(h:zk t=zk t0)(s:Txt):isSg t s=isSg t0 s:=by
 unfold zk at h;simp only[Prod.mk.injEq]at h;unfold isSg;rw[h.1,h.2.1]
def XB(rb g cap:Nat)(l:List Tok)(w:World)(d:Nat)(R:World->Value->Prop)(rest:List Tok)(i':Nat)(en:Ending)(w':World):Prop:=
 ∃v a',en = .returned v/\R w' v/\Rr rb g cap l w' a' d i' 0 0/\Kp rb w w'/\Nxt l a' rest
section
variable {rb g cap a d i:Nat}{l:List Tok}{w:World}
theorem Qcd(h:Rr rb g cap l w a d i 0 0){t0:Tok}{ks:List Tok}(hA:Nxt l a (t0 :: ks))(s:Txt):
  Calls Tryz.prog 56 #[.pointer (Js rb),str s] w fun en w'=>en = .returned (.bool (isSg t0 s))/\Below w.heap.size w w':=by
 obtain⟨t,b,c,_⟩:=hA.at;rw[<- Qfu c s];exact Qgk h b s
theorem Qda(h:Rr rb g cap l w a d i 0 0){s:Txt}{ks:List Tok}(hA:Nxt l a (sgQ s :: ks)):
  Calls Tryz.prog 57 #[.pointer (Js rb),str s] w fun en w'=>XB rb g cap l w d (fun _ v=>v = .bool true) ks i en w':=by
 obtain⟨t,m,n,k⟩:=hA.at;have e:isSg t s=true:=by rw[Qfu n s];simp[isSg,sgQ]
 refine(Qio h m s).mono ?_;rintro en w'⟨v,f,b,c,j⟩;rw[if_pos e]at c;rw[e]at b;exact⟨v,_,f,b,c,j,k⟩
theorem Qdj(h:Rr rb g cap l w a d i 0 0){s:Txt}{t0:Tok}{ks:List Tok}(hA:Nxt l a (t0 :: ks))(h0:isSg t0 s=false):
  Calls Tryz.prog 57 #[.pointer (Js rb),str s] w fun en w'=>XB rb g cap l w d (fun _ v=>v = .bool false) (t0 :: ks) i en w':=by
 obtain⟨t,k,m,_⟩:=hA.at;have e:isSg t s=false:=by rw[Qfu m s,h0]
 refine(Qio h k s).mono ?_;rintro en w'⟨v,f,b,c,j⟩;rw[if_neg (by rw[e];simp)]at c;rw[e]at b;exact⟨v,_,f,b,c,j,hA⟩
theorem Qcy(h:Rr rb g cap l w a d i 0 0){s:Txt}{ks:List Tok}(hA:Nxt l a (sgQ s :: ks)):
  Calls Tryz.prog 64 #[.pointer (Js rb),str s] w fun en w'=>XB rb g cap l w d noV ks i en w':=by
 obtain⟨t,m,n,k⟩:=hA.at;have e:isSg t s=true:=by rw[Qfu n s];simp[isSg,sgQ]
 refine(Qrs h m e).mono ?_;rintro en w'⟨v,b,c,f,j⟩;exact⟨v,_,b,c,f,j,k⟩
theorem Qkc(h:Rr rb g cap l w a d i 0 0){s:Txt}{ks:List Tok}(hA:Nxt l a (nmR s :: ks)):
  Calls Tryz.prog 65 #[.pointer (Js rb)] w fun en w'=>XB rb g cap l w d (fun _ v=>v=str s) ks i en w':=by
 obtain⟨t,m,b,k⟩:=hA.at;simp only[zk,nmR,Prod.mk.injEq]at b;refine(Qk h m b.1).mono ?_;rintro en w'⟨v,e,c,f,j⟩;rw[b.2.1]at c;exact⟨v,_,e,c,f,j,k⟩
theorem Qgn(h:Rr rb g cap l w a d i 0 0){s:Txt}{ks:List Tok}(hA:Nxt l a (nmR s :: ks))(hw:wordP s=true)(h95:s≠[95]):
  Calls Tryz.prog 63 #[.pointer (Js rb)] w fun en w'=>XB rb g cap l w d (fun _ v=>v=str s) ks i en w':=by
 obtain⟨t,m,b,k⟩:=hA.at;simp only[zk,nmR,Prod.mk.injEq]at b;refine(Qka h m b.1 (by rw[b.2.1];exact hw) (by rw[b.2.1];exact h95)).mono ?_;rintro en w'⟨v,e,c,f,j⟩;rw[b.2.1]at c;exact⟨v,_,e,c,f,j,k⟩
end
def fdQ(f:Fld):List Tok:=[nmR f.name,sgQ [58],nmR f.type]
def joinQ:List (List Tok)->List Tok
 | []=>[]
 |t :: ts=>t++ts.flatMap (sgQ [44] :: ·)
def leftQ{α : Type}(K:α -> List Tok)(xs:List α)(j:Nat):List Tok:=if j=0 then joinQ (xs.map K) else ((xs.drop j).map K).flatMap (sgQ [44] :: ·)
theorem Qcn{α : Type}(K:α -> List Tok)(xs:List α):leftQ K xs xs.length=[]:=by
 unfold leftQ;split
 ·rename_i h;rw[List.length_eq_zero_iff.1 h];rfl
 ·rw[List.drop_length];rfl
theorem Qeu{α : Type}(K:α -> List Tok){xs:List α}{x:α}(h:xs[0]?=some x):leftQ K xs 0=K x++leftQ K xs 1:=by
 cases xs with
 |nil=>cases h
 |cons y ys=>cases h;simp[leftQ,joinQ]
theorem Qcv{α : Type}(K:α -> List Tok){xs:List α}{j:Nat}{x:α}(hj:j≠0)(h:xs[j]?=some x):leftQ K xs j=sgQ [44] :: (K x++leftQ K xs (j+1)):=by
 unfold leftQ;rw[if_neg hj,if_neg (by omega),List.drop_eq_getElem_cons (List.getElem?_eq_some_iff.1 h).1];have e:=(List.getElem?_eq_some_iff.1 h).2;rw[e];simp
def lenV(v:Value):Nat:=match v with | .slice _ n _=>n|_=>0
theorem Qlj{rb g cap a d i:Nat}{l:List Tok}{w:World}(h:Rr rb g cap l w a d i 0 0){so se:Txt}(he:se≠[44]){xs:List Fld}(hx:∀f∈xs,wordP f.name=true/\f.name≠[95])(hm:xs.length<=8){rest:List Tok}(hA:Nxt l a (sgQ so :: (joinQ (xs.map fdQ)++sgQ se :: rest))):
  Calls Tryz.prog 90 #[.pointer (Js rb),str so,str se] w fun en w'=>XB rb g cap l w d (fun w' v=>LsAt PF 2 (fun b=>w.heap.size<=b) w' v xs) rest i en w':=by
 have H:=Qcy h hA;have A:=hide (Ya (Qaa h.box) h.row.lt);have HX:=hide (Ya hx he);obtain⟨n,X⟩:=JF xs.length;have D:=hide X;rw[X]at hm;clear h hA hx he X;go_enter Tryz.func90,Tryz.ntmps90;go_wp2_with fail;refine H.mono ?_;clear H;rintro en w1⟨_,a0,rfl,rfl,y,k0,ab⟩;have H0:=hide (Ya y (Ya k0 ab));clear y k0 ab;go_wp2_with fail;go_loopw [7,8] (fun sl fb wr=>∃(j a1:Nat) (aa:Bool) (sa:Option Addr) (sc:Nat),sl = .slice sa j sc/\fb = .bool aa/\j<=n/\j<=sc/\sc<=maxLen/\Hid (Qown PF 2 67 w wr (.slice sa j sc) (xs.take j)/\Rr rb g cap l wr a1 d i 0 0/\Kp rb w wr/\Nxt l a1 (leftQ fdQ xs j++sgQ se :: rest)/\aa=decide (j=0))) (fun sl _ _=>n+1 - lenV sl)
 case atStart=>
  obtain⟨y,k0,ab⟩:=Qa H0;exact⟨0,a0,true,none,0,rfl,rfl,Nat.zero_le _,Nat.le_refl _,by unfold maxLen;omega,hide ⟨Qown.nil _ _,y,k0,ab,rfl⟩⟩
 obtain⟨j,a1,aa,sa,sc,rfl,rfl,hj,aF,ax,m⟩:=hrel;unfold maxLen at ax;clear H0;go_upto_region 4 with fail;go_cut [31] from 13 to 48 (fun c wc=>∃(F:Nat),c = .bool (decide (j<n))/\Hid (Qown PF 2 67 w wc (.slice sa j sc) (xs.take j)/\Rr rb g cap l wc F d i 0 0/\Kp rb w wc/\(j<n -> ∃x,xs[j]?=some x/\Nxt l F (fdQ x++(leftQ fdQ xs (j+1)++sgQ se :: rest)))/\(¬j<n->Nxt l F (sgQ se :: rest))))
 case first=>
  have C:=Qax (Qa m).2.1;rw[decide_eq_true rfl]at C;cases aa
  ·
   have y:j≠0:=by simpa using (Qa m).2.2.2.2.symm
   by_cases o:j<n
   ·
    obtain⟨x,u⟩:∃x,xs[j]?=some x:=⟨xs[j]'(by rw[Qa D];exact o),List.getElem?_eq_getElem _⟩;have k:=(Qa m).2.2.2.1;rw[Qcv fdQ y u]at k;simp only[List.cons_append,List.append_assoc]at k;have U:=Qda (Qa m).2.1 k;have av:=hide u;clear k u y;go_wp2_with fail;refine C.mono ?_;clear C;rintro en wq⟨rfl,rfl⟩;go_wp2_with fail;refine U.mono ?_;clear U;rintro en V⟨_,F,rfl,rfl,t,k2,k⟩;have E:=hide (Ya ((Qa m).1.kp Qbb k2 (Qa A).1) (Ya t (Ya ((Qa m).2.2.1.trans k2) k)));clear t k2 k;go_wp2_with fail;go_meet;obtain⟨M,t,N,k⟩:=Qa E;exact⟨F,by rw[decide_eq_true o],hide ⟨M,t,N,fun _=>⟨x,Qa av,k⟩,fun e=>absurd o e⟩⟩
   have k:=(Qa m).2.2.2.1;rw[show leftQ fdQ xs j=[] by rw[show j=n by omega,<- Qa D,Qcn],List.nil_append]at k;have U:=Qdj (s:=[44]) (Qa m).2.1 k (by unfold isSg;rw[decide_eq_false (show ¬(sgQ se).text=[44] from (Qa HX).2),Bool.and_false]);clear k y;go_wp2_with fail;refine C.mono ?_;clear C;rintro en wq⟨rfl,rfl⟩;go_wp2_with fail;refine U.mono ?_;clear U;rintro en V⟨_,F,rfl,rfl,t,k2,k⟩;have E:=hide (Ya ((Qa m).1.kp Qbb k2 (Qa A).1) (Ya t (Ya ((Qa m).2.2.1.trans k2) k)));clear t k2 k;go_wp2_with fail;go_meet;obtain⟨M,t,N,k⟩:=Qa E;exact⟨F,by rw[decide_eq_false o],hide ⟨M,t,N,fun e=>absurd e o,fun _=>k⟩⟩
  have y:j=0:=by simpa using (Qa m).2.2.2.2.symm
  by_cases o:j<n
  ·
   obtain⟨x,u⟩:∃x,xs[j]?=some x:=⟨xs[j]'(by rw[Qa D];exact o),List.getElem?_eq_getElem _⟩;have k:=(Qa m).2.2.2.1;rw[show leftQ fdQ xs j=fdQ x++leftQ fdQ xs (j+1) by rw[y]at u ⊢;exact Qeu fdQ u,List.append_assoc]at k;have J:=Qcd (Qa m).2.1 (show Nxt l a1 (nmR x.name :: _) from k) se;rw[show isSg (nmR x.name) se=false from rfl]at J;have HQ:=hide (Ya k u);clear k u y;go_wp2_with fail;refine C.mono ?_;clear C;rintro en wq⟨rfl,rfl⟩;go_wp2_with fail;refine J.mono ?_;clear J;rintro en V⟨rfl,G⟩;have E:=hide (Ya ((Qa m).1.kp Qbb (Kp.of_below (rb:=rb) G) (Qa A).1) (Ya ((Qa m).2.1.later G) ((Qa m).2.2.1.trans (Kp.of_below G))));clear G;go_wp2_with fail;go_meet;obtain⟨M,t,N⟩:=Qa E;exact⟨a1,by rw[decide_eq_true o],hide ⟨M,t,N,fun _=>⟨x,(Qa HQ).2,(Qa HQ).1⟩,fun e=>absurd o e⟩⟩
  have k:=(Qa m).2.2.2.1;rw[show leftQ fdQ xs j=[] by rw[show j=n by omega,<- Qa D,Qcn],List.nil_append]at k;have J:=Qcd (Qa m).2.1 k se;rw[show isSg (sgQ se) se=true by simp[isSg,sgQ]]at J;have HQ:=hide k;clear k y;go_wp2_with fail;refine C.mono ?_;clear C;rintro en wq⟨rfl,rfl⟩;go_wp2_with fail;refine J.mono ?_;clear J;rintro en V⟨rfl,G⟩;have E:=hide (Ya ((Qa m).1.kp Qbb (Kp.of_below (rb:=rb) G) (Qa A).1) (Ya ((Qa m).2.1.later G) ((Qa m).2.2.1.trans (Kp.of_below G))));clear G;go_wp2_with fail;go_meet;obtain⟨M,t,N⟩:=Qa E;exact⟨a1,by rw[decide_eq_false o],hide ⟨M,t,N,fun e=>absurd e o,fun _=>Qa HQ⟩⟩
 obtain⟨F,rfl,X0⟩:=hcut;by_cases o:j<n
 rotate_left
 ·
  rw[decide_eq_false o];obtain⟨k,W,z,_,S⟩:=Qa X0;have H:=Qcy W (S o);have E:=hide (Ya k z);have ej:j=n:=by omega
  have HE:=hide (show xs.take j=xs by rw[ej,<- Qa D];exact List.take_length);clear k W z S X0 ej;go_wp2_with fail;refine H.mono ?_;clear H;rintro en w9⟨_,a9,rfl,rfl,h9,Y,n9⟩;have HZ:=hide (Ya h9 (Ya Y n9));clear h9 Y n9;go_wp2_with fail;go_ret;obtain⟨h9,Y,n9⟩:=Qa HZ;obtain⟨k,z⟩:=Qa E;rw[Qa HE]at k;exact⟨_,_,rfl,(k.kp Qbb Y (Qa A).1).ls Qbb,h9,z.trans Y,n9⟩
 rw[decide_eq_true o];obtain⟨k,W,z,S,_⟩:=Qa X0;obtain⟨x,u,hA⟩:=S o;have ak:=(Qa HX).1 x (List.mem_of_getElem? u);have aq:=Qgn W (show Nxt l F (nmR x.name :: _) from hA) ak.1 ak.2;have K:xs.take (j+1)=xs.take j++[x]:=by rw[List.take_add_one,u];rfl
 have g8:¬((8:Int)<=(j:Int)):=by omega
 have XF:=hide (Ya k (Ya z K));have au:=hide (show(xs.take j).length=j by rw[List.length_take,Qa D];omega);obtain⟨V,aw⟩:=JE wc;subst aw;clear k W z S u hA ak K X0;go_wp2_with fail;refine aq.mono ?_;clear aq;rintro en w4⟨_,a4,rfl,rfl,h4,k4,n4⟩;obtain⟨W5,ac⟩:=JE (w4.alloc (.cells #[str x.name,Je] 67));have L:Below w4.heap.size w4 W5:=bnw ac;have Q:W5.heap[w4.heap.size]?=some (.cells #[str x.name,Je] 67 (0,0)):=nnw ac;have H:=Qcy (h4.later L) n4;obtain⟨P,T⟩:=JF w4.heap.size;have H4:=hide (Ya k4 (Ya L (Ya Q T)));have al:=hide ac;clear h4 k4 L Q ac T n4;go_wp2_with fail;rw[<- Qa al,(Qa H4).2.2.2];clear al;refine H.mono ?_;clear H;rintro en w6⟨_,a6,rfl,rfl,h6,O,n6⟩;have ao:=Qkc h6 n6;have H6:=hide O;clear h6 O n6;go_wp2_with fail;refine ao.mono ?_;clear ao;rintro en R⟨_,a7,rfl,rfl,h7,k7,ah⟩;obtain⟨k4,L,Q,T⟩:=Qa H4;have O:=Qa H6;obtain⟨k,z,K⟩:=Qa XF;have ay:=k4.size;have aC:=z.size;have az:=L.size;have aA:=O.size;have aB:=k7.size;rw[T]at Q;have ad:P≠rb:=by have:=(Qa A).1;omega
 have an:P≠g:=by have:=(Qa A).2;omega
 have n7:R.heap[P]?=some (.cells #[str x.name,Je] 67 (0,0)):=k7.keep (O.keep Q ad) ad;obtain⟨w8,B⟩:=JE (R.setCell (Ja P 1) (str x.type));have n8:w8.heap[P]?=some (.cells #[str x.name,str x.type] 67 (0,0)):=by rw[B];exact(Qah n7 1 _).trans rfl
 have s8:w8.heap.size=R.heap.size:=by rw[B];simp
 have o8:∀q,q≠P->w8.heap[q]?=R.heap[q]?:=fun q k=>by rw[B];exact hpS k
 have h8:=h7.move (w':=w8) (by omega) (o8 rb ad.symm) (o8 g an.symm);have ar:Kp rb V w8:=by
  have Z:=((k4.trans (Kp.of_below L)).trans O).trans k7;refine⟨by rw[B];exact Z.os,by rw[B];exact Z.tape,by rw[B];exact Z.output,by rw[s8];exact Z.size,fun q k X=>(o8 q (by omega)).trans (Z.block q k X)⟩
 obtain⟨i0,hi,hz,ap,am⟩:=infoF;obtain⟨r,wz,a5,ag,ai,I⟩:=k.more Qbb (by kernel_rfl:Tryz.prog.underlying 46=some (.slice 67)) hi hz ap am rfl (by decide) (by decide) z (x:=x) (cs:=[str x.name,str x.type]) rfl (by simp[Value.oneCell',str]) rfl h8 ar (Qa A).1 (Qa A).2 (by rw[Qa au];omega);obtain⟨ra,rc,er,ae,af⟩:=I.sl;subst er;rw[B]at a5;rw[show(R.setCell (Ja P 1) (str x.type)).heap.size=R.heap.size by simp]at a5;have aj:=hide a5;obtain⟨aG,aH,xf⟩:=cl2 n7;obtain⟨aD,aE,zf⟩:=cl2 n8;rw[B]at aD aE;rw[<- K]at I ae;have a8:(xs.take (j+1)).length=j+1:=by rw[List.length_take,Qa D];omega
 have HE:=hide (Ya I (Ya ai (Ya ag (Ya ae (Ya af (Ya ah (Ya a8 K)))))));clear k4 L Q T O h7 k7 k z K ay aC az aA aB ad an n7 B n8 s8 o8 h8 ar hi hz ap am a5 ag ai I ae af zf ah a8;go_wp2_with (at_builtin;refine Qaj _ rfl _ _ 46 rfl _ _ rfl rfl _ _ (Qa aj) ?_;clear aj);go_roundw
 case rel=>
  obtain⟨I,ai,ag,ae,af,ah,a8,K⟩:=Qa HE;refine⟨j+1,_,false,ra,rc,by have:=Qa D;congr 1;omega,rfl,by omega,by omega,af,hide ⟨?_,ai,ag,ah,by simp⟩⟩;rw[a8]at I;exact I
 have:=Qa D;simp[lenV];omega
end
end Go.Proofs.YtkhndlnadhggkaaGreat
