/- types. -/
import Derived.Test.YtkhndlnadhggkaaGreatAp01
import Derived.Test.YtkhndlnadhggkaaGreatAp41
import Derived.Test.YtkhndlnadhggkaaGreatAp48
import Derived.Test.YtkhndlnadhggkaaGreatAp29
set_option maxRecDepth 100000
set_option maxHeartbeats 32000000
namespace Go.Proofs.YtkhndlnadhggkaaGreat
section
open Go.RowKit Go.Maps
theorem Qbl{α : Type}{eq:α -> α -> Bool}{xs:List α}(h:eqL eq xs []=true):xs=[]:=by
  cases xs with
  |nil=>rfl
  |cons x xs=>simp[eqL]at h
theorem Qbk{α : Type}{eq:α -> α -> Bool}{xs ys:List α}{y:α}(h:eqL eq xs (y :: ys)=true):∃x xs',xs=x :: xs'/\eq x y=true/\eqL eq xs' ys=true:=by
  cases xs with
  |nil=>simp[eqL]at h
  |cons x xs=>
    rw[Qdl,Bool.and_eq_true]at h;exact⟨x,xs,rfl,h.1,h.2⟩
def vaX(s:Txt)(a:Int):Ex:=.mk 1 0 s [] a
def vaA(r s:Txt)(a b:Int):Atm:=⟨r,[vaX s a],b⟩
def vaL(r s:Txt)(a b c d e:Int):Lt:=⟨1,vaA r s a b,[],.mk 0 0 [] [] c,.mk 0 0 [] [] d,e⟩
theorem eqE_var{x:Ex}{s:Txt}{q:Int}(h:eqE x (.mk 1 0 s [] q)=true):∃a,x=vaX s a:=by
  cases x with
  |mk k n t ks a=>
    rw[Qtw]at h;simp only[Bool.and_eq_true]at h;obtain⟨⟨⟨e,f⟩,j⟩,v⟩:=h;have m:k=_:=of_decide_eq_true e;have p:n=_:=of_decide_eq_true f;have r:t=_:=of_decide_eq_true j;clear e f j;have w:ks=[]:=Qbl v;rw[m,p,r,w];exact⟨a,rfl⟩
theorem Qot{x:Ex}(h:eqE x .none=true):∃a,x = .mk 0 0 [] [] a:=by
  cases x with
  |mk k n t ks a=>
    rw[Ex.none,Qtw]at h;simp only[Bool.and_eq_true]at h;obtain⟨⟨⟨e,f⟩,j⟩,r⟩:=h;have m:k=_:=of_decide_eq_true e;have p:n=_:=of_decide_eq_true f;have q:t=_:=of_decide_eq_true j;clear e f j;have s:ks=[]:=Qbl r;rw[m,p,q,s];exact⟨a,rfl⟩
theorem Qki{x:Atm}{r s:Txt}{q o:Int}(h:eqA x ⟨r,[.mk 1 0 s [] q],o⟩=true):∃a b,x=vaA r s a b:=by
  obtain⟨n,l,b⟩:=x;unfold eqA at h;simp only[Bool.and_eq_true]at h;obtain⟨f,k⟩:=h;have j:n=r:=of_decide_eq_true f;obtain⟨e,t,rfl,m,p⟩:=Qbk k;rw[Qbl p];obtain⟨a,rfl⟩:=eqE_var m;subst j;exact⟨a,b,rfl⟩
theorem Qhq{x:Lt}{r s:Txt}{q o u:Int}(h:eqLt x ⟨1,⟨r,[.mk 1 0 s [] q],o⟩,[],.none,.none,u⟩=true):∃a b c d e,x=vaL r s a b c d e:=by
  obtain⟨k,A,w,y,z,e⟩:=x;unfold eqLt at h;simp only[Bool.and_eq_true]at h;obtain⟨⟨⟨⟨f,n⟩,j⟩,t⟩,v⟩:=h;have m:k=1:=of_decide_eq_true f;have p:w=[]:=of_decide_eq_true j;obtain⟨a,b,rfl⟩:=Qki n;obtain⟨c,rfl⟩:=Qot t;obtain⟨d,rfl⟩:=Qot v;subst m p;exact⟨a,b,c,d,e,rfl⟩
theorem Qlr{x:Typ}{n s:Txt}{q:Int}(h:eqTy x ⟨n,s,[],q⟩=true):∃a,x=⟨n,s,[],a⟩:=by
  obtain⟨m,t,r,a⟩:=x;unfold eqTy at h;simp only[Bool.and_eq_true]at h;obtain⟨⟨e,f⟩,p⟩:=h;have j:m=n:=of_decide_eq_true e;have k:t=s:=of_decide_eq_true f;rw[Qbl p];subst j k;exact⟨a,rfl⟩
theorem Qfa{x:Dcl}{n f t:Txt}{q:Int}(h:eqDc x ⟨n,[⟨f,t⟩],false,false,q⟩=true):∃a,x=⟨n,[⟨f,t⟩],false,false,a⟩:=by
  obtain⟨m,G,i,o,a⟩:=x;unfold eqDc at h;simp only[Bool.and_eq_true]at h;obtain⟨⟨⟨p,w⟩,r⟩,s⟩:=h;have v:m=n:=of_decide_eq_true p;have z:i=false:=of_decide_eq_true r;have A:o=false:=of_decide_eq_true s;obtain⟨y,H,rfl,e,B⟩:=Qbk w;rw[Qbl B];obtain⟨E,F⟩:=y;unfold eqFd at e;simp only[Bool.and_eq_true]at e;obtain⟨C,D⟩:=e;have j:E=f:=of_decide_eq_true C;have k:F=t:=of_decide_eq_true D;subst v z A j k;exact⟨a,rfl⟩
def tA:Txt:=[65]
def tE:Txt:=[101]
def tQ:Txt:=[113]
def tX:Txt:=[120]
def ty1(a:Int):Typ:=⟨tA,tNum,[],a⟩
def dcE(a:Int):Dcl:=⟨tE,[⟨tX,tA⟩],false,false,a⟩
def dcQ(a:Int):Dcl:=⟨tQ,[⟨tX,tNum⟩],false,false,a⟩
structure Pl where
  (a b c d e f g h i j k l m:Int)
def caQ(o:Pl):Cls:=⟨vaA tQ tX o.a o.b,[vaL tE tX o.c o.d o.e o.f o.g,vaL tQ tX o.h o.i o.j o.k o.l],o.m⟩
def caE(o:Pl):Cls:=⟨vaA tE tX o.a o.b,[vaL tQ tX o.c o.d o.e o.f o.g],o.h⟩
def pg1(a b c:Int)(o:Pl):Pg:=.mk [ty1 a] [dcE b,dcQ c] [] [] [caQ o]
def pg2(a b c:Int)(o u:Pl):Pg:=.mk [ty1 a] [dcE b,dcQ c] [] [] [caQ o,caE u]
def plZ:Pl:=⟨0,0,0,0,0,0,0,0,0,0,0,0,0⟩
theorem Qtv{x:Cls}(h:eqCl x (caQ plZ)=true):∃o,x=caQ o:=by
  obtain⟨w,v,m⟩:=x;unfold eqCl at h;simp only[Bool.and_eq_true,caQ]at h;obtain⟨q,r⟩:=h;obtain⟨a,b,rfl⟩:=Qki q;obtain⟨A,y,rfl,n,s⟩:=Qbk r;obtain⟨B,z,rfl,p,t⟩:=Qbk s;rw[Qbl t];obtain⟨c,d,e,f,g,rfl⟩:=Qhq n;obtain⟨h,i,j,k,l,rfl⟩:=Qhq p;exact⟨⟨a,b,c,d,e,f,g,h,i,j,k,l,m⟩,rfl⟩
theorem eqCa_E{x:Cls}(h:eqCl x (caE plZ)=true):∃o,x=caE o:=by
  obtain⟨r,q,m⟩:=x;unfold eqCl at h;simp only[Bool.and_eq_true,caE]at h;obtain⟨k,n⟩:=h;obtain⟨a,b,rfl⟩:=Qki k;obtain⟨t,s,rfl,j,p⟩:=Qbk n;rw[Qbl p];obtain⟨c,d,e,f,g,rfl⟩:=Qhq j;exact⟨⟨a,b,c,d,e,f,g,m,0,0,0,0,0⟩,rfl⟩
theorem eqPg_1{p:Pg}(h:eqPg p (pg1 0 0 0 plZ)=true):∃a b c o,p=pg1 a b c o:=by
  obtain⟨I,F,C,G,ls⟩:=p;rw[Qet]at h;simp only[Bool.and_eq_true,pg1,Pg.types,Pg.decls,Pg.comps,Pg.inits,Pg.clauses]at h;obtain⟨⟨⟨⟨v,w⟩,x⟩,y⟩,z⟩:=h;obtain⟨t,H,rfl,s,j⟩:=Qbk v;rw[Qbl j,Qbl x,Qbl y];obtain⟨d,E,rfl,r,k⟩:=Qbk w;obtain⟨D,A,rfl,f,e⟩:=Qbk k;rw[Qbl e];obtain⟨c,B,rfl,q,m⟩:=Qbk z;rw[Qbl m];obtain⟨a,rfl⟩:=Qlr s;obtain⟨b,rfl⟩:=Qfa r;obtain⟨n,rfl⟩:=Qfa f;obtain⟨o,rfl⟩:=Qtv q;exact⟨a,b,n,o,rfl⟩
theorem eqPg_2{p:Pg}(h:eqPg p (pg2 0 0 0 plZ plZ)=true):∃a b c o u,p=pg2 a b c o u:=by
  obtain⟨M,J,G,K,ls⟩:=p;rw[Qet]at h;simp only[Bool.and_eq_true,pg2,Pg.types,Pg.decls,Pg.comps,Pg.inits,Pg.clauses]at h;obtain⟨⟨⟨⟨x,y⟩,z⟩,A⟩,B⟩:=h;obtain⟨t,L,rfl,w,m⟩:=Qbk x;rw[Qbl m,Qbl z,Qbl A];obtain⟨d,I,rfl,v,n⟩:=Qbk y;obtain⟨H,D,rfl,k,e⟩:=Qbk n;rw[Qbl e];obtain⟨c,F,rfl,s,q⟩:=Qbk B;obtain⟨E,C,rfl,j,f⟩:=Qbk q;rw[Qbl f];obtain⟨a,rfl⟩:=Qlr w;obtain⟨b,rfl⟩:=Qfa v;obtain⟨r,rfl⟩:=Qfa k;obtain⟨o,rfl⟩:=Qtv s;obtain⟨u,rfl⟩:=eqCa_E j;exact⟨a,b,r,o,u,rfl⟩
theorem pat1(p:Pg)(s t:Txt)(q:Int)(g:Txt)(fs vs:List Fld):patsP p [vaX s q] (⟨g,t⟩ :: fs) vs=narP p vs (vaX s q) t:=by
 simp only[patsP,patP,vaX,if_pos];cases narP p vs (.mk 1 0 s [] q) t<;>rfl
theorem val1(p:Pg)(s:Txt)(q:Int)(vs:List Fld):valP p vs (vaX s q)=match typV vs s with|none=>.error (15,q)|some t=>.ok t:=by
 rw[vaX,valP,if_pos rfl];cases typV vs s<;>rfl
theorem fit1(p:Pg)(s t g:Txt)(q:Int)(vs:List Fld):fitsP p vs [vaX s q] [⟨g,t⟩]=match typV vs s with|none=>.error (15,q)|some o=>if belowP p o t=true then .ok () else .error (13,q):=by
 rw[fitsP,val1]
 cases typV vs s with
 |none=>rfl
 |some o=>simp[fitsP,vaX,Ex.kind,Ex.at_]
theorem lit1{p:Pg}{r s g t:Txt}{a b c d e:Int}{vs:List Fld}(h:colsP p (vaA r s a b)=[⟨g,t⟩]):litP2 p (vaL r s a b c d e) vs=narP p vs (vaX s a) t:=by
 refine Eq.trans ?_ (pat1 p s t a g [] vs);rw[<- h];rfl
theorem Qei{p:Pg}{y:Lt}{ys:List Lt}{vs vs':List Fld}(h:litP2 p y vs = .ok vs'):litsP p (y :: ys) vs=litsP p ys vs':=by rw[litsP,h]
theorem inf1{p:Pg}{x:Cls}{vs:List Fld}{r s g t:Txt}{a b:Int}(h1:(watP p x.head).1=0)(h2:(watsP p x.body).1=0)(h3:litsP p x.body [] = .ok vs)(hx:x.head=vaA r s a b)(hc:colsP p x.head=[⟨g,t⟩]):infP p x=match typV vs s with|none=>.error (15,a)|some o=>if belowP p o t=true then .ok vs else .error (13,a):=by
 unfold infP;rw[if_neg (fun h=>h h1),if_neg (fun h=>h h2),h3,hc,hx]
 show(match fitsP p vs [vaX s a] [⟨g,t⟩] with | .error e=>Except.error e | .ok _=>.ok vs)=_;rw[fit1]
 cases typV vs s with
 |none=>rfl
 |some o=>by_cases f:belowP p o t=true<;>simp[f]
section
variable (a b c:Int)(o u:Pl)
theorem inf_Q1:infP (pg1 a b c o) (caQ o) = .ok [⟨tX,tA⟩]:=by
 have m:litP2 (pg1 a b c o) (vaL tE tX o.c o.d o.e o.f o.g) [] = .ok [⟨tX,tA⟩]:=lit1 (g:=tX) (t:=tA) rfl;have n:litP2 (pg1 a b c o) (vaL tQ tX o.h o.i o.j o.k o.l) [⟨tX,tA⟩] = .ok [⟨tX,tA⟩]:=lit1 (g:=tX) (t:=tNum) rfl;exact(inf1 (p:=pg1 a b c o) (x:=caQ o) (g:=tX) (t:=tNum) rfl rfl ((Qei m).trans (Qei n)) rfl rfl).trans rfl
theorem inf_Q2:infP (pg2 a b c o u) (caQ o) = .ok [⟨tX,tA⟩]:=by
 have m:litP2 (pg2 a b c o u) (vaL tE tX o.c o.d o.e o.f o.g) [] = .ok [⟨tX,tA⟩]:=lit1 (g:=tX) (t:=tA) rfl;have n:litP2 (pg2 a b c o u) (vaL tQ tX o.h o.i o.j o.k o.l) [⟨tX,tA⟩] = .ok [⟨tX,tA⟩]:=lit1 (g:=tX) (t:=tNum) rfl;exact(inf1 (p:=pg2 a b c o u) (x:=caQ o) (g:=tX) (t:=tNum) rfl rfl ((Qei m).trans (Qei n)) rfl rfl).trans rfl
theorem inf_E2:infP (pg2 a b c o u) (caE u) = .error (13,u.a):=by
 have h:litP2 (pg2 a b c o u) (vaL tQ tX u.c u.d u.e u.f u.g) [] = .ok [⟨tX,tNum⟩]:=lit1 (g:=tX) (t:=tNum) rfl;exact(inf1 (p:=pg2 a b c o u) (x:=caE u) (g:=tX) (t:=tA) rfl rfl (Qei h) rfl rfl).trans rfl
theorem ck_2:ckF (pg2 a b c o u) 0=(13,u.a):=by
  have e:wNameP (pg2 a b c o u) (pg2 a b c o u).types.zipIdx=(0,0):=rfl;have f:wTypeP (pg2 a b c o u) (pg2 a b c o u).types.zipIdx=(0,0):=rfl;have h:wDeclP (pg2 a b c o u) (pg2 a b c o u).decls.zipIdx=(0,0):=rfl;have j:wClauseP (pg2 a b c o u) (pg2 a b c o u).clauses=(13,u.a):=by
    show wClauseP (pg2 a b c o u) [caQ o,caE u]=_;rw[wClauseP,inf_Q2];show wClauseP (pg2 a b c o u) [caE u]=_;rw[wClauseP,inf_E2]
  unfold ckF;rw[e,f,h,j];rfl
theorem below_1:belowP (pg1 a b c o) tA tNum=true:=rfl
end
def RpX(w:World)(its:List It)(en:Ending)(w':World):Prop:=∃p0 m0 o0 p1 m1 o1 p2 m2 o2 p3 m3 o3 p4 m4 o4 p,en = .returned (.tuple #[.agg #[.slice p0 m0 o0,.slice p1 m1 o1,.slice p2 m2 o2,.slice p3 m3 o3,.slice p4 m4 o4],.agg #[.int .i64 0,.int .i64 0]])/\Below w.heap.size w w'/\PgS (fun b=>w.heap.size<=b) w' [.slice p0 m0 o0,.slice p1 m1 o1,.slice p2 m2 o2,.slice p3 m3 o3,.slice p4 m4 o4] p/\eqPg p (its.foldl addI .none)=true
theorem Qkd(s:ByteArray)(hs:s.size<=281474976710656){toks K:List Tok}{its:List It}{j:Nat}(hq:lexP s.data.toList = .ok toks)(hK:toks.map zk=K.map zk)(hY:∀rb g cap l,YIs rb g cap l 0 j [⟨0,[],0,0⟩] its 0 K)(w:World):Calls Tryz.prog 8 #[.string s] w fun en w'=>RpX w its en w':=by
 obtain⟨n,a4⟩:=JE ((w.alloc pgZ).alloc ftZ);have b2:Below w.heap.size w n:=by rw[a4];exact((Below.refl _ w).alloc (Nat.le_refl _) _).alloc (by simp) _
 have s2:n.heap.size=w.heap.size+2:=by rw[a4];simp
 have e:n.heap[w.heap.size]?=some pgZ:=by rw[a4,Below.heap_alloc _ _ _ (by simp)];exact heap_alloc_new w _
 have f2:n.heap[w.heap.size+1]?=some ftZ:=by
  rw[a4];have:=heap_alloc_new (w.alloc pgZ) ftZ
  simpa using this
 have aq:=Qgd s hs n;have HQ:=hide (Ya hY hK);clear hY hK;have az:Hid (n=(w.alloc (.cells #[Jn,Jn,Jn,Jn,Jn] 28)).alloc (.cells #[Ji 0,Ji 0] 31)):=a4;have K2:=hide (Ya b2 (Ya e (Ya f2 s2)));obtain⟨PO,an⟩:∃PO:Ending->World->Prop,PO=fun en w'=>RpX w its en w':=⟨_,rfl⟩;rw[<- an];have aL:=hide an;have ap:=Qpm s.data.toList;have aI:s.data.toList.length=s.size:=(Qcs s).symm;clear b2 s2 e f2 a4 an;rw[hq]at aq ap;obtain⟨q,x,g3⟩:=Qub hq;have g4:=Qpl hq;have ac:∀t∈toks,t.at_<=65536:=fun t f=>by have:=Ris.at ap t f;omega
 rw[aI]at q x g4;have HT:=hide (Ya ac (Ya q (Ya x g4)));clear hq ap aI ac x g3 g4;go_enter Tryz.func8,Tryz.ntmps8;go_wp2_with fail;rw[<- Qa az];refine aq.mono ?_;clear aq az;rintro en V⟨v,rfl,ak,b3⟩;obtain⟨b2,e,f2,s2⟩:=Qa K2;have aO:=b3.size;obtain⟨ac,_,x,g4⟩:=Qa HT;obtain⟨W,a5⟩:=JE (V.alloc ftZ);have n4:W.heap[V.heap.size]?=some ftZ:=by rw[a5];exact heap_alloc_new V _
 have b4:Below n.heap.size n W:=by rw[a5];exact b3.alloc b3.size _
 have s4:W.heap.size=V.heap.size+1:=by rw[a5];simp
 have aG:W.ownsRow n.heap.size 73 4 v toks.length (tokCells toks):=by rw[a5];exact World.ownsRow.alloc ak _
 obtain⟨v1,w5,v2,X,r1,b5,r2,b7,⟨aV,aX,aW,e1⟩,U,tc,e2,a2,aS⟩:=Qmj aG (by omega) ⟨0,[],0,s.size⟩;obtain⟨l,m⟩:∃l,toks++[(⟨0,[],0,s.size⟩:Tok)]=l:=⟨_,rfl⟩;rw[m]at a2 e2;obtain⟨tn,Z⟩:=JF l.length;have aE:tn=toks.length+1:=by rw[<- Z,<- m];simp
 rw[Z]at e2;subst e1 e2;obtain⟨rb,ae⟩:=JF X.heap.size;obtain⟨N,ai⟩:=JE (X.alloc (.cells #[.slice (Js U) tn tc,Ji 0,Ji 0,Ji 0,Ji 0,Ji 0] 75));have b8:Below X.heap.size X N:=by rw[ai];exact(Below.refl _ X).alloc (Nat.le_refl _) _
 have n8:N.heap[rb]?=some (.cells #[.slice (Js U) tn tc,Ji 0,Ji 0,Ji 0,Ji 0,Ji 0] 75 (0,0)):=by rw[ai,<- ae];exact heap_alloc_new X _
 have hR:Rr rb U tc l N 0 0 0 0 0:=by
  refine⟨by rw[Z];exact n8,a2.later b8,by have:=a2.lt;omega,by omega,by omega,fun t f=>?_,fun t f=>?_,fun _=>rfl,by omega,by omega,fun t f=>?_⟩
  ·
   rw[<- m]at f;rcases List.mem_append.1 f with h|h
   ·exact ac t h
   ·simp only[List.mem_singleton]at h;subst h;exact q
  ·
   rw[Z,aE,<- m,Nat.add_sub_cancel,List.getElem?_append_right (Nat.le_refl _),Nat.sub_self]at f;cases f;rfl
  rw[<- m]at f;rcases List.mem_append.1 f with h|h
  ·have:=g4 t h;omega
  ·simp only[List.mem_singleton]at h;subst h;exact Nat.zero_le _
 have aP:=b7.size;have aQ:=b8.size;have ah:Below n.heap.size n N:=(b4.trans (b7.mono (by omega))).trans (b8.mono (by omega));have R:=(ah.block _ (Qaa e)).trans e;have P:=(ah.block _ (Qaa f2)).trans f2;have r:Below w.heap.size w N:=b2.trans (ah.mono (by omega));have aF:Nxt l 0 (K++[⟨0,[],0,0⟩]):=by
  unfold Nxt;rw[List.drop_zero,<- m,List.map_append,List.map_append,(Qa HQ).2];rfl
 have aH:=Qto (by omega) ((Qa HQ).1 rb U tc l) ⟨_,_,rfl,.inl rfl⟩ N 0 hR aF;have c0:W.cell? (Ja V.heap.size 0)=some (Ji 0):=by rw[Qad n4];rfl
 have c1:W.cell? (Ja V.heap.size 1)=some (Ji 0):=by rw[Qad n4];rfl
 have K8:=hide (Ya r (Ya R (Ya P (show w.heap.size+2<=rb/\rb<N.heap.size/\w.heap.size+2<=U by have:=Qaa n8;omega))));have HL:=hide Z;have aA:Hid (W=V.alloc (.cells #[Ji 0,Ji 0] 31)):=a5;have am:=hide (Ya ai ae);have aJ:(Builtin.append_ #[69,69] 69 #[.slice aV aX aW,.slice (Js w5.heap.size) 1 1]).run Tryz.prog (w5.alloc (.cells #[Ji 0,Je,Ji 0,Ji (s.size:Int)] 73)) = .ok (.slice (Js U) tn tc) X:=r2;have ax:=hide r1;have ay:=hide aJ;have aZ:s.size<=65536:=q;clear ak b3 b2 e f2 s2 aO ac x g4 a5 n4 b4 s4 aG r1 b5 r2 aJ b7 a2 aS m Z aE ae ai b8 n8 hR aF aP aQ ah R P r K2 q HT;simp only[Out.why,Out.fa];go_upto_region 2 with fail;rw[<- Qa aA];clear aA
 go_wp2_with (at_builtin; first
  |(refine Qaj _ rfl _ _ 69 rfl _ _ rfl rfl _ _ (Qa ax) ?_;clear ax)
  |(refine Qaj _ rfl _ _ 69 rfl _ _ rfl rfl _ _ (Qa ay) ?_;clear ay))
 rw[<- (Qa am).1,(Qa am).2];clear am c0 c1;refine aH.mono ?_;clear aH;rintro en w9⟨_,a9,rfl,⟨pg,⟨I,y,D,J,z,E,e,A,F,L,B,G,M,C,H,rfl,ad⟩,heq⟩,h9,k9,n9⟩;obtain⟨r,R,P,q,x,g3⟩:=Qa K8;obtain⟨pb,S⟩:=JF w9.heap.size;obtain⟨ag,a3⟩:=JE (w9.alloc (.cells #[.slice I y D,.slice J z E,.slice e A F,.slice L B G,.slice M C H] 28));have a8:Below w9.heap.size w9 ag:=by rw[a3];exact(Below.refl _ w9).alloc (Nat.le_refl _) _
 have af:ag.heap[pb]?=some (.cells #[.slice I y D,.slice J z E,.slice e A F,.slice L B G,.slice M C H] 28 (0,0)):=by rw[a3,<- S];exact heap_alloc_new w9 _
 have aR:=k9.size;have aj:Kp rb N ag:=k9.trans (Kp.of_below a8);have aa:=h9.later a8;have a0:PgS (fun b=>w.heap.size+2<=b/\b≠rb) ag [.slice I y D,.slice J z E,.slice e A F,.slice L B G,.slice M C H] pg:=Qal.mono _ _ _ _ _ (Qal.same _ _ ag _ _ ad a8.size (fun b _ m=>a8.block b m)) (fun b _ hb=>by have aY:N.heap.size<=b:=hb;exact⟨by omega,by omega⟩);obtain⟨t,f,au,_⟩:=n9.at;have gt:(t.kind != 0)=false:=by
  simp only[zk,Prod.mk.injEq]at au;rw[au.1];rfl
 have aK:=hide heq;have ao:=Qap aa f;unfold tkA at ao;have aC:=hide (Ya (r.trans (aj.bel (by omega) r.size)) (Ya (aj.keep R (by omega)) (Ya (aj.keep P (by omega)) (Ya q (Ya x (Ya aa (Ya af (Ya (show rb<pb by omega) a0))))))));have a7:=hide (Ya a3 S);clear ad au n9 heq h9 k9 r R P q x g3 S a3 a8 af aR aj aa a0 f K8;go_wp2_with fail;rw[<- (Qa a7).1,(Qa a7).2];clear a7;refine ao.mono ?_;clear ao;rintro en a6⟨rfl,O⟩
 have al:=hide (show Below w.heap.size w a6/\a6.heap[w.heap.size]?=some pgZ/\a6.heap[w.heap.size+1]?=some ftZ/\w.heap.size+2<=rb/\Rr rb U tc l a6 a9 0 j 0 0/\a6.heap[pb]?=some (.cells #[.slice I y D,.slice J z E,.slice e A F,.slice L B G,.slice M C H] 28 (0,0))/\rb<pb/\PgS (fun b=>w.heap.size+2<=b/\b≠rb) a6 [.slice I y D,.slice J z E,.slice e A F,.slice L B G,.slice M C H] pg by
  obtain⟨r,R,P,q,x,aa,af,S,a0⟩:=Qa aC
  exact⟨r.trans (O.mono r.size),(O.block _ (Qaa R)).trans R,(O.block _ (Qaa P)).trans P,q,aa.later O,(O.block _ (Qaa af)).trans af,S,Qal.same _ _ _ _ _ a0 O.size (fun b _ m=>O.block b m)⟩)
 clear O aC;go_wp2_with fail;rename_i hK;refine hK _ _ ?_;clear hK;have ar:=Qax (Qa al).2.2.2.2.1;rw[decide_eq_true rfl]at ar;go_wp2_with fail;refine ar.mono ?_;clear ar;rintro en wq⟨rfl,rfl⟩;obtain⟨B0,P0,F0,ae,_,bp,S,ad⟩:=Qa al;obtain⟨v0,v1,v2,v3,v4,vf⟩:=cl5 bp;obtain⟨T,ab⟩:=JE ((((((wq.setCell (Ja w.heap.size 0) (.slice I y D)).setCell (Ja w.heap.size 1) (.slice J z E)).setCell (Ja w.heap.size 2) (.slice e A F)).setCell (Ja w.heap.size 3) (.slice L B G)).setCell (Ja w.heap.size 4) (.slice M C H)));have av:∀k,k≠w.heap.size->T.heap[k]?=wq.heap[k]?:=fun k Q=>by rw[ab,hpS Q,hpS Q,hpS Q,hpS Q,hpS Q]
 have aD:T.heap[w.heap.size]?=some (.cells #[.slice I y D,.slice J z E,.slice e A F,.slice L B G,.slice M C H] 28 (0,0)):=by rw[ab];exact(Qah (Qah (Qah (Qah (Qah P0 0 _) 1 _) 2 _) 3 _) 4 _).trans rfl
 have F5:=(av (w.heap.size+1) (by omega)).trans F0;have B5:Below w.heap.size w T:=by rw[ab];exact(((((B0.setCell (p:=(Ja w.heap.size 0)) (Nat.le_refl _) _).setCell (p:=(Ja w.heap.size 1)) (Nat.le_refl _) _).setCell (p:=(Ja w.heap.size 2)) (Nat.le_refl _) _).setCell (p:=(Ja w.heap.size 3)) (Nat.le_refl _) _).setCell (p:=(Ja w.heap.size 4)) (Nat.le_refl _) _)
 have aT:T.heap.size=wq.heap.size:=by rw[ab];simp
 obtain⟨y0,y1,yf⟩:=cl2 F5;obtain⟨W7,Y⟩:=JE (((T.setCell (Ja (w.heap.size+1) 0) (Ji 0)).setCell (Ja (w.heap.size+1) 1) (Ji 0)));have aw:∀k,k≠w.heap.size+1->W7.heap[k]?=T.heap[k]?:=fun k Q=>by rw[Y,hpS Q,hpS Q]
 have F7:W7.heap[w.heap.size+1]?=some (.cells #[Ji 0,Ji 0] 31 (0,0)):=by rw[Y];exact(Qah (Qah F5 0 _) 1 _).trans rfl
 have P7:=(aw w.heap.size (by omega)).trans aD;have B7:Below w.heap.size w W7:=by rw[Y];exact(B5.setCell (p:=(Ja (w.heap.size+1) 0)) (by show w.heap.size<=w.heap.size+1;omega) _).setCell (p:=(Ja (w.heap.size+1) 1)) (by show w.heap.size<=w.heap.size+1;omega) _
 have aU:W7.heap.size=T.heap.size:=by rw[Y];simp
 obtain⟨x0,x1,x2,x3,x4,xf⟩:=cl5 P0;have a1:PgS (fun b=>w.heap.size<=b) W7 [.slice I y D,.slice J z E,.slice e A F,.slice L B G,.slice M C H] pg:=Qal.mono _ _ _ _ _ (Qal.same _ _ W7 _ _ ad (by omega) (fun b hb _=>(aw b (by have:=hb.1;omega)).trans (av b (by have:=hb.1;omega)))) (fun b _ hb=>by have:=hb.1;omega);have HU:=hide (Ya P7 (Ya F7 (Ya B7 a1)));have aB:=hide Y;clear B0 P0 F0 ae bp S ad av aD F5 B5 aT Y aw F7 P7 B7 aU a1 al;subst ab;go_wp2_with fail;rw[<- Qa aB];obtain⟨p9,aN,aM,a1⟩:=Qa HU;obtain⟨u0,u1,u2,u3,u4,uf⟩:=cl5 p9;obtain⟨t0,t1,tf⟩:=cl2 aN;clear x0 x1 x2 x3 x4 xf y0 y1 yf aB HU v0 v1 v2 v3 v4 vf;go_wp2_with fail;refine bodyPost_ret (v:=.tuple #[.agg #[.slice I y D,.slice J z E,.slice e A F,.slice L B G,.slice M C H],.agg #[Ji 0,Ji 0]]) (by simp[results,Tryz.results8,go_sem,u0,u1,u2,u3,u4,t0,t1]) rfl ?_;rw[Qa aL];exact⟨_,_,_,_,_,_,_,_,_,_,_,_,_,_,_,pg,rfl,aM,a1,Qa aK⟩
def kvX(x:Ex):List Tok:=[nmR x.txt]
def kvL(y:Lt):List Tok:=nmR y.atom.rel :: sgQ [40] :: (joinQ (y.atom.args.map kvX)++[sgQ [41]])
section
variable {rb g cap d i:Nat}{l:List Tok}
theorem vx_ok{s:Txt}(hd:d<31)(hq:wordP s=true)(hs:s≠[95]):∀x∈[vaX s 0],YE 108 rb g cap l d Fole (kvX x) x /\ ∃t0 ks,kvX x=t0 :: ks/\isSg t0 [41]=false:=fun x e=>by
 rw[List.mem_singleton.1 e];exact⟨Qrt hd hq hs,_,_,rfl,Qdz _ _⟩
theorem Qrw{r s:Txt}(hd:d<31)(hq:wordP s=true)(hs:s≠[95]):YL rb g cap l d (kvL (vaL r s 0 0 0 0 0)) (vaL r s 0 0 0 0 0):=fun _ _ _ f h e _=>
 Qrx h (vx_ok hd hq hs) (by show 1<=8;decide) (rest:=f) e
theorem Qru{n s:Txt}{r:List Tok}(hw:wordP n=true)(hs:n≠[95]):YI rb g cap l d i i [sgQ [46,116,121,112,101],nmR n,sgQ [60,58],nmR s] r (.ty ⟨n,s,[],0⟩):=
 ⟨rfl,_,rfl,fun _ _ e h f=>Qrv h e hw hs (rest:=r) f⟩
theorem Qip{n s t:Txt}{r:List Tok}(hw:wordP n=true)(hs:n≠[95])(hw2:wordP s=true)(hs2:s≠[95])(hF:Fol2 r):YI rb g cap l d i i [sgQ [46,100,101,99,108],nmR n,sgQ [40],nmR s,sgQ [58],nmR t,sgQ [41]] r (.dc ⟨n,[⟨s,t⟩],false,false,0⟩):=
 ⟨rfl,_,rfl,fun _ _ e h j=>Qli h e hw hs (fs:=[⟨s,t⟩]) (fun f k=>by rw[List.mem_singleton.1 k];exact⟨hw2,hs2⟩) (by show 1<=8;decide) (rest:=r) j hF⟩
theorem Qum{r:List Tok}(hd:d<31):YI rb g cap l d i i [nmR tQ,sgQ [40],nmR tX,sgQ [41],sgQ [58,45],nmR tE,sgQ [40],nmR tX,sgQ [41],sgQ [44],nmR tQ,sgQ [40],nmR tX,sgQ [41],sgQ [46]] r (.cl (caQ plZ)):=
 ⟨rfl,⟨_,_,rfl⟩,fun _ _ h f=>Qgm h (vx_ok hd (by decide) (by decide)) (by decide) (KL:=kvL) (ls:=[vaL tE tX 0 0 0 0 0,vaL tQ tX 0 0 0 0 0]) (fun x e=>by
  simp only[List.mem_cons,List.not_mem_nil,or_false]at e;rcases e with rfl|rfl
  ·exact⟨Qrw hd (by decide) (by decide),by decide⟩
  ·exact⟨Qrw hd (by decide) (by decide),by decide⟩) (by simp) (by decide) (rest:=r) f⟩
theorem yi_clE{r:List Tok}(hd:d<31):YI rb g cap l d i i [nmR tE,sgQ [40],nmR tX,sgQ [41],sgQ [58,45],nmR tQ,sgQ [40],nmR tX,sgQ [41],sgQ [46]] r (.cl (caE plZ)):=
 ⟨rfl,⟨_,_,rfl⟩,fun _ _ h e=>Qgm h (vx_ok hd (by decide) (by decide)) (by decide) (KL:=kvL) (ls:=[vaL tQ tX 0 0 0 0 0]) (fun x f=>by
  rw[List.mem_singleton.1 f]
  exact⟨Qrw hd (by decide) (by decide),by decide⟩) (by simp) (by decide) (rest:=r) e⟩
end
def kHd:List Tok:=[sgQ [46,116,121,112,101],nmR tA,sgQ [60,58],nmR tNum]++([sgQ [46,100,101,99,108],nmR tE,sgQ [40],nmR tX,sgQ [58],nmR tA,sgQ [41]]++([sgQ [46,100,101,99,108],nmR tQ,sgQ [40],nmR tX,sgQ [58],nmR tNum,sgQ [41]]++([nmR tQ,sgQ [40],nmR tX,sgQ [41],sgQ [58,45],nmR tE,sgQ [40],nmR tX,sgQ [41],sgQ [44],nmR tQ,sgQ [40],nmR tX,sgQ [41],sgQ [46]]++[])))
def kHe:List Tok:=[sgQ [46,116,121,112,101],nmR tA,sgQ [60,58],nmR tNum]++([sgQ [46,100,101,99,108],nmR tE,sgQ [40],nmR tX,sgQ [58],nmR tA,sgQ [41]]++([sgQ [46,100,101,99,108],nmR tQ,sgQ [40],nmR tX,sgQ [58],nmR tNum,sgQ [41]]++([nmR tQ,sgQ [40],nmR tX,sgQ [41],sgQ [58,45],nmR tE,sgQ [40],nmR tX,sgQ [41],sgQ [44],nmR tQ,sgQ [40],nmR tX,sgQ [41],sgQ [46]]++([nmR tE,sgQ [40],nmR tX,sgQ [41],sgQ [58,45],nmR tQ,sgQ [40],nmR tX,sgQ [41],sgQ [46]]++[]))))
def its1:List It:=[.ty (ty1 0),.dc (dcE 0),.dc (dcQ 0),.cl (caQ plZ)]
def its2:List It:=[.ty (ty1 0),.dc (dcE 0),.dc (dcQ 0),.cl (caQ plZ),.cl (caE plZ)]
theorem Qu{s:Txt}{r:List Tok}:Fol2 (sgQ s :: r):=⟨_,_,rfl,fun h=>absurd h (by simp[sgQ])⟩
theorem yis_1(rb g cap:Nat)(l:List Tok):YIs rb g cap l 0 4 [⟨0,[],0,0⟩] its1 0 kHd:=
 ⟨_,_,1,rfl,by decide,Qru (by decide) (by decide),_,_,2,rfl,by decide,Qip (by decide) (by decide) (by decide) (by decide) Qu,_,_,3,rfl,by decide,Qip (by decide) (by decide) (by decide) (by decide) ⟨_,_,rfl,fun _=>by decide⟩,_,_,4,rfl,by decide,Qum (by decide),rfl,rfl⟩
theorem yis_2(rb g cap:Nat)(l:List Tok):YIs rb g cap l 0 5 [⟨0,[],0,0⟩] its2 0 kHe:=
 ⟨_,_,1,rfl,by decide,Qru (by decide) (by decide),_,_,2,rfl,by decide,Qip (by decide) (by decide) (by decide) (by decide) Qu,_,_,3,rfl,by decide,Qip (by decide) (by decide) (by decide) (by decide) ⟨_,_,rfl,fun _=>by decide⟩,_,_,4,rfl,by decide,Qum (by decide),_,_,5,rfl,by decide,yi_clE (by decide),rfl,rfl⟩
def sm1:ByteArray:=⟨([46,116,121,112,101,32,65,32,60,58,32,110,117,109,98,101,114,32,46,100,101,99,108,32,101,40,120,58,32,65,41,32,46,100,101].append [99,108,32,113,40,120,58,32,110,117,109,98,101,114,41,32,113,40,120,41,32,58,45,32,101,40,120,41,44,32,113,40,120,41,46]).toArray⟩
def sm2:ByteArray:=⟨([46,116,121,112,101,32,65,32,60,58,32,110,117,109,98,101,114,32,46,100,101,99,108,32,101,40,120,58,32,65,41,32,46,100,101,99,108,32,113,40,120,58].append [32,110,117,109,98,101,114,41,32,113,40,120,41,32,58,45,32,101,40,120,41,44,32,113,40,120,41,46,32,101,40,120,41,32,58,45,32,113,40,120,41,46]).toArray⟩
def tk1:List Tok:=(lexP sm1.data.toList).toks
def tk2:List Tok:=(lexP sm2.data.toList).toks
theorem lex_1:lexP sm1.data.toList = .ok tk1:=by kernel_rfl
theorem lex_2:lexP sm2.data.toList = .ok tk2:=by kernel_rfl
theorem tok_1:tk1.map zk=kHd.map zk:=by kernel_rfl
theorem tok_2:tk2.map zk=kHe.map zk:=by kernel_rfl
def RpY(w:World)(R:Pg->Prop)(en:Ending)(w':World):Prop:=∃p0 m0 o0 p1 m1 o1 p2 m2 o2 p3 m3 o3 p4 m4 o4 p,en = .returned (.tuple #[.agg #[.slice p0 m0 o0,.slice p1 m1 o1,.slice p2 m2 o2,.slice p3 m3 o3,.slice p4 m4 o4],.agg #[.int .i64 0,.int .i64 0]])/\Below w.heap.size w w'/\PgS (fun b=>w.heap.size<=b) w' [.slice p0 m0 o0,.slice p1 m1 o1,.slice p2 m2 o2,.slice p3 m3 o3,.slice p4 m4 o4] p/\R p
theorem RpX.to{w:World}{its:List It}{en:Ending}{w':World}{R:Pg->Prop}(h:RpX w its en w')(hR:∀p,eqPg p (its.foldl addI .none)=true->R p):RpY w R en w':=by
 obtain⟨A,m,t,B,n,v,C,q,x,D,r,y,E,s,z,p,e,f,j,k⟩:=h;exact⟨A,m,t,B,n,v,C,q,x,D,r,y,E,s,z,p,e,f,j,hR p k⟩
theorem parse_1(w:World):Calls Tryz.prog 8 #[.string sm1] w fun en w'=>RpY w (fun p=>∃a b c o,p=pg1 a b c o) en w':=
 (Qkd sm1 (by decide) lex_1 tok_1 yis_1 w).mono fun en w' h=>h.to (fun p e=>eqPg_1 e)
theorem parse_2(w:World):Calls Tryz.prog 8 #[.string sm2] w fun en w'=>RpY w (fun p=>∃a b c o u,p=pg2 a b c o u) en w':=
 (Qkd sm2 (by decide) lex_2 tok_2 yis_2 w).mono fun en w' h=>h.to (fun p e=>eqPg_2 e)
end
end Go.Proofs.YtkhndlnadhggkaaGreat
