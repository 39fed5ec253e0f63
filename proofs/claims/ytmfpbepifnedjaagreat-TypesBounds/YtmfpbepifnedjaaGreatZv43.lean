/- The laws' flat. -/
import Derived.Test.YtmfpbepifnedjaaGreatZv01
import Derived.Test.YtmfpbepifnedjaaGreatZv36
import Derived.Test.YtmfpbepifnedjaaGreatZv42
import Derived.Test.YtmfpbepifnedjaaGreatZv27
import Derived.Test.YtmfpbepifnedjaaGreatZv22
import Derived.Test.YtmfpbepifnedjaaGreatZv09
set_option maxRecDepth 100000
set_option maxHeartbeats 32000000
namespace Go.Proofs.YtmfpbepifnedjaaGreat
section
open Go.RowKit Go.Maps
def FlQ(q:Pg):Prop:=q.comps=[]/\q.inits=[]/\Few q 97 /\ ∀x∈q.clauses,ltBs x.body<=131074
def FlA(w:World)(en:Ending)(w':World):Prop:=∃v q b,en = .returned (.tuple #[v,.bool b])/\VPg (fun b=>w.heap.size<=b) w' v q/\Below w.heap.size w w'/\FlQ q
theorem Qnq(s:ByteArray)(hs:s.size<=281474976710656)(w:World):Calls Tryz.prog 13 #[.string s] w fun en w'=>FlA w en w':=by
 obtain⟨w1,a7⟩:=JE (w.alloc (.cells #[Jn,Jn,Jn,Jn,Jn] 28));have b1:=bnw a7;have n1:=nnw a7;have s1:w1.heap.size=w.heap.size+1:=by rw[a7];simp
 have aq:=Qod s hs w1;have HW:=hide a7;have H1:=hide (Ya b1 (Ya n1 s1));clear a7 b1 n1 s1;go_enter Tryz.func13,Tryz.ntmps13;go_upto_region 1 with fail;rw[<- Qa HW];clear HW;go_wp2_with fail;refine aq.mono ?_;clear aq;rintro en v1⟨ay,aA,az,aB,aD,aC,aE,aG,aF,aH,aJ,aI,aK,aM,aL,a5,U,p,rfl,b2,hR,ap,ax⟩;obtain⟨kp,ac⟩:=JF v1.heap.size;obtain⟨W1,al,c1,p1,f1,s2⟩:=new2 v1 #[.slice ay aA az,.slice aB aD aC,.slice aE aG aF,.slice aH aJ aI,.slice aK aM aL] #[Ji a5,Ji U] 28 31;rw[ac]at c1 p1 f1 s2;have ak:PgS (fun b=>w.heap.size+1<=b/\b<kp) W1 [.slice ay aA az,.slice aB aD aC,.slice aE aG aF,.slice aH aJ aI,.slice aK aM aL] p:=Qak.same _ v1 W1 _ _ (Qak.mono _ _ _ _ _ hR (fun b hl hb=>⟨by have aS:w1.heap.size<=b:=hb;have:=(Qa H1).2.2;omega,by omega⟩)) (by omega) (fun q hq _=>c1.block q hq.2);have ao:=Ql (S0:=fun b=>w.heap.size+1<=b) ap ax ak (by omega);obtain⟨aN,aO,aP,aQ,aR,xf⟩:=cl5 p1;have B1:Below w.heap.size w W1:=(Qa H1).1.trans ((b2.trans (c1.mono (by rw[<- ac];exact b2.size))).mono (by have:=(Qa H1).2.2;omega));have nL:=(c1.block w.heap.size (by have:=(Qa H1).2.2;have:=b2.size;omega)).trans ((b2.block w.heap.size (by have:=(Qa H1).2.2;omega)).trans (Qa H1).2.1);have ab:w.heap.size<kp:=by have:=(Qa H1).2.2;have:=b2.size;omega
 have H2:=hide (Ya B1 (Ya nL (Ya f1 (Ya ab s2))));have ad:=hide (Ya al ac);clear ap ax hR ak ac al c1 p1 f1 s2 b2 B1 nL ab;go_upto_region 2 with fail;rw[<- (Qa ad).1,(Qa ad).2];clear ad;go_wp2_with fail;refine ao.mono ?_;clear ao aN aO aP aQ aR xf;rintro en v2⟨_,q,y,f,rfl,⟨t,x,u,z,B,A,C,E,D,F,H,G,I,L,J,rfl,hq⟩,b3,ar,av,au,aw,-,hyf⟩;obtain⟨B1,nL,f1,ab,s2⟩:=Qa H2;obtain⟨P,ai⟩:=JF v2.heap.size;obtain⟨W2,am,c3,p3,f3,s3⟩:=new2 v2 #[.slice t x u,.slice z B A,.slice C E D,.slice F H G,.slice I L J] #[Ji y,Ji f] 28 31;have ag:=b3.size;rw[ai]at c3 p3 f3 s3 ag;obtain⟨WD,ah⟩:=JE W2.drew;have bD:Below W2.heap.size W2 WD:=by rw[ah];exact(Below.refl _ W2).drew
 have c4:Below P v2 WD:=c3.trans (bD.mono (by omega));have aj:=(c4.block _ (by omega)).trans ((b3.block _ (by omega)).trans nL);have fD:=(c4.block (kp+1) (by omega)).trans ((b3.block (kp+1) (by omega)).trans f1);have pD:=(bD.block _ (Qaa p3)).trans p3;have gD:=(bD.block _ (Qaa f3)).trans f3;obtain⟨W9,an,S⟩:=sc5 aj (.slice t x u) (.slice z B A) (.slice C E D) (.slice F H G) (.slice I L J);have T:=hide (Ya (show WD.heap[P]?=some (.cells #[.slice t x u,.slice z B A,.slice C E D,.slice F H G,.slice I L J] 28 (0,0))/\WD.heap[kp+1]?=some (.cells #[Ji a5,Ji U] 31 (0,0))/\WD.heap[P+1]?=some (.cells #[Ji y,Ji f] 31 (0,0)) from ⟨pD,fD,gD⟩) (show W9.heap[P]?=some (.cells #[.slice t x u,.slice z B A,.slice C E D,.slice F H G,.slice I L J] 28 (0,0))/\W9.heap[kp+1]?=some (.cells #[Ji a5,Ji U] 31 (0,0))/\W9.heap[P+1]?=some (.cells #[Ji y,Ji f] 31 (0,0)) from ⟨(S.oth _ (by omega)).trans pD,(S.oth _ (by omega)).trans fD,(S.oth _ (by omega)).trans gD⟩));have HE:=hide (show ∀b,FlA w (.returned (.tuple #[.agg #[.slice t x u,.slice z B A,.slice C E D,.slice F H G,.slice I L J],.bool b])) W9 from fun b=>⟨_,q,b,rfl,⟨_,_,_,_,_,_,_,_,_,_,_,_,_,_,_,rfl,Qak.mono _ _ _ _ _ (Qak.same _ WD W9 _ _ (Qak.same _ v2 WD _ _ hq c4.size (fun q _ hl=>c4.block q (by omega))) (by rw[S.size];exact Nat.le_refl _) (fun q hq _=>S.oth q (by rcases hq with e|e<;>omega))) (fun b _ hb=>by show w.heap.size<=b;rcases hb with e|e<;>omega)⟩,S.below (B1.trans ((b3.trans (c4.mono ag)).mono (by omega))) (Nat.le_refl _),ar,av,au,aw⟩);have a8:=hide S.box;have ae:=hide (Ya am ai);have aa:=hide ah;have a9:=hide an;obtain⟨aT,aU,aV,aW,aX,zf⟩:=cl5 aj;clear B1 nL f1 ab s2 ai am c3 p3 f3 s3 ag ah bD c4 aj fD pD gD an S hq b3 ar av au aw;go_upto_region 3 with fail;rw[<- (Qa ae).1,(Qa ae).2];clear ae;by_cases h1:a5=0
 rotate_left
 ·
  have g1:(a5==0)=false:=beq_eq_false_iff_ne.2 h1;clear hyf h1;refine Qat (tr:=.take 0 (.take 1 (.take 2 (.take 3 (.take 4 (.take 5 (.take 6 (.take 7 (.take 8 (.one 9 (.take 10 .nil))))))))))) (fun W=>W.heap[P]?=some (.cells #[.slice t x u,.slice z B A,.slice C E D,.slice F H G,.slice I L J] 28 (0,0))/\W.heap[kp+1]?=some (.cells #[Ji a5,Ji U] 31 (0,0))/\W.heap[P+1]?=some (.cells #[Ji y,Ji f] 31 (0,0))) mixedO (by kernel_rfl) rfl (by kernel_rfl) (fun PP R=>?_);rw[<- Qa aa]
  iterate 5 (refine tT (v:=?_) (fun w' hw=>?_) ?_;rotate_left;· (obtain⟨a,d,g⟩:=hw;obtain⟨h,i,j,k,l,M⟩:=cl5 a;obtain⟨m,n,N⟩:=cl2 d;obtain⟨o,r,O⟩:=cl2 g;go_simp<;>rfl))
  iterate 3 (refine Qcq rfl (by kernel_rfl) ?_)
  refine tT (v:=?_) (fun w' hw=>?_) ?_;rotate_left;· (obtain⟨a,d,g⟩:=hw;obtain⟨h,i,j,k,l,M⟩:=cl5 a;obtain⟨m,n,N⟩:=cl2 d;obtain⟨o,r,O⟩:=cl2 g;go_simp<;>rfl)
  refine Qag rfl (Qa T).1 (fun K Q=>?_);go_simp;rw[<- Qa a9];refine Q _ _ ?_;clear Q K;refine tT (v:=?_) (fun w' hw=>?_) ?_;rotate_left;· (obtain⟨a,d,g⟩:=hw;obtain⟨h,i,j,k,l,M⟩:=cl5 a;obtain⟨m,n,N⟩:=cl2 d;obtain⟨o,r,O⟩:=cl2 g;go_simp<;>rfl)
  refine Qao (Qa T).2 (R _ _ ?_);clear R PP;go_wp2_with fail;obtain⟨V,X,Y,Z,a6,vf⟩:=cl5 (Qa a8);refine bodyPost_ret (v:=.tuple #[.agg #[.slice t x u,.slice z B A,.slice C E D,.slice F H G,.slice I L J],.bool false]) (by simp[results,Tryz.results13,go_sem,V,X,Y,Z,a6]) rfl ?_;exact Qa HE _
 subst h1;by_cases h2:U=0
 rotate_left
 ·
  have g2:(U==0)=false:=beq_eq_false_iff_ne.2 h2;clear hyf h2;refine Qat (tr:=.take 0 (.take 1 (.take 2 (.take 3 (.take 4 (.take 5 (.take 6 (.take 7 (.take 8 (.one 9 (.take 10 .nil))))))))))) (fun W=>W.heap[P]?=some (.cells #[.slice t x u,.slice z B A,.slice C E D,.slice F H G,.slice I L J] 28 (0,0))/\W.heap[kp+1]?=some (.cells #[Ji 0,Ji U] 31 (0,0))/\W.heap[P+1]?=some (.cells #[Ji y,Ji f] 31 (0,0))) mixedO (by kernel_rfl) rfl (by kernel_rfl) (fun PP R=>?_);rw[<- Qa aa]
  iterate 5 (refine tT (v:=?_) (fun w' hw=>?_) ?_;rotate_left;· (obtain⟨a,d,g⟩:=hw;obtain⟨h,i,j,k,l,M⟩:=cl5 a;obtain⟨m,n,N⟩:=cl2 d;obtain⟨o,r,O⟩:=cl2 g;go_simp<;>rfl))
  iterate 3 (refine Qcq rfl (by kernel_rfl) ?_)
  refine tT (v:=?_) (fun w' hw=>?_) ?_;rotate_left;· (obtain⟨a,d,g⟩:=hw;obtain⟨h,i,j,k,l,M⟩:=cl5 a;obtain⟨m,n,N⟩:=cl2 d;obtain⟨o,r,O⟩:=cl2 g;go_simp<;>rfl)
  refine Qag rfl (Qa T).1 (fun K Q=>?_);go_simp;rw[<- Qa a9];refine Q _ _ ?_;clear Q K;refine tT (v:=?_) (fun w' hw=>?_) ?_;rotate_left;· (obtain⟨a,d,g⟩:=hw;obtain⟨h,i,j,k,l,M⟩:=cl5 a;obtain⟨m,n,N⟩:=cl2 d;obtain⟨o,r,O⟩:=cl2 g;go_simp<;>rfl)
  refine Qao (Qa T).2 (R _ _ ?_);clear R PP;go_wp2_with fail;obtain⟨V,X,Y,Z,a6,vf⟩:=cl5 (Qa a8);refine bodyPost_ret (v:=.tuple #[.agg #[.slice t x u,.slice z B A,.slice C E D,.slice F H G,.slice I L J],.bool false]) (by simp[results,Tryz.results13,go_sem,V,X,Y,Z,a6]) rfl ?_;exact Qa HE _
 subst h2;by_cases h3:y=0
 ·
  have hf:=(hyf h3).1;subst h3;subst hf;clear hyf;refine Qat (tr:=.take 0 (.take 1 (.take 2 (.take 3 (.take 4 (.take 5 (.take 6 (.take 7 (.take 8 (.one 9 (.take 10 .nil))))))))))) (fun W=>W.heap[P]?=some (.cells #[.slice t x u,.slice z B A,.slice C E D,.slice F H G,.slice I L J] 28 (0,0))/\W.heap[kp+1]?=some (.cells #[Ji 0,Ji 0] 31 (0,0))/\W.heap[P+1]?=some (.cells #[Ji 0,Ji 0] 31 (0,0))) mixedO (by kernel_rfl) rfl (by kernel_rfl) (fun PP R=>?_);rw[<- Qa aa]
  iterate 5 (refine tT (v:=?_) (fun w' hw=>?_) ?_;rotate_left;· (obtain⟨a,d,g⟩:=hw;obtain⟨h,i,j,k,l,M⟩:=cl5 a;obtain⟨m,n,N⟩:=cl2 d;obtain⟨o,r,O⟩:=cl2 g;go_simp<;>rfl))
  iterate 3 (refine tT (v:=?_) (fun w' hw=>?_) ?_;rotate_left;· (obtain⟨a,d,g⟩:=hw;obtain⟨h,i,j,k,l,M⟩:=cl5 a;obtain⟨m,n,N⟩:=cl2 d;obtain⟨o,r,O⟩:=cl2 g;go_simp<;>rfl))
  refine tT (v:=?_) (fun w' hw=>?_) ?_;rotate_left;· (obtain⟨a,d,g⟩:=hw;obtain⟨h,i,j,k,l,M⟩:=cl5 a;obtain⟨m,n,N⟩:=cl2 d;obtain⟨o,r,O⟩:=cl2 g;go_simp<;>rfl)
  refine Qag rfl (Qa T).1 (fun K Q=>?_);go_simp;rw[<- Qa a9];refine Q _ _ ?_;clear Q K;refine tT (v:=?_) (fun w' hw=>?_) ?_;rotate_left;· (obtain⟨a,d,g⟩:=hw;obtain⟨h,i,j,k,l,M⟩:=cl5 a;obtain⟨m,n,N⟩:=cl2 d;obtain⟨o,r,O⟩:=cl2 g;go_simp<;>rfl)
  refine Qao (Qa T).2 (R _ _ ?_);clear R PP;go_wp2_with fail;obtain⟨V,X,Y,Z,a6,vf⟩:=cl5 (Qa a8);refine bodyPost_ret (v:=.tuple #[.agg #[.slice t x u,.slice z B A,.slice C E D,.slice F H G,.slice I L J],.bool true]) (by simp[results,Tryz.results13,go_sem,V,X,Y,Z,a6]) rfl ?_;exact Qa HE _
 have g3:(y==0)=false:=beq_eq_false_iff_ne.2 h3;clear hyf h3;refine Qat (tr:=.take 0 (.take 1 (.take 2 (.take 3 (.take 4 (.take 5 (.take 6 (.take 7 (.take 8 (.one 9 (.take 10 .nil))))))))))) (fun W=>W.heap[P]?=some (.cells #[.slice t x u,.slice z B A,.slice C E D,.slice F H G,.slice I L J] 28 (0,0))/\W.heap[kp+1]?=some (.cells #[Ji 0,Ji 0] 31 (0,0))/\W.heap[P+1]?=some (.cells #[Ji y,Ji f] 31 (0,0))) mixedO (by kernel_rfl) rfl (by kernel_rfl) (fun PP R=>?_);rw[<- Qa aa]
 iterate 5 (refine tT (v:=?_) (fun w' hw=>?_) ?_;rotate_left;· (obtain⟨a,d,g⟩:=hw;obtain⟨h,i,j,k,l,M⟩:=cl5 a;obtain⟨m,n,N⟩:=cl2 d;obtain⟨o,r,O⟩:=cl2 g;go_simp<;>rfl))
 iterate 3 (refine tT (v:=?_) (fun w' hw=>?_) ?_;rotate_left;· (obtain⟨a,d,g⟩:=hw;obtain⟨h,i,j,k,l,M⟩:=cl5 a;obtain⟨m,n,N⟩:=cl2 d;obtain⟨o,r,O⟩:=cl2 g;go_simp<;>rfl))
 refine tT (v:=?_) (fun w' hw=>?_) ?_;rotate_left;· (obtain⟨a,d,g⟩:=hw;obtain⟨h,i,j,k,l,M⟩:=cl5 a;obtain⟨m,n,N⟩:=cl2 d;obtain⟨o,r,O⟩:=cl2 g;go_simp<;>rfl)
 refine Qag rfl (Qa T).1 (fun K Q=>?_);go_simp;rw[<- Qa a9];refine Q _ _ ?_;clear Q K;refine tT (v:=?_) (fun w' hw=>?_) ?_;rotate_left;· (obtain⟨a,d,g⟩:=hw;obtain⟨h,i,j,k,l,M⟩:=cl5 a;obtain⟨m,n,N⟩:=cl2 d;obtain⟨o,r,O⟩:=cl2 g;go_simp<;>rfl)
 refine Qao (Qa T).2 (R _ _ ?_);clear R PP;go_wp2_with fail;obtain⟨V,X,Y,Z,a6,vf⟩:=cl5 (Qa a8);refine bodyPost_ret (v:=.tuple #[.agg #[.slice t x u,.slice z B A,.slice C E D,.slice F H G,.slice I L J],.bool false]) (by simp[results,Tryz.results13,go_sem,V,X,Y,Z,a6]) rfl ?_;exact Qa HE _
section
variable {n0 n1:Nat}{p:Pg}{c:CatP}{wb mb:Nat}{sl:Value}{vs:List Fld}{w:World}
attribute [local go_sem ↓] Qbh Qbo
theorem lit_cmp(h:Wk n0 n1 p c wb mb sl vs w)(y:Lt)(hk:y.kind=3){pa xa ya:Option Addr}{pn pc xn xc yn yc:Nat}{R:Except Flt (List Fld)}
  (hC:∀W:World,Below w.heap.size w W->Calls Tryz.prog 115 #[.pointer (Js wb),.agg #[Ji y.kind,str y.atom.rel,.slice pa pn pc,Ji y.atom.at_,str y.op,Ji y.l.kind,Ji y.l.num,str y.l.txt,.slice xa xn xc,Ji y.l.at_,Ji y.r.kind,Ji y.r.num,str y.r.txt,.slice ya yn yc,Ji y.r.at_,Ji y.at_]] W fun en w'=>LkA n0 n1 p c wb mb sl W R en w'):
  Calls Tryz.prog 100 #[.pointer (Js wb),.agg #[Ji y.kind,str y.atom.rel,.slice pa pn pc,Ji y.atom.at_,str y.op,Ji y.l.kind,Ji y.l.num,str y.l.txt,.slice xa xn xc,Ji y.l.at_,Ji y.r.kind,Ji y.r.num,str y.r.txt,.slice ya yn yc,Ji y.r.at_,Ji y.at_]] w fun en w'=>LkA n0 n1 p c wb mb sl w R en w':=by
 obtain⟨H,n,a,e,b,f⟩:=Qas w #[Ji y.kind,str y.atom.rel,.slice pa pn pc,Ji y.atom.at_,str y.op,Ji y.l.kind,Ji y.l.num,str y.l.txt,.slice xa xn xc,Ji y.l.at_,Ji y.r.kind,Ji y.r.num,str y.r.txt,.slice ya yn yc,Ji y.r.at_,Ji y.at_] 61;have k:=hC H a;have t:=(cl16 e).1;have G:=(cl16 e).2.2.2.2.2.2.2.2.2.2.2.2.2.2.2.2;have B:=Qlg e;have O:(y.kind==1)=false:=by rw[hk];rfl
 have P:(y.kind==2)=false:=by rw[hk];rfl
 have Q:(y.kind==3)=true:=by rw[hk];rfl
 have I:=h.n1le;have A:=hide n;have o:=hide (Ya a (Ya b (Ya f (h.later a))));clear n a e b f h hk hC;go_enter Tryz.func100,Tryz.ntmps100;go_upto_region 1 with fail;rw[<- Qa A];go_wp2_with fail;refine k.mono ?_;clear k t G B;rintro en S m;obtain⟨J,K,ft,rfl,g,k3,i⟩:=m.ft;clear m;obtain⟨a,b,f,q⟩:=Qa o;have d:=k3.keep b (q.offT b (by decide) (by decide));obtain⟨N,j,sc⟩:=sc2 d (Ji ft.1) (Ji ft.2);obtain⟨L,M,T⟩:=cl2 d;have z:=hide (Ya (g.sc sc (by omega) (g.offT d (by decide) (by decide))) (Ya (((Kw.of_below a).trans k3).sc sc (by omega)) (Ya sc.box i)));have s:=hide j;clear a b f q g k3 i d j sc o;unfold ftV;go_wp2_with fail;rw[<- Qa s];obtain⟨C,D,E,F⟩:=Qa z;obtain⟨u,x,U⟩:=cl2 E;refine bodyPost_ret (v:=ftV ft) (by simp[results,Tryz.results100,go_sem,u,x,ftV]) rfl ?_;exact LkA.of C D F
theorem lit_bad(h:Wk n0 n1 p c wb mb sl vs w)(y:Lt)(h1:y.kind≠1)(h2:y.kind≠2)(h3:y.kind≠3){pa xa ya:Option Addr}{pn pc xn xc yn yc:Nat}:
  Calls Tryz.prog 100 #[.pointer (Js wb),.agg #[Ji y.kind,str y.atom.rel,.slice pa pn pc,Ji y.atom.at_,str y.op,Ji y.l.kind,Ji y.l.num,str y.l.txt,.slice xa xn xc,Ji y.l.at_,Ji y.r.kind,Ji y.r.num,str y.r.txt,.slice ya yn yc,Ji y.r.at_,Ji y.at_]] w fun en w'=>LkA n0 n1 p c wb mb sl w (.error (1,y.at_)) en w':=by
 obtain⟨S,g,d,i,a,H⟩:=Qas w #[Ji y.kind,str y.atom.rel,.slice pa pn pc,Ji y.atom.at_,str y.op,Ji y.l.kind,Ji y.l.num,str y.l.txt,.slice xa xn xc,Ji y.l.at_,Ji y.r.kind,Ji y.r.num,str y.r.txt,.slice ya yn yc,Ji y.r.at_,Ji y.at_] 61;obtain⟨K,s,t,u,x,z,A,B,C,D,j,k,m,n,o,I,R⟩:=cl16 i;have O:(y.kind==1)=false:=beq_eq_false_iff_ne.2 h1;have P:(y.kind==2)=false:=beq_eq_false_iff_ne.2 h2;have Q:(y.kind==3)=false:=beq_eq_false_iff_ne.2 h3;have J:=h.n1le;have G:=hide g;have e:=h.later d;obtain⟨N,f,sc⟩:=sc2 a (Ji 1) (Ji y.at_);obtain⟨L,M,T⟩:=cl2 a;have b:=hide (Ya (Wk.sc e sc (by omega) (Wk.offT e a (by decide) (by decide))) (Ya (Kw.sc (Kw.of_below (wb:=wb) (mb:=mb) (sl:=sl) d) sc (by omega)) sc.box));have q:=hide f;clear g d i a H h h1 h2 h3 e f sc s t u x z A B C D j k m n o;go_enter Tryz.func100,Tryz.ntmps100;go_upto_region 1 with fail;rw[<- Qa G];go_wp2_with fail;rw[<- Qa q];obtain⟨E,F,U⟩:=cl2 (Qa b).2.2;refine bodyPost_ret (v:=ftV (1,y.at_)) (by simp[results,Tryz.results100,go_sem,E,F,ftV]) rfl ?_;exact LkA.of (Qa b).1 (Qa b).2.1 ⟨rfl,(by show(1:Int)≠0;decide)⟩
end
theorem Qte{p:Pg}{y:Lt}{vs vs':List Fld}(h:litP2 p y vs = .ok vs'):vs'.length<=vs.length+ltB y:=by
 unfold litP2 at h;unfold ltB;split at h
 ·have:=Qgi p _ _ vs vs' h;omega
 split at h
 ·
  split at h
  ·cases h;omega
  ·cases h
 split at h
 ·
  rw[Qia]at h;split at h
  ·cases h
  split at h
  ·
   unfold givP at h;split at h
   ·cases h
   ·cases h;simp
  split at h
  ·
   unfold givP at h;split at h
   ·cases h
   ·cases h;simp
  split at h
  ·cases h
  split at h
  ·cases h
  split at h
  ·cases h
  ·cases h;omega
 ·cases h
theorem Qjr{p:Pg}:∀{ys:List Lt} {vs vs':List Fld},litsP p ys vs = .ok vs'->vs'.length<=vs.length+ltBs ys
 | [],vs,vs',h=>by cases h;simp[ltBs]
 |y :: ys,vs,vs',h=>by
  rw[litsP]at h;rw[ltBs]
  cases hq:litP2 p y vs with
  |error e=>rw[hq]at h;cases h
  |ok us=>
   rw[hq]at h;have h1:=Qte hq;have a:=Qjr h;omega
theorem Qju:∀{ys:List Lt} {j:Nat} {y:Lt},ys[j]?=some y->ltBs (ys.take j)+ltB y<=ltBs ys
 | [],j,y,h=>by simp at h
 |z :: ys,0,y,h=>by
  simp only[List.getElem?_cons_zero,Option.some.injEq]at h;subst h;simp[ltBs]
 |z :: ys,j+1,y,h=>by
  have:=Qju (ys:=ys) (j:=j) (by simpa using h);simp only[List.take_succ_cons,ltBs];omega
theorem Qsg{p:Pg}{a:Atm}(h:(watP p a).1=0):∃d,declP2 p a.rel=some d/\a.args.length=d.cols.length:=by
 unfold watP at h
 cases b:declP2 p a.rel with
 |none=>rw[b]at h;exact absurd h (by show(6:Int)≠0;decide)
 |some d=>
  rw[b]at h;by_cases e:a.args.length=d.cols.length
  ·exact⟨d,rfl,e⟩
  simp only[if_pos e]at h;exact absurd h (by decide)
theorem Qix{p:Pg}:∀{ls:List Lt},(watsP p ls).1=0 -> ∀y∈ls,y.kind=1∨y.kind=2->(watP p y.atom).1=0
 | [],_,y,hy,_=>by cases hy
 |l :: ls,h,y,hy,hk=>by
  rw[watsP]at h;split at h
  ·
   rename_i hc;rcases List.mem_cons.1 hy with rfl|hy
   ·
    rcases hk with e|e
    ·exact absurd e hc.1
    ·exact absurd e hc.2
   ·exact Qix h y hy hk
  split at h
  ·
   rename_i hn;exact absurd h hn
  rename_i hn;rcases List.mem_cons.1 hy with rfl|hy
  ·exact Classical.not_not.1 hn
  ·exact Qix h y hy hk
theorem Qgc{n0:Nat}{p:Pg}{x:Cls}(hx:ltBs x.body<=1000000000)(c:CatP):InfC n0 p c x:=by
 intro W aa ba an ac bn bc hC E F;refine Qta hC x E F ?_;intro n1 wb mb W a E F;refine Qpg a x E F ?_ ?_
 ·
  intro j y vs G n hw W a6 pa P S pn pc R Q U T a M X Y;have hg:=Qjr n;have O:=Qju G;simp only[List.length_nil,Nat.zero_add]at hg;by_cases o:y.kind=1
  ·
   obtain⟨d,k,H⟩:=Qsg (Qix hw.2 y (List.mem_of_getElem? G) (.inl o));have f:litP2 p y vs=eachP (patS p) y.atom.args d.cols vs:=by
    unfold litP2;rw[if_pos o,Qim];unfold colsP;rw[k];rfl
   rw[f];refine Qtd a y o (fun K b=>?_);refine Qf (a.later b) y.atom k _ ⟨_,_,_,rfl⟩ (fun L I J g v=>?_);have i:=b.trans (g.mono b.size);refine Qmd (a.later i) (N:=1000000000) (sz:=exQ) (step:=patS p) ⟨?_,?_⟩ (by rw[Qif];unfold ltB at O;omega) (by omega) (M.same Qaf i.size (fun q _ n=>i.block q n)) v
   ·
    intro e m w1 a7 C a1 a5 k1 t Z hE hN;exact Qgj e a7 C w1 a1 a5 k1 t Z hE hN
   intro e t C a8 h;exact Qil p e t C a8 h
  by_cases s:y.kind=2
  ·
   obtain⟨d,k,H⟩:=Qsg (Qix hw.2 y (List.mem_of_getElem? G) (.inr s));refine lit_not a y s (fun K b=>?_);refine Qf (a.later b) y.atom k _ ⟨_,_,_,rfl⟩ (fun L I J g v=>?_);have i:=b.trans (g.mono b.size);refine(Qpk (a.later i) (xs:=y.atom.args) (fun e _ W3 ea D ec t B A=>Qld B e A t) (by omega) (M.same Qaf i.size (fun q _ n=>i.block q n)) v).mono fun D w' h=>?_
   have f:litP2 p y vs=(match likesP p vs y.atom.args d.cols with | .ok _=>Except.ok vs | .error e=>Except.error e):=by
    unfold litP2;rw[if_neg o,if_pos s];unfold colsP;rw[k];rfl
   refine h.lk (a.later i) (fun u m=>?_) (fun e m=>?_)
   ·rw[f,m]
   ·rw[f,m]
  by_cases z:y.kind=3
  ·
   have f:litP2 p y vs=cmpP p y vs:=by
    unfold litP2;rw[if_neg o,if_neg s,if_pos z]
   rw[f];refine lit_cmp a y z (fun K b=>?_);exact Qgy (a.later b) (by unfold ltB at O;omega) y pa P S pn pc R Q U T (ExA.later (show ExA n0 W y.l P R Q from X) b) (ExA.later (show ExA n0 W y.r S U T from Y) b)
  have f:litP2 p y vs = .error (1,y.at_):=by
   unfold litP2;rw[if_neg o,if_neg s,if_neg z]
  rw[f];exact lit_bad a y o s z
 intro vs n hw W a6 a V;obtain⟨d,k,H⟩:=Qsg hw.1;refine Qf a x.head k _ ⟨_,_,_,rfl⟩ (fun L I J g v=>?_);refine(Qjk (a.later g) (xs:=x.head.args) (fun e _ W3 ea D ec t B A=>Qkz B e A t) (by omega) (V.same Qaf g.size (fun q _ n=>g.block q n)) v).mono fun D w' h=>?_;have f:colsP p x.head=d.cols:=by
  unfold colsP;rw[k];rfl
 rw[f];refine h.lk (a.later g) (fun u m=>?_) (fun e m=>?_)
 ·rw[m]
 ·rw[m]
section
variable {n0:Nat}{p:Pg}{w:World}{a0 a1 a2 a3 a4:Option Addr}{k0 k1 k2 k3 k4 c0 c1 c2 c3 c4:Nat}
theorem flat_no(w:World)(hk:k2≠0∨k3≠0):Calls Tryz.prog 28 #[.agg #[.slice a0 k0 c0,.slice a1 k1 c1,.slice a2 k2 c2,.slice a3 k3 c3,.slice a4 k4 c4]] w fun en w'=>en = .returned (.bool false)/\Below w.heap.size w w':=by
 obtain⟨q,a⟩:=JE (w.alloc (.cells #[.slice a0 k0 c0,.slice a1 k1 c1,.slice a2 k2 c2,.slice a3 k3 c3,.slice a4 k4 c4] 28));have e:=bnw a;have g:=nnw a;obtain⟨i,j,k,l,m,r⟩:=cl5 g;have h:=hide a;have d:=hide e;clear a e g;go_enter Tryz.func28,Tryz.ntmps28;go_upto_region 1 with fail;rw[<- Qa h];by_cases b:k2=0
 ·
  subst b;have f:k3≠0:=by omega
  have o:((k3:Int)==0)=false:=by simpa using f
  clear hk f;go_wp2_with fail;go_ret;exact⟨rfl,Qa d⟩
 have n:((k2:Int)==0)=false:=by simpa using b
 clear hk b;go_wp2_with fail;go_ret;exact⟨rfl,Qa d⟩
def nfA(p:Pg):Int:=match p.comps,p.inits with
 |c :: _,_=>c.2.2.2
 | [],i :: _=>i.at_
 | [],[]=>0
theorem Qlk{S:Nat->Prop}(hP:PgS S w [.slice a0 k0 c0,.slice a1 k1 c1,.slice a2 k2 c2,.slice a3 k3 c3,.slice a4 k4 c4] p)(hk:k2≠0∨k3≠0):Calls Tryz.prog 29 #[.agg #[.slice a0 k0 c0,.slice a1 k1 c1,.slice a2 k2 c2,.slice a3 k3 c3,.slice a4 k4 c4]] w fun en w'=>en = .returned (ftV (1,nfA p))/\Below w.heap.size w w':=by
 obtain⟨H,r,d,G,m,N⟩:=Qas w #[.slice a0 k0 c0,.slice a1 k1 c1,.slice a2 k2 c2,.slice a3 k3 c3,.slice a4 k4 c4] 28;obtain⟨v0,v1,v2,v3,v4,E,K,L,n,o,M⟩:=(Qak.same _ _ H _ _ hP d.size (fun q _ R=>d.block q R)).cells;obtain⟨rfl,rfl,rfl,rfl,rfl⟩:=list5 E;obtain⟨_,_,s⟩:=n.sl;obtain⟨_,_,t⟩:=o.sl;simp only[Value.slice.injEq]at s t;have b:k2=p.comps.length:=s.2.1;have g:k3=p.inits.length:=t.2.1;obtain⟨X,Y,Z,a5,a6,xf⟩:=cl5 G;obtain⟨a7,a8,yf⟩:=cl2 m;have V:=n.cap rfl;have W:=o.cap rfl
 cases a:p.comps with
 |cons cc cr=>
  obtain⟨F,cap,J,i,z,_,A,y,f⟩:=n.elem (j:=0) (x:=cc) (by rw[a];rfl);obtain⟨vb,Q,rfl,I,_⟩:=y;have m7:H.cell? (Ja F 7)=some (Ji cc.2.2.2):=by
   have:=f 7 (Ji cc.2.2.2) (by
    show(Q++[Value.int .i64 cc.2.2.2])[5]?=_;rw[List.getElem?_append_right (by omega),I]
    rfl)
   simpa using this
  simp only[Value.slice.injEq]at i;obtain⟨rfl,-,-⟩:=i;have O:0<k2:=by rw[b,a];simp
  have hg:(0:Int)<(k2:Int):=by omega
  have k:nfA p=cc.2.2.2:=by unfold nfA;rw[a]
  rw[k];obtain⟨P,e,sc⟩:=sc2 m (Ji 1) (Ji cc.2.2.2);have h:=hide (Ya (sc.below d (by omega)) sc.box);have u:=hide e;have D:=hide r;clear r d G m N hP hk E K L n o M s t b g a z A I f k e sc;go_enter Tryz.func29,Tryz.ntmps29;go_upto_region 1 with fail;rw[<- Qa D];go_wp2_with fail;rw[<- Qa u];obtain⟨B,C,U⟩:=cl2 (Qa h).2;refine bodyPost_ret (v:=ftV (1,cc.2.2.2)) (by simp[results,Tryz.results29,go_sem,B,C,ftV]) rfl ?_;exact⟨rfl,(Qa h).1⟩
 |nil=>
  cases l:p.inits with
  |nil=>rw[a]at b;rw[l]at g;simp at b g;omega
  |cons ii ir=>
   obtain⟨F,cap,J,i,z,_,A,y,f⟩:=o.elem (j:=0) (x:=ii) (by rw[l];rfl);obtain rfl:J=_:=y;have m2:H.cell? (Ja F 2)=some (Ji ii.at_):=by simpa using f 2 _ rfl
   simp only[Value.slice.injEq]at i;obtain⟨rfl,-,-⟩:=i;have T:k2=0:=by rw[b,a];rfl
   subst T;have O:0<k3:=by rw[g,l];simp
   have k:nfA p=ii.at_:=by unfold nfA;rw[a,l]
   rw[k];obtain⟨P,e,sc⟩:=sc2 m (Ji 1) (Ji ii.at_);have h:=hide (Ya (sc.below d (by omega)) sc.box);have u:=hide e;have D:=hide r;clear r d G m N hP hk E K L n o M s t b g a l z A f k e sc;go_enter Tryz.func29,Tryz.ntmps29;go_upto_region 1 with fail;rw[<- Qa D];go_wp2_with fail;rw[<- Qa u];obtain⟨B,C,U⟩:=cl2 (Qa h).2;refine bodyPost_ret (v:=ftV (1,ii.at_)) (by simp[results,Tryz.results29,go_sem,B,C,ftV]) rfl ?_;exact⟨rfl,(Qa h).1⟩
theorem Qpc{S:Nat->Prop}(hP:PgS S w [.slice a0 k0 c0,.slice a1 k1 c1,.slice a2 k2 c2,.slice a3 k3 c3,.slice a4 k4 c4] p)(hk:k2≠0∨k3≠0):Calls Tryz.prog 10 #[.agg #[.slice a0 k0 c0,.slice a1 k1 c1,.slice a2 k2 c2,.slice a3 k3 c3,.slice a4 k4 c4]] w fun en w'=>en = .returned (ftV (1,nfA p))/\Below w.heap.size w w':=by
 obtain⟨K,z,f,b,g,j⟩:=Qas w #[.slice a0 k0 c0,.slice a1 k1 c1,.slice a2 k2 c2,.slice a3 k3 c3,.slice a4 k4 c4] 28;have y:=flat_no (a0:=a0) (k0:=k0) (c0:=c0) (a1:=a1) (k1:=k1) (c1:=c1) (a2:=a2) (c2:=c2) (a3:=a3) (c3:=c3) (a4:=a4) (k4:=k4) (c4:=c4) K hk;obtain⟨l,m,n,o,r,t⟩:=cl5 b;obtain⟨D,d⟩:=JF (nfA p);rw[d];have I:=hide z;have C:=hide (Ya f (Ya b (Ya g (Ya hP (Ya hk (Ya d j))))));clear z f b g j hP hk d;go_enter Tryz.func10,Tryz.ntmps10;go_upto_region 1 with fail;rw[<- Qa I];go_wp2_with fail;refine y.mono ?_;clear y l m n o r t;rintro en L⟨rfl,i⟩;obtain⟨f,b,g,hP,hk,d,j⟩:=Qa C;have A:=(i.block _ (Qaa b)).trans b;have e:=(i.block _ (Qaa g)).trans g;have a:=f.trans (i.mono f.size);have h:=Qlk (Qak.same _ _ L _ _ hP a.size (fun q _ J=>a.block q J)) hk;rw[d]at h;unfold ftV at h;obtain⟨l,m,n,o,r,t⟩:=cl5 A;have H:=hide (Ya a e);clear f b g hP hk d j i A e a C;go_wp2_with fail;refine h.mono ?_;clear h l m n o r t;rintro en P⟨rfl,s⟩;obtain⟨a,e⟩:=Qa H;have k:=(s.block _ (Qaa e)).trans e;have u:=a.trans (s.mono a.size);obtain⟨O,x,sc⟩:=sc2 k (Ji 1) (Ji D);obtain⟨M,N,Q⟩:=cl2 k;have B:=hide (Ya (sc.below u (by omega)) sc.box);have E:=hide x;clear a e k u s x sc;go_wp2_with fail;rw[<- Qa E];obtain⟨F,G,R⟩:=cl2 (Qa B).2;refine bodyPost_ret (v:=ftV (1,D)) (by simp[results,Tryz.results10,go_sem,F,G,ftV]) rfl ?_;exact⟨rfl,(Qa B).1⟩
def chkP(p:Pg):Flt:=if p.comps=[]/\p.inits=[] then ckF p 0 else (1,nfA p)
theorem Qpb(hn0:n0<=w.heap.size)(hP:PgS (fun b=>b<n0) w [.slice a0 k0 c0,.slice a1 k1 c1,.slice a2 k2 c2,.slice a3 k3 c3,.slice a4 k4 c4] p)(hts:p.types.length<=1000000000)(hsz:∀x∈p.clauses,ltBs x.body<=1000000000):
  Calls Tryz.prog 10 #[.agg #[.slice a0 k0 c0,.slice a1 k1 c1,.slice a2 k2 c2,.slice a3 k3 c3,.slice a4 k4 c4]] w fun en w'=>en = .returned (ftV (chkP p))/\Below w.heap.size w w':=by
 obtain⟨r,s,t,u,v,j,n,o,l,m,q⟩:=hP.cells;obtain⟨rfl,rfl,rfl,rfl,rfl⟩:=list5 j;obtain⟨_,_,d⟩:=l.sl;obtain⟨_,_,f⟩:=m.sl;simp only[Value.slice.injEq]at d f;have g:k2=p.comps.length:=d.2.1;have h:k3=p.inits.length:=f.2.1;unfold chkP;by_cases a:p.comps=[]/\p.inits=[]
 ·
  rw[if_pos a];obtain rfl:k2=0:=by rw[g,a.1];rfl
  obtain rfl:k3=0:=by rw[h,a.2];rfl
  exact Qhe hn0 hP hts (fun i x k=>Qgc (hsz x k) i)
 rw[if_neg a];refine Qpc hP ?_;by_cases e:p.comps=[]
 ·refine .inr (fun f=>a ⟨e,List.eq_nil_of_length_eq_zero (by omega)⟩)
 ·refine .inl (fun d=>e (List.eq_nil_of_length_eq_zero (by omega)))
theorem Qq(hn0:n0<=w.heap.size)(hP:PgS (fun b=>b<n0) w [.slice a0 k0 c0,.slice a1 k1 c1,.slice a2 k2 c2,.slice a3 k3 c3,.slice a4 k4 c4] p)(hts:p.types.length<=1000000000)(x:Cls){aa ba:Option Addr}{an ac bn bc:Nat}(hA:LsAt PE 5 (fun b=>b<n0) w (.slice aa an ac) x.head.args)(hB:LsAt PLt 16 (fun b=>b<n0) w (.slice ba bn bc) x.body)(hsz:ltBs x.body<=1000000000):
  Calls Tryz.prog 14 #[.agg #[.slice a0 k0 c0,.slice a1 k1 c1,.slice a2 k2 c2,.slice a3 k3 c3,.slice a4 k4 c4],.agg #[str x.head.rel,.slice aa an ac,Ji x.head.at_,.slice ba bn bc,Ji x.at_]] w fun en w'=>InfA (infP p x) w en w':=Qki hn0 hP hts x hA hB (fun a=>Qgc hsz a)
end
def XA(rb g cap:Nat)(l:List Tok)(w:World)(d:Nat)(R:World->Value->Prop)(a' i':Nat)(en:Ending)(w':World):Prop:=
 ∃v,en = .returned v/\R w' v/\Rr rb g cap l w' a' d i' 0 0/\Kp rb w w'
def isSg(t:Tok)(s:Txt):Bool:=decide (t.kind=4)&&decide (t.text=s)
theorem Qgu{rb g cap a d i:Nat}{l:List Tok}{w:World}(h:Rr rb g cap l w a d i 0 0){t:Tok}(ht:l[a]?=some t)(s:Txt):
  Calls Tryz.prog 56 #[.pointer (Js rb),str s] w fun en w'=>en = .returned (.bool (isSg t s))/\Below w.heap.size w w':=by
 have j:=Qaw h;have x:∀w',Below w.heap.size w w'->Calls Tryz.prog 22 #[.pointer (Js rb)] w' fun en o=>en = .returned (.agg #[Ji t.kind,str t.text,Ji t.num,Ji (t.at_:Int)])/\Below w'.heap.size w' o:=fun w' z=>Qap (h.later z) ht;rw[decide_eq_true rfl]at j;have q:=hide x;clear h ht x;by_cases m:t.kind=4
 rotate_left
 ·
  have y:(t.kind==4)=false:=beq_eq_false_iff_ne.2 m;have r:=hide (show isSg t s=false by unfold isSg;rw[decide_eq_false m];rfl);have b:=Qa q w (Below.refl _ _);clear m;go_enter Tryz.func56,Tryz.ntmps56;go_wp2_with fail;refine j.mono ?_;clear j;rintro en _⟨rfl,rfl⟩;go_wp2_with fail;refine b.mono ?_;clear b;rintro en o⟨rfl,f⟩;have k:=hide f;clear f;go_wp2_with fail;rename_i e;refine e _ _ ?_;clear e;go_wp2_with fail;go_ret;rw[Qa r];exact⟨rfl,Qa k⟩
 have y:(t.kind==4)=true:=beq_iff_eq.2 m;have b:=Qa q w (Below.refl _ _);by_cases n:t.text=s
 ·
  have r:=hide (show isSg t s=true by unfold isSg;rw[decide_eq_true m,decide_eq_true n];rfl);rw[n]at b q;clear m n;go_enter Tryz.func56,Tryz.ntmps56;go_wp2_with fail;refine j.mono ?_;clear j;rintro en _⟨rfl,rfl⟩;go_wp2_with fail;refine b.mono ?_;clear b;rintro en o⟨rfl,f⟩;have b:=Qa q o f;have k:=hide f;clear f;go_wp2_with fail;rename_i e;refine e _ _ ?_;clear e;go_wp2_with fail;refine b.mono ?_;clear b;rintro en A⟨rfl,u⟩;have v:=hide ((Qa k).trans (u.mono (Qa k).size));clear u;go_wp2_with fail;rename_i e;refine e _ _ ?_;clear e;go_wp2_with fail;go_ret;rw[Qa r];exact⟨by simp,Qa v⟩
 have r:=hide (show isSg t s=false by unfold isSg;rw[decide_eq_false n,Bool.and_false]);have B:(t.text==s)=false:=by simpa using n
 clear m n;go_enter Tryz.func56,Tryz.ntmps56;go_wp2_with fail;refine j.mono ?_;clear j;rintro en _⟨rfl,rfl⟩;go_wp2_with fail;refine b.mono ?_;clear b;rintro en o⟨rfl,f⟩;have b:=Qa q o f;have k:=hide f;clear f;go_wp2_with fail;rename_i e;refine e _ _ ?_;clear e;go_wp2_with fail;refine b.mono ?_;clear b;rintro en A⟨rfl,u⟩;have v:=hide ((Qa k).trans (u.mono (Qa k).size));clear u;go_wp2_with fail;rename_i e;refine e _ _ ?_;clear e;go_wp2_with fail;go_ret;rw[Qa r];exact⟨by simp[str],Qa v⟩
theorem Qqb{t:Tok}{s:Txt}(h:isSg t s=true):t.kind=4/\t.text=s:=by
 unfold isSg at h
 simpa using h
theorem Qgv{rb g cap a d i:Nat}{l:List Tok}{w:World}(h:Rr rb g cap l w a d i 0 0){t:Tok}(ht:l[a]?=some t)(hk:t.kind≠0):
  Calls Tryz.prog 61 #[.pointer (Js rb)] w fun en w'=>XA rb g cap l w d (fun _ v=>v=tkA t) (a+1) i en w':=by
 have n:=h.more ht hk;refine(Qbb h ht).mono ?_;rintro en w'⟨v,q,s,u,r,e,f,⟨rfl,rfl,k⟩,b,j⟩;rcases k with ⟨_,_,rfl⟩|⟨_,o⟩
 ·
  have m:=b.z rfl;subst m;exact⟨v,e,f,b,j⟩
 ·exact absurd n (o rfl)
theorem Qjd{rb g cap a d i:Nat}{l:List Tok}{w:World}(h:Rr rb g cap l w a d i 0 0){t:Tok}(ht:l[a]?=some t)(s:Txt):
  Calls Tryz.prog 57 #[.pointer (Js rb),str s] w fun en w'=>XA rb g cap l w d (fun _ v=>v = .bool (isSg t s)) (if isSg t s=true then a+1 else a) i en w':=by
 have j:=Qgu h ht s;have H:=hide (Ya h ht);obtain⟨b,k⟩:=JF (isSg t s);rw[k]at j ⊢;have q:=hide k;clear h ht k;go_enter Tryz.func57,Tryz.ntmps57;go_wp2_with fail;refine j.mono ?_;clear j;rintro en r⟨rfl,e⟩;cases b
 ·
  have f:=hide e;clear e;go_wp2_with fail;go_ret;exact⟨_,rfl,rfl,(Qa H).1.later (Qa f),Kp.of_below (Qa f)⟩
 have m:=Qgv ((Qa H).1.later e) (Qa H).2 (by rw[(Qqb (Qa q)).1];decide);have f:=hide e;clear e;go_wp2_with fail;refine m.mono ?_;clear m;rintro en u⟨_,rfl,rfl,o,k3⟩;have n:=hide (Ya o k3);clear o k3;go_wp2_with fail;go_ret;exact⟨_,rfl,rfl,(Qa n).1,(Kp.of_below (Qa f)).trans (Qa n).2⟩
theorem Qsk{rb g cap a d i:Nat}{l:List Tok}{w:World}(h:Rr rb g cap l w a d i 0 0){t:Tok}(ht:l[a]?=some t){s:Txt}(hs:isSg t s=true):
  Calls Tryz.prog 64 #[.pointer (Js rb),str s] w fun en w'=>XA rb g cap l w d noV (a+1) i en w':=by
 have b:=Qjd h ht s;rw[if_pos hs,hs]at b;clear h hs;go_enter Tryz.func64,Tryz.ntmps64;go_wp2_with fail;refine b.mono ?_;clear b;rintro en j⟨_,rfl,rfl,e,k2⟩;have f:=hide (Ya e k2);clear e k2;go_wp2_with fail
 go_end0
 exact⟨_,rfl,rfl,Qa f⟩
theorem Qkq{rb g cap a d i:Nat}{l:List Tok}{w:World}(h:Rr rb g cap l w a d i 0 0){t:Tok}(ht:l[a]?=some t)(hk:t.kind=1):
  Calls Tryz.prog 65 #[.pointer (Js rb)] w fun en w'=>XA rb g cap l w d (fun _ v=>v=str t.text) (a+1) i en w':=by
 have e:=Qap h ht;unfold tkA at e;have H:=hide (Ya h (Ya ht hk));have q:(t.kind != 1)=false:=by simpa using hk
 clear h ht hk;go_enter Tryz.func65,Tryz.ntmps65;go_wp2_with fail;refine e.mono ?_;clear e;rintro en r⟨rfl,j⟩;have m:=(Qa H).1.later j;have f:=Qgv m (Qa H).2.1 (by rw[(Qa H).2.2];decide);unfold tkA at f;have o:=hide j;clear m j;go_wp2_with fail;rename_i b;refine b _ _ ?_;clear b;go_wp2_with fail;refine f.mono ?_;clear f;rintro en s⟨_,rfl,rfl,n,k3⟩;have k:=hide (Ya n k3);clear n k3;go_wp2_with fail;rename_i b;refine b _ _ ?_;clear b;go_wp2_with fail;go_ret;exact⟨_,rfl,rfl,(Qa k).1,(Kp.of_below (Qa o)).trans (Qa k).2⟩
theorem Qkr{rb g cap a d i:Nat}{l:List Tok}{w:World}(h:Rr rb g cap l w a d i 0 0){t:Tok}(ht:l[a]?=some t)(hk:t.kind=1)(hw:wordP t.text=true)(h95:t.text≠[95]):
  Calls Tryz.prog 63 #[.pointer (Js rb)] w fun en w'=>XA rb g cap l w d (fun _ v=>v=str t.text) (a+1) i en w':=by
 have r:∀w',Below w.heap.size w w'->Calls Tryz.prog 22 #[.pointer (Js rb)] w' fun en j=>en = .returned (.agg #[Ji t.kind,str t.text,Ji t.num,Ji (t.at_:Int)])/\Below w'.heap.size w' j:=fun w' G=>Qap (h.later G) ht;have s:(⟨t.text.toArray⟩:ByteArray).size<=140737488355328:=by
  have:=h.tx t (List.mem_of_getElem? ht);have e:(⟨t.text.toArray⟩:ByteArray).size=t.text.length:=by simp[ByteArray.size]
  omega
 have u:∀w',Calls Tryz.prog 92 #[str t.text] w' fun e j=>e = .returned (.bool true)/\j=w':=fun w'=>by
  have:=Qke ⟨t.text.toArray⟩ s w'
  simpa[str,hw] using this
 have J:(t.text==[95])=false:=by simpa using h95
 have k:=hide r;have E:=hide u;have H:=hide (Ya h (Ya ht hk));have K:(t.kind != 1)=false:=by simpa using hk
 have f:=Qa k w (Below.refl _ _);clear h ht r u s hk hw;go_enter Tryz.func63,Tryz.ntmps63;go_wp2_with fail;refine f.mono ?_;clear f;rintro en j⟨rfl,o⟩;have f:=Qa k j o;have x:=hide (o);clear o;go_wp2_with fail;rename_i b;refine b _ _ ?_;clear b;go_wp2_with fail;refine f.mono ?_;clear f;rintro en I⟨rfl,A⟩;have n:=hide ((Qa x).trans (A.mono (Qa x).size));clear A;have q:=Qa E I;go_wp2_with fail;rename_i b;refine b _ _ ?_;clear b;go_wp2_with fail;refine q.mono ?_;clear q;rintro en F⟨rfl,rfl⟩;have f:=Qa k F (Qa n);go_wp2_with fail;refine f.mono ?_;clear f;rintro en L⟨rfl,B⟩;have y:=hide ((Qa n).trans (B.mono (Qa n).size));clear B;have m:=Qgv ((Qa H).1.later (Qa y)) (Qa H).2.1 (by rw[(Qa H).2.2];decide);unfold tkA at m;go_wp2_with fail;rename_i b;refine b _ _ ?_;clear b;go_wp2_with fail;refine m.mono ?_;clear m;rintro en M⟨_,rfl,rfl,C,D⟩;have z:=hide (Ya C D);clear C D;go_wp2_with fail;rename_i b;refine b _ _ ?_;clear b;go_wp2_with fail;go_ret;exact⟨_,rfl,rfl,(Qa z).1,(Kp.of_below (Qa y)).trans (Qa z).2⟩
end
end Go.Proofs.YtmfpbepifnedjaaGreat
