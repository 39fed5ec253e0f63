/- types. -/
import Derived.Test.YtkhndlnadhggkaaGreatAp01
import Derived.Test.YtkhndlnadhggkaaGreatAp42
import Derived.Test.YtkhndlnadhggkaaGreatAp38
set_option maxRecDepth 100000
set_option maxHeartbeats 32000000
namespace Go.Proofs.YtkhndlnadhggkaaGreat
section
open Go.RowKit Go.Maps
def givP(p:Pg)(vs:List Fld)(s:Txt)(x:Ex):Except Flt (List Fld):=match valP p vs x with | .error e=>.error e | .ok t=>.ok (vs++[⟨s,t⟩])
section
variable {n0 n1:Nat}{p:Pg}{c:CatP}{wb mb:Nat}{sl:Value}{vs:List Fld}{w:World}
theorem Qpd(h:Wk n0 n1 p c wb mb sl vs w)(hl:vs.length<=1000000000)(s:Txt)(hs:typV vs s=none)(x:Ex){xa:Option Addr}{xn xc:Nat}(hE:ExA n0 w x xa xn xc):
  Calls Tryz.prog 129 #[.pointer (Js wb),str s,.agg #[Ji x.kind,Ji x.num,str x.txt,.slice xa xn xc,Ji x.at_]] w fun en w'=>LkA n0 n1 p c wb mb sl w (givP p vs s x) en w':=by
 obtain⟨w2,W,i,r,q,z⟩:=Qat w #[Ji x.kind,Ji x.num,str x.txt,.slice xa xn xc,Ji x.at_] 59;have X:=h.later i;have V:=Qcp x sl vs w2 xa xn xc X (hE.later i);obtain⟨a2,a3,a4,a5,a6,xf⟩:=cl5 r;obtain⟨R,a⟩:=JF (givP p vs s x);rw[a];unfold givP at a;have a9:=h.n1le;have HW:=hide W;have L:=hide (Ya i (Ya r (Ya q (Ya z (Ya h (Ya a (Ya hl hs)))))));clear W i r q z h X hE a hl hs;go_enter Tryz.func129,Tryz.ntmps129;go_upto_region 1 with fail;rw[<- Qa HW];go_wp2_with fail;refine V.mono ?_;clear V a2 a3 a4 a5 a6 xf;rintro en Z⟨own,ft,rfl,d,E⟩;obtain⟨n,m⟩:=ft;unfold ftV;obtain⟨i,r,q,z,h,a,hl,hs⟩:=Qa L;obtain⟨w4,u⟩:=JE (Z.alloc (.cells #[Ji n,Ji m] 31));obtain⟨fb,C⟩:=JF Z.heap.size;have M:=bnw u;have j:=nnw u;rw[C]at j;have B:=E.trans (M.mono E.size);have f:=(B.block _ (by omega)).trans q;have k:=i.trans (B.mono i.size);have g:=h.later k;obtain⟨a0,a1,kf⟩:=cl2 j;have A:=hide (Ya u C);by_cases o:n=0
 ·
  have H:valP p vs x = .ok own/\m=0:=by
   cases y:valP p vs x with
   |ok s=>rw[y]at d;obtain⟨l,b⟩:=d;simp only[Prod.mk.injEq]at b;exact⟨by rw[l],b.2⟩
   |error e=>rw[y]at d;obtain⟨l,b⟩:=d;rw[<- l]at b;exact absurd o b
  rw[H.1]at a;have U:=Qqj g hl s own hs;have H4:=hide (Ya k (Ya j (Ya f (Ya g (Ya a H.2)))));subst o;clear d E i r q z h a hl hs u C M j B f k g H L;go_upto_region 2 with fail;rw[<- (Qa A).1,(Qa A).2];go_wp2_with fail;refine U.mono ?_;clear U a0 a1 kf;rintro en w5⟨rfl,ac,Q,F⟩;obtain⟨k,j,f,g,a,T⟩:=Qa H4;have Y:=F.keep j (g.offT j (by decide) (by decide));have D:=F.keep f (g.offT f (by decide) (by decide));obtain⟨aa,ab,qf⟩:=cl2 Y;obtain⟨W7,t,sc⟩:=sc2 D (Ji 0) (Ji m);obtain⟨a7,a8,yf⟩:=cl2 D;have K:=hide (Ya (Q.sc sc (by omega) (Q.offT D (by decide) (by decide))) (Ya (((Kw.of_below k).trans F).sc sc (by omega)) (Ya sc.box (Ya a T))));have G:=hide t;clear k j f g a T Y D Q F t sc;go_wp2_with fail;rw[<- Qa G];obtain⟨l,b,N,O,P⟩:=Qa K;obtain⟨I,J,zf⟩:=cl2 N;refine bodyPost_ret (v:=ftV (0,m)) (by simp[results,Tryz.results129,go_sem,I,J,ftV]) rfl ?_;refine LkA.of l b ?_;rw[<- O,P];exact⟨rfl,rfl⟩
 have S:valP p vs x = .error (n,m):=by
  cases y:valP p vs x with
  |ok s=>rw[y]at d;obtain⟨l,b⟩:=d;simp only[Prod.mk.injEq]at b;exact absurd b.1 o
  |error e=>rw[y]at d;rw[d.1]
 rw[S]at a;have g4:(n==0)=false:=by simpa using o
 obtain⟨W7,t,sc⟩:=sc2 f (Ji n) (Ji m);obtain⟨a7,a8,yf⟩:=cl2 f;have K:=hide (Ya (Wk.sc g sc (by omega) (Wk.offT g f (by decide) (by decide))) (Ya (Kw.sc (Kw.of_below (wb:=wb) (mb:=mb) (sl:=sl) k) sc (by omega)) (Ya sc.box (Ya a o))));have G:=hide t;clear d E i r q z h a hl hs u C M j B f k g S o L t sc;go_upto_region 2 with fail;rw[<- (Qa A).1,(Qa A).2];go_wp2_with fail;rw[<- Qa G];obtain⟨l,b,N,O,P⟩:=Qa K;obtain⟨I,J,zf⟩:=cl2 N;refine bodyPost_ret (v:=ftV (n,m)) (by simp[results,Tryz.results129,go_sem,I,J,ftV]) rfl ?_;refine LkA.of l b ?_;rw[<- O];exact⟨rfl,P⟩
attribute [local go_sem ↓] Qbi Qbo
theorem Qqx(h:Wk n0 n1 p c wb mb sl vs w)(y:Lt)(pa xa ya:Option Addr)(pn pc xn xc yn yc:Nat)(s t:Txt):
  Calls Tryz.prog 130 #[.pointer (Js wb),.agg #[Ji y.kind,str y.atom.rel,.slice pa pn pc,Ji y.atom.at_,str y.op,Ji y.l.kind,Ji y.l.num,str y.l.txt,.slice xa xn xc,Ji y.l.at_,Ji y.r.kind,Ji y.r.num,str y.r.txt,.slice ya yn yc,Ji y.r.at_,Ji y.at_],str s,str t] w fun en w'=>OpA w (sidesP p y s t) en w':=by
 obtain⟨w2,a5,b2,nx,nf,s2⟩:=Qat w #[Ji y.kind,str y.atom.rel,.slice pa pn pc,Ji y.atom.at_,str y.op,Ji y.l.kind,Ji y.l.num,str y.l.txt,.slice xa xn xc,Ji y.l.at_,Ji y.r.kind,Ji y.r.num,str y.r.txt,.slice ya yn yc,Ji y.r.at_,Ji y.at_] 61;have h2:=h.later b2;obtain⟨R,a⟩:=JF (sidesP p y s t);rw[a];unfold sidesP at a;obtain⟨eo,G⟩:=JF ((decide (y.op=[61]) || decide (y.op=[33,61])));have a0:(y.op=[61]∨y.op=[33,61])↔eo=true:=by rw[<- G];simp
 obtain⟨O,P,Q,S,T,U,V,W,X,Y,I,J,K,L,M,N,lf⟩:=cl16 nx;have HW:=hide a5;have H4:=hide (Ya b2 (Ya nx (Ya nf (Ya h2 a))));have a4:=hide a0;clear a5 b2 nx nf h h2 a a0;go_enter Tryz.func130,Tryz.ntmps130;go_upto_region 1 with fail;rw[<- Qa HW];go_cut [9] from 10 (fun v wc=>v = .bool eo/\wc=w2)
 case first=>
  by_cases Z:y.op=[61]
  ·
   have g1:(y.op==[61])=true:=beq_iff_eq.2 Z;have el:eo=true:=by rw[<- G,Z];rfl
   subst el;clear Z G;go_wp2_with fail;go_meet;exact⟨rfl,rfl⟩
  have g1:(y.op==[61])=false:=beq_eq_false_iff_ne.2 Z;by_cases e3:y.op=[33,61]
  ·
   have g3:(y.op==[33,61])=true:=beq_iff_eq.2 e3;have el:eo=true:=by rw[<- G,e3];rfl
   subst el;clear Z e3 G;go_wp2_with fail;go_meet;exact⟨rfl,rfl⟩
  have g3:(y.op==[33,61])=false:=beq_eq_false_iff_ne.2 e3;have el:eo=false:=by rw[<- G,decide_eq_false Z,decide_eq_false e3];rfl
  subst el;clear Z e3 G;go_wp2_with fail;go_meet;exact⟨rfl,rfl⟩
 obtain⟨rfl,rfl⟩:=hcut;obtain⟨WX,a6⟩:=JE wc;subst a6;clear O P Q S T U V W X Y I J K L M N lf HW G;cases eo
 rotate_left
 ·
  have x:=Qis (Qa H4).2.2.2.1 s t;obtain⟨bb,B⟩:=JF (alikeP p s t);rw[B]at x;have a1:=hide B;clear B;go_wp2_with fail;refine x.mono ?_;clear x;rintro en w5⟨rfl,d⟩;obtain⟨m,o,n,h4,a⟩:=Qa H4;have q:=(d.block _ (Qaa o)).trans o;have j:=(d.block _ (Qaa n)).trans n;have f:=m.trans (d.mono m.size);rw[if_pos ((Qa a4).2 trivial),Qa a1]at a;clear m o n h4;cases bb
  ·
   rw[if_neg (by decide)]at a;have H:=Qbd w5 13 y.r.kind y.r.num y.r.txt (.slice ya yn yc) ⟨_,_,_,rfl⟩ y.r.at_;obtain⟨O,P,Q,S,T,U,V,W,X,Y,I,J,K,L,M,N,lf⟩:=cl16 q;have HN:=hide (Ya j (Ya f a));clear j f q a d;go_wp2_with fail;refine H.mono ?_;clear H O P Q S T U V W X Y I J K L M N lf;rintro en w9⟨rfl,A⟩;obtain⟨z,u,a⟩:=Qa HN;have b:=(A.block _ (Qaa z)).trans z;have g:=u.trans (A.mono u.size);have F:=hide a;clear z u A a;obtain⟨W7,i,sc⟩:=sc2 b (Ji 13) (Ji y.r.at_);obtain⟨a2,a3,yf⟩:=cl2 b;have k:=hide (Ya (sc.below g (by omega)) sc.box);have C:=hide i;clear b g i sc;go_wp2_with fail;rw[<- Qa C];obtain⟨D,E,zf⟩:=cl2 (Qa k).2;refine bodyPost_ret (v:=ftV (13,y.r.at_)) (by simp[results,Tryz.results130,go_sem,D,E,ftV]) rfl ?_;exact⟨_,rfl,by rw[<- Qa F];exact⟨rfl,(by show(13:Int)≠0;decide)⟩,(Qa k).1⟩
  rw[if_pos rfl]at a;have b:=j;have g:=f;have F:=hide a;clear j f q a d;obtain⟨W7,i,sc⟩:=sc2 b (Ji 0) (Ji 0);obtain⟨a2,a3,yf⟩:=cl2 b;have k:=hide (Ya (sc.below g (by omega)) sc.box);have C:=hide i;clear b g i sc;go_wp2_with fail;rw[<- Qa C];obtain⟨D,E,zf⟩:=cl2 (Qa k).2;refine bodyPost_ret (v:=ftV (0,0)) (by simp[results,Tryz.results130,go_sem,D,E,ftV]) rfl ?_;exact⟨_,rfl,by rw[<- Qa F];rfl,(Qa k).1⟩
 have x:=Qfr (Qa H4).2.2.2.1 s tNum;obtain⟨bb,B⟩:=JF (hasP p s tNum);rw[B]at x;have a1:=hide B;clear B;go_wp2_with fail;refine x.mono ?_;clear x;rintro en w5⟨rfl,d⟩;obtain⟨m,o,n,h4,a⟩:=Qa H4;have q:=(d.block _ (Qaa o)).trans o;have j:=(d.block _ (Qaa n)).trans n;have f:=m.trans (d.mono m.size);rw[if_neg (fun e=>by have:=(Qa a4).1 e;cases this),Qa a1]at a;cases bb
 ·
  rw[if_pos rfl]at a;clear m o n h4;have H:=Qbd w5 13 y.l.kind y.l.num y.l.txt (.slice xa xn xc) ⟨_,_,_,rfl⟩ y.l.at_;obtain⟨O,P,Q,S,T,U,V,W,X,Y,I,J,K,L,M,N,lf⟩:=cl16 q;have HN:=hide (Ya j (Ya f a));clear j f q a d;go_wp2_with fail;refine H.mono ?_;clear H O P Q S T U V W X Y I J K L M N lf;rintro en w9⟨rfl,A⟩;obtain⟨z,u,a⟩:=Qa HN;have b:=(A.block _ (Qaa z)).trans z;have g:=u.trans (A.mono u.size);have F:=hide a;clear z u A a;obtain⟨W7,i,sc⟩:=sc2 b (Ji 13) (Ji y.l.at_);obtain⟨a2,a3,yf⟩:=cl2 b;have k:=hide (Ya (sc.below g (by omega)) sc.box);have C:=hide i;clear b g i sc;go_wp2_with fail;rw[<- Qa C];obtain⟨D,E,zf⟩:=cl2 (Qa k).2;refine bodyPost_ret (v:=ftV (13,y.l.at_)) (by simp[results,Tryz.results130,go_sem,D,E,ftV]) rfl ?_;exact⟨_,rfl,by rw[<- Qa F];exact⟨rfl,(by show(13:Int)≠0;decide)⟩,(Qa k).1⟩
 rw[if_neg (by decide)]at a;have h5:=h4.later d;have x:=Qfr h5 t tNum;obtain⟨b6,B⟩:=JF (hasP p t tNum);rw[B]at x a;have H5:=hide (Ya f (Ya q (Ya j (Ya h5 a))));clear m o n h4 q j f a h5 d B a1;go_wp2_with fail;refine x.mono ?_;clear x;rintro en w5⟨rfl,d⟩;obtain⟨m,o,n,h4,a⟩:=Qa H5;have q:=(d.block _ (Qaa o)).trans o;have j:=(d.block _ (Qaa n)).trans n;have f:=m.trans (d.mono m.size);clear m o n h4;cases b6
 ·
  rw[if_pos rfl]at a;have H:=Qbd w5 13 y.r.kind y.r.num y.r.txt (.slice ya yn yc) ⟨_,_,_,rfl⟩ y.r.at_;obtain⟨O,P,Q,S,T,U,V,W,X,Y,I,J,K,L,M,N,lf⟩:=cl16 q;have HN:=hide (Ya j (Ya f a));clear j f q a d;go_wp2_with fail;refine H.mono ?_;clear H O P Q S T U V W X Y I J K L M N lf;rintro en w9⟨rfl,A⟩;obtain⟨z,u,a⟩:=Qa HN;have b:=(A.block _ (Qaa z)).trans z;have g:=u.trans (A.mono u.size);have F:=hide a;clear z u A a;obtain⟨W7,i,sc⟩:=sc2 b (Ji 13) (Ji y.r.at_);obtain⟨a2,a3,yf⟩:=cl2 b;have k:=hide (Ya (sc.below g (by omega)) sc.box);have C:=hide i;clear b g i sc;go_wp2_with fail;rw[<- Qa C];obtain⟨D,E,zf⟩:=cl2 (Qa k).2;refine bodyPost_ret (v:=ftV (13,y.r.at_)) (by simp[results,Tryz.results130,go_sem,D,E,ftV]) rfl ?_;exact⟨_,rfl,by rw[<- Qa F];exact⟨rfl,(by show(13:Int)≠0;decide)⟩,(Qa k).1⟩
 rw[if_neg (by decide)]at a;have b:=j;have g:=f;have F:=hide a;clear j f q a d;obtain⟨W7,i,sc⟩:=sc2 b (Ji 0) (Ji 0);obtain⟨a2,a3,yf⟩:=cl2 b;have k:=hide (Ya (sc.below g (by omega)) sc.box);have C:=hide i;clear b g i sc;go_wp2_with fail;rw[<- Qa C];obtain⟨D,E,zf⟩:=cl2 (Qa k).2;refine bodyPost_ret (v:=ftV (0,0)) (by simp[results,Tryz.results130,go_sem,D,E,ftV]) rfl ?_;exact⟨_,rfl,by rw[<- Qa F];rfl,(Qa k).1⟩
end
theorem opc_at{w W:World}(h:W=w.alloc (.cells #[str [61],str [33,61],str [60],str [60,61],str [62],str [62,61]] 9)):∀i s,opsC[i]?=some s->W.cell? (Ja w.heap.size i)=some (str s):=fun i s a=>by
 rw[Qad (nnw h)];unfold opsC at a;rcases i with _|_|_|_|_|_|i
 all_goals first|(simp only[List.getElem?_cons_zero,List.getElem?_cons_succ,Option.some.injEq]at a;rw[<- a];rfl)|(simp at a)
section
variable {n0 n1:Nat}{p:Pg}{c:CatP}{wb mb:Nat}{sl:Value}{vs:List Fld}{w:World}
theorem Qll(p:Pg)(l:Lt)(vs:List Fld):cmpP p l vs=if l.op∉opsC then .error (1,l.at_) else if (decide (l.op=[61])&&openP vs l.l)=true then givP p vs l.l.txt l.r else if (decide (l.op=[61])&&openP vs l.r)=true then givP p vs l.r.txt l.l else match valP p vs l.l with
  | .error e=>.error e
  | .ok a=>match valP p vs l.r with
   | .error e=>.error e
   | .ok b=>match sidesP p l a b with
    | .error e=>.error e
    | .ok _=>.ok vs:=by
 unfold cmpP givP;simp only[Bool.and_eq_true,decide_eq_true_eq];rfl
theorem Qje{vs:List Fld}{x:Ex}(h:openP vs x=true):typV vs x.txt=none:=by
 unfold openP at h;simp only[Bool.and_eq_true,Option.isNone_iff_eq_none]at h;exact h.2
attribute [local go_sem ↓] Qbi Qbo
theorem Qgo(h:Wk n0 n1 p c wb mb sl vs w)(hl:vs.length<=1000000000)(y:Lt)(pa xa ya:Option Addr)(pn pc xn xc yn yc:Nat)(hEl:ExA n0 w y.l xa xn xc)(hEr:ExA n0 w y.r ya yn yc):
  Calls Tryz.prog 115 #[.pointer (Js wb),.agg #[Ji y.kind,str y.atom.rel,.slice pa pn pc,Ji y.atom.at_,str y.op,Ji y.l.kind,Ji y.l.num,str y.l.txt,.slice xa xn xc,Ji y.l.at_,Ji y.r.kind,Ji y.r.num,str y.r.txt,.slice ya yn yc,Ji y.r.at_,Ji y.at_]] w fun en w'=>LkA n0 n1 p c wb mb sl w (cmpP p y vs) en w':=by
 obtain⟨w2,aM,b2,nx,nf,s2⟩:=Qat w #[Ji y.kind,str y.atom.rel,.slice pa pn pc,Ji y.atom.at_,str y.op,Ji y.l.kind,Ji y.l.num,str y.l.txt,.slice xa xn xc,Ji y.l.at_,Ji y.r.kind,Ji y.r.num,str y.r.txt,.slice ya yn yc,Ji y.r.at_,Ji y.at_] 61;obtain⟨w3,ax⟩:=JE (w2.alloc (.cells #[str [61],str [33,61],str [60],str [60,61],str [62],str [62,61]] 9));have b3:=bnw ax;have aF:Calls Tryz.prog 127 #[.slice (Js w2.heap.size) 6 6,str y.op] w3 fun en w'=>en = .returned (.bool (opsC.any (· == y.op)))/\w'=w3:=Qlm (w:=w3) (g:=w2.heap.size) (cap:=6) (xs:=opsC) (by decide) (by decide) (opc_at ax) y.op;have a6:=b2.trans (b3.mono b2.size);have aI:=(b3.block _ (Qaa nx)).trans nx;have aH:=(b3.block _ (Qaa nf)).trans nf;obtain⟨R,a⟩:=JF (cmpP p y vs);rw[a];rw[Qll]at a;obtain⟨bb,aE⟩:=JF (opsC.any (· == y.op));rw[aE]at aF;have a2:y.op∈opsC↔bb=true:=by
  rw[<- aE,List.any_eq_true];constructor
  ·intro hm;exact⟨_,hm,by simp⟩
  ·rintro⟨z,hz,e⟩;rw[<- (show z=y.op by simpa using e)];exact hz
 have aY:=h.n1le;have X:Hid (∀W,Below w3.heap.size w3 W->Below w.heap.size w W/\W.heap[w.heap.size]?=some (.cells #[Ji y.kind,str y.atom.rel,.slice pa pn pc,Ji y.atom.at_,str y.op,Ji y.l.kind,Ji y.l.num,str y.l.txt,.slice xa xn xc,Ji y.l.at_,Ji y.r.kind,Ji y.r.num,str y.r.txt,.slice ya yn yc,Ji y.r.at_,Ji y.at_] 61 (0,0))/\W.heap[w.heap.size+1]?=some (.cells #[Ji 0,Ji 0] 31 (0,0))/\Wk n0 n1 p c wb mb sl vs W):=fun W bW=>⟨a6.trans (bW.mono a6.size),(bW.block _ (Qaa aI)).trans aI,(bW.block _ (Qaa aH)).trans aH,h.later (a6.trans (bW.mono a6.size))⟩;have HX:Hid (∀W,Below w3.heap.size w3 W->ExA n0 W y.l xa xn xc/\ExA n0 W y.r ya yn yc):=fun W bW=>⟨hEl.later (a6.trans (bW.mono a6.size)),hEr.later (a6.trans (bW.mono a6.size))⟩;have HW:=hide (Ya aM ax);have aW:∀o,(w2.alloc o).cell? (Ja w.heap.size 4)=some (str y.op):=fun o=>by
  have bo:Below w2.heap.size w2 (w2.alloc o):=(Below.refl _ w2).alloc (Nat.le_refl _) _;rw[bo.cell (p:=(Ja w.heap.size 4)) (Qaa nx),Qad nx];rfl
 have H0:=hide (Ya a (Ya a2 hl));have i:=hide (Below.refl w3.heap.size w3);clear h hEl hEr aM b2 nx nf s2 ax b3 a6 aI aH a aE a2 hl;go_enter Tryz.func115,Tryz.ntmps115;go_upto_region 1 with fail;rw[<- (Qa HW).1];go_wp2_with fail;rw[<- (Qa HW).2];refine aF.mono ?_;clear aF aW;rintro en wq⟨rfl,rfl⟩;cases bb
 ·
  have f:=Qa X wq (Qa i);obtain⟨I,J,K,L,M,N,O,P,Q,S,C,D,E,F,G,H,U⟩:=cl16 f.2.1;have d:=f.2.2.1;have Z:=f.1;have k:=f.2.2.2;clear f;obtain⟨W7,x,sc⟩:=sc2 d (Ji 1) (Ji y.at_);obtain⟨aq,ar,yf⟩:=cl2 d;have n:=hide (Ya (Wk.sc k sc (by omega) (Wk.offT k d (by decide) (by decide))) (Ya (Kw.sc (Kw.of_below (wb:=wb) (mb:=mb) (sl:=sl) Z) sc (by omega)) sc.box));have Y:=hide x;clear d Z k x sc;go_wp2_with fail;rw[<- Qa Y];obtain⟨a4,a5,zf⟩:=cl2 (Qa n).2.2;refine bodyPost_ret (v:=ftV (1,y.at_)) (by simp[results,Tryz.results115,go_sem,a4,a5,ftV]) rfl ?_;refine LkA.of (Qa n).1 (Qa n).2.1 ?_;obtain⟨a,a2,_⟩:=Qa H0;rw[<- a,if_pos (fun e=>by have:=a2.1 e;cases this)];exact⟨rfl,(by show(1:Int)≠0;decide)⟩
 obtain⟨a,a2,hl⟩:=Qa H0;rw[if_neg (fun e=>e (a2.2 (by first|rfl|trivial)))]at a;obtain⟨c1,ac⟩:=JF ((decide (y.op=[61])&&openP vs y.l));obtain⟨c2,a8⟩:=JF ((decide (y.op=[61])&&openP vs y.r));rw[ac,a8]at a;have HR:=hide (Ya a (Ya hl (Ya ac a8)));clear a a2 hl H0;go_upto_region 3 with fail;go_cut [24] from 13 (fun v wc=>v = .bool c1/\Hid (Below wq.heap.size wq wc))
 case first=>
  by_cases j:y.op=[61]
  ·
   have g1:(y.op==[61])=true:=beq_iff_eq.2 j;have el:c1=openP vs y.l:=by rw[<- ac,j];rfl
   have ae:=Qdp (Qa X wq (Qa i)).2.2.2 y.l (.slice xa xn xc) ⟨_,_,_,rfl⟩;rw[<- el]at ae;obtain⟨I,J,K,L,M,N,O,P,Q,S,C,D,E,F,G,H,U⟩:=cl16 (Qa X wq (Qa i)).2.1;clear j el;go_wp2_with fail;refine ae.mono ?_;clear ae I J K L M N O P Q S C D E F G H U;rintro en w5⟨rfl,b5⟩;have az:=hide b5;clear b5;go_wp2_with fail;go_meet;exact⟨rfl,az⟩
  have g1:(y.op==[61])=false:=beq_eq_false_iff_ne.2 j;have el:c1=false:=by rw[<- ac,decide_eq_false j];rfl
  subst el;obtain⟨I,J,K,L,M,N,O,P,Q,S,C,D,E,F,G,H,U⟩:=cl16 (Qa X wq (Qa i)).2.1;clear j ac;go_wp2_with fail;go_meet;exact⟨rfl,hide (Below.refl _ _)⟩
 case rest=>
 obtain⟨rfl,ai⟩:=hcut;obtain⟨a0,aD⟩:=JE wc;subst aD;have ah:=hide ((Qa i).trans ((Qa ai).mono (Qa i).size));clear i ai;have i:=ah;clear ah
 cases c1 with
 |true=>
  obtain⟨a,hl,q1,q2⟩:=Qa HR;rw[if_pos (by first|rfl|trivial)]at a
  have am:typV vs y.l.txt=none:=Qje (by
   have e:(decide (y.op=[61])&&openP vs y.l)=true:=ac;simp only[Bool.and_eq_true]at e
   exact e.2)
  obtain⟨B,t,A,f⟩:=Qa X a0 (Qa i);have ad:=Qpd f hl y.l.txt am y.r (Qa HX a0 (Qa i)).2;rw[a]at ad;have HP:=hide (Ya B (Ya A f));obtain⟨I,J,K,L,M,N,O,P,Q,S,C,D,E,F,G,H,U⟩:=cl16 t;clear a hl q1 q2 am B t A f ac a8;go_wp2_with fail;refine ad.mono ?_;clear ad I J K L M N O P Q S C D E F G H U;rintro en w9 al;obtain⟨aV,aX,ft,rfl,k,k9,aj⟩:=al.ft;clear al;obtain⟨a7,a3,h8⟩:=Qa HP;have d:=k9.keep a3 (h8.offT a3 (by decide) (by decide));obtain⟨W7,x,sc⟩:=sc2 d (Ji ft.1) (Ji ft.2);obtain⟨aq,ar,yf⟩:=cl2 d;have n:=hide (Ya (k.sc sc (by omega) (k.offT d (by decide) (by decide))) (Ya (((Kw.of_below a7).trans k9).sc sc (by omega)) (Ya sc.box aj)));have Y:=hide x;clear a7 a3 h8 k k9 aj d x sc HP;unfold ftV;go_wp2_with fail;rw[<- Qa Y];obtain⟨j,V,e3,e4⟩:=Qa n;obtain⟨a4,a5,zf⟩:=cl2 e3;refine bodyPost_ret (v:=ftV ft) (by simp[results,Tryz.results115,go_sem,a4,a5,ftV]) rfl ?_;exact LkA.of j V e4
 |false=>
 clear ac;go_upto_region 5 with fail;go_cut [40] from 25 (fun v wc=>v = .bool c2/\Hid (Below a0.heap.size a0 wc))
 case first=>
  by_cases j:y.op=[61]
  ·
   have g1:(y.op==[61])=true:=beq_iff_eq.2 j;have el:c2=openP vs y.r:=by rw[<- a8,j];rfl
   have ae:=Qdp (Qa X a0 (Qa i)).2.2.2 y.r (.slice ya yn yc) ⟨_,_,_,rfl⟩;rw[<- el]at ae;obtain⟨I,J,K,L,M,N,O,P,Q,S,C,D,E,F,G,H,U⟩:=cl16 (Qa X a0 (Qa i)).2.1;clear j el;go_wp2_with fail;refine ae.mono ?_;clear ae I J K L M N O P Q S C D E F G H U;rintro en w5⟨rfl,b5⟩;have az:=hide b5;clear b5;go_wp2_with fail;go_meet;exact⟨rfl,az⟩
  have g1:(y.op==[61])=false:=beq_eq_false_iff_ne.2 j;have el:c2=false:=by rw[<- a8,decide_eq_false j];rfl
  subst el;obtain⟨I,J,K,L,M,N,O,P,Q,S,C,D,E,F,G,H,U⟩:=cl16 (Qa X a0 (Qa i)).2.1;clear j a8;go_wp2_with fail;go_meet;exact⟨rfl,hide (Below.refl _ _)⟩
 case rest=>
 obtain⟨rfl,ai⟩:=hcut;obtain⟨aa,aD⟩:=JE wc;subst aD;have ah:=hide ((Qa i).trans ((Qa ai).mono (Qa i).size));clear i ai;have i:=ah;clear ah
 cases c2 with
 |true=>
  obtain⟨a,hl,q1,q2⟩:=Qa HR;rw[if_neg (by first|decide|exact id),if_pos (by first|rfl|trivial)]at a
  have am:typV vs y.r.txt=none:=Qje (by
   have e:(decide (y.op=[61])&&openP vs y.r)=true:=a8;simp only[Bool.and_eq_true]at e
   exact e.2)
  obtain⟨B,t,A,f⟩:=Qa X aa (Qa i);have ad:=Qpd f hl y.r.txt am y.l (Qa HX aa (Qa i)).1;rw[a]at ad;have HP:=hide (Ya B (Ya A f));obtain⟨I,J,K,L,M,N,O,P,Q,S,C,D,E,F,G,H,U⟩:=cl16 t;clear a hl q1 q2 am B t A f a8;go_wp2_with fail;refine ad.mono ?_;clear ad I J K L M N O P Q S C D E F G H U;rintro en w9 al;obtain⟨aV,aX,ft,rfl,k,k9,aj⟩:=al.ft;clear al;obtain⟨a7,a3,h8⟩:=Qa HP;have d:=k9.keep a3 (h8.offT a3 (by decide) (by decide));obtain⟨W7,x,sc⟩:=sc2 d (Ji ft.1) (Ji ft.2);obtain⟨aq,ar,yf⟩:=cl2 d;have n:=hide (Ya (k.sc sc (by omega) (k.offT d (by decide) (by decide))) (Ya (((Kw.of_below a7).trans k9).sc sc (by omega)) (Ya sc.box aj)));have Y:=hide x;clear a7 a3 h8 k k9 aj d x sc HP;unfold ftV;go_wp2_with fail;rw[<- Qa Y];obtain⟨j,V,e3,e4⟩:=Qa n;obtain⟨a4,a5,zf⟩:=cl2 e3;refine bodyPost_ret (v:=ftV ft) (by simp[results,Tryz.results115,go_sem,a4,a5,ftV]) rfl ?_;exact LkA.of j V e4
 |false=>
 clear a8;obtain⟨a,hl,q1,q2⟩:=Qa HR;rw[if_neg (by first|decide|exact id),if_neg (by first|decide|exact id)]at a;have au:=hide a;clear a hl q1 q2 HR;obtain⟨B,t,A,f⟩:=Qa X aa (Qa i);have ao:=Qcp y.l sl vs aa xa xn xc f (Qa HX aa (Qa i)).1;obtain⟨I,J,K,L,M,N,O,P,Q,S,C,D,E,F,G,H,U⟩:=cl16 t;clear B t A f;go_wp2_with fail;refine ao.mono ?_;clear ao I J K L M N O P Q S C D E F G H U;rintro en w5⟨t5,ft,rfl,m,b5⟩;obtain⟨f0,f1⟩:=ft;unfold ftV;obtain⟨w6,ap⟩:=JE (w5.alloc (.cells #[Ji f0,Ji f1] 31));obtain⟨fb,aw⟩:=JF w5.heap.size;have b6:=bnw ap;have n6:=nnw ap;rw[aw]at n6;have a1:=(Qa i).trans ((b5.trans (b6.mono b5.size)).mono (Qa i).size);obtain⟨aP,aQ,ff⟩:=cl2 n6;have av:=hide (Ya ap aw);by_cases hz:f0=0
 rotate_left
 ·
  have ab:valP p vs y.l = .error (f0,f1):=by
   cases T:valP p vs y.l with
   |ok s=>rw[T]at m;obtain⟨j,V⟩:=m;simp only[Prod.mk.injEq]at V;exact absurd V.1 hz
   |error e=>rw[T]at m;rw[m.1]
  have a:=Qa au;rw[ab]at a;have af:=hide (show R = .error (f0,f1) from a.symm);have HZ:=hide hz;have g4:(f0 != 0)=true:=by simpa using hz
  obtain⟨B,t,A,f⟩:=Qa X w6 a1;have d:=A;have Z:=B;have k:=f;clear m b5 ap aw b6 n6 a1 ab a au B t A f i hz;go_upto_region 8 with fail;rw[<- (Qa av).1,(Qa av).2];obtain⟨W7,x,sc⟩:=sc2 d (Ji f0) (Ji f1);obtain⟨aq,ar,yf⟩:=cl2 d;have n:=hide (Ya (Wk.sc k sc (by omega) (Wk.offT k d (by decide) (by decide))) (Ya (Kw.sc (Kw.of_below (wb:=wb) (mb:=mb) (sl:=sl) Z) sc (by omega)) sc.box));have Y:=hide x;clear d Z k x sc;go_wp2_with fail;rw[<- Qa Y];obtain⟨a4,a5,zf⟩:=cl2 (Qa n).2.2;refine bodyPost_ret (v:=ftV (f0,f1)) (by simp[results,Tryz.results115,go_sem,a4,a5,ftV]) rfl ?_;refine LkA.of (Qa n).1 (Qa n).2.1 ?_;rw[Qa af];exact⟨rfl,Qa HZ⟩
 have an:valP p vs y.l = .ok t5:=by
  cases T:valP p vs y.l with
  |ok s=>rw[T]at m;rw[m.1]
  |error e=>rw[T]at m;obtain⟨j,V⟩:=m;rw[<- j]at V;exact absurd hz V
 have a:=Qa au;rw[an]at a
 have aK:R=(match valP p vs y.r with | .error e=>Except.error e | .ok b=>match sidesP p y t5 b with | .error e=>Except.error e | .ok _=>Except.ok vs):=a.symm;have af:=hide aK;obtain⟨B,t,A,f⟩:=Qa X w6 a1;have ao:=Qcp y.r sl vs w6 ya yn yc f (Qa HX w6 a1).2;obtain⟨I,J,K,L,M,N,O,P,Q,S,C,D,E,F,G,H,U⟩:=cl16 t;have H6:=hide (Ya a1 n6);have aN:=hide (show wq.heap.size<=fb by have h1:=(Qa i).size;have h2:=b5.size;omega);subst hz;clear m b5 ap aw b6 n6 a1 an a aK au B t A f i;go_upto_region 8 with fail;rw[<- (Qa av).1,(Qa av).2];go_wp2_with fail;refine ao.mono ?_;clear ao I J K L M N O P Q S C D E F G H U aP aQ ff;rintro en w7⟨t7,ft,rfl,m,b7⟩;obtain⟨g0,g1⟩:=ft;unfold ftV;obtain⟨a1,n6⟩:=Qa H6;have n7:=(b7.block _ (Qaa n6)).trans n6;obtain⟨w8,aG,ay⟩:=sc2 n7 (Ji g0) (Ji g1);obtain⟨aT,aU,qf⟩:=cl2 n7;have aB:=a1.trans (b7.mono a1.size);have ak:=Qa aN;have aC:=ay.below aB ak;obtain⟨aR,aS,mf⟩:=cl2 ay.box;obtain⟨B,t,A,f⟩:=Qa X w8 aC;have aJ:=hide aG;by_cases ag:g0=0
 ·
  have an:valP p vs y.r = .ok t7:=by
   cases T:valP p vs y.r with
   |ok s=>rw[T]at m;rw[m.1]
   |error e=>rw[T]at m;obtain⟨j,V⟩:=m;rw[<- j]at V;exact absurd ag V
  have a:=Qa af;rw[an]at a
  have aA:=hide (show R=(match sidesP p y t5 t7 with | .error e=>Except.error e | .ok _=>Except.ok vs) from a);have aL:=Qqx f y pa xa ya pn pc xn xc yn yc t5 t7;obtain⟨I,J,K,L,M,N,O,P,Q,S,C,D,E,F,G,H,U⟩:=cl16 t;have L1:=lt_at (w:=w8) (b:=w.heap.size) (o:=0) (fun q v T=>by rw[Nat.zero_add,Qad t];simpa using T);have HN:=hide (Ya B (Ya A f));subst ag;clear m b7 a1 n6 n7 aG ay aB aC ak an a af B t A f H6;go_upto_region 11 with fail;rw[<- Qa aJ];go_wp2_with fail;refine aL.mono ?_;clear aL I J K L M N O P Q S C D E F G H U L1 aR aS mf aT aU qf;rintro en w9⟨ft,rfl,a9,b9⟩;obtain⟨a7,a3,h8⟩:=Qa HN;have d:=(b9.block _ (Qaa a3)).trans a3;have k:=h8.later b9;have Z:=a7.trans (b9.mono a7.size);have aO:=hide a9;clear a7 a3 h8 b9 a9;unfold ftV;obtain⟨W7,x,sc⟩:=sc2 d (Ji ft.1) (Ji ft.2);obtain⟨aq,ar,yf⟩:=cl2 d;have n:=hide (Ya (Wk.sc k sc (by omega) (Wk.offT k d (by decide) (by decide))) (Ya (Kw.sc (Kw.of_below (wb:=wb) (mb:=mb) (sl:=sl) Z) sc (by omega)) sc.box));have Y:=hide x;clear d Z k x sc;go_wp2_with fail;rw[<- Qa Y];obtain⟨a4,a5,zf⟩:=cl2 (Qa n).2.2;refine bodyPost_ret (v:=ftV (ft.1,ft.2)) (by simp[results,Tryz.results115,go_sem,a4,a5,ftV]) rfl ?_;refine LkA.of (Qa n).1 (Qa n).2.1 ?_;have a9:=Qa aO;rw[Qa aA]
  cases T:sidesP p y t5 t7 with
  |ok u=>rw[T]at a9;exact⟨a9,rfl⟩
  |error e=>rw[T]at a9;exact⟨a9.1,by show ft.1≠0;rw[a9.1];exact a9.2⟩
 have ab:valP p vs y.r = .error (g0,g1):=by
  cases T:valP p vs y.r with
  |ok s=>rw[T]at m;obtain⟨j,V⟩:=m;simp only[Prod.mk.injEq]at V;exact absurd V.1 ag
  |error e=>rw[T]at m;rw[m.1]
 have a:=Qa af;rw[ab]at a;have aA:=hide (show R = .error (g0,g1) from a);have HZ:=hide ag;have g4:(g0 != 0)=true:=by simpa using ag
 have d:=A;have Z:=B;have k:=f;clear m b7 a1 n6 n7 aG ay aB aC ak ab a af B t A f H6 ag;go_upto_region 11 with fail;rw[<- Qa aJ];obtain⟨W7,x,sc⟩:=sc2 d (Ji g0) (Ji g1);obtain⟨aq,ar,yf⟩:=cl2 d;have n:=hide (Ya (Wk.sc k sc (by omega) (Wk.offT k d (by decide) (by decide))) (Ya (Kw.sc (Kw.of_below (wb:=wb) (mb:=mb) (sl:=sl) Z) sc (by omega)) sc.box));have Y:=hide x;clear d Z k x sc;go_wp2_with fail;rw[<- Qa Y];obtain⟨a4,a5,zf⟩:=cl2 (Qa n).2.2;refine bodyPost_ret (v:=ftV (g0,g1)) (by simp[results,Tryz.results115,go_sem,a4,a5,ftV]) rfl ?_;refine LkA.of (Qa n).1 (Qa n).2.1 ?_;rw[Qa aA];exact⟨rfl,Qa HZ⟩
end
section
variable {n0 n1:Nat}{p:Pg}{c:CatP}{wb mb:Nat}{sl:Value}{vs:List Fld}{w:World}
attribute [local go_sem ↓] Qbi Qbo
theorem lit_cmp(h:Wk n0 n1 p c wb mb sl vs w)(y:Lt)(hk:y.kind=3){pa xa ya:Option Addr}{pn pc xn xc yn yc:Nat}{R:Except Flt (List Fld)}
  (hC:∀W:World,Below w.heap.size w W->Calls Tryz.prog 115 #[.pointer (Js wb),.agg #[Ji y.kind,str y.atom.rel,.slice pa pn pc,Ji y.atom.at_,str y.op,Ji y.l.kind,Ji y.l.num,str y.l.txt,.slice xa xn xc,Ji y.l.at_,Ji y.r.kind,Ji y.r.num,str y.r.txt,.slice ya yn yc,Ji y.r.at_,Ji y.at_]] W fun en w'=>LkA n0 n1 p c wb mb sl W R en w'):
  Calls Tryz.prog 100 #[.pointer (Js wb),.agg #[Ji y.kind,str y.atom.rel,.slice pa pn pc,Ji y.atom.at_,str y.op,Ji y.l.kind,Ji y.l.num,str y.l.txt,.slice xa xn xc,Ji y.l.at_,Ji y.r.kind,Ji y.r.num,str y.r.txt,.slice ya yn yc,Ji y.r.at_,Ji y.at_]] w fun en w'=>LkA n0 n1 p c wb mb sl w R en w':=by
 obtain⟨I,o,a,e,b,f⟩:=Qat w #[Ji y.kind,str y.atom.rel,.slice pa pn pc,Ji y.atom.at_,str y.op,Ji y.l.kind,Ji y.l.num,str y.l.txt,.slice xa xn xc,Ji y.l.at_,Ji y.r.kind,Ji y.r.num,str y.r.txt,.slice ya yn yc,Ji y.r.at_,Ji y.at_] 61;have m:=hC I a;have u:=(cl16 e).1;have H:=(cl16 e).2.2.2.2.2.2.2.2.2.2.2.2.2.2.2.2;have C:=Qks e;have P:(y.kind==1)=false:=by rw[hk];rfl
 have Q:(y.kind==2)=false:=by rw[hk];rfl
 have S:(y.kind==3)=true:=by rw[hk];rfl
 have J:=h.n1le;have B:=hide o;have q:=hide (Ya a (Ya b (Ya f (h.later a))));clear o a e b f h hk hC;go_enter Tryz.func100,Tryz.ntmps100;go_upto_region 1 with fail;rw[<- Qa B];go_wp2_with fail;refine m.mono ?_;clear m u H C;rintro en T n;obtain⟨K,L,ft,rfl,g,i,j⟩:=n.ft;clear n;obtain⟨a,b,f,s⟩:=Qa q;have d:=i.keep b (s.offT b (by decide) (by decide));obtain⟨O,k,sc⟩:=sc2 d (Ji ft.1) (Ji ft.2);obtain⟨M,N,U⟩:=cl2 d;have A:=hide (Ya (g.sc sc (by omega) (g.offT d (by decide) (by decide))) (Ya (((Kw.of_below a).trans i).sc sc (by omega)) (Ya sc.box j)));have t:=hide k;clear a b f s g i j d k sc q;unfold ftV;go_wp2_with fail;rw[<- Qa t];obtain⟨D,E,F,G⟩:=Qa A;obtain⟨x,z,V⟩:=cl2 F;refine bodyPost_ret (v:=ftV ft) (by simp[results,Tryz.results100,go_sem,x,z,ftV]) rfl ?_;exact LkA.of D E G
theorem lit_bad(h:Wk n0 n1 p c wb mb sl vs w)(y:Lt)(h1:y.kind≠1)(h2:y.kind≠2)(h3:y.kind≠3){pa xa ya:Option Addr}{pn pc xn xc yn yc:Nat}:
  Calls Tryz.prog 100 #[.pointer (Js wb),.agg #[Ji y.kind,str y.atom.rel,.slice pa pn pc,Ji y.atom.at_,str y.op,Ji y.l.kind,Ji y.l.num,str y.l.txt,.slice xa xn xc,Ji y.l.at_,Ji y.r.kind,Ji y.r.num,str y.r.txt,.slice ya yn yc,Ji y.r.at_,Ji y.at_]] w fun en w'=>LkA n0 n1 p c wb mb sl w (.error (1,y.at_)) en w':=by
 obtain⟨S,g,d,i,a,H⟩:=Qat w #[Ji y.kind,str y.atom.rel,.slice pa pn pc,Ji y.atom.at_,str y.op,Ji y.l.kind,Ji y.l.num,str y.l.txt,.slice xa xn xc,Ji y.l.at_,Ji y.r.kind,Ji y.r.num,str y.r.txt,.slice ya yn yc,Ji y.r.at_,Ji y.at_] 61;obtain⟨K,s,t,u,x,z,A,B,C,D,j,k,m,n,o,I,R⟩:=cl16 i;have O:(y.kind==1)=false:=beq_eq_false_iff_ne.2 h1;have P:(y.kind==2)=false:=beq_eq_false_iff_ne.2 h2;have Q:(y.kind==3)=false:=beq_eq_false_iff_ne.2 h3;have J:=h.n1le;have G:=hide g;have e:=h.later d;obtain⟨N,f,sc⟩:=sc2 a (Ji 1) (Ji y.at_);obtain⟨L,M,T⟩:=cl2 a;have b:=hide (Ya (Wk.sc e sc (by omega) (Wk.offT e a (by decide) (by decide))) (Ya (Kw.sc (Kw.of_below (wb:=wb) (mb:=mb) (sl:=sl) d) sc (by omega)) sc.box));have q:=hide f;clear g d i a H h h1 h2 h3 e f sc s t u x z A B C D j k m n o;go_enter Tryz.func100,Tryz.ntmps100;go_upto_region 1 with fail;rw[<- Qa G];go_wp2_with fail;rw[<- Qa q];obtain⟨E,F,U⟩:=cl2 (Qa b).2.2;refine bodyPost_ret (v:=ftV (1,y.at_)) (by simp[results,Tryz.results100,go_sem,E,F,ftV]) rfl ?_;exact LkA.of (Qa b).1 (Qa b).2.1 ⟨rfl,(by show(1:Int)≠0;decide)⟩
end
theorem Qsm{p:Pg}{y:Lt}{vs vs':List Fld}(h:litP2 p y vs = .ok vs'):vs'.length<=vs.length+ltB y:=by
 unfold litP2 at h;unfold ltB;split at h
 ·have:=Qfy p _ _ vs vs' h;omega
 split at h
 ·
  split at h
  ·cases h;omega
  ·cases h
 split at h
 ·
  rw[Qll]at h;split at h
  ·cases h
  split at h
  ·
   unfold givP at h;split at h
   ·cases h
   ·cases h;simp
  split at h
  ·
   unfold givP at h;split at h
   ·cases h
   ·cases h;simp
  split at h
  ·cases h
  split at h
  ·cases h
  split at h
  ·cases h
  ·cases h;omega
 ·cases h
theorem Qjb{p:Pg}:∀{ys:List Lt} {vs vs':List Fld},litsP p ys vs = .ok vs'->vs'.length<=vs.length+ltBs ys
 | [],vs,vs',h=>by cases h;simp[ltBs]
 |y :: ys,vs,vs',h=>by
  rw[litsP]at h;rw[ltBs]
  cases hq:litP2 p y vs with
  |error e=>rw[hq]at h;cases h
  |ok us=>
   rw[hq]at h;have h1:=Qsm hq;have a:=Qjb h;omega
theorem Qjd:∀{ys:List Lt} {j:Nat} {y:Lt},ys[j]?=some y->ltBs (ys.take j)+ltB y<=ltBs ys
 | [],j,y,h=>by simp at h
 |z :: ys,0,y,h=>by
  simp only[List.getElem?_cons_zero,Option.some.injEq]at h;subst h;simp[ltBs]
 |z :: ys,j+1,y,h=>by
  have:=Qjd (ys:=ys) (j:=j) (by simpa using h);simp only[List.take_succ_cons,ltBs];omega
theorem Qrm{p:Pg}{a:Atm}(h:(watP p a).1=0):∃d,declP2 p a.rel=some d/\a.args.length=d.cols.length:=by
 unfold watP at h
 cases b:declP2 p a.rel with
 |none=>rw[b]at h;exact absurd h (by show(6:Int)≠0;decide)
 |some d=>
  rw[b]at h;by_cases e:a.args.length=d.cols.length
  ·exact⟨d,rfl,e⟩
  simp only[if_pos e]at h;exact absurd h (by decide)
theorem Qih{p:Pg}:∀{ls:List Lt},(watsP p ls).1=0 -> ∀y∈ls,y.kind=1∨y.kind=2->(watP p y.atom).1=0
 | [],_,y,hy,_=>by cases hy
 |l :: ls,h,y,hy,hk=>by
  rw[watsP]at h;split at h
  ·
   rename_i hc;rcases List.mem_cons.1 hy with rfl|hy
   ·
    rcases hk with e|e
    ·exact absurd e hc.1
    ·exact absurd e hc.2
   ·exact Qih h y hy hk
  split at h
  ·
   rename_i hn;exact absurd h hn
  rename_i hn;rcases List.mem_cons.1 hy with rfl|hy
  ·exact Classical.not_not.1 hn
  ·exact Qih h y hy hk
theorem Qfs{n0:Nat}{p:Pg}{x:Cls}(hx:ltBs x.body<=1000000000)(c:CatP):InfC n0 p c x:=by
 intro W aa ba an ac bn bc hC E F;refine Qsi hC x E F ?_;intro n1 wb mb W a E F;refine Qop a x E F ?_ ?_
 ·
  intro j y vs G n hw W a2 pa P S pn pc R Q U T a M X Y;have hg:=Qjb n;have O:=Qjd G;simp only[List.length_nil,Nat.zero_add]at hg;by_cases o:y.kind=1
  ·
   obtain⟨d,k,H⟩:=Qrm (Qih hw.2 y (List.mem_of_getElem? G) (.inl o));have f:litP2 p y vs=eachP (patS p) y.atom.args d.cols vs:=by
    unfold litP2;rw[if_pos o,Qi];unfold colsP;rw[k];rfl
   rw[f];refine Qsl a y o (fun K b=>?_);refine Qes (a.later b) y.atom k _ ⟨_,_,_,rfl⟩ (fun L I J g v=>?_);have i:=b.trans (g.mono b.size);refine Qlo (a.later i) (N:=1000000000) (sz:=exQ) (step:=patS p) ⟨?_,?_⟩ (by rw[Qhs];unfold ltB at O;omega) (by omega) (M.same Qag i.size (fun q _ n=>i.block q n)) v
   ·
    intro e m w1 a3 C a1 a0 k1 t Z hE hN;exact Qfz e a3 C w1 a1 a0 k1 t Z hE hN
   intro e t C a4 h;exact Qhz p e t C a4 h
  by_cases s:y.kind=2
  ·
   obtain⟨d,k,H⟩:=Qrm (Qih hw.2 y (List.mem_of_getElem? G) (.inr s));refine lit_not a y s (fun K b=>?_);refine Qes (a.later b) y.atom k _ ⟨_,_,_,rfl⟩ (fun L I J g v=>?_);have i:=b.trans (g.mono b.size);refine(Qos (a.later i) (xs:=y.atom.args) (fun e _ W3 ea D ec t B A=>Qkp B e A t) (by omega) (M.same Qag i.size (fun q _ n=>i.block q n)) v).mono fun D w' h=>?_
   have f:litP2 p y vs=(match likesP p vs y.atom.args d.cols with | .ok _=>Except.ok vs | .error e=>Except.error e):=by
    unfold litP2;rw[if_neg o,if_pos s];unfold colsP;rw[k];rfl
   refine h.lk (a.later i) (fun u m=>?_) (fun e m=>?_)
   ·rw[f,m]
   ·rw[f,m]
  by_cases z:y.kind=3
  ·
   have f:litP2 p y vs=cmpP p y vs:=by
    unfold litP2;rw[if_neg o,if_neg s,if_pos z]
   rw[f];refine lit_cmp a y z (fun K b=>?_);exact Qgo (a.later b) (by unfold ltB at O;omega) y pa P S pn pc R Q U T (ExA.later (show ExA n0 W y.l P R Q from X) b) (ExA.later (show ExA n0 W y.r S U T from Y) b)
  have f:litP2 p y vs = .error (1,y.at_):=by
   unfold litP2;rw[if_neg o,if_neg s,if_neg z]
  rw[f];exact lit_bad a y o s z
 intro vs n hw W a2 a V;obtain⟨d,k,H⟩:=Qrm hw.1;refine Qes a x.head k _ ⟨_,_,_,rfl⟩ (fun L I J g v=>?_);refine(Qiw (a.later g) (xs:=x.head.args) (fun e _ W3 ea D ec t B A=>Qkk B e A t) (by omega) (V.same Qag g.size (fun q _ n=>g.block q n)) v).mono fun D w' h=>?_;have f:colsP p x.head=d.cols:=by
  unfold colsP;rw[k];rfl
 rw[f];refine h.lk (a.later g) (fun u m=>?_) (fun e m=>?_)
 ·rw[m]
 ·rw[m]
end
end Go.Proofs.YtkhndlnadhggkaaGreat
