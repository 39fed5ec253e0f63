/- types. -/
import Derived.Test.YtkhndlnadhggkaaGreatAp01
import Derived.Test.YtkhndlnadhggkaaGreatAp37
set_option maxRecDepth 100000
set_option maxHeartbeats 32000000
namespace Go.Proofs.YtkhndlnadhggkaaGreat
section
open Go.RowKit Go.Maps
theorem Qgx{R:Except Flt (List Fld)}{w w':World}{en:Ending}(h:InfA R w en w'):∃sa sn sc0 f,en = .returned (.tuple #[.slice sa sn sc0,ftV f])/\((∃v,R = .ok v/\f=(0,0))∨(R = .error f/\f.1≠0)):=by
 cases R with
 |ok vs=>
  obtain⟨_,sl,e,d⟩:=h;obtain⟨sa,sn,sc0,rfl⟩:∃sa sn sc0,sl = .slice sa sn sc0:=by
   rcases d.2 with ⟨e,_⟩|⟨g,cap,i,e,_⟩
   ·exact⟨_,_,_,e⟩
   ·exact⟨_,_,_,e⟩
  exact⟨sa,sn,sc0,_,e,.inl ⟨vs,rfl,rfl⟩⟩
 |error f=>
  obtain⟨_,e,a⟩:=h;exact⟨_,_,_,f,e,.inr ⟨rfl,a⟩⟩
def InfC(n0:Nat)(p:Pg)(c:CatP)(x:Cls):Prop:=∀(W:World) (aa ba:Option Addr) (an ac bn bc:Nat),Cs n0 p c W->LsAt PE 5 (fun b=>b<n0) W (.slice aa an ac) x.head.args->LsAt PLt 16 (fun b=>b<n0) W (.slice ba bn bc) x.body->Calls Tryz.prog 42 #[.pointer (some ⟨c.cb,0,none⟩),.agg #[str x.head.rel,.slice aa an ac,.int .i64 x.head.at_,.slice ba bn bc,.int .i64 x.at_]] W fun en w'=>InfA (infP p x) W en w'
section
variable {n0:Nat}{p:Pg}{c:CatP}{w:World}
theorem Qgt(h:Cs n0 p c w)(hInf:∀x∈p.clauses,InfC n0 p c x):
  Calls Tryz.prog 34 #[.pointer (Js c.cb)] w fun en w'=>en = .returned (ftV (wClauseP p p.clauses))/\Below w.heap.size w w':=by
 obtain⟨vt,vd,vc,vi,vl,ev,qt,qd,qc,qi,o⟩:=h.prg.cells;simp only[List.cons.injEq,and_true]at ev;rw[<- ev.2.2.2.2]at o;obtain⟨a1,k1,c1,V⟩:∃a n d,c.v4 = .slice a n d:=by
  obtain⟨_,_,e⟩:=o.sl;exact⟨_,_,_,e⟩
 rw[V]at o;have a9:k1=p.clauses.length:=by obtain⟨_,_,e⟩:=o.sl;cases e;rfl
 have az:=o.cap rfl;obtain⟨w1,I⟩:=JE (w.alloc (.cells #[Ji 0,Ji 0] 31));have b1:=bnw I;have n1:=nnw I;obtain⟨rb,H⟩:=JF w.heap.size;rw[H]at n1;have a5:=hide H;obtain⟨aj,ak,al,am,ad,ao,ap,aq,ar,xf⟩:=cl9 (Ct.later h b1).box;rw[V]at ad;have a6:=hide (Ya I H);have H0:=hide (Ya h (Ya o (Ya a9 hInf)));have H1:=hide (Ya b1 n1);clear h hInf ev qt qd qc qi o V a9 I b1 n1 H aj ak al am ao ap aq ar;go_enter Tryz.func34,Tryz.ntmps34;go_upto_region 1 with fail;rw[<- (Qa a6).1,(Qa a6).2];go_wp2_with fail;clear ad xf;go_loopw [13] (fun v wr=>∃i:Nat,v = Ji (i:Int)/\i<=k1/\Hid (Below w.heap.size w wr/\wr.heap[rb]?=some (.cells #[Ji 0,Ji 0] 31 (0,0))/\wClauseP p p.clauses=wClauseP p (p.clauses.drop i))) (fun v _=>k1 - (intOf v).toNat)
 case atStart=>exact⟨0,rfl,Nat.zero_le _,hide ⟨(Qa H1).1,(Qa H1).2,rfl⟩⟩
 obtain⟨i,rfl,hi,HI⟩:=hrel;by_cases aA:i<k1
 rotate_left
 ·
  have ai:i=k1:=by omega
  subst ai;obtain⟨q,t,g⟩:=Qa HI;rw[List.drop_of_length_le (by rw[(Qa H0).2.2.1];exact Nat.le_refl _)]at g;have j:wClauseP p p.clauses=(0,0):=g;clear g;obtain⟨W,C,sc⟩:=sc2 t (Ji 0) (Ji 0);obtain⟨au,av,yf⟩:=cl2 t;have m:=hide (Ya (sc.below q (Nat.le_of_eq (Qa a5))) (Ya sc.box j));have T:=hide C;clear C sc j;go_wp2_with fail;rw[<- Qa T];obtain⟨X,Y,uf⟩:=cl2 (Qa m).2.1;refine bodyPost_ret (v:=ftV (0,0)) (by simp[results,Tryz.results34,go_sem,X,Y,ftV]) rfl ?_;exact⟨by rw[(Qa m).2.2],(Qa m).1⟩
 obtain⟨h,hL,hn,hInf⟩:=Qa H0;obtain⟨q,t,g⟩:=Qa HI;obtain⟨d,P⟩:∃d,p.clauses[i]?=some d:=⟨p.clauses[i]'(by omega),List.getElem?_eq_getElem _⟩;rw[Qkh P,wClauseP]at g;obtain⟨A,B,cap,cs,e1,ah,hS,_,ag,s⟩:=(hL.later Qaw q).elem P;obtain⟨Z,an,ac,ba,bn,bc,rfl,hA,hB⟩:=ag;simp only[Value.slice.injEq]at e1;obtain⟨rfl,-,-⟩:=e1;have y0:wr.cell? (Ja A (B+i*5))=some (str d.head.rel):=s 0 _ rfl;have y1:wr.cell? (Ja A (B+i*5+1))=some (.slice Z an ac):=s 1 _ rfl;have y2:wr.cell? (Ja A (B+i*5+2))=some (Ji d.head.at_):=s 2 _ rfl;have y3:wr.cell? (Ja A (B+i*5+3))=some (.slice ba bn bc):=s 3 _ rfl;have y4:wr.cell? (Ja A (B+i*5+4))=some (Ji d.at_):=s 4 _ rfl;obtain⟨w3,J⟩:=JE (wr.alloc (.cells #[str d.head.rel,.slice Z an ac,Ji d.head.at_,.slice ba bn bc,Ji d.at_] 45));have z:=bnw J;have n3:=nnw J;obtain⟨tb,U⟩:=JF wr.heap.size;rw[U]at n3;have k:=q.trans (z.mono q.size);have l:=(z.block _ (Qaa t)).trans t;have a8:=hInf d (List.mem_of_getElem? P) w3 Z ba an ac bn bc (Ct.later h k) (hA.later Qag z) (hB.later Qb z);obtain⟨ae,af,aw,ax,ay,zf⟩:=cl5 n3;have H3:=hide (Ya k (Ya l g));have a7:=hide (Ya J U);clear h hL hn hInf q t P g ah hS s hA hB J z n3 U k l;go_upto_region 4 with fail;rw[<- (Qa a7).1,(Qa a7).2];go_wp2_with fail;refine a8.mono ?_;clear a8 y0 y1 y2 y3 y4 ae af aw ax ay zf;rintro en w4 O;have L:=O.1;obtain⟨sa,sn,ab,f,rfl,Q⟩:∃sa sn ab f,en = .returned (.tuple #[.slice sa sn ab,ftV f])/\((∃v,infP p d = .ok v/\f=(0,0))∨(infP p d = .error f/\f.1≠0)):=Qgx O;obtain⟨r,N⟩:=f;unfold ftV;obtain⟨k,l,g⟩:=Qa H3;obtain⟨w5,u⟩:=JE (w4.alloc (.cells #[Ji r,Ji N] 31));have M:=bnw u;have R:=nnw u;obtain⟨fb,G⟩:=JF w4.heap.size;rw[G]at R;have E:=k.trans (L.mono k.size);have K:=(L.block _ (Qaa l)).trans l;have F:=E.trans (M.mono E.size);have y:=(M.block _ (Qaa K)).trans K;have D:=hide (Ya u G)
 obtain⟨ae,af,zf⟩:=cl2 R;by_cases hz:r=0
 ·
  subst hz;have j:wClauseP p p.clauses=wClauseP p (p.clauses.drop (i+1)):=by
   rcases Q with ⟨v,e,_⟩|⟨_,e⟩
   ·rw[g,e]
   ·exact absurd rfl e
  have H5:=hide (Ya F (Ya y j));clear Q O L k l g u M R G E K F y j;go_upto_region 5 with fail;rw[<- (Qa D).1,(Qa D).2];go_wp2_with fail;go_roundw
  case rel=>exact⟨i+1,by congr 1,by omega,H5⟩
  case measure=>simp[intOf];omega
 have g1:(r==0)=false:=beq_eq_false_iff_ne.2 hz;have j:wClauseP p p.clauses=(r,N):=by
  rcases Q with ⟨v,e,e2⟩|⟨e,_⟩
  ·
   cases e2
   exact absurd rfl hz
  ·rw[g,e]
 clear Q O L k l g u M R G E K;obtain⟨W,C,sc⟩:=sc2 y (Ji r) (Ji N);obtain⟨au,av,yf⟩:=cl2 y;have m:=hide (Ya (sc.below F (Nat.le_of_eq (Qa a5))) (Ya sc.box j));have T:=hide C;clear C sc j F y;go_upto_region 5 with fail;rw[<- (Qa D).1,(Qa D).2];go_wp2_with fail;rw[<- Qa T];obtain⟨X,Y,uf⟩:=cl2 (Qa m).2.1;refine bodyPost_ret (v:=ftV (r,N)) (by simp[results,Tryz.results34,go_sem,X,Y,ftV]) rfl ?_;exact⟨by rw[(Qa m).2.2],(Qa m).1⟩
end
section
variable {n0:Nat}{p:Pg}{w:World}{a0 a1 a2 a3 a4:Option Addr}{k0 k1 k2 k3 k4 c0 c1 c2 c3 c4:Nat}
theorem Qse(w:World):Calls Tryz.prog 28 #[.agg #[.slice a0 k0 c0,.slice a1 k1 c1,.slice a2 0 c2,.slice a3 0 c3,.slice a4 k4 c4]] w fun en w'=>en = .returned (.bool true)/\Below w.heap.size w w':=by
 obtain⟨m,a⟩:=JE (w.alloc (.cells #[.slice a0 k0 c0,.slice a1 k1 c1,.slice a2 0 c2,.slice a3 0 c3,.slice a4 k4 c4] 28));have d:=bnw a;have e:=nnw a;obtain⟨h,i,j,k,l,n⟩:=cl5 e;have f:=hide a;have g:=hide d;clear a d e;go_enter Tryz.func28,Tryz.ntmps28;go_upto_region 1 with fail;rw[<- Qa f];go_wp2_with fail;go_ret;exact⟨rfl,Qa g⟩
end
def ckF(p:Pg):Nat->Flt
 | 0=>if (wNameP p p.types.zipIdx).1≠0 then wNameP p p.types.zipIdx else if (wTypeP p p.types.zipIdx).1≠0 then wTypeP p p.types.zipIdx else if (wDeclP p p.decls.zipIdx).1≠0 then wDeclP p p.decls.zipIdx else if (wClauseP p p.clauses).1≠0 then wClauseP p p.clauses else (0,0)
 | 1=>if (wTypeP p p.types.zipIdx).1≠0 then wTypeP p p.types.zipIdx else if (wDeclP p p.decls.zipIdx).1≠0 then wDeclP p p.decls.zipIdx else if (wClauseP p p.clauses).1≠0 then wClauseP p p.clauses else (0,0)
 | 2=>if (wDeclP p p.decls.zipIdx).1≠0 then wDeclP p p.decls.zipIdx else if (wClauseP p p.clauses).1≠0 then wClauseP p p.clauses else (0,0)
 | 3=>if (wClauseP p p.clauses).1≠0 then wClauseP p p.clauses else (0,0)
 |_=>(0,0)
theorem cl4f{w:World}{b:Nat}{T:TypeId}{v0 v1 v2 v3:Value}(h:w.heap[b]?=some (.cells #[v0,v1,v2,v3] T (0,0))):w.cell? (Ja b 0)=some v0/\w.cell? (Ja b 1)=some v1/\w.cell? (Ja b 2)=some v2/\w.cell? (Ja b 3)=some v3:=
 ⟨(Qad h 0).trans rfl,(Qad h 1).trans rfl,(Qad h 2).trans rfl,(Qad h 3).trans rfl⟩
section
variable {n0:Nat}{p:Pg}{w:World}{a0 a1 a2 a3 a4:Option Addr}{k0 k1 k4 c0 c1 c2 c3 c4:Nat}
theorem Qfk(hn0:n0<=w.heap.size)(hP:PgO (fun b=>b<n0) w [.slice a0 k0 c0,.slice a1 k1 c1,.slice a2 0 c2,.slice a3 0 c3,.slice a4 k4 c4] p)(hts:p.types.length<=1000000000)(hInf:∀(c:CatP) (x:Cls),x∈p.clauses->InfC n0 p c x):
  Calls Tryz.prog 10 #[.agg #[.slice a0 k0 c0,.slice a1 k1 c1,.slice a2 0 c2,.slice a3 0 c3,.slice a4 k4 c4]] w fun en w'=>en = .returned (ftV (ckF p 0))/\Below w.heap.size w w':=by
 obtain⟨w2,an,b2,Z,nf,s2⟩:=Qat w #[.slice a0 k0 c0,.slice a1 k1 c1,.slice a2 0 c2,.slice a3 0 c3,.slice a4 k4 c4] 28;have al:=Qse (a0:=a0) (k0:=k0) (c0:=c0) (a1:=a1) (k1:=k1) (c1:=c1) (a2:=a2) (c2:=c2) (a3:=a3) (c3:=c3) (a4:=a4) (k4:=k4) (c4:=c4) w2;obtain⟨ad,ae,af,ag,ah,xf⟩:=cl5 Z;obtain⟨rb,am⟩:=JF w.heap.size;have O:=hide am;have ap:=hide an;have H0:=hide (Ya hn0 (Ya hP (Ya hts hInf)));have H2:=hide (Ya b2 (Ya Z (Ya nf s2)));clear an b2 Z nf s2 hn0 hP hts hInf am;go_enter Tryz.func10,Tryz.ntmps10;go_upto_region 1 with fail;rw[<- Qa ap];go_wp2_with fail;refine al.mono ?_;clear al ad ae af ag ah xf;rintro en w3⟨rfl,b3⟩;obtain⟨b2,Z,nf,s2⟩:=Qa H2;obtain⟨hn0,hP,hts,hInf⟩:=Qa H0;have ao:=(b3.block _ (Qaa Z)).trans Z;have a6:=(b3.block _ (Qaa nf)).trans nf;have J:=b2.trans (b3.mono b2.size);have ab:=Qkf (n0:=n0) (w:=w3) (by have:=J.size;omega) (Qcj.same _ _ _ _ _ hP J.size (fun q _ hl=>J.block q hl)) hts;obtain⟨ad,ae,af,ag,ah,xf⟩:=cl5 ao;have H3:=hide (Ya J a6);clear b2 Z nf s2 hn0 hP hts hInf ao a6 J b3;go_wp2_with fail;refine ab.mono ?_;clear ab ad ae af ag ah xf;rintro en w4⟨c,rfl,hc,b4⟩;obtain⟨J,a6⟩:=Qa H3;have a7:=(b4.block _ (Qaa a6)).trans a6;have a5:=J.trans (b4.mono J.size);have H4:=hide (Ya a5 (Ya a7 hc));clear J a6 a7 a5 hc b4;obtain⟨w5,a8⟩:=JE (w4.alloc (.cells #[.func (.func 31) #[.pointer (Js c.cb)] #[],.func (.func 32) #[.pointer (Js c.cb)] #[],.func (.func 33) #[.pointer (Js c.cb)] #[],.func (.func 34) #[.pointer (Js c.cb)] #[]] 89));obtain⟨a5,a7,hc⟩:=Qa H4;have b5:=bnw a8;have G:=nnw a8;obtain⟨fb,ac⟩:=JF w4.heap.size;rw[ac]at G;have H5:=hide (Ya (a5.trans (b5.mono a5.size)) (Ya ((b5.block _ (Qaa a7)).trans a7) (Ya G (Ct.later hc b5))));have ak:=hide (Ya a8 ac);clear a5 a7 hc a8 b5 G ac;go_wp2_with fail;rw[<- (Qa ak).1,(Qa ak).2,Qa O]
 go_loopw [24] (fun v wr=>∃i:Nat,v = Ji (i:Int)/\i<=4/\Hid (Below w5.heap.size w5 wr/\ckF p 0=ckF p i)) (fun v _=>4 - (intOf v).toNat)
 case atStart=>exact⟨0,rfl,by decide,hide ⟨Below.refl _ _,rfl⟩⟩
 obtain⟨i,rfl,hi,HI⟩:=hrel;obtain⟨d,E⟩:=Qa HI;obtain⟨hn0,hP,hts,hInf⟩:=Qa H0;obtain⟨P,Q,G,K⟩:=Qa H5;have N:=(d.block _ (Qaa G)).trans G;have a:=(d.block _ (Qaa Q)).trans Q;rw[Qa O]at a;have j:=P.trans (d.mono P.size);have aq:i=0∨i=1∨i=2∨i=3∨i=4:=by omega
 rcases aq with rfl|rfl|rfl|rfl|rfl
 ·
  have A:=Qim (Ct.later K d) hts;obtain⟨⟨h,t⟩,u⟩:∃f,wNameP p p.types.zipIdx=f:=⟨_,rfl⟩;rw[u]at A;have k:h≠0->ckF p 0=(h,t):=fun e=>by
   rw[E,ckF,u,if_pos e]
  have heq:h=0->ckF p 0=ckF p 1:=fun e=>by
   rw[E,ckF,u,if_neg (by simpa using e)];rfl
  obtain⟨R,T,U,V⟩:=cl4f N;have Y:=hide (Ya d (Ya a (Ya j (Ya k heq))));clear d E hn0 hP hts hInf P Q G K N a j u k heq HI;go_wp2_with fail;refine A.mono ?_;clear A R T U V;rintro en H⟨rfl,g⟩;unfold ftV;obtain⟨d,a,j,k,heq⟩:=Qa Y;obtain⟨w7,l⟩:=JE (H.alloc (.cells #[Ji h,Ji t] 31));have m:=bnw l;have z:=nnw l;obtain⟨xb,o⟩:=JF H.heap.size;rw[o]at z;have C:=d.trans ((g.trans (m.mono g.size)).mono d.size);have B:=j.trans ((g.trans (m.mono g.size)).mono j.size);have r:=(m.block _ (Qaa ((g.block _ (Qaa a)).trans a))).trans ((g.block _ (Qaa a)).trans a);have n:=hide (Ya l o);obtain⟨ai,aj,zf⟩:=cl2 z;by_cases y:h=0
  ·
   have X:=hide (Ya C (heq y));subst y;clear g d a j k heq l m z o C B r;go_upto_region 8 with fail;rw[<- (Qa n).1,(Qa n).2];go_wp2_with fail;go_roundw
   case rel=>exact⟨1,rfl,by decide,X⟩
   case measure=>simp[intOf]
  have g1:(h==0)=false:=beq_eq_false_iff_ne.2 y;have D:=k y;obtain⟨W,F,sc⟩:=sc2 r (Ji h) (Ji t);obtain⟨a9,aa,yf⟩:=cl2 r;have s:=hide (Ya (sc.below B (by have:=Qa O;omega)) (Ya sc.box D));have I:=hide F;clear g d a j k heq l m z o C B r F sc D;go_upto_region 8 with fail;rw[<- (Qa n).1,(Qa n).2];go_wp2_with fail;rw[<- Qa I];obtain⟨L,M,uf⟩:=cl2 (Qa s).2.1;refine bodyPost_ret (v:=ftV (h,t)) (by simp[results,Tryz.results10,go_sem,L,M,ftV]) rfl ?_;exact⟨by rw[(Qa s).2.2],(Qa s).1⟩
 ·
  have A:=Qin (Ct.later K d) hts;obtain⟨⟨h,t⟩,u⟩:∃f,wTypeP p p.types.zipIdx=f:=⟨_,rfl⟩;rw[u]at A;have k:h≠0->ckF p 0=(h,t):=fun e=>by
   rw[E,ckF,u,if_pos e]
  have heq:h=0->ckF p 0=ckF p 2:=fun e=>by
   rw[E,ckF,u,if_neg (by simpa using e)];rfl
  obtain⟨R,T,U,V⟩:=cl4f N;have Y:=hide (Ya d (Ya a (Ya j (Ya k heq))));clear d E hn0 hP hts hInf P Q G K N a j u k heq HI;go_wp2_with fail;refine A.mono ?_;clear A R T U V;rintro en H⟨rfl,g⟩;unfold ftV;obtain⟨d,a,j,k,heq⟩:=Qa Y;obtain⟨w7,l⟩:=JE (H.alloc (.cells #[Ji h,Ji t] 31));have m:=bnw l;have z:=nnw l;obtain⟨xb,o⟩:=JF H.heap.size;rw[o]at z;have C:=d.trans ((g.trans (m.mono g.size)).mono d.size);have B:=j.trans ((g.trans (m.mono g.size)).mono j.size);have r:=(m.block _ (Qaa ((g.block _ (Qaa a)).trans a))).trans ((g.block _ (Qaa a)).trans a);have n:=hide (Ya l o);obtain⟨ai,aj,zf⟩:=cl2 z;by_cases y:h=0
  ·
   have X:=hide (Ya C (heq y));subst y;clear g d a j k heq l m z o C B r;go_upto_region 8 with fail;rw[<- (Qa n).1,(Qa n).2];go_wp2_with fail;go_roundw
   case rel=>exact⟨2,rfl,by decide,X⟩
   case measure=>simp[intOf]
  have g1:(h==0)=false:=beq_eq_false_iff_ne.2 y;have D:=k y;obtain⟨W,F,sc⟩:=sc2 r (Ji h) (Ji t);obtain⟨a9,aa,yf⟩:=cl2 r;have s:=hide (Ya (sc.below B (by have:=Qa O;omega)) (Ya sc.box D));have I:=hide F;clear g d a j k heq l m z o C B r F sc D;go_upto_region 8 with fail;rw[<- (Qa n).1,(Qa n).2];go_wp2_with fail;rw[<- Qa I];obtain⟨L,M,uf⟩:=cl2 (Qa s).2.1;refine bodyPost_ret (v:=ftV (h,t)) (by simp[results,Tryz.results10,go_sem,L,M,ftV]) rfl ?_;exact⟨by rw[(Qa s).2.2],(Qa s).1⟩
 ·
  have A:=Qil (Ct.later K d);obtain⟨⟨h,t⟩,u⟩:∃f,wDeclP p p.decls.zipIdx=f:=⟨_,rfl⟩;rw[u]at A;have k:h≠0->ckF p 0=(h,t):=fun e=>by
   rw[E,ckF,u,if_pos e]
  have heq:h=0->ckF p 0=ckF p 3:=fun e=>by
   rw[E,ckF,u,if_neg (by simpa using e)];rfl
  obtain⟨R,T,U,V⟩:=cl4f N;have Y:=hide (Ya d (Ya a (Ya j (Ya k heq))));clear d E hn0 hP hts hInf P Q G K N a j u k heq HI;go_wp2_with fail;refine A.mono ?_;clear A R T U V;rintro en H⟨rfl,g⟩;unfold ftV;obtain⟨d,a,j,k,heq⟩:=Qa Y;obtain⟨w7,l⟩:=JE (H.alloc (.cells #[Ji h,Ji t] 31));have m:=bnw l;have z:=nnw l;obtain⟨xb,o⟩:=JF H.heap.size;rw[o]at z;have C:=d.trans ((g.trans (m.mono g.size)).mono d.size);have B:=j.trans ((g.trans (m.mono g.size)).mono j.size);have r:=(m.block _ (Qaa ((g.block _ (Qaa a)).trans a))).trans ((g.block _ (Qaa a)).trans a);have n:=hide (Ya l o);obtain⟨ai,aj,zf⟩:=cl2 z;by_cases y:h=0
  ·
   have X:=hide (Ya C (heq y));subst y;clear g d a j k heq l m z o C B r;go_upto_region 8 with fail;rw[<- (Qa n).1,(Qa n).2];go_wp2_with fail;go_roundw
   case rel=>exact⟨3,rfl,by decide,X⟩
   case measure=>simp[intOf]
  have g1:(h==0)=false:=beq_eq_false_iff_ne.2 y;have D:=k y;obtain⟨W,F,sc⟩:=sc2 r (Ji h) (Ji t);obtain⟨a9,aa,yf⟩:=cl2 r;have s:=hide (Ya (sc.below B (by have:=Qa O;omega)) (Ya sc.box D));have I:=hide F;clear g d a j k heq l m z o C B r F sc D;go_upto_region 8 with fail;rw[<- (Qa n).1,(Qa n).2];go_wp2_with fail;rw[<- Qa I];obtain⟨L,M,uf⟩:=cl2 (Qa s).2.1;refine bodyPost_ret (v:=ftV (h,t)) (by simp[results,Tryz.results10,go_sem,L,M,ftV]) rfl ?_;exact⟨by rw[(Qa s).2.2],(Qa s).1⟩
 ·
  have A:=Qgt (Ct.later K d) (hInf c);obtain⟨⟨h,t⟩,u⟩:∃f,wClauseP p p.clauses=f:=⟨_,rfl⟩;rw[u]at A;have k:h≠0->ckF p 0=(h,t):=fun e=>by
   rw[E,ckF,u,if_pos e]
  have heq:h=0->ckF p 0=ckF p 4:=fun e=>by
   rw[E,ckF,u,if_neg (by simpa using e)];rfl
  obtain⟨R,T,U,V⟩:=cl4f N;have Y:=hide (Ya d (Ya a (Ya j (Ya k heq))));clear d E hn0 hP hts hInf P Q G K N a j u k heq HI;go_wp2_with fail;refine A.mono ?_;clear A R T U V;rintro en H⟨rfl,g⟩;unfold ftV;obtain⟨d,a,j,k,heq⟩:=Qa Y;obtain⟨w7,l⟩:=JE (H.alloc (.cells #[Ji h,Ji t] 31));have m:=bnw l;have z:=nnw l;obtain⟨xb,o⟩:=JF H.heap.size;rw[o]at z;have C:=d.trans ((g.trans (m.mono g.size)).mono d.size);have B:=j.trans ((g.trans (m.mono g.size)).mono j.size);have r:=(m.block _ (Qaa ((g.block _ (Qaa a)).trans a))).trans ((g.block _ (Qaa a)).trans a);have n:=hide (Ya l o);obtain⟨ai,aj,zf⟩:=cl2 z;by_cases y:h=0
  ·
   have X:=hide (Ya C (heq y));subst y;clear g d a j k heq l m z o C B r;go_upto_region 8 with fail;rw[<- (Qa n).1,(Qa n).2];go_wp2_with fail;go_roundw
   case rel=>exact⟨4,rfl,by decide,X⟩
   case measure=>simp[intOf]
  have g1:(h==0)=false:=beq_eq_false_iff_ne.2 y;have D:=k y;obtain⟨W,F,sc⟩:=sc2 r (Ji h) (Ji t);obtain⟨a9,aa,yf⟩:=cl2 r;have s:=hide (Ya (sc.below B (by have:=Qa O;omega)) (Ya sc.box D));have I:=hide F;clear g d a j k heq l m z o C B r F sc D;go_upto_region 8 with fail;rw[<- (Qa n).1,(Qa n).2];go_wp2_with fail;rw[<- Qa I];obtain⟨L,M,uf⟩:=cl2 (Qa s).2.1;refine bodyPost_ret (v:=ftV (h,t)) (by simp[results,Tryz.results10,go_sem,L,M,ftV]) rfl ?_;exact⟨by rw[(Qa s).2.2],(Qa s).1⟩
 obtain⟨W,F,sc⟩:=sc2 a (Ji 0) (Ji 0);obtain⟨a9,aa,yf⟩:=cl2 a;have D:ckF p 0=(0,0):=E;have s:=hide (Ya (sc.below j (by have:=Qa O;omega)) (Ya sc.box D));have I:=hide F;clear F sc D d E hn0 hP hts hInf P Q G K N a j;go_wp2_with fail;rw[<- Qa I];obtain⟨L,M,uf⟩:=cl2 (Qa s).2.1;refine bodyPost_ret (v:=ftV (0,0)) (by simp[results,Tryz.results10,go_sem,L,M,ftV]) rfl ?_;exact⟨by rw[(Qa s).2.2],(Qa s).1⟩
theorem Qmu(hn0:n0<=w.heap.size)(hP:PgS (fun b=>b<n0) w [.slice a0 k0 c0,.slice a1 k1 c1,.slice a2 0 c2,.slice a3 0 c3,.slice a4 k4 c4] p)(hts:p.types.length<=1000000000)(hInf:∀(c:CatP) (x:Cls),x∈p.clauses->InfC n0 p c x):
  Calls Tryz.prog 10 #[.agg #[.slice a0 k0 c0,.slice a1 k1 c1,.slice a2 0 c2,.slice a3 0 c3,.slice a4 k4 c4]] w fun en w'=>en = .returned (ftV (ckF p 0))/\Below w.heap.size w w':=Qfk hn0 hP.toO hts hInf
end
section
variable {n0:Nat}{p:Pg}{w:World}{a0 a1 a2 a3 a4:Option Addr}{k0 k1 k2 k3 k4 c0 c1 c2 c3 c4:Nat}
theorem InfA.up{R:Except Flt (List Fld)}{w w1 w2 W:World}{en:Ending}{fb:Nat}(h:InfA R w1 en w2)(hw:w.heap.size<=w1.heap.size)(hb:Below w.heap.size w W)(hf:fb<w1.heap.size)(ho:∀q,q≠fb->W.heap[q]?=w2.heap[q]?):InfA R w en W:=by
 refine⟨hb,?_⟩
 cases R with
 |error f=>exact h.2
 |ok vs=>
  obtain⟨_,sl,e,d⟩:=h;refine⟨sl,e,d.1,?_⟩;rcases d.2 with a|⟨g,cap,i,j,a,k,l⟩
  ·exact .inl a
  ·exact .inr ⟨g,cap,i,j,by omega,(ho g (by omega)).trans k,l⟩
theorem Qjq(hn0:n0<=w.heap.size)(hP:PgS (fun b=>b<n0) w [.slice a0 k0 c0,.slice a1 k1 c1,.slice a2 k2 c2,.slice a3 k3 c3,.slice a4 k4 c4] p)(hts:p.types.length<=1000000000)(x:Cls){aa ba:Option Addr}{an ac bn bc:Nat}(hA:LsAt PE 5 (fun b=>b<n0) w (.slice aa an ac) x.head.args)(hB:LsAt PLt 16 (fun b=>b<n0) w (.slice ba bn bc) x.body)(hInf:∀c,InfC n0 p c x):
  Calls Tryz.prog 14 #[.agg #[.slice a0 k0 c0,.slice a1 k1 c1,.slice a2 k2 c2,.slice a3 k3 c3,.slice a4 k4 c4],.agg #[str x.head.rel,.slice aa an ac,Ji x.head.at_,.slice ba bn bc,Ji x.at_]] w fun en w'=>InfA (infP p x) w en w':=by
 obtain⟨u,g⟩:=JE (w.alloc (.cells #[.slice a0 k0 c0,.slice a1 k1 c1,.slice a2 k2 c2,.slice a3 k3 c3,.slice a4 k4 c4] 28));obtain⟨y,M,B,U,k,t⟩:=Qat u #[str x.head.rel,.slice aa an ac,Ji x.head.at_,.slice ba bn bc,Ji x.at_] 45;have D:=bnw g;have T:=(B.block _ (Qaa (nnw g))).trans (nnw g);have F:u.heap.size=w.heap.size+1:=by rw[g];simp
 have A:=D.trans (B.mono D.size);have a:=A.trans ((Below.refl _ y).drew.mono A.size);have G:=Qkf (n0:=n0) (w:=y.drew) (by have:=a.size;omega) (PgS.toO (Qal.same _ _ _ _ _ hP a.size (fun q _ hl=>a.block q hl))) hts;have i:=hide (show y.drew.heap[w.heap.size]?=some (.cells #[.slice a0 k0 c0,.slice a1 k1 c1,.slice a2 k2 c2,.slice a3 k3 c3,.slice a4 k4 c4] 28 (0,0))/\y.drew.heap[u.heap.size]?=some (.cells #[str x.head.rel,.slice aa an ac,Ji x.head.at_,.slice ba bn bc,Ji x.at_] 45 (0,0)) from ⟨T,U⟩);have m:=hide (Ya M (Ya g F));have H0:=hide (Ya hA (Ya hB (Ya hInf (Ya a (Ya k t)))));rw[F]at i;clear g M B U k t D T F A a hn0 hP hts hA hB hInf;go_enter Tryz.func14,Tryz.ntmps14;go_upto_region 1 with fail;have E:=(Qa m).1;rw[(Qa m).2.1]at E;rw[<- E];clear E;refine Qaz (md:=[(0,true),(2,true),(1,false),(3,false),(4,true),(5,true),(6,true),(7,false)]) (fun w'=>w'.heap[w.heap.size]?=some (.cells #[.slice a0 k0 c0,.slice a1 k1 c1,.slice a2 k2 c2,.slice a3 k3 c3,.slice a4 k4 c4] 28 (0,0))/\w'.heap[w.heap.size+1]?=some (.cells #[str x.head.rel,.slice aa an ac,Ji x.head.at_,.slice ba bn bc,Ji x.at_] 45 (0,0))) mixedO (by kernel_rfl) rfl (by kernel_rfl) (fun PP J=>?_)
 iterate 2 refine Qac rfl (by kernel_rfl) (fun w' hw=>by obtain⟨a8,a9,ab,ad,ae,kf⟩:=cl5 hw.1;obtain⟨af,ag,ah,ai,aj,lf⟩:=cl5 hw.2;go_simp<;>rfl) ?_
 refine Qak rfl (Qa i) (fun K d=>?_);go_simp;refine G.mono ?_;clear G;rintro en z⟨c,rfl,R,j⟩;show K _ _;refine d _ _ ?_;clear d K;have h:z.heap[w.heap.size]?=_/\z.heap[w.heap.size+1]?=_:=⟨(j.block _ (Qaa (Qa i).1)).trans (Qa i).1,(j.block _ (Qaa (Qa i).2)).trans (Qa i).2⟩;obtain⟨hA,hB,hInf,a,k,t⟩:=Qa H0;have e:=a.trans (j.mono a.size);have L:=hInf c z aa ba an ac bn bc R (hA.later Qag e) (hB.later Qb e);have n:z.heap[u.heap.size+1]?=_:=(j.block _ (Qaa k)).trans k;have s4:=j.size;refine Qak rfl h (fun K d=>?_);clear hA hB hInf R;go_simp;refine L.mono ?_;clear L;rintro en V s;have l:=s.1;obtain⟨sa,sn,Y,f,rfl,hf⟩:=Qgx s;obtain⟨O,P⟩:=f;unfold ftV;show K _ _;refine d _ _ ?_;clear d K;have r:V.heap[w.heap.size]?=_/\V.heap[w.heap.size+1]?=_:=⟨(l.block _ (Qaa h.1)).trans h.1,(l.block _ (Qaa h.2)).trans h.2⟩;have o:=(l.block _ (Qaa n)).trans n;rw[(Qa m).2.2]at o;obtain⟨W,Q,sc⟩:=sc2 o (Ji O) (Ji P);obtain⟨a6,a7,yf⟩:=cl2 o;have I:=e.trans (l.mono e.size);have H:=s.up (w:=w) (W:=W) (fb:=w.heap.size+1+1) (by have:=e.size;omega) (sc.below I (by omega)) (by rw[<- (Qa m).2.2];exact Qaa n) sc.oth;have N:W.heap[w.heap.size]?=_/\W.heap[w.heap.size+1]?=_:=⟨(sc.oth _ (by omega)).trans r.1,(sc.oth _ (by omega)).trans r.2⟩;have C:=hide (Ya H (Ya sc.box N));have X:=hide Q;clear s l hf h a k t e n s4 o Q sc I H N j
 iterate 3 refine Qac rfl (by kernel_rfl) (fun _ _=>by go_simp<;>rfl) ?_
 refine Qak rfl r (fun K d=>?_);clear r;go_simp;refine d _ _ ?_;clear d K;rw[<- Qa X];refine Qbc (Qa C).2.2 (J _ _ ?_);clear J PP a6 a7 yf;go_wp2_with fail;obtain⟨Z,a5,uf⟩:=cl2 (Qa C).2.1;refine bodyPost_ret (v:=.tuple #[.slice sa sn Y,ftV (O,P)]) (by simp[results,Tryz.results14,go_sem,Z,a5,ftV]) rfl ?_;exact(Qa C).1
end
def kdP(p:Pg)(t:Txt):Option Typ:=p.types.find? fun x=>x.name==t
def KdA(o:Option Typ)(en:Ending):Prop:=match o with
 |some x=>∃xa xc,en = .returned (.tuple #[.agg #[str x.name,str x.sub,.slice xa x.ctors.length xc,.int .i64 x.at_],.bool true])
 |none=>en = .returned (.tuple #[.agg #[.string ⟨#[]⟩,.string ⟨#[]⟩,.slice none 0 0,.int .i64 0],.bool false])
section
variable {S:Nat->Prop}{p:Pg}{w:World}{a0 a1 a2 a3 a4:Option Addr}{k0 k1 k2 k3 k4 c0 c1 c2 c3 c4:Nat}
end
abbrev TxR(w:World)(b:Nat)(sl:Value)(xs:List Txt):Prop:=w.ownsRow b 9 1 sl xs.length (xs.map str)
section
variable {w:World}{b:Nat}{sl:Value}{xs:List Txt}
theorem TxR.at(h:TxR w b sl xs):∃a cap,sl = .slice a xs.length cap/\xs.length<=cap/\cap<=9223372036854775807 /\ ∀i s,xs[i]?=some s -> ∃g,a=some (Ja g 0)/\w.cell? (Ja g i)=some (str s):=by
 rcases h.2 with ⟨e,f⟩|⟨g,cap,o,e,f,l,m,j,q,n⟩
 ·
  refine⟨none,0,by rw[e,f],by omega,by decide,fun i s d=>?_⟩;have:=(List.getElem?_eq_some_iff.1 d).1;omega
 refine⟨some (Ja g 0),cap,e,m,by unfold maxLen at j;exact j,fun i s d=>⟨g,rfl,?_⟩⟩;rw[Qad l];have r:=(List.getElem?_eq_some_iff.1 d).1;have k:(xs.map str)[i]?=some (str s):=by rw[List.getElem?_map,d];rfl
 rw[<- n,List.getElem?_take_of_lt (by omega)]at k
 simpa using k
end
end
end Go.Proofs.YtkhndlnadhggkaaGreat
