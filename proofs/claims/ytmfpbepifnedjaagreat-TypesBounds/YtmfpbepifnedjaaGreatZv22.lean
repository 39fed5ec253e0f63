/- types. -/
import Derived.Test.YtmfpbepifnedjaaGreatZv01
import Derived.Test.YtmfpbepifnedjaaGreatZv21
import Derived.Test.YtmfpbepifnedjaaGreatZv12
import Derived.Test.YtmfpbepifnedjaaGreatZv05
set_option maxRecDepth 100000
set_option maxHeartbeats 32000000
namespace Go.Proofs.YtmfpbepifnedjaaGreat
section
open Go.RowKit Go.Maps
theorem Qhh{R:Except Flt (List Fld)}{w w':World}{en:Ending}(h:InfA R w en w'):∃sa sn sc0 f,en = .returned (.tuple #[.slice sa sn sc0,ftV f])/\((∃v,R = .ok v/\f=(0,0))∨(R = .error f/\f.1≠0)):=by
 cases R with
 |ok vs=>
  obtain⟨_,sl,e,d⟩:=h;obtain⟨sa,sn,sc0,rfl⟩:∃sa sn sc0,sl = .slice sa sn sc0:=by
   rcases d.2 with ⟨e,_⟩|⟨g,cap,j,e,_⟩
   ·exact⟨_,_,_,e⟩
   ·exact⟨_,_,_,e⟩
  exact⟨sa,sn,sc0,_,e,.inl ⟨vs,rfl,rfl⟩⟩
 |error f=>
  obtain⟨_,e,a⟩:=h;exact⟨_,_,_,f,e,.inr ⟨rfl,a⟩⟩
def InfC(n0:Nat)(p:Pg)(c:CatP)(x:Cls):Prop:=∀(W:World) (aa ba:Option Addr) (an ac bn bc:Nat),Cs n0 p c W->LsAt PE 5 (fun b=>b<n0) W (.slice aa an ac) x.head.args->LsAt PLt 16 (fun b=>b<n0) W (.slice ba bn bc) x.body->Calls Tryz.prog 42 #[.pointer (some ⟨c.cb,0,none⟩),.agg #[str x.head.rel,.slice aa an ac,.int .i64 x.head.at_,.slice ba bn bc,.int .i64 x.at_]] W fun en w'=>InfA (infP p x) W en w'
section
variable {n0:Nat}{p:Pg}{c:CatP}{w:World}
theorem Qhc(h:Cs n0 p c w)(hInf:∀x∈p.clauses,InfC n0 p c x):
  Calls Tryz.prog 34 #[.pointer (Js c.cb)] w fun en w'=>en = .returned (ftV (wClauseP p p.clauses))/\Below w.heap.size w w':=by
 obtain⟨vt,vd,vc,vi,vl,ev,qt,qd,qc,qi,q⟩:=h.prg.cells;simp only[List.cons.injEq,and_true]at ev;rw[<- ev.2.2.2.2]at q;obtain⟨a1,k1,c1,X⟩:∃a n d,c.v4 = .slice a n d:=by
  obtain⟨_,_,e⟩:=q.sl;exact⟨_,_,_,e⟩
 rw[X]at q;have a9:k1=p.clauses.length:=by obtain⟨_,_,e⟩:=q.sl;cases e;rfl
 have az:=q.cap rfl;obtain⟨w1,J⟩:=JE (w.alloc (.cells #[Ji 0,Ji 0] 31));have b1:=bnw J;have n1:=nnw J;obtain⟨rb,I⟩:=JF w.heap.size;rw[I]at n1;have a5:=hide I;obtain⟨aj,ak,al,am,ad,ao,ap,aq,ar,xf⟩:=cl9 (Ct.later h b1).box;rw[X]at ad;have a6:=hide (Ya J I);have H0:=hide (Ya h (Ya q (Ya a9 hInf)));have H1:=hide (Ya b1 n1);clear h hInf ev qt qd qc qi q X a9 J b1 n1 I aj ak al am ao ap aq ar;go_enter Tryz.func34,Tryz.ntmps34;go_upto_region 1 with fail;rw[<- (Qa a6).1,(Qa a6).2];go_wp2_with fail;clear ad xf;go_loopw [13] (fun v wr=>∃i:Nat,v = Ji (i:Int)/\i<=k1/\Hid (Below w.heap.size w wr/\wr.heap[rb]?=some (.cells #[Ji 0,Ji 0] 31 (0,0))/\wClauseP p p.clauses=wClauseP p (p.clauses.drop i))) (fun v _=>k1 - (intOf v).toNat)
 case atStart=>exact⟨0,rfl,Nat.zero_le _,hide ⟨(Qa H1).1,(Qa H1).2,rfl⟩⟩
 obtain⟨i,rfl,hi,HI⟩:=hrel;by_cases aA:i<k1
 rotate_left
 ·
  have ai:i=k1:=by omega
  subst ai;obtain⟨r,y,g⟩:=Qa HI;rw[List.drop_of_length_le (by rw[(Qa H0).2.2.1];exact Nat.le_refl _)]at g;have j:wClauseP p p.clauses=(0,0):=g;clear g;obtain⟨W,D,sc⟩:=sc2 y (Ji 0) (Ji 0);obtain⟨au,av,yf⟩:=cl2 y;have o:=hide (Ya (sc.below r (Nat.le_of_eq (Qa a5))) (Ya sc.box j));have U:=hide D;clear D sc j;go_wp2_with fail;rw[<- Qa U];obtain⟨Y,Z,uf⟩:=cl2 (Qa o).2.1;refine bodyPost_ret (v:=ftV (0,0)) (by simp[results,Tryz.results34,go_sem,Y,Z,ftV]) rfl ?_;exact⟨by rw[(Qa o).2.2],(Qa o).1⟩
 obtain⟨h,hL,hn,hInf⟩:=Qa H0;obtain⟨r,y,g⟩:=Qa HI;obtain⟨d,Q⟩:∃d,p.clauses[i]?=some d:=⟨p.clauses[i]'(by omega),List.getElem?_eq_getElem _⟩;rw[Qkx Q,wClauseP]at g;obtain⟨C,cap,cs,e1,ah,hS,_,ag,u⟩:=(hL.later Qay r).elem Q;obtain⟨aa,an,ac,ba,bn,bc,rfl,hA,hB⟩:=ag;simp only[Value.slice.injEq]at e1;obtain⟨rfl,-,-⟩:=e1;have y0:wr.cell? (Ja C (i*5))=some (str d.head.rel):=u 0 _ rfl;have y1:wr.cell? (Ja C (i*5+1))=some (.slice aa an ac):=u 1 _ rfl;have y2:wr.cell? (Ja C (i*5+2))=some (Ji d.head.at_):=u 2 _ rfl;have y3:wr.cell? (Ja C (i*5+3))=some (.slice ba bn bc):=u 3 _ rfl;have y4:wr.cell? (Ja C (i*5+4))=some (Ji d.at_):=u 4 _ rfl;obtain⟨w3,K⟩:=JE (wr.alloc (.cells #[str d.head.rel,.slice aa an ac,Ji d.head.at_,.slice ba bn bc,Ji d.at_] 45));have B:=bnw K;have n3:=nnw K;obtain⟨tb,V⟩:=JF wr.heap.size;rw[V]at n3;have k:=r.trans (B.mono r.size);have m:=(B.block _ (Qaa y)).trans y;have a8:=hInf d (List.mem_of_getElem? Q) w3 aa ba an ac bn bc (Ct.later h k) (hA.later Qaf B) (hB.later Qaz B);obtain⟨ae,af,aw,ax,ay,zf⟩:=cl5 n3;have H3:=hide (Ya k (Ya m g));have a7:=hide (Ya K V);clear h hL hn hInf r y Q g ah hS u hA hB K B n3 V k m;go_upto_region 4 with fail;rw[<- (Qa a7).1,(Qa a7).2];go_wp2_with fail;refine a8.mono ?_;clear a8 y0 y1 y2 y3 y4 ae af aw ax ay zf;rintro en w4 P;have M:=P.1;obtain⟨sa,sn,ab,f,rfl,R⟩:∃sa sn ab f,en = .returned (.tuple #[.slice sa sn ab,ftV f])/\((∃v,infP p d = .ok v/\f=(0,0))∨(infP p d = .error f/\f.1≠0)):=Qhh P;obtain⟨s,O⟩:=f;unfold ftV;obtain⟨k,m,g⟩:=Qa H3;obtain⟨w5,z⟩:=JE (w4.alloc (.cells #[Ji s,Ji O] 31));have N:=bnw z;have T:=nnw z;obtain⟨fb,H⟩:=JF w4.heap.size;rw[H]at T;have F:=k.trans (M.mono k.size);have L:=(M.block _ (Qaa m)).trans m;have G:=F.trans (N.mono F.size);have A:=(N.block _ (Qaa L)).trans L;have E:=hide (Ya z H);obtain⟨ae,af,zf⟩:=cl2 T
 by_cases hz:s=0
 ·
  subst hz;have j:wClauseP p p.clauses=wClauseP p (p.clauses.drop (i+1)):=by
   rcases R with ⟨v,e,_⟩|⟨_,e⟩
   ·rw[g,e]
   ·exact absurd rfl e
  have H5:=hide (Ya G (Ya A j));clear R P M k m g z N T H F L G A j;go_upto_region 5 with fail;rw[<- (Qa E).1,(Qa E).2];go_wp2_with fail;go_roundw
  case rel=>exact⟨i+1,by congr 1,by omega,H5⟩
  case measure=>simp[intOf];omega
 have g1:(s==0)=false:=beq_eq_false_iff_ne.2 hz;have j:wClauseP p p.clauses=(s,O):=by
  rcases R with ⟨v,e,e2⟩|⟨e,_⟩
  ·
   cases e2
   exact absurd rfl hz
  ·rw[g,e]
 clear R P M k m g z N T H F L;obtain⟨W,D,sc⟩:=sc2 A (Ji s) (Ji O);obtain⟨au,av,yf⟩:=cl2 A;have o:=hide (Ya (sc.below G (Nat.le_of_eq (Qa a5))) (Ya sc.box j));have U:=hide D;clear D sc j G A;go_upto_region 5 with fail;rw[<- (Qa E).1,(Qa E).2];go_wp2_with fail;rw[<- Qa U];obtain⟨Y,Z,uf⟩:=cl2 (Qa o).2.1;refine bodyPost_ret (v:=ftV (s,O)) (by simp[results,Tryz.results34,go_sem,Y,Z,ftV]) rfl ?_;exact⟨by rw[(Qa o).2.2],(Qa o).1⟩
end
section
variable {n0:Nat}{p:Pg}{w:World}{a0 a1 a2 a3 a4:Option Addr}{k0 k1 k2 k3 k4 c0 c1 c2 c3 c4:Nat}
theorem Qsx(w:World):Calls Tryz.prog 28 #[.agg #[.slice a0 k0 c0,.slice a1 k1 c1,.slice a2 0 c2,.slice a3 0 c3,.slice a4 k4 c4]] w fun en w'=>en = .returned (.bool true)/\Below w.heap.size w w':=by
 obtain⟨o,a⟩:=JE (w.alloc (.cells #[.slice a0 k0 c0,.slice a1 k1 c1,.slice a2 0 c2,.slice a3 0 c3,.slice a4 k4 c4] 28));have d:=bnw a;have e:=nnw a;obtain⟨h,j,k,m,n,q⟩:=cl5 e;have f:=hide a;have g:=hide d;clear a d e;go_enter Tryz.func28,Tryz.ntmps28;go_upto_region 1 with fail;rw[<- Qa f];go_wp2_with fail;go_ret;exact⟨rfl,Qa g⟩
end
def ckF(p:Pg):Nat->Flt
 | 0=>if (wNameP p p.types.zipIdx).1≠0 then wNameP p p.types.zipIdx else if (wTypeP p p.types.zipIdx).1≠0 then wTypeP p p.types.zipIdx else if (wDeclP p p.decls.zipIdx).1≠0 then wDeclP p p.decls.zipIdx else if (wClauseP p p.clauses).1≠0 then wClauseP p p.clauses else (0,0)
 | 1=>if (wTypeP p p.types.zipIdx).1≠0 then wTypeP p p.types.zipIdx else if (wDeclP p p.decls.zipIdx).1≠0 then wDeclP p p.decls.zipIdx else if (wClauseP p p.clauses).1≠0 then wClauseP p p.clauses else (0,0)
 | 2=>if (wDeclP p p.decls.zipIdx).1≠0 then wDeclP p p.decls.zipIdx else if (wClauseP p p.clauses).1≠0 then wClauseP p p.clauses else (0,0)
 | 3=>if (wClauseP p p.clauses).1≠0 then wClauseP p p.clauses else (0,0)
 |_=>(0,0)
theorem cl4f{w:World}{b:Nat}{T:TypeId}{v0 v1 v2 v3:Value}(h:w.heap[b]?=some (.cells #[v0,v1,v2,v3] T (0,0))):w.cell? (Ja b 0)=some v0/\w.cell? (Ja b 1)=some v1/\w.cell? (Ja b 2)=some v2/\w.cell? (Ja b 3)=some v3:=
 ⟨(Qad h 0).trans rfl,(Qad h 1).trans rfl,(Qad h 2).trans rfl,(Qad h 3).trans rfl⟩
section
variable {n0:Nat}{p:Pg}{w:World}{a0 a1 a2 a3 a4:Option Addr}{k0 k1 k4 c0 c1 c2 c3 c4:Nat}
theorem Qhe(hn0:n0<=w.heap.size)(hP:PgS (fun b=>b<n0) w [.slice a0 k0 c0,.slice a1 k1 c1,.slice a2 0 c2,.slice a3 0 c3,.slice a4 k4 c4] p)(hts:p.types.length<=1000000000)(hInf:∀(c:CatP) (x:Cls),x∈p.clauses->InfC n0 p c x):
  Calls Tryz.prog 10 #[.agg #[.slice a0 k0 c0,.slice a1 k1 c1,.slice a2 0 c2,.slice a3 0 c3,.slice a4 k4 c4]] w fun en w'=>en = .returned (ftV (ckF p 0))/\Below w.heap.size w w':=by
 obtain⟨w2,an,b2,nx,nf,s2⟩:=Qas w #[.slice a0 k0 c0,.slice a1 k1 c1,.slice a2 0 c2,.slice a3 0 c3,.slice a4 k4 c4] 28;have al:=Qsx (a0:=a0) (k0:=k0) (c0:=c0) (a1:=a1) (k1:=k1) (c1:=c1) (a2:=a2) (c2:=c2) (a3:=a3) (c3:=c3) (a4:=a4) (k4:=k4) (c4:=c4) w2;obtain⟨ad,ae,af,ag,ah,xf⟩:=cl5 nx;obtain⟨rb,am⟩:=JF w.heap.size;have Q:=hide am;have ap:=hide an;have H0:=hide (Ya hn0 (Ya hP (Ya hts hInf)));have H2:=hide (Ya b2 (Ya nx (Ya nf s2)));clear an b2 nx nf s2 hn0 hP hts hInf am;go_enter Tryz.func10,Tryz.ntmps10;go_upto_region 1 with fail;rw[<- Qa ap];go_wp2_with fail;refine al.mono ?_;clear al ad ae af ag ah xf;rintro en w3⟨rfl,b3⟩;obtain⟨b2,nx,nf,s2⟩:=Qa H2;obtain⟨hn0,hP,hts,hInf⟩:=Qa H0;have ao:=(b3.block _ (Qaa nx)).trans nx;have a6:=(b3.block _ (Qaa nf)).trans nf;have L:=b2.trans (b3.mono b2.size);have ab:=Qkw (n0:=n0) (w:=w3) (by have:=L.size;omega) (Qak.same _ _ _ _ _ hP L.size (fun q _ hl=>L.block q hl)) hts;obtain⟨ad,ae,af,ag,ah,xf⟩:=cl5 ao;have H3:=hide (Ya L a6);clear b2 nx nf s2 hn0 hP hts hInf ao a6 L b3;go_wp2_with fail;refine ab.mono ?_;clear ab ad ae af ag ah xf;rintro en w4⟨c,rfl,hc,b4⟩;obtain⟨L,a6⟩:=Qa H3;have a7:=(b4.block _ (Qaa a6)).trans a6;have a5:=L.trans (b4.mono L.size);have H4:=hide (Ya a5 (Ya a7 hc));clear L a6 a7 a5 hc b4;obtain⟨w5,a8⟩:=JE (w4.alloc (.cells #[.func (.func 31) #[.pointer (Js c.cb)] #[],.func (.func 32) #[.pointer (Js c.cb)] #[],.func (.func 33) #[.pointer (Js c.cb)] #[],.func (.func 34) #[.pointer (Js c.cb)] #[]] 89));obtain⟨a5,a7,hc⟩:=Qa H4;have b5:=bnw a8;have I:=nnw a8;obtain⟨fb,ac⟩:=JF w4.heap.size;rw[ac]at I;have H5:=hide (Ya (a5.trans (b5.mono a5.size)) (Ya ((b5.block _ (Qaa a7)).trans a7) (Ya I (Ct.later hc b5))));have ak:=hide (Ya a8 ac);clear a5 a7 hc a8 b5 I ac;go_wp2_with fail;rw[<- (Qa ak).1,(Qa ak).2,Qa Q]
 go_loopw [24] (fun v wr=>∃i:Nat,v = Ji (i:Int)/\i<=4/\Hid (Below w5.heap.size w5 wr/\ckF p 0=ckF p i)) (fun v _=>4 - (intOf v).toNat)
 case atStart=>exact⟨0,rfl,by decide,hide ⟨Below.refl _ _,rfl⟩⟩
 obtain⟨i,rfl,hi,HI⟩:=hrel;obtain⟨d,G⟩:=Qa HI;obtain⟨hn0,hP,hts,hInf⟩:=Qa H0;obtain⟨R,T,I,M⟩:=Qa H5;have P:=(d.block _ (Qaa I)).trans I;have a:=(d.block _ (Qaa T)).trans T;rw[Qa Q]at a;have j:=R.trans (d.mono R.size);have aq:i=0∨i=1∨i=2∨i=3∨i=4:=by omega
 rcases aq with rfl|rfl|rfl|rfl|rfl
 ·
  have C:=Qjb (Ct.later M d) hts;obtain⟨⟨h,y⟩,z⟩:∃f,wNameP p p.types.zipIdx=f:=⟨_,rfl⟩;rw[z]at C;have k:h≠0->ckF p 0=(h,y):=fun e=>by
   rw[G,ckF,z,if_pos e]
  have heq:h=0->ckF p 0=ckF p 1:=fun e=>by
   rw[G,ckF,z,if_neg (by simpa using e)];rfl
  obtain⟨U,V,X,Y⟩:=cl4f P;have HR:=hide (Ya d (Ya a (Ya j (Ya k heq))));clear d G hn0 hP hts hInf R T I M P a j z k heq HI;go_wp2_with fail;refine C.mono ?_;clear C U V X Y;rintro en J⟨rfl,g⟩;unfold ftV;obtain⟨d,a,j,k,heq⟩:=Qa HR;obtain⟨w7,m⟩:=JE (J.alloc (.cells #[Ji h,Ji y] 31));have n:=bnw m;have B:=nnw m;obtain⟨xb,r⟩:=JF J.heap.size;rw[r]at B;have E:=d.trans ((g.trans (n.mono g.size)).mono d.size);have D:=j.trans ((g.trans (n.mono g.size)).mono j.size);have s:=(n.block _ (Qaa ((g.block _ (Qaa a)).trans a))).trans ((g.block _ (Qaa a)).trans a);have o:=hide (Ya m r);obtain⟨ai,aj,zf⟩:=cl2 B;by_cases A:h=0
  ·
   have Z:=hide (Ya E (heq A));subst A;clear g d a j k heq m n B r E D s;go_upto_region 8 with fail;rw[<- (Qa o).1,(Qa o).2];go_wp2_with fail;go_roundw
   case rel=>exact⟨1,rfl,by decide,Z⟩
   case measure=>simp[intOf]
  have g1:(h==0)=false:=beq_eq_false_iff_ne.2 A;have F:=k A;obtain⟨W,H,sc⟩:=sc2 s (Ji h) (Ji y);obtain⟨a9,aa,yf⟩:=cl2 s;have u:=hide (Ya (sc.below D (by have:=Qa Q;omega)) (Ya sc.box F));have K:=hide H;clear g d a j k heq m n B r E D s H sc F;go_upto_region 8 with fail;rw[<- (Qa o).1,(Qa o).2];go_wp2_with fail;rw[<- Qa K];obtain⟨N,O,uf⟩:=cl2 (Qa u).2.1;refine bodyPost_ret (v:=ftV (h,y)) (by simp[results,Tryz.results10,go_sem,N,O,ftV]) rfl ?_;exact⟨by rw[(Qa u).2.2],(Qa u).1⟩
 ·
  have C:=Qjc (Ct.later M d) hts;obtain⟨⟨h,y⟩,z⟩:∃f,wTypeP p p.types.zipIdx=f:=⟨_,rfl⟩;rw[z]at C;have k:h≠0->ckF p 0=(h,y):=fun e=>by
   rw[G,ckF,z,if_pos e]
  have heq:h=0->ckF p 0=ckF p 2:=fun e=>by
   rw[G,ckF,z,if_neg (by simpa using e)];rfl
  obtain⟨U,V,X,Y⟩:=cl4f P;have HR:=hide (Ya d (Ya a (Ya j (Ya k heq))));clear d G hn0 hP hts hInf R T I M P a j z k heq HI;go_wp2_with fail;refine C.mono ?_;clear C U V X Y;rintro en J⟨rfl,g⟩;unfold ftV;obtain⟨d,a,j,k,heq⟩:=Qa HR;obtain⟨w7,m⟩:=JE (J.alloc (.cells #[Ji h,Ji y] 31));have n:=bnw m;have B:=nnw m;obtain⟨xb,r⟩:=JF J.heap.size;rw[r]at B;have E:=d.trans ((g.trans (n.mono g.size)).mono d.size);have D:=j.trans ((g.trans (n.mono g.size)).mono j.size);have s:=(n.block _ (Qaa ((g.block _ (Qaa a)).trans a))).trans ((g.block _ (Qaa a)).trans a);have o:=hide (Ya m r);obtain⟨ai,aj,zf⟩:=cl2 B;by_cases A:h=0
  ·
   have Z:=hide (Ya E (heq A));subst A;clear g d a j k heq m n B r E D s;go_upto_region 8 with fail;rw[<- (Qa o).1,(Qa o).2];go_wp2_with fail;go_roundw
   case rel=>exact⟨2,rfl,by decide,Z⟩
   case measure=>simp[intOf]
  have g1:(h==0)=false:=beq_eq_false_iff_ne.2 A;have F:=k A;obtain⟨W,H,sc⟩:=sc2 s (Ji h) (Ji y);obtain⟨a9,aa,yf⟩:=cl2 s;have u:=hide (Ya (sc.below D (by have:=Qa Q;omega)) (Ya sc.box F));have K:=hide H;clear g d a j k heq m n B r E D s H sc F;go_upto_region 8 with fail;rw[<- (Qa o).1,(Qa o).2];go_wp2_with fail;rw[<- Qa K];obtain⟨N,O,uf⟩:=cl2 (Qa u).2.1;refine bodyPost_ret (v:=ftV (h,y)) (by simp[results,Tryz.results10,go_sem,N,O,ftV]) rfl ?_;exact⟨by rw[(Qa u).2.2],(Qa u).1⟩
 ·
  have C:=Qja (Ct.later M d);obtain⟨⟨h,y⟩,z⟩:∃f,wDeclP p p.decls.zipIdx=f:=⟨_,rfl⟩;rw[z]at C;have k:h≠0->ckF p 0=(h,y):=fun e=>by
   rw[G,ckF,z,if_pos e]
  have heq:h=0->ckF p 0=ckF p 3:=fun e=>by
   rw[G,ckF,z,if_neg (by simpa using e)];rfl
  obtain⟨U,V,X,Y⟩:=cl4f P;have HR:=hide (Ya d (Ya a (Ya j (Ya k heq))));clear d G hn0 hP hts hInf R T I M P a j z k heq HI;go_wp2_with fail;refine C.mono ?_;clear C U V X Y;rintro en J⟨rfl,g⟩;unfold ftV;obtain⟨d,a,j,k,heq⟩:=Qa HR;obtain⟨w7,m⟩:=JE (J.alloc (.cells #[Ji h,Ji y] 31));have n:=bnw m;have B:=nnw m;obtain⟨xb,r⟩:=JF J.heap.size;rw[r]at B;have E:=d.trans ((g.trans (n.mono g.size)).mono d.size);have D:=j.trans ((g.trans (n.mono g.size)).mono j.size);have s:=(n.block _ (Qaa ((g.block _ (Qaa a)).trans a))).trans ((g.block _ (Qaa a)).trans a);have o:=hide (Ya m r);obtain⟨ai,aj,zf⟩:=cl2 B;by_cases A:h=0
  ·
   have Z:=hide (Ya E (heq A));subst A;clear g d a j k heq m n B r E D s;go_upto_region 8 with fail;rw[<- (Qa o).1,(Qa o).2];go_wp2_with fail;go_roundw
   case rel=>exact⟨3,rfl,by decide,Z⟩
   case measure=>simp[intOf]
  have g1:(h==0)=false:=beq_eq_false_iff_ne.2 A;have F:=k A;obtain⟨W,H,sc⟩:=sc2 s (Ji h) (Ji y);obtain⟨a9,aa,yf⟩:=cl2 s;have u:=hide (Ya (sc.below D (by have:=Qa Q;omega)) (Ya sc.box F));have K:=hide H;clear g d a j k heq m n B r E D s H sc F;go_upto_region 8 with fail;rw[<- (Qa o).1,(Qa o).2];go_wp2_with fail;rw[<- Qa K];obtain⟨N,O,uf⟩:=cl2 (Qa u).2.1;refine bodyPost_ret (v:=ftV (h,y)) (by simp[results,Tryz.results10,go_sem,N,O,ftV]) rfl ?_;exact⟨by rw[(Qa u).2.2],(Qa u).1⟩
 ·
  have C:=Qhc (Ct.later M d) (hInf c);obtain⟨⟨h,y⟩,z⟩:∃f,wClauseP p p.clauses=f:=⟨_,rfl⟩;rw[z]at C;have k:h≠0->ckF p 0=(h,y):=fun e=>by
   rw[G,ckF,z,if_pos e]
  have heq:h=0->ckF p 0=ckF p 4:=fun e=>by
   rw[G,ckF,z,if_neg (by simpa using e)];rfl
  obtain⟨U,V,X,Y⟩:=cl4f P;have HR:=hide (Ya d (Ya a (Ya j (Ya k heq))));clear d G hn0 hP hts hInf R T I M P a j z k heq HI;go_wp2_with fail;refine C.mono ?_;clear C U V X Y;rintro en J⟨rfl,g⟩;unfold ftV;obtain⟨d,a,j,k,heq⟩:=Qa HR;obtain⟨w7,m⟩:=JE (J.alloc (.cells #[Ji h,Ji y] 31));have n:=bnw m;have B:=nnw m;obtain⟨xb,r⟩:=JF J.heap.size;rw[r]at B;have E:=d.trans ((g.trans (n.mono g.size)).mono d.size);have D:=j.trans ((g.trans (n.mono g.size)).mono j.size);have s:=(n.block _ (Qaa ((g.block _ (Qaa a)).trans a))).trans ((g.block _ (Qaa a)).trans a);have o:=hide (Ya m r);obtain⟨ai,aj,zf⟩:=cl2 B;by_cases A:h=0
  ·
   have Z:=hide (Ya E (heq A));subst A;clear g d a j k heq m n B r E D s;go_upto_region 8 with fail;rw[<- (Qa o).1,(Qa o).2];go_wp2_with fail;go_roundw
   case rel=>exact⟨4,rfl,by decide,Z⟩
   case measure=>simp[intOf]
  have g1:(h==0)=false:=beq_eq_false_iff_ne.2 A;have F:=k A;obtain⟨W,H,sc⟩:=sc2 s (Ji h) (Ji y);obtain⟨a9,aa,yf⟩:=cl2 s;have u:=hide (Ya (sc.below D (by have:=Qa Q;omega)) (Ya sc.box F));have K:=hide H;clear g d a j k heq m n B r E D s H sc F;go_upto_region 8 with fail;rw[<- (Qa o).1,(Qa o).2];go_wp2_with fail;rw[<- Qa K];obtain⟨N,O,uf⟩:=cl2 (Qa u).2.1;refine bodyPost_ret (v:=ftV (h,y)) (by simp[results,Tryz.results10,go_sem,N,O,ftV]) rfl ?_;exact⟨by rw[(Qa u).2.2],(Qa u).1⟩
 obtain⟨W,H,sc⟩:=sc2 a (Ji 0) (Ji 0);obtain⟨a9,aa,yf⟩:=cl2 a;have F:ckF p 0=(0,0):=G;have u:=hide (Ya (sc.below j (by have:=Qa Q;omega)) (Ya sc.box F));have K:=hide H;clear H sc F d G hn0 hP hts hInf R T I M P a j;go_wp2_with fail;rw[<- Qa K];obtain⟨N,O,uf⟩:=cl2 (Qa u).2.1;refine bodyPost_ret (v:=ftV (0,0)) (by simp[results,Tryz.results10,go_sem,N,O,ftV]) rfl ?_;exact⟨by rw[(Qa u).2.2],(Qa u).1⟩
end
section
variable {n0:Nat}{p:Pg}{w:World}{a0 a1 a2 a3 a4:Option Addr}{k0 k1 k2 k3 k4 c0 c1 c2 c3 c4:Nat}
theorem InfA.up{R:Except Flt (List Fld)}{w w1 w2 W:World}{en:Ending}{fb:Nat}(h:InfA R w1 en w2)(hw:w.heap.size<=w1.heap.size)(hb:Below w.heap.size w W)(hf:fb<w1.heap.size)(ho:∀q,q≠fb->W.heap[q]?=w2.heap[q]?):InfA R w en W:=by
 refine⟨hb,?_⟩
 cases R with
 |error f=>exact h.2
 |ok vs=>
  obtain⟨_,sl,e,d⟩:=h;refine⟨sl,e,d.1,?_⟩;rcases d.2 with a|⟨g,cap,j,k,a,m,n⟩
  ·exact .inl a
  ·exact .inr ⟨g,cap,j,k,by omega,(ho g (by omega)).trans m,n⟩
theorem Qki(hn0:n0<=w.heap.size)(hP:PgS (fun b=>b<n0) w [.slice a0 k0 c0,.slice a1 k1 c1,.slice a2 k2 c2,.slice a3 k3 c3,.slice a4 k4 c4] p)(hts:p.types.length<=1000000000)(x:Cls){aa ba:Option Addr}{an ac bn bc:Nat}(hA:LsAt PE 5 (fun b=>b<n0) w (.slice aa an ac) x.head.args)(hB:LsAt PLt 16 (fun b=>b<n0) w (.slice ba bn bc) x.body)(hInf:∀c,InfC n0 p c x):
  Calls Tryz.prog 14 #[.agg #[.slice a0 k0 c0,.slice a1 k1 c1,.slice a2 k2 c2,.slice a3 k3 c3,.slice a4 k4 c4],.agg #[str x.head.rel,.slice aa an ac,Ji x.head.at_,.slice ba bn bc,Ji x.at_]] w fun en w'=>InfA (infP p x) w en w':=by
 obtain⟨A,g⟩:=JE (w.alloc (.cells #[.slice a0 k0 c0,.slice a1 k1 c1,.slice a2 k2 c2,.slice a3 k3 c3,.slice a4 k4 c4] 28));obtain⟨B,P,E,Y,m,z⟩:=Qas A #[str x.head.rel,.slice aa an ac,Ji x.head.at_,.slice ba bn bc,Ji x.at_] 45;have G:=bnw g;have X:=(E.block _ (Qaa (nnw g))).trans (nnw g);have I:A.heap.size=w.heap.size+1:=by rw[g];simp
 have D:=G.trans (E.mono G.size);have a:=D.trans ((Below.refl _ B).drew.mono D.size);have J:=Qkw (n0:=n0) (w:=B.drew) (by have:=a.size;omega) (Qak.same _ _ _ _ _ hP a.size (fun q _ hl=>a.block q hl)) hts;have j:=hide (show B.drew.heap[w.heap.size]?=some (.cells #[.slice a0 k0 c0,.slice a1 k1 c1,.slice a2 k2 c2,.slice a3 k3 c3,.slice a4 k4 c4] 28 (0,0))/\B.drew.heap[A.heap.size]?=some (.cells #[str x.head.rel,.slice aa an ac,Ji x.head.at_,.slice ba bn bc,Ji x.at_] 45 (0,0)) from ⟨X,Y⟩);have o:=hide (Ya P (Ya g I));have H0:=hide (Ya hA (Ya hB (Ya hInf (Ya a (Ya m z)))));rw[I]at j;clear g P E Y m z G X I D a hn0 hP hts hA hB hInf;go_enter Tryz.func14,Tryz.ntmps14;go_upto_region 1 with fail;have H:=(Qa o).1;rw[(Qa o).2.1]at H;rw[<- H];clear H;refine Qba (md:=[(0,true),(2,true),(1,false),(3,false),(4,true),(5,true),(6,true),(7,false)]) (fun w'=>w'.heap[w.heap.size]?=some (.cells #[.slice a0 k0 c0,.slice a1 k1 c1,.slice a2 k2 c2,.slice a3 k3 c3,.slice a4 k4 c4] 28 (0,0))/\w'.heap[w.heap.size+1]?=some (.cells #[str x.head.rel,.slice aa an ac,Ji x.head.at_,.slice ba bn bc,Ji x.at_] 45 (0,0))) mixedO (by kernel_rfl) rfl (by kernel_rfl) (fun PP N=>?_)
 iterate 2 refine Qac rfl (by kernel_rfl) (fun w' hw=>by obtain⟨ad,ae,af,ag,ah,kf⟩:=cl5 hw.1;obtain⟨ai,aj,ak,al,am,lf⟩:=cl5 hw.2;go_simp<;>rfl) ?_
 refine Qal rfl (Qa j) (fun K d=>?_);go_simp;refine J.mono ?_;clear J;rintro en C⟨c,rfl,V,k⟩;show K _ _;refine d _ _ ?_;clear d K;have h:C.heap[w.heap.size]?=_/\C.heap[w.heap.size+1]?=_:=⟨(k.block _ (Qaa (Qa j).1)).trans (Qa j).1,(k.block _ (Qaa (Qa j).2)).trans (Qa j).2⟩;obtain⟨hA,hB,hInf,a,m,z⟩:=Qa H0;have e:=a.trans (k.mono a.size);have O:=hInf c C aa ba an ac bn bc V (hA.later Qaf e) (hB.later Qaz e);have r:C.heap[A.heap.size+1]?=_:=(k.block _ (Qaa m)).trans m;have s4:=k.size;refine Qal rfl h (fun K d=>?_);clear hA hB hInf V;go_simp;refine O.mono ?_;clear O;rintro en Z y;have n:=y.1;obtain⟨sa,sn,a6,f,rfl,hf⟩:=Qhh y;obtain⟨R,T⟩:=f;unfold ftV;show K _ _;refine d _ _ ?_;clear d K;have u:Z.heap[w.heap.size]?=_/\Z.heap[w.heap.size+1]?=_:=⟨(n.block _ (Qaa h.1)).trans h.1,(n.block _ (Qaa h.2)).trans h.2⟩;have s:=(n.block _ (Qaa r)).trans r;rw[(Qa o).2.2]at s;obtain⟨W,U,sc⟩:=sc2 s (Ji R) (Ji T);obtain⟨a9,ab,yf⟩:=cl2 s;have M:=e.trans (n.mono e.size);have L:=y.up (w:=w) (W:=W) (fb:=w.heap.size+1+1) (by have:=e.size;omega) (sc.below M (by omega)) (by rw[<- (Qa o).2.2];exact Qaa r) sc.oth;have Q:W.heap[w.heap.size]?=_/\W.heap[w.heap.size+1]?=_:=⟨(sc.oth _ (by omega)).trans u.1,(sc.oth _ (by omega)).trans u.2⟩;have F:=hide (Ya L (Ya sc.box Q));have a5:=hide U;clear y n hf h a m z e r s4 s U sc M L Q k
 iterate 3 refine Qac rfl (by kernel_rfl) (fun _ _=>by go_simp<;>rfl) ?_
 refine Qal rfl u (fun K d=>?_);clear u;go_simp;refine d _ _ ?_;clear d K;rw[<- Qa a5];refine Qbc (Qa F).2.2 (N _ _ ?_);clear N PP a9 ab yf;go_wp2_with fail;obtain⟨a7,a8,uf⟩:=cl2 (Qa F).2.1;refine bodyPost_ret (v:=.tuple #[.slice sa sn a6,ftV (R,T)]) (by simp[results,Tryz.results14,go_sem,a7,a8,ftV]) rfl ?_;exact(Qa F).1
end
def kdP(p:Pg)(t:Txt):Option Typ:=p.types.find? fun x=>x.name==t
def KdA(o:Option Typ)(en:Ending):Prop:=match o with
 |some x=>∃xa xc,en = .returned (.tuple #[.agg #[str x.name,str x.sub,.slice xa x.ctors.length xc,.int .i64 x.at_],.bool true])
 |none=>en = .returned (.tuple #[.agg #[.string ⟨#[]⟩,.string ⟨#[]⟩,.slice none 0 0,.int .i64 0],.bool false])
section
variable {S:Nat->Prop}{p:Pg}{w:World}{a0 a1 a2 a3 a4:Option Addr}{k0 k1 k2 k3 k4 c0 c1 c2 c3 c4:Nat}
end
abbrev TxR(w:World)(b:Nat)(sl:Value)(xs:List Txt):Prop:=w.ownsRow b 9 1 sl xs.length (xs.map str)
section
variable {w:World}{b:Nat}{sl:Value}{xs:List Txt}
theorem TxR.at(h:TxR w b sl xs):∃a cap,sl = .slice a xs.length cap/\xs.length<=cap/\cap<=9223372036854775807 /\ ∀i s,xs[i]?=some s -> ∃g,a=some (Ja g 0)/\w.cell? (Ja g i)=some (str s):=by
 rcases h.2 with ⟨e,f⟩|⟨g,cap,q,e,f,m,n,j,r,o⟩
 ·
  refine⟨none,0,by rw[e,f],by omega,by decide,fun i s d=>?_⟩;have:=(List.getElem?_eq_some_iff.1 d).1;omega
 refine⟨some (Ja g 0),cap,e,n,by unfold maxLen at j;exact j,fun i s d=>⟨g,rfl,?_⟩⟩;rw[Qad m];have u:=(List.getElem?_eq_some_iff.1 d).1;have k:(xs.map str)[i]?=some (str s):=by rw[List.getElem?_map,d];rfl
 rw[<- o,List.getElem?_take_of_lt (by omega)]at k
 simpa using k
end
def NeT(l:List Tok):Prop:=∀t∈l,t.kind=1->t.text≠[]
def WfT(p:Pg):Prop:=∀x,x∈p.types->(x.sub=[]↔x.ctors≠[])
theorem Qbz(n:Nat):Few .none n:=⟨Nat.zero_le _,Nat.zero_le _,Nat.zero_le _,Nat.zero_le _,Nat.zero_le _⟩
inductive WfZ (n:Nat):Pg->Prop
 |mk (ts:List Typ) (ds:List Dcl) (cs:List Cp) (is:List Ini) (ls:List Cls) (hT:∀x∈ts,(x.sub=[]↔x.ctors≠[])) (hC:∀x∈cs,WfZ n x.2.2.1) (hL:∀x∈ls,x.head.rel.length<=65536/\ltQs x.body<=2*n) (hD:∀x∈ds,x.name.length<=65536) (hI:∀x∈is,x.name.length<=65536) (hB:∀x∈cs,Few x.2.2.1 97):WfZ n (.mk ts ds cs is ls)
theorem WfZ.t{n:Nat}{p:Pg}(h:WfZ n p):WfT p:=by
 cases h with
 |mk ts ds cs is ls hT hC hL hD hI hB=>exact hT
theorem WfZ.mono{n m:Nat}(hnm:n<=m):∀{p:Pg},WfZ n p->WfZ m p
 |_,.mk ts ds cs is ls hT hC hL hD hI hB=>.mk ts ds cs is ls hT (fun x hx=>WfZ.mono hnm (hC x hx)) (fun x hx=>⟨(hL x hx).1,Nat.le_trans (hL x hx).2 (by omega)⟩) hD hI hB
theorem Qcb{n:Nat}:WfZ n .none:=.mk [] [] [] [] [] (fun x a=>by cases a) (fun x a=>by cases a) (fun x a=>by cases a) (fun x a=>by cases a) (fun x a=>by cases a) (fun x a=>by cases a)
theorem wfZ_ty{n:Nat}{p:Pg}{x:Typ}(h:WfZ n p)(hx:x.sub=[]↔x.ctors≠[]):WfZ n (.mk (p.types++[x]) p.decls p.comps p.inits p.clauses):=by
 cases h with
 |mk ts ds cs is ls hT hC hL hD hI hB=>
  refine .mk _ _ _ _ _ (fun t a=>?_) hC hL hD hI hB;rcases List.mem_append.1 a with q|q
  ·exact hT t q
  ·rw[List.mem_singleton.1 q];exact hx
theorem wfZ_cp{n:Nat}{p:Pg}{x:Cp}(h:WfZ n p)(hx:WfZ n x.2.2.1)(hf:Few x.2.2.1 97):WfZ n (.mk p.types p.decls (p.comps++[x]) p.inits p.clauses):=by
 cases h with
 |mk ts ds cs is ls hT hC hL hD hI hB=>
  refine .mk _ _ _ _ _ hT (fun t a=>?_) hL hD hI (fun t a=>?_)
  ·
   rcases List.mem_append.1 a with q|q
   ·exact hC t q
   ·rw[List.mem_singleton.1 q];exact hx
  rcases List.mem_append.1 a with q|q
  ·exact hB t q
  ·rw[List.mem_singleton.1 q];exact hf
theorem Qvb{n:Nat}{p:Pg}{x:Cls}(h:WfZ n p)(hx:x.head.rel.length<=65536/\ltQs x.body<=2*n):WfZ n (.mk p.types p.decls p.comps p.inits (p.clauses++[x])):=by
 cases h with
 |mk ts ds cs is ls hT hC hL hD hI hB=>
  refine .mk _ _ _ _ _ hT hC (fun t a=>?_) hD hI hB;rcases List.mem_append.1 a with q|q
  ·exact hL t q
  ·rw[List.mem_singleton.1 q];exact hx
theorem wfZ_dc{n:Nat}{p:Pg}{x:Dcl}(h:WfZ n p)(hx:x.name.length<=65536):WfZ n (.mk p.types (p.decls++[x]) p.comps p.inits p.clauses):=by
 cases h with
 |mk ts ds cs is ls hT hC hL hD hI hB=>
  refine .mk _ _ _ _ _ hT hC hL (fun t a=>?_) hI hB;rcases List.mem_append.1 a with q|q
  ·exact hD t q
  ·rw[List.mem_singleton.1 q];exact hx
theorem wfZ_in{n:Nat}{p:Pg}{x:Ini}(h:WfZ n p)(hx:x.name.length<=65536):WfZ n (.mk p.types p.decls p.comps (p.inits++[x]) p.clauses):=by
 cases h with
 |mk ts ds cs is ls hT hC hL hD hI hB=>
  refine .mk _ _ _ _ _ hT hC hL hD (fun t a=>?_) hB;rcases List.mem_append.1 a with q|q
  ·exact hI t q
  ·rw[List.mem_singleton.1 q];exact hx
theorem Qcr{α : Type}(n:Txt)(v:α)(l:List (Txt × α))(t:Txt):asc ((n,v) :: l) t=if n=t then some v else asc l t:=by
 unfold asc;rw[List.find?_cons];by_cases h:n=t<;>simp[h]
theorem Qft:∀(ts:List Typ) (o:Nat) (t:Txt),
  (ts.find? (fun x=>x.name==t)=none->asc ((ts.zipIdx o).map fun q=>(q.1.name,3+q.2)) t=none) /\
  (∀x,ts.find? (fun x=>x.name==t)=some x -> ∃j,ts[j]?=some x/\x.name=t/\asc ((ts.zipIdx o).map fun q=>(q.1.name,3+q.2)) t=some (3+(o+j)))
 | [],o,t=>⟨fun _=>rfl,fun x h=>by cases h⟩
 |y :: ts,o,t=>by
  have ih:=Qft ts (o+1) t;rw[List.find?_cons,List.zipIdx_cons,List.map_cons,Qcr];by_cases h:y.name=t
  ·
   have a:(y.name==t)=true:=by simpa using h
   rw[a,if_pos h];exact⟨fun e=>(by cases e),fun x e=>(by cases e;exact⟨0,rfl,h,rfl⟩)⟩
  have a:(y.name==t)=false:=by simpa using h
  rw[a,if_neg h];refine⟨fun e=>ih.1 e,fun x e=>?_⟩;obtain⟨j,d,f,g⟩:=ih.2 x e;exact⟨j+1,by simpa using d,f,by rw[g];congr 1;omega⟩
theorem Qjv(p:Pg):tyNo p tNum=1:=by
 unfold tyNo tyRow;rw[Qcr,if_pos rfl];rfl
theorem Qmr(p:Pg):tyNo p tSym=2:=by
 unfold tyNo tyRow;rw[Qcr,if_neg (by decide),Qcr,if_pos rfl];rfl
theorem Qqx{p:Pg}{t:Txt}(h1:t≠tNum)(h2:t≠tSym)(h:kdP p t=none):tyNo p t=0:=by
 unfold tyNo tyRow;rw[Qcr,if_neg (fun e=>h1 e.symm),Qcr,if_neg (fun e=>h2 e.symm),(Qft p.types 0 t).1 h];rfl
theorem Qlj{p:Pg}{t:Txt}{x:Typ}(h1:t≠tNum)(h2:t≠tSym)(h:kdP p t=some x):∃j,p.types[j]?=some x/\x.name=t/\tyNo p t=3+j:=by
 obtain⟨j,a,d,f⟩:=(Qft p.types 0 t).2 x h;refine⟨j,a,d,?_⟩;unfold tyNo tyRow;rw[Qcr,if_neg (fun e=>h1 e.symm),Qcr,if_neg (fun e=>h2 e.symm),f];simp
theorem Qfe{p:Pg}{t:Txt}(h:tyNo p t≠0):kName p (tyNo p t)=t:=by
 by_cases a:t=tNum
 ·rw[a,Qjv];rfl
 by_cases d:t=tSym
 ·rw[d,Qmr];rfl
 cases e:kdP p t with
 |none=>exact absurd (Qqx a d e) h
 |some x=>
  obtain⟨j,f,g,k⟩:=Qlj a d e;rw[k,(Qqd f).1,g]
theorem Qjq{p:Pg}{k:Nat}:∀i,(∀j,j<i->kInit p (far p j k) = -1)->kBase p k=kBase p (far p i k)
 | 0,_=>rfl
 |i+1,h=>by
  rw[Qjq i (fun j hj=>h j (by omega)),Qfc (h i (by omega)),Qdb]
structure Rwy(p:Pg)(k0 i:Nat)(l:List Txt)(t:Txt):Prop where
 no:tyNo p t=far p i k0
 own:∀j,j<i->kInit p (far p j k0) = -1
 nam:l=(List.range i).map fun j=>kName p (far p j k0)
 ims:∀j,j<i->tyNo p (kName p (far p j k0))=far p j k0
 apart:∀a b,a<b->b<i->far p a k0≠far p b k0
section
variable {p:Pg}{k0 i:Nat}{l:List Txt}{t:Txt}
theorem Rwy.start(p:Pg)(t:Txt):Rwy p (tyNo p t) 0 [] t:=⟨rfl,fun j h=>absurd h (Nat.not_lt_zero j),rfl,fun j h=>absurd h (Nat.not_lt_zero j),fun _ b _ h=>absurd h (Nat.not_lt_zero b)⟩
theorem Rwy.len(h:Rwy p k0 i l t):i<=p.types.length:=by
 by_cases f:i<=p.types.length
 ·exact f
 obtain⟨a,b,d,m,e⟩:=pigeon p.types.length (fun j=>far p j k0 - 3) (fun j o=>(Qcm (h.own j (by omega))).2);have g:=Qcm (h.own a (by omega));have k:=Qcm (h.own b (by omega));have n:far p a k0 - 3=far p b k0 - 3:=e;exact absurd (by omega) (h.apart a b d (by omega))
theorem Rwy.size(h:Rwy p k0 i l t):l.length=i:=by rw[h.nam];simp
theorem Rwy.snoc(h:Rwy p k0 i l t)(hz:tyNo p t≠0):l++[t]=(List.range (i+1)).map fun j=>kName p (far p j k0):=by
 rw[List.range_succ,List.map_append,<- h.nam];show l++[t]=l++[kName p (far p i k0)];rw[<- h.no,Qfe hz]
theorem Rwy.next(h:Rwy p k0 i l t)(ha:l.any (· == t)=false)(h1:t≠tNum)(h2:t≠tSym){x:Typ}(hk:kdP p t=some x)(hc:x.ctors=[])(hw:WfT p):Rwy p k0 (i+1) (l++[t]) x.sub:=by
 obtain⟨j,k,y,m⟩:=Qlj h1 h2 hk;have u:x.sub≠[]:=fun e=>(hw x (List.mem_of_getElem? k)).1 e hc;obtain⟨A,v,n⟩:=Qqd k;rw[if_neg u,<- m,h.no]at n;have f:tyNo p t≠0:=by omega
 refine⟨?_,?_,h.snoc f,?_,?_⟩
 ·rw[Qdb,<- h.no,m,v]
 ·
  intro q s;by_cases d:q=i
  ·rw[d];exact n
  ·exact h.own q (by omega)
 ·
  intro q s;by_cases d:q=i
  ·rw[d,<- h.no,Qfe f]
  ·exact h.ims q (by omega)
 intro a b g z;by_cases o:b=i
 ·
  subst o;intro e;have r:l.any (· == t)=true:=by
   rw[h.nam,List.any_eq_true];refine⟨t,List.mem_map.2 ⟨a,List.mem_range.2 g,?_⟩,by simp⟩;rw[e,<- h.no,Qfe f]
  rw[r]at ha;cases ha
 ·exact h.apart a b g (by omega)
structure RwyE(p:Pg)(k0 i:Nat)(l:List Txt):Prop where
 nam:l=(List.range (i+1)).map fun j=>kName p (far p j k0)
 own:∀j,j<i->kInit p (far p j k0) = -1
 last:kInit p (far p i k0)=(far p i k0:Int)
 nz:far p i k0≠0
 ims:∀j,j<=i->tyNo p (kName p (far p j k0))=far p j k0
 cnt:i<=p.types.length
theorem Rwy.fin(h:Rwy p k0 i l t)(hi:kInit p (tyNo p t)=(tyNo p t:Int))(hz:tyNo p t≠0):RwyE p k0 i (l++[t]):=by
 refine⟨h.snoc hz,h.own,by rw[<- h.no];exact hi,by rw[<- h.no];exact hz,?_,h.len⟩;intro j d;by_cases a:j=i
 ·rw[a,<- h.no,Qfe hz]
 ·exact h.ims j (by omega)
theorem Rwy.num(h:Rwy p k0 i l t)(e:t=tNum∨t=tSym):RwyE p k0 i (l++[t]):=by
 rcases e with e|e
 ·
  refine h.fin ?_ ?_<;>rw[e,Qjv]
  ·rfl
  ·decide
 refine h.fin ?_ ?_<;>rw[e,Qmr]
 ·rfl
 ·decide
theorem Rwy.sum(h:Rwy p k0 i l t)(h1:t≠tNum)(h2:t≠tSym){x:Typ}(hk:kdP p t=some x)(hc:x.ctors≠[])(hw:WfT p):RwyE p k0 i (l++[t]):=by
 obtain⟨j,a,f,e⟩:=Qlj h1 h2 hk;obtain⟨g,k,d⟩:=Qqd a;rw[if_pos ((hw x (List.mem_of_getElem? a)).2 hc),<- e]at d;exact h.fin d (by omega)
theorem Rwy.none(h:Rwy p k0 i l t)(h1:t≠tNum)(h2:t≠tSym)(hk:kdP p t=none):kBase p k0=0:=by
 have e:=Qqx h1 h2 hk;rw[Qjq i h.own,<- h.no,e];exact Qfb (by show((0:Nat):Int) ≠ -1;decide)
theorem RwyE.base(h:RwyE p k0 i l):kBase p k0=(far p i k0:Int):=by
 rw[Qih p i k0 h.own (by rw[h.last];omega),h.last]
theorem RwyE.has(h:RwyE p k0 i l):hasB (kBase p k0)=true:=by
 have:=h.nz;rw[h.base];unfold hasB;rw[decide_eq_false (by omega),decide_eq_false (by omega)];rfl
theorem RwyE.size(h:RwyE p k0 i l):l.length=i+1:=by rw[h.nam];simp
theorem Qne(h:RwyE p k0 i l)(to0:Nat):∀f j,j<=i->i - j<=f->upTo p to0 (far p i k0:Int) f (far p j k0)=(List.range' j (i+1 - j)).any fun q=>decide (far p q k0=to0)
 | 0,j,h1,h2=>by
  have e:j=i:=by omega
  subst e;rw[show j+1 - j=1 by omega];simp[upTo]
 |f+1,j,h1,h2=>by
  rw[show i+1 - j=(i - j)+1 by omega,List.range'_succ,List.any_cons];unfold upTo;by_cases a:far p j k0=to0
  ·rw[if_pos a,decide_eq_true a];rfl
  rw[if_neg a,decide_eq_false a,Bool.false_or];by_cases g:j=i
  ·
   subst g;rw[if_pos rfl,Nat.sub_self];rfl
  have k:¬((far p j k0:Int)=(far p i k0:Int)):=fun e=>by
   have d:far p j k0=far p i k0:=by omega
   have q:=h.own j (by omega);rw[d,h.last]at q;omega
  rw[if_neg k,<- Qdb,Qne h to0 f (j+1) (by omega) (by omega),show i+1 - (j+1)=i - j by omega]
theorem RwyE.below(h:RwyE p k0 i l)(b:Txt):upTo p (tyNo p b) (kBase p k0) (p.types.length+1) k0=l.any (· == b):=by
 rw[h.base];have e:=Qne h (tyNo p b) (p.types.length+1) 0 (Nat.zero_le _) (by have:=h.cnt;omega);rw[show far p 0 k0=k0 from rfl]at e;rw[e,h.nam,List.any_map,Nat.sub_zero,List.range_eq_range'];refine Bool.eq_iff_iff.2 ?_;rw[List.any_eq_true,List.any_eq_true];constructor
 ·
  rintro⟨q,d,f⟩;refine⟨q,d,?_⟩;have g:q<i+1:=by simpa using d
  have a:far p q k0=tyNo p b:=of_decide_eq_true f;have m:tyNo p b≠0:=fun k=>by
   rw[k]at a;by_cases j:q=i
   ·rw[j]at a;exact h.nz a
   have:=h.own q (by omega);rw[a]at this;cases this
  have:kName p (far p q k0)=b:=by rw[a,Qfe m]
  simpa using this
 rintro⟨q,d,f⟩;refine⟨q,d,?_⟩;have g:q<i+1:=by simpa using d
 have a:kName p (far p q k0)=b:=by simpa using f
 have:=h.ims q (by omega);rw[a]at this;exact decide_eq_true this.symm
end
end
end Go.Proofs.YtmfpbepifnedjaaGreat
