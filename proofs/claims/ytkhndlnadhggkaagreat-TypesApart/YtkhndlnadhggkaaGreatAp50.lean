/- types. -/
import Derived.Test.YtkhndlnadhggkaaGreatAp01
import Derived.Test.YtkhndlnadhggkaaGreatAp49
import Derived.Test.YtkhndlnadhggkaaGreatAp43
import Derived.Test.YtkhndlnadhggkaaGreatAp30
import Derived.Test.YtkhndlnadhggkaaGreatAp44
set_option maxRecDepth 100000
set_option maxHeartbeats 32000000
namespace Go.Proofs.YtkhndlnadhggkaaGreat
section
open Go.RowKit Go.Maps
theorem mem_1{S:Nat->Prop}{w:World}{a0 a1 a2 a3 a4:Option Addr}{n0 q0 n1 q1 n2 q2 n3 q3 n4 q4:Nat}{a b c:Int}{o:Pl}(hP:PgS S w [.slice a0 n0 q0,.slice a1 n1 q1,.slice a2 n2 q2,.slice a3 n3 q3,.slice a4 n4 q4] (pg1 a b c o)):∃cb aa an ac ba bn bc,a4=some (Ja cb 0)/\n4=1/\cb<w.heap.size/\(∀q v,([str tQ,.slice aa an ac,Ji o.b,.slice ba bn bc,Ji o.m]:List Value)[q]?=some v->w.cell? (Ja cb q)=some v)/\LsAt PE 5 S w (.slice aa an ac) (caQ o).head.args/\LsAt PLt 16 S w (.slice ba bn bc) (caQ o).body:=by
 obtain⟨y,z,A,B,C,e,r,s,t,u,f⟩:=hP.cells;obtain⟨rfl,rfl,rfl,rfl,rfl⟩:=list5 e;obtain⟨cb,cap,p,d,i,_,x,l,k⟩:=f.elem (j:=0) rfl;obtain⟨aa,an,ac,ba,bn,bc,rfl,g,h⟩:=l;simp only[Value.slice.injEq]at d;exact⟨cb,aa,an,ac,ba,bn,bc,d.1,d.2.1,i,fun q v n=>by simpa using k q v n,g,h⟩
theorem mem_2{S:Nat->Prop}{w:World}{a0 a1 a2 a3 a4:Option Addr}{n0 q0 n1 q1 n2 q2 n3 q3 n4 q4:Nat}{a b c:Int}{o u:Pl}(hP:PgS S w [.slice a0 n0 q0,.slice a1 n1 q1,.slice a2 n2 q2,.slice a3 n3 q3,.slice a4 n4 q4] (pg2 a b c o u)):n2=0/\n3=0:=by
 obtain⟨l,m,n,p,q,f,i,j,g,h,k⟩:=hP.cells;obtain⟨rfl,rfl,rfl,rfl,rfl⟩:=list5 f;obtain⟨_,_,_,d,_⟩:=g;obtain⟨_,_,_,e,_⟩:=h;simp only[Value.slice.injEq]at d e;exact⟨d.2.1,e.2.1⟩
theorem row_1{w:World}{b:Nat}{sl:Value}(h:w.ownsRow b 67 2 sl 1 (fdCells [⟨tX,tA⟩])):∃g cap,sl = .slice (Js g) 1 cap/\b<=g/\g<w.heap.size/\w.cell? (Ja g 0)=some (str tX)/\w.cell? (Ja g 1)=some (str tA):=by
 rcases h.2 with ⟨_,e⟩|⟨g,cap,j,f,i,c,k,l,m,d⟩
 ·cases e
 refine⟨g,cap,f,i,Qaa c,?_,?_⟩
 ·
  rw[Qad c];have a:(fdCells [⟨tX,tA⟩])[0]?=some (str tX):=rfl;rw[<- d,List.getElem?_take_of_lt (by omega)]at a
  simpa using a
 rw[Qad c];have a:(fdCells [⟨tX,tA⟩])[1]?=some (str tA):=rfl;rw[<- d,List.getElem?_take_of_lt (by omega)]at a
 simpa using a
theorem lt_Q{o:Pl}:ltBs (caQ o).body<=1000000000:=by
 simp[caQ,vaL,vaA,vaX,ltBs,ltB,exQ,exQs,tX]
theorem lt_E{o:Pl}:ltBs (caE o).body<=1000000000:=by
 simp[caE,vaL,vaA,vaX,ltBs,ltB,exQ,exQs,tX]
theorem Qke(w:World):Calls Tryz.prog 12 #[] w fun e w'=>e = .returned (.bool true)/\Below w.heap.size w w':=by
 have aF:=parse_1 w;have aG:=hide (fun W=>parse_2 W);unfold sm1 at aF;unfold sm2 at aG;go_enter Tryz.func12,Tryz.ntmps12;go_wp2_with fail;refine aF.mono ?_;clear aF;rintro e t⟨A,C,B,D,F,E,G,I,H,J,M,L,bq,br,N,p,rfl,b1,aN,a,b,c,o,rfl⟩;have a0:=Qal.mono _ (fun q=>q<t.heap.size) _ _ _ aN (fun q hl _=>hl);obtain⟨k,aa,an,ac,ba,bn,bc,rfl,rfl,aC,aO,hA,hB⟩:=mem_1 a0;obtain⟨d,a5⟩:=JE ((t.alloc (.cells #[.slice A C B,.slice D F E,.slice G I H,.slice J M L,.slice (Js k) 1 N] 28)).alloc (.cells #[Ji 0,Ji 0] 31));have n:Below t.heap.size t d:=by rw[a5];exact((Below.refl _ t).alloc (Nat.le_refl _) _).alloc (by simp) _
 have Z:d.heap[t.heap.size]?=some (.cells #[.slice A C B,.slice D F E,.slice G I H,.slice J M L,.slice (Js k) 1 N] 28 (0,0)):=by rw[a5,Below.heap_alloc _ _ _ (by simp)];exact heap_alloc_new t _
 have f1:d.heap[t.heap.size+1]?=some (.cells #[Ji 0,Ji 0] 31 (0,0)):=by
  rw[a5];have:=heap_alloc_new (t.alloc (.cells #[.slice A C B,.slice D F E,.slice G I H,.slice J M L,.slice (Js k) 1 N] 28)) (.cells #[Ji 0,Ji 0] 31)
  simpa using this
 obtain⟨kp,aE⟩:=JF t.heap.size;have B1:Below w.heap.size w d:=b1.trans (n.mono b1.size);rw[aE]at a0 aC hA hB Z f1 n;have aA:∀W,Below d.heap.size d W->PgS (fun q=>q<kp) W [.slice A C B,.slice D F E,.slice G I H,.slice J M L,.slice (Js k) 1 N] (pg1 a b c o):=fun W i=>by
  have Q:=n.trans (i.mono (by have:=n.size;omega));exact Qal.same _ _ _ _ _ a0 (by have:=Q.size;omega) (fun q X _=>Q.block q X)
 have aL:∀W,Below d.heap.size d W->LsAt PE 5 (fun q=>q<kp) W (.slice aa an ac) (caQ o).head.args:=fun W i=>by
  have Q:=n.trans (i.mono (by have:=n.size;omega));exact hA.same Qag (by have:=Q.size;omega) (fun q X _=>Q.block q X)
 have aM:∀W,Below d.heap.size d W->LsAt PLt 16 (fun q=>q<kp) W (.slice ba bn bc) (caQ o).body:=fun W i=>by
  have Q:=n.trans (i.mono (by have:=n.size;omega));exact hB.same Qb (by have:=Q.size;omega) (fun q X _=>Q.block q X)
 have O:Hid (∀W:World,Below d.heap.size d W->W.heap[kp]?=some (.cells #[.slice A C B,.slice D F E,.slice G I H,.slice J M L,.slice (Js k) 1 N] 28 (0,0)) /\ ∀q v,([str tQ,.slice aa an ac,Ji o.b,.slice ba bn bc,Ji o.m]:List Value)[q]?=some v->W.cell? (Ja k q)=some v):=fun W i=>⟨(i.block _ (Qaa Z)).trans Z,fun q v hv=>by
  rw[i.cell (p:=(Ja k q)) (by have:=n.size;show k<_;omega),n.cell (p:=(Ja k q)) aC]
  exact aO q v hv⟩
 have HL:Hid (∀W:World,Below d.heap.size d W->Calls Tryz.prog 14 #[.agg #[.slice A C B,.slice D F E,.slice G I H,.slice J M L,.slice (Js k) 1 N],.agg #[str tQ,.slice aa an ac,Ji o.b,.slice ba bn bc,Ji o.m]] W fun R w'=>∃g cap,R = .returned (.tuple #[.slice (Js g) 1 cap,.agg #[Ji 0,Ji 0]])/\g<w'.heap.size/\w'.cell? (Ja g 0)=some (str tX)/\w'.cell? (Ja g 1)=some (str tA)/\Below W.heap.size W w'):=fun W i=>by
  have:=Qjq (n0:=kp) (by have h1:=i.size;have h2:=Qaa Z;omega) (aA W i) (by show 1<=1000000000;decide) (caQ o) (aL W i) (aM W i) (fun cc=>Qfs lt_Q cc);rw[inf_Q1]at this;refine this.mono ?_;rintro R w'⟨b9,sl,rfl,hr⟩;obtain⟨g,cap,rfl,_,e2,e3,e4⟩:=row_1 hr;exact⟨g,cap,rfl,e2,e3,e4,b9⟩
 have bi:Hid (∀W:World,Below d.heap.size d W->Calls Tryz.prog 18 #[.agg #[.slice A C B,.slice D F E,.slice G I H,.slice J M L,.slice (Js k) 1 N],str tA,str tNum] W fun R w'=>R = .returned (.bool true)/\Below W.heap.size W w'):=fun W i=>by
  have:=Qnv (n0:=kp) (by have h1:=i.size;have h2:=Qaa Z;omega) (aA W i) (by show 1<=1000000000;decide) tA tNum;rw[below_1]at this;exact this
 have aI:=hide B1;have HF:=hide (Ya Z f1);have bj:=hide a5;have HK:=hide aE;clear aN a0 aC aO hA hB n Z f1 B1 aA aL aM a5 b1 aE;go_upto_region 2 with fail;rw[<- Qa bj,Qa HK];obtain⟨aq,ar,au,av,aw,xf⟩:=cl5 (Qa HF).1;obtain⟨ax,ay,yf⟩:=cl2 (Qa HF).2;go_upto_region 4 with fail;clear aq ar au av aw xf ax ay yf;go_cut [3,4] from 5 (fun u3 u4 wc=>∃(s cap fb:Nat),u3 = .slice (Js s) 1 cap/\u4 = .pointer (Js fb)/\Hid (Below d.heap.size d wc/\wc.heap[fb]?=some (.cells #[Ji 0,Ji 0] 31 (0,0))/\s<wc.heap.size/\wc.cell? (Ja s 0)=some (str tX)/\wc.cell? (Ja s 1)=some (str tA)))
 case first=>
  go_wp2_with fail;refine Qas (tr:=(.take 0 (.take 1 (.take 2 (.take 3 (.take 4 (.two 5 9 (.take 6 (.take 7 (.take 8 (.one 9 (.take 10 (.one 11 .nil)))))) (.one 5 (.take 6 (.take 7 (.take 8 (.take 10 (.one 11 .nil)))))))))))) ) (fun W=>W.heap[kp]?=some (.cells #[.slice A C B,.slice D F E,.slice G I H,.slice J M L,.slice (Js k) 1 N] 28 (0,0)) /\ ∀q v,([str tQ,.slice aa an ac,Ji o.b,.slice ba bn bc,Ji o.m]:List Value)[q]?=some v->W.cell? (Ja k q)=some v) mixedO (by kernel_rfl) rfl (by kernel_rfl) (fun PP a7=>?_);refine tT (v:=?_) (fun w' hw=>?_) ?_;rotate_left
  ·(obtain⟨z,f⟩:=hw;obtain⟨af,ag,ah,ai,aj,kf⟩:=cl5 z;have ak:=f 0 _ rfl;have al:=f 1 _ rfl;have am:=f 2 _ rfl;have ao:=f 3 _ rfl;have ap:=f 4 _ rfl;go_simp<;>rfl)
  refine tT (v:=?_) (fun w' hw=>?_) ?_;rotate_left
  ·(obtain⟨z,f⟩:=hw;obtain⟨af,ag,ah,ai,aj,kf⟩:=cl5 z;have ak:=f 0 _ rfl;have al:=f 1 _ rfl;have am:=f 2 _ rfl;have ao:=f 3 _ rfl;have ap:=f 4 _ rfl;go_simp<;>rfl)
  refine tT (v:=?_) (fun w' hw=>?_) ?_;rotate_left
  ·(obtain⟨z,f⟩:=hw;obtain⟨af,ag,ah,ai,aj,kf⟩:=cl5 z;have ak:=f 0 _ rfl;have al:=f 1 _ rfl;have am:=f 2 _ rfl;have ao:=f 3 _ rfl;have ap:=f 4 _ rfl;go_simp<;>rfl)
  refine tT (v:=?_) (fun w' hw=>?_) ?_;rotate_left
  ·(obtain⟨z,f⟩:=hw;obtain⟨af,ag,ah,ai,aj,kf⟩:=cl5 z;have ak:=f 0 _ rfl;have al:=f 1 _ rfl;have am:=f 2 _ rfl;have ao:=f 3 _ rfl;have ap:=f 4 _ rfl;go_simp<;>rfl)
  refine tT (v:=?_) (fun w' hw=>?_) ?_;rotate_left
  ·(obtain⟨z,f⟩:=hw;obtain⟨af,ag,ah,ai,aj,kf⟩:=cl5 z;have ak:=f 0 _ rfl;have al:=f 1 _ rfl;have am:=f 2 _ rfl;have ao:=f 3 _ rfl;have ap:=f 4 _ rfl;go_simp<;>rfl)
  refine Qbr rfl rfl (Qa O d.drew (Below.refl _ d).drew) (fun K h=>?_) (fun K h=>?_)
  ·
   go_simp;refine(Qa HL d.drew (Below.refl _ d).drew).mono ?_;rintro R y⟨g,cap,rfl,hg,j,l,b5⟩;show K _ _;refine h _ _ ?_;clear h K;have r:Below d.heap.size d y:=(Below.refl _ d).drew.trans b5
   iterate 3 (refine tT (v:=?_) (fun w' hw=>?_) ?_;rotate_left;· (go_simp<;>rfl))
   refine Qaf rfl (Qa O y r) (fun K h=>?_);go_simp;refine h _ _ ?_;clear h K;have b6:Below y.heap.size y (y.alloc (.cells #[Ji 0,Ji 0] 31)):=(Below.refl _ y).alloc (Nat.le_refl _) _;refine tT (v:=?_) (fun w' hw=>?_) ?_;rotate_left
   ·(go_simp<;>rfl)
   refine Qaf rfl (Qa O _ (r.trans (b6.mono r.size))) (fun K h=>?_);go_simp;refine h _ _ ?_;clear h K;obtain⟨W7,T⟩:=JE (y.alloc (.cells #[Ji 0,Ji 0] 31));have P:=bnw T;have n7:=nnw T;rw[<- T];have S:=r.trans (P.mono r.size);refine Qan (Qa O _ S) (a7 _ _ ?_);clear a7 PP;have a2:=hide (Ya S (Ya n7 (Ya (show g<W7.heap.size by have:=P.size;omega) (Ya ((P.cell (p:=(Ja g 0)) hg).trans j) ((P.cell (p:=(Ja g 1)) hg).trans l)))));clear hg j l b5 r b6 T P n7 S;go_wp2_with fail;go_meet;exact⟨g,cap,_,rfl,rfl,a2⟩
  go_simp;refine h _ _ ?_;clear h K;obtain⟨w4,ad⟩:=JE ((d.alloc (.cells #[Ji 0,Ji 0] 31)).drew);have b4:Below d.heap.size d w4:=by rw[ad];exact((Below.refl _ _).alloc (Nat.le_refl _) _).drew
  have n4:w4.heap[d.heap.size]?=some (.cells #[Ji 0,Ji 0] 31 (0,0)):=by rw[ad];exact heap_alloc_new d _
  rw[<- ad];clear ad;refine Qaf rfl (Qa O w4 b4) (fun K h=>?_);go_simp;refine(Qa HL w4 b4).mono ?_;rintro R y⟨g,cap,rfl,hg,j,l,b5⟩;show K _ _;refine h _ _ ?_;clear h K;have r:=b4.trans (b5.mono b4.size);have n5:=(b5.block _ (Qaa n4)).trans n4
  iterate 4 (refine tT (v:=?_) (fun w' hw=>?_) ?_;rotate_left;· (go_simp<;>rfl))
  obtain⟨W7,T,sc⟩:=sc2 n5 (Ji 0) (Ji 0);obtain⟨ax,ay,yf⟩:=cl2 n5;have aP:g≠d.heap.size:=fun e=>by
   subst e;rw[Qad n5]at j;cases j
  refine Qaf rfl (Qa O y r) (fun K h=>?_);go_simp;rw[<- T];refine h _ _ ?_;clear h K;have S:=sc.below r (Nat.le_refl _);refine Qan (Qa O _ S) (a7 _ _ ?_);clear a7 PP;have aD:∀q,W7.cell? (Ja g q)=y.cell? (Ja g q):=fun q=>by
   have:=sc.oth g aP;simp only[World.cell?,this]
  have a2:=hide (Ya S (Ya sc.box (Ya (show g<W7.heap.size by rw[sc.size];exact hg) (Ya ((aD 0).trans j) ((aD 1).trans l)))));clear hg j l b4 n4 b5 r n5 T sc S aD aP ax ay yf;go_wp2_with fail;go_meet;exact⟨g,cap,_,rfl,rfl,a2⟩
 obtain⟨s,cap,fb,rfl,rfl,HE⟩:=hcut;obtain⟨WX,bk⟩:=JE wc;subst bk;have aR:=Qa aG WX;clear HL aG;go_wp2_with fail;refine aR.mono ?_;clear aR;rintro e u⟨aT,aV,aU,aW,aY,aX,aZ,bs,b0,b3,bt,bd,be,bg,bf,p2,rfl,b2,aB,a',b',c',o',u',rfl⟩;obtain⟨rfl,rfl⟩:=mem_2 aB;have a4:=Qal.mono _ (fun q=>q<u.heap.size) _ _ _ aB (fun q hl _=>hl);obtain⟨W2,a8⟩:=JE ((u.alloc (.cells #[.slice aT aV aU,.slice aW aY aX,.slice aZ 0 b0,.slice b3 0 bd,.slice be bg bf] 28)).alloc (.cells #[Ji 0,Ji 0] 31));have c2:Below u.heap.size u W2:=by rw[a8];exact((Below.refl _ u).alloc (Nat.le_refl _) _).alloc (by simp) _
 have p2:W2.heap[u.heap.size]?=some (.cells #[.slice aT aV aU,.slice aW aY aX,.slice aZ 0 b0,.slice b3 0 bd,.slice be bg bf] 28 (0,0)):=by rw[a8,Below.heap_alloc _ _ _ (by simp)];exact heap_alloc_new u _
 obtain⟨kq,ab⟩:=JF u.heap.size;rw[ab]at a4 p2 c2
 have a9:=Qmu (n0:=kq) (w:=W2) (by have h2:=Qaa p2;omega) (Qal.same _ _ _ _ _ a4 c2.size (fun q X _=>c2.block q X)) (by show 1<=1000000000;decide) (fun cc x hx=>by
  have aS:x∈[caQ o',caE u']:=hx;simp only[List.mem_cons,List.not_mem_nil,or_false]at aS;rcases aS with rfl|rfl
  ·exact Qfs lt_Q cc
  ·exact Qfs lt_E cc)
 rw[ck_2]at a9;unfold ftV at a9;obtain⟨V,Y,U,j,l⟩:=Qa HE;have a1:=b2.trans ((ab▸c2:Below u.heap.size u W2).mono b2.size);have H2:=hide (Ya (V.trans (a1.mono V.size)) (Ya ((a1.block _ (Qaa Y)).trans Y) (Ya (show s<W2.heap.size by have:=a1.size;omega) (Ya ((a1.cell (p:=(Ja s 0)) U).trans j) ((a1.cell (p:=(Ja s 1)) U).trans l)))));obtain⟨aq,ar,au,av,aw,xf⟩:=cl5 p2;have az:=hide (Ya a8 ab);clear b2 aB a4 a8 c2 p2 ab V Y U j l a1 HE;go_upto_region 6 with fail;rw[<- (Qa az).1,(Qa az).2];go_wp2_with fail;refine a9.mono ?_;clear a9 aq ar au av aw xf az;rintro R w6⟨rfl,b6⟩;obtain⟨w7,ae⟩:=JE (w6.alloc (.cells #[Ji 13,Ji u'.a] 31));have P:=bnw ae;have n7:=nnw ae;obtain⟨xb,aH⟩:=JF w6.heap.size;rw[aH]at n7;have a3:=b6.trans (P.mono b6.size);obtain⟨V,Y,U,j,l⟩:=Qa H2;have a6:=V.trans (a3.mono V.size);have aQ:=Qa bi w7 a6;have ax:=(a3.cell (p:=(Ja s 0)) U).trans j;have ay:=(a3.cell (p:=(Ja s 1)) U).trans l;obtain⟨bo,bp,ff⟩:=cl2 ((a3.block _ (Qaa Y)).trans Y);obtain⟨bl,bm,df⟩:=cl2 n7;obtain⟨aq,ar,au,av,aw,xf⟩:=cl5 (Qa O w7 a6).1;have aJ:=hide ((Qa aI).trans (a6.mono (Qa aI).size));have aK:=hide (Ya ae aH);clear b6 ae P n7 aH a3 V Y U j l a6 H2;go_upto_region 7 with fail;rw[<- (Qa aK).1,(Qa aK).2];go_wp2_with fail;refine aQ.mono ?_;clear aQ;rintro R w8⟨rfl,b8⟩;have bh:=hide ((Qa aJ).trans (b8.mono (Qa aJ).size));clear b8;go_wp2_with fail;go_ret;exact⟨rfl,Qa bh⟩
def oneP(q:Pg)(x:Cls):Pg:=.mk q.types q.decls q.comps q.inits [x]
def nonP(q:Pg):Pg:=.mk q.types q.decls q.comps q.inits []
theorem one_mem{S:Nat->Prop}{w:World}{a0 a1 a2 a3 a4:Option Addr}{n0 c0 n1 c1 n2 c2 n3 c3 n4 c4:Nat}{q:Pg}(hP:PgS S w [.slice a0 n0 c0,.slice a1 n1 c1,.slice a2 n2 c2,.slice a3 n3 c3,.slice a4 n4 c4] q){j:Nat}{x:Cls}(hx:q.clauses[j]?=some x):∃gc,a4=some (Ja gc 0)/\PgO S w [.slice a0 n0 c0,.slice a1 n1 c1,.slice a2 n2 c2,.slice a3 n3 c3,.slice (some (Ja gc (j*5))) 1 (c4 - j)] (oneP q x)/\gc<w.heap.size /\ ∃aa an ac ba bn bc,LsAt PE 5 S w (.slice aa an ac) x.head.args/\LsAt PLt 16 S w (.slice ba bn bc) x.body /\ ∀k v,([str x.head.rel,.slice aa an ac,Ji x.head.at_,.slice ba bn bc,Ji x.at_]:List Value)[k]?=some v->w.cell? (Ja gc (j*5+k))=some v:=by
 obtain⟨C,D,E,F,G,h,l,m,n,o,b⟩:=hP.cells;obtain⟨rfl,rfl,rfl,rfl,rfl⟩:=list5 h;have z:=b.cap rfl;have B:j<q.clauses.length:=(List.getElem?_eq_some_iff.1 hx).1;obtain⟨gc,cap,A,a,c,s,u,e,d⟩:=b.elem hx;simp only[Value.slice.injEq]at a;obtain⟨rfl,rfl,rfl⟩:=a;have g:=e;obtain⟨aa,an,ac,ba,bn,bc,rfl,p,r⟩:=e;refine⟨gc,rfl,⟨_,_,_,_,_,rfl,l,m,n,o,⟨_,_,rfl,by show 1<=_;omega,by unfold maxLen;omega⟩,fun i y f=>?_⟩,c,aa,an,ac,ba,bn,bc,p,r,d⟩
 cases i with
 |succ i=>cases f
 |zero=>
  cases f
  exact⟨gc,j*5,c4 - j,_,rfl,c,s,u,g,fun k v t=>by simpa using d k v t⟩
theorem non_mem{S:Nat->Prop}{w:World}{a0 a1 a2 a3 a4:Option Addr}{n0 c0 n1 c1 n2 c2 n3 c3 n4 c4:Nat}{q:Pg}(hP:PgS S w [.slice a0 n0 c0,.slice a1 n1 c1,.slice a2 n2 c2,.slice a3 n3 c3,.slice a4 n4 c4] q):PgO S w [.slice a0 n0 c0,.slice a1 n1 c1,.slice a2 n2 c2,.slice a3 n3 c3,Jn] (nonP q):=by
 obtain⟨g,h,i,j,k,a,b,c,d,e,f⟩:=hP.cells;obtain⟨rfl,rfl,rfl,rfl,rfl⟩:=list5 a;exact⟨_,_,_,_,_,rfl,b,c,d,e,(LsAt.nil _ _).toO⟩
theorem Qf{q:Pg}(hc:q.comps=[])(hi:q.inits=[]):chkP q=ckF q 0:=by
 unfold chkP;rw[if_pos ⟨hc,hi⟩]
theorem non_eq{q:Pg}(hc:q.comps=[])(hi:q.inits=[]):((chkP (nonP q)).1≠0->chkP q=chkP (nonP q))/\((chkP (nonP q)).1=0->chkP (nonP q)=(0,0)):=by
 rw[Qf hc hi,Qf (q:=nonP q) hc hi];refine⟨(Qkg (p:=q) (q:=nonP q) rfl rfl rfl).1,fun h=>?_⟩;have:=(Qkg (p:=nonP q) (q:=nonP q) rfl rfl rfl).2 h;exact this
theorem one_eq{q:Pg}(hc:q.comps=[])(hi:q.inits=[])(x:Cls)(h0:(chkP (nonP q)).1=0)(hf:∀e,infP q x = .error e->e.1≠0):chkP (oneP q x)=fltR (infP q x):=by
 rw[Qf (q:=nonP q) hc hi]at h0;rw[Qf (q:=oneP q x) hc hi];exact ck_one (p:=oneP q x) (q:=nonP q) (r:=q) rfl rfl rfl rfl rfl rfl h0 hf
theorem Qrp(n:Int){L:Nat}(h:0<L):∃j:Nat,j<L/\Int.tmod (Int.tmod n L+L) L=(j:Int) /\ -(L:Int)<Int.tmod n L/\Int.tmod n L<L:=by
 have g:(L:Int)≠0:=by omega
 have a:Int.tmod n L<L:=Int.tmod_lt_of_pos n (by omega);have c:-(L:Int)<Int.tmod n L:=by
  have:=Int.tmod_lt_of_pos (-n) (b:=(L:Int)) (by omega);rw[Int.neg_tmod]at this;omega
 have d:0<=Int.tmod n L+L:=by omega
 have e:=Int.tmod_nonneg (L:Int) d;have f:=Int.tmod_lt_of_pos (Int.tmod n L+L) (b:=(L:Int)) (by omega);exact⟨(Int.tmod (Int.tmod n L+L) L).toNat,by omega,by omega,c,a⟩
theorem sl_of{w:World}{b:Nat}{sl:Value}{vs:List Fld}(h:w.ownsRow b 67 2 sl vs.length (fdCells vs)):∃a c,sl = .slice a vs.length c:=by
 rcases h.2 with ⟨e,d⟩|⟨g,cap,i,f,j,k,l,m,n,o⟩
 ·exact⟨none,0,by rw[e,d]⟩
 ·exact⟨_,cap,f⟩
theorem Qit(s:ByteArray)(hs:s.size<=281474976710656)(n:Int)(w:World):Calls Tryz.prog 7 #[.string s,Ji n] w fun e w'=>e = .returned (.bool true)/\Below w.heap.size w w':=by
 have bv:=Qmz s hs w;go_enter Tryz.func7,Tryz.ntmps7;go_wp2_with fail;refine bv.mono ?_;clear bv;rintro I v1⟨_,q,ok,rfl,⟨i,m,l,o,u,t,z,B,A,C,E,D,a9,G,H,rfl,hq⟩,b1,aW,aY,aX,ay⟩;obtain⟨c,au⟩:=JE (v1.alloc (.cells #[.slice i m l,.slice o u t,.slice z B A,.slice C E D,.slice a9 G H] 28));have c1:=bnw au;have p1:=nnw au;obtain⟨M,aw⟩:=JF v1.heap.size;have B1:Below w.heap.size w c:=b1.trans (c1.mono b1.size);rw[aw]at c1 p1;have a1:∀W,Below c.heap.size c W->M<=W.heap.size/\PgS (fun b=>b<M) W [.slice i m l,.slice o u t,.slice z B A,.slice C E D,.slice a9 G H] q:=fun W a=>by
  have bb:=c1.trans (a.mono (by have:=c1.size;omega));exact⟨by have:=bb.size;omega,Qal.same _ _ _ _ _ (Qal.mono _ (fun b=>b<M) _ _ _ hq (fun b hl _=>by rw[<- aw];exact hl)) (by have:=bb.size;omega) (fun b hb _=>bb.block b hb)⟩
 have aj:q.types.length<=1000000000:=by have:=aX.1;omega
 have aV:q.clauses.length=G:=(Qmc hq).2.2.2.2;obtain⟨g1,g2,av⟩:∃g1 g2,chkP (nonP q)=(g1,g2):=⟨_,_,rfl⟩;obtain⟨f1,f2,aT⟩:∃f1 f2,chkP q=(f1,f2):=⟨_,_,rfl⟩;have HC:=hide (show ∀W,Below c.heap.size c W->W.heap[M]?=some (.cells #[.slice i m l,.slice o u t,.slice z B A,.slice C E D,.slice a9 G H] 28 (0,0)) from fun W a=>(a.block _ (Qaa p1)).trans p1)
 have bl:=hide (show ∀W,Below c.heap.size c W->Calls Tryz.prog 10 #[.agg #[.slice i m l,.slice o u t,.slice z B A,.slice C E D,.slice a9 G H]] W fun I w'=>I = .returned (.agg #[Ji f1,Ji f2])/\Below W.heap.size W w' from fun W a=>by
  have:=Qom (n0:=M) (a1 W a).1 (a1 W a).2 aj (fun x hx=>Nat.le_trans (ay x hx) (by omega));rw[aT]at this
  exact this)
 have aJ:=hide (show ∀W,Below c.heap.size c W->Calls Tryz.prog 10 #[.agg #[.slice i m l,.slice o u t,.slice z B A,.slice C E D,Jn]] W fun I w'=>I = .returned (.agg #[Ji g1,Ji g2])/\Below W.heap.size W w' from fun W a=>by
  have:=Qer (p:=nonP q) (n0:=M) (a1 W a).1 (non_mem (a1 W a).2) aj (fun x hx=>by cases hx);rw[av]at this
  exact this)
 have aq:=hide (show(g1≠0->f1=g1/\f2=g2)/\(g1=0->g2=0) from by
  have:=non_eq aW aY;rw[aT,av]at this
  exact⟨fun h=>by have:=this.1 h;simpa using this,fun h=>by have:=this.2 h;simp only[Prod.mk.injEq]at this;exact this.2⟩)
 have HA:=hide (show ∀W,Calls Tryz.prog 12 #[] W fun I w'=>I = .returned (.bool true)/\Below W.heap.size W w' from fun W=>Qke W);have HE:=hide (show ∀W,Below c.heap.size c W->Below w.heap.size w W from fun W a=>B1.trans (a.mono B1.size));have bQ:G<=97:=by rw[<- aV];exact aX.2.2.2.2
 have bT:G<=H/\H<=9223372036854775807:=by
  obtain⟨_,_,_,_,_,ee,_,_,_,_,h4⟩:=PgS.cells (a1 c (Below.refl _ _)).2;obtain⟨-,-,-,-,rfl⟩:=list5 ee;exact h4.cap rfl
 have aD:=hide (show ∀(j:Nat) (x:Cls),q.clauses[j]?=some x -> ∃F N O,a9=some (Ja F 0)/\F<c.heap.size/\(∀W,Below c.heap.size c W->Calls Tryz.prog 10 #[.agg #[.slice i m l,.slice o u t,.slice z B A,.slice C E D,.slice (some (Ja F (j*5))) 1 (H - j)]] W fun I w'=>I = .returned (.agg #[Ji N,Ji O])/\Below W.heap.size W w') /\ ∃aa an ac ba bn bc,(∀W,Below c.heap.size c W -> ∀k v,([str x.head.rel,.slice aa an ac,Ji x.head.at_,.slice ba bn bc,Ji x.at_]:List Value)[k]?=some v->W.cell? (Ja F (j*5+k))=some v)/\(g1=0 -> ∀W,Below c.heap.size c W->Calls Tryz.prog 14 #[.agg #[.slice i m l,.slice o u t,.slice z B A,.slice C E D,.slice a9 G H],.agg #[str x.head.rel,.slice aa an ac,Ji x.head.at_,.slice ba bn bc,Ji x.at_]] W fun I w'=>∃za zn zc,I = .returned (.tuple #[.slice za zn zc,.agg #[Ji N,Ji O]])/\Below W.heap.size W w') from fun j x hx=>by
  have bB:=List.mem_of_getElem? hx;obtain⟨F,e4,hO,ah,aa,an,ac,ba,bn,bc,hA,hB,Q⟩:=one_mem (a1 c (Below.refl _ _)).2 hx;obtain⟨N,O,ho⟩:∃N O,chkP (oneP q x)=(N,O):=⟨_,_,rfl⟩;refine⟨F,N,O,e4,ah,fun W a=>?_,aa,an,ac,ba,bn,bc,fun W a k v hk=>(a.cell (p:=(Ja F (j*5+k))) ah).trans (Q k v hk),fun h0 W a=>?_⟩
  ·
   have:=Qer (p:=oneP q x) (n0:=M) (a1 W a).1 (Qcj.same _ _ _ _ _ hO a.size (fun b _ hb=>a.block b hb)) aj (fun y hy=>by
    have e:y=x:=by simpa[oneP,Pg.clauses] using hy
    subst e
    exact Nat.le_trans (ay _ bB) (by omega))
   rw[ho]at this;exact this
  have:=Qpg (n0:=M) (a1 W a).1 (a1 W a).2 aj x (hA.later Qag a) (hB.later Qb a) (Nat.le_trans (ay x bB) (by omega));refine this.mono ?_;intro I w' hI;have ai:=one_eq aW aY x (by rw[av];exact h0);rw[ho]at ai
  cases hi:infP q x with
  |error f=>
   rw[hi]at hI ai;have e:=ai (fun e he=>by cases he;exact hI.2.2);have e1:(N,O)=f:=e;refine⟨none,0,0,?_,hI.1⟩;rw[hI.2.1,<- e1];rfl
  |ok vs=>
   rw[hi]at hI ai;have e:=ai (fun e he=>by cases he);have e1:(N,O)=((0,0):Int×Int):=e;obtain⟨b6,sl,rfl,hr⟩:=hI;obtain⟨la,lc,rfl⟩:=sl_of hr;cases e1
   exact⟨la,_,lc,rfl,b6⟩)
 have bH:=hide aV;have aO:=hide (Ya au aw);have a2:Hid (Below c.heap.size c c):=hide (Below.refl _ _);have bS:=hide (show M<c.heap.size from Qaa p1);clear aW aY aX ay au c1 p1 aw B1 a1 aj aV aT av hq b1;go_upto_region 2 with fail;rw[<- (Qa aO).1,(Qa aO).2];clear aO;cases ok
 ·
  have Q:=Qa HA c;obtain⟨R,S,T,U,V,X⟩:=cl5 (Qa HC c (Qa a2));go_wp2_with fail;refine Q.mono ?_;clear Q R S T U V X;rintro I vA⟨rfl,bz⟩;have aN:=hide ((Qa a2).trans (bz.mono (Qa a2).size));clear bz;go_wp2_with fail;go_ret;exact⟨rfl,Qa HE vA (Qa aN)⟩
 by_cases h0:G=0
 ·
  subst h0;have Q:=Qa HA c;obtain⟨R,S,T,U,V,X⟩:=cl5 (Qa HC c (Qa a2));go_wp2_with fail;refine Q.mono ?_;clear Q R S T U V X;rintro I vA⟨rfl,bz⟩;have aN:=hide ((Qa a2).trans (bz.mono (Qa a2).size));clear bz;go_wp2_with fail;go_ret;exact⟨rfl,Qa HE vA (Qa aN)⟩
 have g0:((G:Int)==0)=false:=beq_eq_false_iff_ne.2 (by omega);have Q:=Qa HA c;obtain⟨R,S,T,U,V,X⟩:=cl5 (Qa HC c (Qa a2));go_wp2_with fail;refine Q.mono ?_;clear Q R S T U V X;rintro I v2⟨rfl,bz⟩;have ae:=hide ((Qa a2).trans (bz.mono (Qa a2).size));clear bz;clear HA;obtain⟨j,hj,aU,bw,bx⟩:=Qrp n (L:=G) (by omega);obtain⟨r,hr⟩:∃r,Int.tmod n (G:Int)=r:=⟨_,rfl⟩;rw[hr]at aU bw bx;obtain⟨x,hx⟩:∃x,q.clauses[j]?=some x:=⟨q.clauses[j]'(by rw[Qa bH];exact hj),List.getElem?_eq_getElem _⟩;obtain⟨F,N,O,rfl,ah,aG,aa,an,ac,ba,bn,bc,aE,aF⟩:=Qa aD j x hx;have bR:=hide ah;have bm:=hide aG;have aI:=hide aE;have aL:=hide aF;clear aD hx ah aG aE aF;have bK:¬((G:Int)=0):=by omega
 have bA:wrap64 (r+(G:Int))=r+(G:Int):=by unfold wrap64;omega
 go_wp2_with fail;refine Qas (tr:=.take 0 (.take 1 (.take 2 (.take 3 (.take 4 (.take 5 (.take 6 (.take 7 (.take 8 (.take 9 (.take 10 (.take 11 (.take 12 (.take 13 (.nil))))))))))))))) (fun W'=>W'.heap[M]?=some (.cells #[.slice i m l,.slice o u t,.slice z B A,.slice C E D,.slice (Js F) G H] 28 (0,0))) mixedO (by kernel_rfl) rfl (by kernel_rfl) (fun PP P=>?_)
 iterate 14 (refine tT (v:=?_) (fun w' hw=>?_) ?_;rotate_left;· (obtain⟨aZ,b0,b2,b3,bd,kf⟩:=cl5 hw;clear hw;go_simp<;>rfl))
 refine Qan (Qa HC v2.drew ((Qa ae).trans ((Below.refl _ v2).drew.mono (Qa ae).size))) (P _ _ ?_);clear P PP;obtain⟨W2,aS⟩:=JE v2.drew;have ar:=hide (show Below c.heap.size c W2 by rw[aS];exact(Qa ae).trans ((Below.refl _ v2).drew.mono (Qa ae).size));rw[<- aS];clear aS ae hr bw bx g0;obtain⟨v4,az⟩:=JE (W2.alloc (.cells #[.slice i m l,.slice o u t,.slice z B A,.slice C E D,.slice (Js F) G H] 28));obtain⟨ob,a6⟩:=JF W2.heap.size;have bs:=bnw az;have bf:=nnw az;rw[a6]at bf;have aP:=hide (Ya az a6);have B4:=(Qa ar).trans (bs.mono (Qa ar).size);have aH:=hide B4;have bI:=hide (show c.heap.size<=ob by rw[<- a6];exact(Qa ar).size);have ad:=hide bf;obtain⟨R,S,T,U,V,X⟩:=cl5 (Qa HC W2 (Qa ar));clear az a6 bs bf B4;go_upto_region 6 with fail;rw[<- (Qa aP).1,(Qa aP).2];clear aP R S T U V X;rw[bA,aU];clear bA aU bK;obtain⟨al,am,bh,bi,bj,yf⟩:=cl5 (Qa ad);obtain⟨R,S,T,U,V,X⟩:=cl5 (Qa HC v4 (Qa aH));have bM:wrap64 ((j:Int)+1)=(j:Int)+1:=by unfold wrap64;omega
 go_upto_region 7 with fail;clear R S T U V X al am bh bi bj yf bM;obtain⟨v5,aA⟩:=JE (v4.setCell (Ja ob 4) (.slice (some (Ja F (j*5))) 1 (H - j)));have N5:v5.heap[ob]?=some (.cells #[.slice i m l,.slice o u t,.slice z B A,.slice C E D,.slice (some (Ja F (j*5))) 1 (H - j)] 28 (0,0)):=by rw[aA];exact(Qah (Qa ad) 4 _).trans (by simp)
 have a6:c.heap.size<=ob:=Qa bI;have B5:Below c.heap.size c v5:=by rw[aA];exact(Qa aH).setCell a6 _
 rw[<- aA];have ab:=hide B5;clear aA a6 B5 ad aH;obtain⟨v6,aB⟩:=JE (v5.alloc (.cells #[.slice i m l,.slice o u t,.slice z B A,.slice C E D,.slice (Js F) G H] 28));obtain⟨nb,ax⟩:=JF v5.heap.size;have aR:=bnw aB;have bg:=nnw aB;rw[ax]at bg;have aQ:=hide (Ya aB ax);have B6:=(Qa ab).trans (aR.mono (Qa ab).size);have N6:=(aR.block _ (Qaa N5)).trans N5;have bt:c.heap.size<=nb:=by rw[<- ax];exact(Qa ab).size
 have bu:ob≠nb:=by have:=Qaa N5;omega
 have bk:=hide B6;have a7:=hide (Ya bg (Ya N6 (Ya bt bu)));obtain⟨R,S,T,U,V,X⟩:=cl5 (Qa HC v5 (Qa ab));clear aB bt ax aR bg B6 N5 N6 bu;go_upto_region 8 with fail;rw[<- (Qa aQ).1,(Qa aQ).2];clear aQ R S T U V X;obtain⟨al,am,bh,bi,bj,yf⟩:=cl5 (Qa a7).1;go_upto_region 9 with fail;clear al am bh bi bj yf;obtain⟨v7,ak⟩:=JE (v6.setCell (Ja nb 4) (Jn));have N7:v7.heap[nb]?=some (.cells #[.slice i m l,.slice o u t,.slice z B A,.slice C E D,Jn] 28 (0,0)):=by rw[ak];exact(Qah (Qa a7).1 4 _).trans (by simp)
 have O7:v7.heap[ob]?=some (.cells #[.slice i m l,.slice o u t,.slice z B A,.slice C E D,.slice (some (Ja F (j*5))) 1 (H - j)] 28 (0,0)):=by rw[ak,hpS (Qa a7).2.2.2];exact(Qa a7).2.1
 have B7:Below c.heap.size c v7:=by rw[ak];exact(Qa bk).setCell (Qa a7).2.2.1 _
 rw[<- ak];have ao:=hide B7;have aM:=hide (show ∀W,Below v7.heap.size v7 W->W.heap[ob]?=some (.cells #[.slice i m l,.slice o u t,.slice z B A,.slice C E D,.slice (some (Ja F (j*5))) 1 (H - j)] 28 (0,0))/\W.heap[nb]?=some (.cells #[.slice i m l,.slice o u t,.slice z B A,.slice C E D,Jn] 28 (0,0)) from fun W a=>⟨(a.block _ (Qaa O7)).trans O7,(a.block _ (Qaa N7)).trans N7⟩);clear ak N7 O7 B7 bk a7 ab;have Q:=Qa aJ v7 (Qa ao);obtain⟨R,S,T,U,V,X⟩:=cl5 (Qa aM v7 (Below.refl _ _)).2;go_wp2_with fail;refine Q.mono ?_;clear Q R S T U V X;rintro I d⟨rfl,b8⟩;have J:=hide ((Qa ao).trans (b8.mono (Qa ao).size));have bq:=hide (show ∀W,Below d.heap.size d W->W.heap[ob]?=some (.cells #[.slice i m l,.slice o u t,.slice z B A,.slice C E D,.slice (some (Ja F (j*5))) 1 (H - j)] 28 (0,0))/\W.heap[nb]?=some (.cells #[.slice i m l,.slice o u t,.slice z B A,.slice C E D,Jn] 28 (0,0)) from fun W a=>Qa aM W (b8.trans (a.mono b8.size)));clear b8 ao aM;by_cases ag:g1=0
 rotate_left
 ·
  have g3:(g1==0)=false:=beq_eq_false_iff_ne.2 ag;obtain⟨e1,e2⟩:=(Qa aq).1 ag;subst e1;subst e2;clear ag aq aL aI bm;go_upto_region 10 with fail;refine Qas (tr:=.take 0 (.take 2 (.one 1 (.one 3 (.take 4 (.take 5 .nil)))))) (fun W'=>W'.heap[M]?=some (.cells #[.slice i m l,.slice o u t,.slice z B A,.slice C E D,.slice (Js F) G H] 28 (0,0))/\W'.heap[nb]?=some (.cells #[.slice i m l,.slice o u t,.slice z B A,.slice C E D,Jn] 28 (0,0))) mixedO (by kernel_rfl) rfl (by kernel_rfl) (fun PP P=>?_);have Y:=hide (show ∀W,Below d.heap.size d W->W.heap[M]?=some (.cells #[.slice i m l,.slice o u t,.slice z B A,.slice C E D,.slice (Js F) G H] 28 (0,0))/\W.heap[nb]?=some (.cells #[.slice i m l,.slice o u t,.slice z B A,.slice C E D,Jn] 28 (0,0)) from fun W a=>⟨Qa HC W ((Qa J).trans (a.mono (Qa J).size)),(Qa bq W a).2⟩);have bF:=hide (show ∀W,Below d.heap.size d W->_ from fun W a=>Qa bl W ((Qa J).trans (a.mono (Qa J).size)));have bG:=hide (show ∀W,Below d.heap.size d W->_ from fun W a=>Qa aJ W ((Qa J).trans (a.mono (Qa J).size)))
  iterate 2 (refine tT (v:=?_) (fun w' hw=>?_) ?_;rotate_left;· (obtain⟨aZ,b0,b2,b3,bd,kf⟩:=cl5 hw.1;obtain⟨be,bD,bN,bO,bP,lf⟩:=cl5 hw.2;clear hw;go_simp<;>rfl))
  refine Qaf rfl (Qa Y d.drew (Below.refl _ d).drew) (fun K g=>?_);go_simp;refine(Qa bF d.drew (Below.refl _ d).drew).mono ?_;rintro I w9⟨rfl,b9⟩;show K _ _;refine g _ _ ?_;clear g K;have a3:Below d.heap.size d w9:=(Below.refl _ d).drew.trans b9;refine Qaf rfl (Qa Y w9 a3) (fun K g=>?_);go_simp;refine(Qa bG w9 a3).mono ?_;rintro I bE⟨rfl,br⟩;show K _ _;refine g _ _ ?_;clear g K;have af:=a3.trans (br.mono a3.size)
  iterate 2 (refine tT (v:=?_) (fun w' hw=>?_) ?_;rotate_left;· (skip;clear hw;go_simp<;>rfl))
  refine Qan (Qa Y bE af) (P _ _ ?_);clear P PP;have a0:=hide ((Qa J).trans (af.mono (Qa J).size));clear b9 a3 br af;go_wp2_with fail;go_ret;exact⟨rfl,Qa HE bE (Qa a0)⟩
 have bJ:=(Qa aq).2 ag;subst ag;subst bJ;clear aJ bl aq;go_upto_region 11 with fail;go_cut [9,10] from 12 (fun u9 u10 wc=>∃(za:Option Addr) (zn zc fb:Nat),u9 = .slice za zn zc/\u10 = .pointer (Js fb)/\Hid (Below d.heap.size d wc/\wc.heap[fb]?=some (.cells #[Ji N,Ji O] 31 (0,0))))
 case first=>
  go_wp2_with fail;refine Qas (tr:=.take 0 (.take 1 (.take 2 (.take 3 (.take 4 (.take 5 (.two 6 10 (.take 7 (.take 8 (.take 9 (.one 10 (.take 11 (.one 12 .nil)))))) (.one 6 (.take 7 (.take 8 (.take 9 (.take 11 (.one 12 .nil))))))))))))) (fun W'=>W'.heap[M]?=some (.cells #[.slice i m l,.slice o u t,.slice z B A,.slice C E D,.slice (Js F) G H] 28 (0,0)) /\ ∀k v,([str x.head.rel,.slice aa an ac,Ji x.head.at_,.slice ba bn bc,Ji x.at_]:List Value)[k]?=some v->W'.cell? (Ja F (j*5+k))=some v) mixedO (by kernel_rfl) rfl (by kernel_rfl) (fun PP P=>?_);have bU:(j:Int)<(G:Int):=by omega
  have Y:=hide (show ∀W,Below d.heap.size d W->W.heap[M]?=some (.cells #[.slice i m l,.slice o u t,.slice z B A,.slice C E D,.slice (Js F) G H] 28 (0,0)) /\ ∀k v,([str x.head.rel,.slice aa an ac,Ji x.head.at_,.slice ba bn bc,Ji x.at_]:List Value)[k]?=some v->W.cell? (Ja F (j*5+k))=some v from fun W a=>⟨Qa HC W ((Qa J).trans (a.mono (Qa J).size)),Qa aI W ((Qa J).trans (a.mono (Qa J).size))⟩);have bp:=hide (show ∀W,Below d.heap.size d W->_ from fun W a=>Qa aL (by trivial) W ((Qa J).trans (a.mono (Qa J).size)))
  iterate 6 (refine tT (v:=?_) (fun w' hw=>?_) ?_;rotate_left;· (have bC:=hw.1;have a8:=hw.2;obtain⟨aZ,b0,b2,b3,bd,kf⟩:=cl5 bC;have be:=a8 0 _ rfl;rw[Nat.add_zero]at be;have bD:=a8 1 _ rfl;have bN:=a8 2 _ rfl;have bO:=a8 3 _ rfl;have bP:=a8 4 _ rfl;clear bC a8;clear hw;go_simp<;>rfl))
  refine Qbr rfl rfl (Qa Y d.drew (Below.refl _ d).drew) (fun K g=>?_) (fun K g=>?_)
  ·
   go_simp;refine(Qa bp d.drew (Below.refl _ d).drew).mono ?_;rintro I w5⟨za,zn,zc,rfl,b5⟩;show K _ _;refine g _ _ ?_;clear g K;have Z:Below d.heap.size d w5:=(Below.refl _ d).drew.trans b5
   iterate 3 (refine tT (v:=?_) (fun w' hw=>?_) ?_;rotate_left;· (skip;clear hw;go_simp<;>rfl))
   refine Qaf rfl (Qa Y w5 Z) (fun K g=>?_);go_simp;refine g _ _ ?_;clear g K;have b6:Below w5.heap.size w5 (w5.alloc (.cells #[Ji 0,Ji 0] 31)):=(Below.refl _ w5).alloc (Nat.le_refl _) _;refine tT (v:=?_) (fun w' hw=>?_) ?_;rotate_left;· (skip;clear hw;go_simp<;>rfl)
   refine Qaf rfl (Qa Y _ (Z.trans (b6.mono Z.size))) (fun K g=>?_);go_simp;refine g _ _ ?_;clear g K;obtain⟨W7,a5⟩:=JE (w5.alloc (.cells #[Ji N,Ji O] 31));have b7:=bnw a5;have n7:=nnw a5;rw[<- a5];have a4:=Z.trans (b7.mono Z.size);refine Qan (Qa Y _ a4) (P _ _ ?_);clear P PP;have a0:=hide (Ya a4 n7);clear b5 Z b6 a5 b7 n7 a4;go_wp2_with fail;go_meet;exact⟨za,zn,zc,_,rfl,rfl,a0⟩
  go_simp;refine g _ _ ?_;clear g K;obtain⟨w4,aC⟩:=JE ((d.alloc (.cells #[Ji 0,Ji 0] 31)).drew);have b4:Below d.heap.size d w4:=by rw[aC];exact((Below.refl _ _).alloc (Nat.le_refl _) _).drew
  have n4:w4.heap[d.heap.size]?=some (.cells #[Ji 0,Ji 0] 31 (0,0)):=by rw[aC];exact heap_alloc_new d _
  rw[<- aC];clear aC;refine Qaf rfl (Qa Y w4 b4) (fun K g=>?_);go_simp;refine(Qa bp w4 b4).mono ?_;rintro I w5⟨za,zn,zc,rfl,b5⟩;show K _ _;refine g _ _ ?_;clear g K;have Z:=b4.trans (b5.mono b4.size);have n5:=(b5.block _ (Qaa n4)).trans n4
  iterate 4 (refine tT (v:=?_) (fun w' hw=>?_) ?_;rotate_left;· (skip;clear hw;go_simp<;>rfl))
  obtain⟨W7,a5,sc⟩:=sc2 n5 (Ji N) (Ji O);obtain⟨al,am,yf⟩:=cl2 n5;refine Qaf rfl (Qa Y w5 Z) (fun K g=>?_);go_simp;rw[<- a5];refine g _ _ ?_;clear g K;have a4:=sc.below Z (Nat.le_refl _);refine Qan (Qa Y _ a4) (P _ _ ?_);clear P PP;have a0:=hide (Ya a4 sc.box);clear b4 n4 b5 Z n5 a5 sc a4 al am yf;go_wp2_with fail;go_meet;exact⟨za,zn,zc,_,rfl,rfl,a0⟩
 obtain⟨za,zn,zc,fb,rfl,rfl,aK⟩:=hcut;obtain⟨WX,bL⟩:=JE wc;subst bL;clear aI aL HC;have bX:=(Qa aK).1;have ap:=hide ((Qa J).trans (bX.mono (Qa J).size));have bo:=hide (show ∀W,Below WX.heap.size WX W->W.heap[ob]?=some (.cells #[.slice i m l,.slice o u t,.slice z B A,.slice C E D,.slice (some (Ja F (j*5))) 1 (H - j)] 28 (0,0))/\W.heap[fb]?=some (.cells #[Ji N,Ji O] 31 (0,0)) from fun W a=>⟨(Qa bq W (bX.trans (a.mono bX.size))).1,(a.block _ (Qaa (Qa aK).2)).trans (Qa aK).2⟩);clear bX;go_wp2_with fail;refine Qas (tr:=.take 0 (.take 2 (.one 1 (.take 3 (.take 4 .nil))))) (fun W'=>W'.heap[ob]?=some (.cells #[.slice i m l,.slice o u t,.slice z B A,.slice C E D,.slice (some (Ja F (j*5))) 1 (H - j)] 28 (0,0))/\W'.heap[fb]?=some (.cells #[Ji N,Ji O] 31 (0,0))) mixedO (by kernel_rfl) rfl (by kernel_rfl) (fun PP P=>?_)
 iterate 2 (refine tT (v:=?_) (fun w' hw=>?_) ?_;rotate_left;· (obtain⟨aZ,b0,b2,b3,bd,kf⟩:=cl5 hw.1;obtain⟨be,bD,lf⟩:=cl2 hw.2;clear hw;go_simp<;>rfl))
 refine Qaf rfl (Qa bo WX.drew (Below.refl _ WX).drew) (fun K g=>?_);go_simp;refine(Qa bm WX.drew ((Qa ap).trans ((Below.refl _ WX).drew.mono (Qa ap).size))).mono ?_;rintro I w9⟨rfl,b9⟩;show K _ _;refine g _ _ ?_;clear g K;have a3:Below WX.heap.size WX w9:=(Below.refl _ WX).drew.trans b9
 iterate 2 (refine tT (v:=?_) (fun w' hw=>?_) ?_;rotate_left;· (skip;clear hw;go_simp<;>rfl))
 refine Qan (Qa bo w9 a3) (P _ _ ?_);clear P PP;have a0:=hide ((Qa ap).trans (a3.mono (Qa ap).size));clear b9 a3;go_wp2_with fail;go_ret;exact⟨rfl,Qa HE w9 (Qa a0)⟩
end
end Go.Proofs.YtkhndlnadhggkaaGreat
