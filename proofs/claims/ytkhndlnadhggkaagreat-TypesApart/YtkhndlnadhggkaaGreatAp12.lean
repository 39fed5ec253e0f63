/- The document's reader. -/
import Derived.Test.YtkhndlnadhggkaaGreatAp01
import Derived.Test.YtkhndlnadhggkaaGreatAp11
set_option maxRecDepth 100000
set_option maxHeartbeats 32000000
namespace Go.Proofs.YtkhndlnadhggkaaGreat
section
open Go.RowKit Go.Maps
attribute [local go_sem ↓] Qbu Qc
def RwI(rb g cap:Nat)(l:List Tok)(w:World)(d i a:Nat)(y:Int)(ne ns:Nat)(sg:List Txt)(wr:World)(aX:Nat)(yX fX:Int)(xX:Ex)(ka:Option Addr)(kn kc:Nat):Prop:=Rr rb g cap l wr aX d i yX fX/\Kp rb w wr/\wr.heap[ne]?=some (.cells #[.int .i64 xX.kind,.int .i64 xX.num,str xX.txt,.slice ka kn kc,.int .i64 xX.at_] 59 (0,0))/\wr.heap[w.heap.size]?=some (.cells #[.int .i64 0,.int .i64 0,.string ⟨#[]⟩,.slice none 0 0,.int .i64 0] 59 (0,0))/\ExS (fun b=>w.heap.size<b/\b≠ne) wr [.int .i64 xX.kind,.int .i64 xX.num,str xX.txt,.slice ka kn kc,.int .i64 xX.at_] xX/\(∀(j:Nat) (t:Txt),sg[j]?=some t->wr.cell? ⟨ns,j,none⟩=some (str t))/\a<=aX/\(yX=0->y=0/\a<aX)
theorem RwI.later{rb g cap:Nat}{l:List Tok}{w:World}{d i a:Nat}{y:Int}{ne ns:Nat}{sg:List Txt}{wr wr2:World}{aX:Nat}{yX fX:Int}{xX:Ex}{ka:Option Addr}{kn kc:Nat}(h:RwI rb g cap l w d i a y ne ns sg wr aX yX fX xX ka kn kc)(hn:ns<ne)(b:Below wr.heap.size wr wr2):RwI rb g cap l w d i a y ne ns sg wr2 aX yX fX xX ka kn kc:=by
 obtain⟨f,k,c,e,m,n,o,r⟩:=h;have u:=Qaa c;exact⟨f.later b,k.trans (Kp.of_below b),(b.block _ u).trans c,(b.block _ (Qaa e)).trans e,Qag.same _ _ _ _ _ m b.size (fun q _ v=>b.block q v),fun j t s=>(b.cell (p:=(Ja ns j)) (by show ns<wr.heap.size;omega)).trans (n j t s),o,r⟩
theorem Qqo{rb g cap d:Nat}{l:List Tok}{m k:Int}(hV:(m=1/\k=0)∨(m=2/\k=1))(hR:ExC 121 rb g cap l d #[.pointer (Js rb),Ji m]):ExC 121 rb g cap l d #[.pointer (Js rb),Ji k]:=fun w a i y f h=>by
 rcases hV with ⟨rfl,rfl⟩|⟨rfl,rfl⟩
 case' inr=>
  obtain⟨O,R⟩:=JE (((w.alloc (.cells #[Ji 0,Ji 0,Je,Jn,Ji 0] 59)).alloc (.cells #[.string ⟨#[43]⟩,.string ⟨#[45]⟩] 9)).alloc (.cells #[.string ⟨#[42]⟩,.string ⟨#[47]⟩,.string ⟨#[37]⟩] 9));have b1:Below w.heap.size w O:=by rw[R];exact((((Below.refl _ w).alloc (Nat.le_refl _) _).alloc (by simp) _).alloc (by simp;omega) _)
  have n1:O.heap[w.heap.size]?=some (.cells #[Ji 0,Ji 0,Je,Jn,Ji 0] 59 (0,0)):=by rw[R,Below.heap_alloc _ _ _ (by simp;omega),Below.heap_alloc _ _ _ (by simp)];exact heap_alloc_new w _
  have S:O.heap[w.heap.size+2]?=some (.cells #[.string ⟨#[42]⟩,.string ⟨#[47]⟩,.string ⟨#[37]⟩] 9):=by
   rw[R];have:=heap_alloc_new ((w.alloc (.cells #[Ji 0,Ji 0,Je,Jn,Ji 0] 59)).alloc (.cells #[.string ⟨#[43]⟩,.string ⟨#[45]⟩] 9)) (.cells #[.string ⟨#[42]⟩,.string ⟨#[47]⟩,.string ⟨#[37]⟩] 9);rwa [show((w.alloc (.cells #[Ji 0,Ji 0,Je,Jn,Ji 0] 59)).alloc (.cells #[.string ⟨#[43]⟩,.string ⟨#[45]⟩] 9)).heap.size=w.heap.size+2 by simp]at this
  have s1:O.heap.size=w.heap.size+2+1:=by rw[R];simp
  obtain⟨E,a3⟩:=JE (w.heap.size+2);rw[<- a3]at S;obtain⟨F,ai⟩:∃F:List Txt,F=[[42],[47],[37]]:=⟨_,rfl⟩;have W:∀(j:Nat) (t:Txt),F[j]?=some t->O.cell? (Ja E j)=some (str t):=fun j t o=>by
   rw[Qad S];rw[ai]at o
   match j,o with
   | 0,o=>cases o;rfl
   | 1,o=>cases o;rfl
   | 2,o=>cases o;rfl
   |j+3,o=>simp at o
  obtain⟨Y,ab⟩:∃Y:Nat,Y=3:=⟨_,rfl⟩;have aD:=hide ab;have aR:=hide (show F.length=Y by rw[ab,ai];rfl);clear ab
 case' inl=>
  obtain⟨O,R⟩:=JE ((w.alloc (.cells #[Ji 0,Ji 0,Je,Jn,Ji 0] 59)).alloc (.cells #[.string ⟨#[43]⟩,.string ⟨#[45]⟩] 9));have b1:Below w.heap.size w O:=by rw[R];exact(((Below.refl _ w).alloc (Nat.le_refl _) _).alloc (by simp) _)
  have n1:O.heap[w.heap.size]?=some (.cells #[Ji 0,Ji 0,Je,Jn,Ji 0] 59 (0,0)):=by rw[R,Below.heap_alloc _ _ _ (by simp)];exact heap_alloc_new w _
  have S:O.heap[w.heap.size+1]?=some (.cells #[.string ⟨#[43]⟩,.string ⟨#[45]⟩] 9):=by
   rw[R];have:=heap_alloc_new (w.alloc (.cells #[Ji 0,Ji 0,Je,Jn,Ji 0] 59)) (.cells #[.string ⟨#[43]⟩,.string ⟨#[45]⟩] 9);rwa [show(w.alloc (.cells #[Ji 0,Ji 0,Je,Jn,Ji 0] 59)).heap.size=w.heap.size+1 by simp]at this
  have s1:O.heap.size=w.heap.size+1+1:=by rw[R];simp
  obtain⟨E,a3⟩:=JE (w.heap.size+1);rw[<- a3]at S;obtain⟨F,ai⟩:∃F:List Txt,F=[[43],[45]]:=⟨_,rfl⟩;have W:∀(j:Nat) (t:Txt),F[j]?=some t->O.cell? (Ja E j)=some (str t):=fun j t o=>by
   rw[Qad S];rw[ai]at o
   match j,o with
   | 0,o=>cases o;rfl
   | 1,o=>cases o;rfl
   |j+2,o=>simp at o
  obtain⟨Y,ab⟩:∃Y:Nat,Y=2:=⟨_,rfl⟩;have aD:=hide ab;have aR:=hide (show F.length=Y by rw[ab,ai];rfl);clear ab
 all_goals
  have b0:=hR O a i y f (h.later b1);have bt:=Qaa h.box;have bo:=h.row.lt;have X:=hide (Ya bt bo);have bj:=hide hR;have H1:=hide (Ya b1 (Ya n1 (Ya W (Ya s1 (Ya a3 S)))));have aT:=hide R;clear R b1 n1 S s1 ai W h hR a3;go_enter Tryz.func121,Tryz.ntmps121;go_wp2_with fail;rw[<- Qa aT];clear aT;refine b0.mono ?_;clear b0;rintro en w1⟨_,a1,i1,y1,f1,rfl,⟨B,⟨_,rfl,⟨r,u,s,rfl⟩,b8⟩,be⟩,⟨ei,aZ,bc⟩,M,k1⟩;rw[ei]at M;clear ei;have bl:=hide (show y1=0->exQ B+2*a<=2*a1 from fun e=>be.at M e);clear be;obtain⟨b1,n1,W,s1,a3,S⟩:=Qa H1;have bu:=k1.size;obtain⟨ne,ar⟩:=JF w1.heap.size;obtain⟨W2,ao⟩:=JE (w1.alloc (.cells #[Ji B.kind,Ji B.num,str B.txt,.slice r u s,Ji B.at_] 59));have b2:Below w1.heap.size w1 W2:=by rw[ao];exact(Below.refl _ w1).alloc (Nat.le_refl _) _
  have m2:W2.heap[ne]?=some (.cells #[Ji B.kind,Ji B.num,str B.txt,.slice r u s,Ji B.at_] 59 (0,0)):=by rw[ao,<- ar];exact heap_alloc_new w1 _
  have z2:W2.heap[w.heap.size]?=some (.cells #[Ji 0,Ji 0,Je,Jn,Ji 0] 59 (0,0)):=(b2.block _ (by omega)).trans (k1.keep n1 (by omega));have aV:=(b2.block _ (by omega)).trans (k1.keep S (by omega));have q2:∀(j:Nat) (t:Txt),F[j]?=some t->W2.cell? (Ja E j)=some (str t):=fun j t o=>by
   have:=W j t o;rw[Qad S]at this;rw[Qad aV];exact this
  have aw:ExS (fun b=>w.heap.size<b/\b≠ne) W2 [Ji B.kind,Ji B.num,str B.txt,.slice r u s,Ji B.at_] B:=Qag.mono _ _ _ _ _ (Qag.same _ _ W2 _ _ (Qag.mono _ (fun b=>O.heap.size<=b/\b<w1.heap.size) _ _ _ b8 (fun b T C=>⟨C,T⟩)) b2.size (fun b _ T=>b2.block b T)) (fun b _ C=>⟨by omega,by omega⟩);have aS:Hid (RwI rb g cap l w d i a y ne E F W2 a1 y1 f1 B r u s):=⟨M.later b2,((Kp.of_below b1).trans k1).trans (Kp.of_below b2),m2,z2,aw,q2,aZ,bc⟩;have aP:=hide (show rb<ne/\g<ne/\w.heap.size<ne by omega);have aE:=hide (show E<ne by omega);have aQ:=hide (show w.heap.size<E by omega);have N2:=Qhb w1 (c0:=Ji B.kind) (c1:=Ji B.num) (c2:=str B.txt) (c3:=.slice r u s) (c4:=Ji B.at_) (by simp[Value.oneCell',str]);have aO:=hide (Ya ao ar);rw[<- ao]at N2;clear ao b2 m2 z2 aV q2 aw b1 n1 W s1 S bu ar M k1 b8 aZ bc a3;go_wp2_with fail;rw[(Qa aO).2,<- (Qa H1).2.2.2.2.1];clear aO N2 H1;go_loopw [7,9] (fun _ _ wr=>∃(aX:Nat) (yX fX:Int) (n:Ex) (r:Option Addr) (u s:Nat),Hid (RwI rb g cap l w d i a y ne E F wr aX yX fX n r u s)/\Hid (yX=0->exQ n+2*a<=2*aX)) (fun _ _ wr=>leftR rb l.length wr)
  case atStart=>exact⟨_,_,_,_,_,_,_,aS,bl⟩
  obtain⟨aX,yX,fX,n,r,u,s,HI,SX⟩:=hrel;clear aS;obtain⟨WX,a8⟩:=JE wr;have ac:=Qax (Qa HI).1;by_cases hy:yX=0
  rotate_left
  ·
   rw[decide_eq_false hy]at ac;rw[<- a8]at HI ac;rw[<- a8];clear hy a8;go_wp2_with fail;refine ac.mono ?_;clear ac;rintro en wq⟨rfl,ew⟩;rw[ew];clear ew;obtain⟨h4,P,m4,z4,ax,au,a2,a0⟩:=Qa HI;have L5:=Qdg m4;have S5:=Qbv (new:=#[Ji n.kind,Ji n.num,str n.txt,.slice r u s,Ji n.at_]) z4 rfl rfl (by simp[Value.oneCell',str]);obtain⟨z,D⟩:=JE (WX.setRow w.heap.size #[Ji n.kind,Ji n.num,str n.txt,.slice r u s,Ji n.at_]);rw[<- D]at S5;have V:∀q,q≠w.heap.size->z.heap[q]?=WX.heap[q]?:=fun q J=>by rw[D];exact setRow_other _ _ _ _ J
   have s6:z.heap.size=WX.heap.size:=by rw[D,size_setRow]
   have z6:z.heap[w.heap.size]?=some (.cells #[Ji n.kind,Ji n.num,str n.txt,.slice r u s,Ji n.at_] 59 (0,0)):=by rw[D];exact setRow_heap _ _ _ _ _ _ z4
   have H:=h4.move (w':=z) (by omega) (V rb (by have:=Qa X;omega)) (V g (by have:=Qa X;omega));have Q:Kp rb w z:=⟨by rw[D];exact P.os,by rw[D];exact P.tape,by rw[D];exact P.output,by rw[s6];exact P.size,fun q J hn=>(V q (by omega)).trans (P.block q J hn)⟩;have a4:ExS (fun b=>w.heap.size<=b) z [Ji n.kind,Ji n.num,str n.txt,.slice r u s,Ji n.at_] n:=by
    have W:=Qag.same _ _ z _ _ ax (by omega) (fun b C T=>V b (by have:=C.1;omega));exact Qag.mono _ _ _ _ _ W (fun b _ C=>by have:=C.1;omega)
   have HF:=hide (Ya H (Ya Q (Ya z6 (Ya a4 (Ya a2 a0)))));clear h4 P m4 z4 ax au a2 a0 V s6 z6 H Q a4 D;go_wp2_with fail;obtain⟨H,Q,z6,a4,a2,a0⟩:=Qa HF;obtain⟨aJ,aK,aL,aM,aN,zf⟩:=ex5 z6;refine bodyPost_ret (v:=.agg #[Ji n.kind,Ji n.num,str n.txt,.slice r u s,Ji n.at_]) (by simp[results,Tryz.results121,go_sem,aJ,aK,aL,aM,aN]) rfl ?_;exact⟨_,_,_,_,_,rfl,⟨n,⟨_,rfl,⟨_,_,_,rfl⟩,a4⟩,szQ.of H (Qa SX)⟩,⟨rfl,a2,a0⟩,H,Q⟩
  rw[decide_eq_true hy]at ac;have HY:=hide hy;clear hy;clear a8 WX;go_wp2_with fail;refine ac.mono ?_;clear ac;rintro en wq⟨rfl,rfl⟩;go_wp2_with fail;go_loopw [7,9,26] (fun v7 _ aI bx=>∃(N:Txt) (j:Nat),v7=str N/\aI = Ji (j:Int)/\j<=Y/\Hid (Below wq.heap.size wq bx/\(N≠[]->yX=0/\aX+1<l.length))) (fun _ _ aI _=>Y - (intOf aI).toNat)
  case atStart=>exact⟨[],0,rfl,rfl,Nat.zero_le _,hide ⟨Below.refl _ _,fun h=>absurd rfl h⟩⟩
  obtain⟨N,j,rfl,rfl,o,HJ⟩:=hrel;by_cases aq:j<Y
  ·
   obtain⟨st,b5⟩:∃st,F[j]?=some st:=⟨F[j]'(by rw[Qa aR];exact aq),List.getElem?_eq_getElem _⟩;have aF:=aq;rw[Qa aD]at aF;have c1:=((Qa HJ).1.cell (p:=(Ja E j)) (by show E<wq.heap.size;have:=Qaa (Qa HI).2.2.1;have:=Qa aE;omega)).trans ((Qa HI).2.2.2.2.2.1 j st b5);have aH:=Qch ((Qa HI).1.later (Qa HJ).1) ⟨st.toArray⟩;rw[show(Value.string ⟨st.toArray⟩)=str st from rfl]at aH;clear b5;go_wp2_with fail;refine aH.mono ?_;clear aH;rintro en w4⟨b,rfl,C,b4⟩;have aC:=hide (Ya C ((Qa HJ).1.trans (b4.mono (Qa HJ).1.size)));clear C b4 c1;cases b
   ·
    go_wp2_with fail;go_roundw
    case rel=>exact⟨N,j+1,rfl,by go_num,by omega,hide ⟨(Qa aC).2,(Qa HJ).2⟩⟩
    case measure=>simp[intOf];omega
   go_wp2_with fail;go_roundw
   case rel=>exact⟨st,j+1,rfl,by go_num,by omega,hide ⟨(Qa aC).2,fun _=>(Qa aC).1 (by trivial)⟩⟩
   case measure=>simp[intOf];omega
  have aF:=aq;rw[Qa aD]at aF;have al:Hid (RwI rb g cap l w d i a y ne E F wr aX yX fX n r u s):=(Qa HI).later (Qa aE) (Qa HJ).1;by_cases ho:N=[]
  ·
   have bm:(N==[])=true:=by simpa using ho
   obtain⟨WX,a8⟩:=JE wr;rw[<- a8]at al;rw[<- a8];clear ho a8 HJ;obtain⟨h4,P,m4,z4,ax,au,a2,a0⟩:=Qa al;have L5:=Qdg m4;have S5:=Qbv (new:=#[Ji n.kind,Ji n.num,str n.txt,.slice r u s,Ji n.at_]) z4 rfl rfl (by simp[Value.oneCell',str]);obtain⟨z,D⟩:=JE (WX.setRow w.heap.size #[Ji n.kind,Ji n.num,str n.txt,.slice r u s,Ji n.at_]);rw[<- D]at S5;have V:∀q,q≠w.heap.size->z.heap[q]?=WX.heap[q]?:=fun q J=>by rw[D];exact setRow_other _ _ _ _ J
   have s6:z.heap.size=WX.heap.size:=by rw[D,size_setRow]
   have z6:z.heap[w.heap.size]?=some (.cells #[Ji n.kind,Ji n.num,str n.txt,.slice r u s,Ji n.at_] 59 (0,0)):=by rw[D];exact setRow_heap _ _ _ _ _ _ z4
   have H:=h4.move (w':=z) (by omega) (V rb (by have:=Qa X;omega)) (V g (by have:=Qa X;omega));have Q:Kp rb w z:=⟨by rw[D];exact P.os,by rw[D];exact P.tape,by rw[D];exact P.output,by rw[s6];exact P.size,fun q J hn=>(V q (by omega)).trans (P.block q J hn)⟩;have a4:ExS (fun b=>w.heap.size<=b) z [Ji n.kind,Ji n.num,str n.txt,.slice r u s,Ji n.at_] n:=by
    have W:=Qag.same _ _ z _ _ ax (by omega) (fun b C T=>V b (by have:=C.1;omega));exact Qag.mono _ _ _ _ _ W (fun b _ C=>by have:=C.1;omega)
   have HF:=hide (Ya H (Ya Q (Ya z6 (Ya a4 (Ya a2 a0)))));clear h4 P m4 z4 ax au a2 a0 V s6 z6 H Q a4 D;go_wp2_with fail;obtain⟨H,Q,z6,a4,a2,a0⟩:=Qa HF;obtain⟨aJ,aK,aL,aM,aN,zf⟩:=ex5 z6;refine bodyPost_ret (v:=.agg #[Ji n.kind,Ji n.num,str n.txt,.slice r u s,Ji n.at_]) (by simp[results,Tryz.results121,go_sem,aJ,aK,aL,aM,aN]) rfl ?_;exact⟨_,_,_,_,_,rfl,⟨n,⟨_,rfl,⟨_,_,_,rfl⟩,a4⟩,szQ.of H (Qa SX)⟩,⟨rfl,a2,a0⟩,H,Q⟩
  have bm:(N==[])=false:=by simpa using ho
  have HO:=hide ((Qa HJ).2 ho);clear ho HJ;obtain⟨a7,ad,aa,ae,af,ag,an,ah⟩:=Qa al;obtain⟨t,ht⟩:=a7.tok;have b6:=Qba a7 ht;clear a7 ad aa ae af ag an ah ht;go_wp2_with fail;refine b6.mono ?_;clear b6;rintro en I⟨_,a5,i5,y5,f5,rfl,rfl,⟨ei,ey,aY⟩,h5,Z⟩;rw[ei,ey]at h5;clear ei ey;obtain⟨a7,ad,aa,ae,af,ag,an,ah⟩:=Qa al;obtain⟨o1,o2⟩:=Qa HO;have e5:a5=aX+1:=by
   rcases aY with ⟨_,_,e⟩|⟨_,hn⟩
   ·exact e
   ·exact absurd o2 (hn o1)
  have ar:=Qa aP;have m5:=Z.keep aa (by omega);have b3:=Qa bj I.drew a5 i yX f5 (h5.later (Below.refl _ I).drew);have HC:Hid (∀w',Kp rb I w'->w'.heap[ne]?=some (.cells #[Ji n.kind,Ji n.num,str n.txt,.slice r u s,Ji n.at_] 59 (0,0))):=fun w' kk=>kk.keep m5 (by omega);have H5:=hide (Ya e5 (Ya h5 (Ya Z m5)));clear aY h5 Z a7 ad aa ae af ag an ah o1 o2 e5 ar m5;go_wp2_with fail;refine Qaq (m:=10) (ml:=[(0,1),(1,1),(2,2),(3,2),(4,1),(5,1),(6,1),(7,0),(8,0),(9,1),(10,0)]) (fun ff w'=>ff=false->w'.heap[ne]?=some (.cells #[Ji n.kind,Ji n.num,str n.txt,.slice r u s,Ji n.at_] 59 (0,0))) mixedO (by kernel_rfl) rfl (by rfl) (by kernel_rfl) (fun PP aW=>?_)
  iterate 2 (refine mF (v:=?_) (fun f w' hw=>?_) ?_;rotate_left;· (go_simp<;>rfl))
  iterate 2 (refine Qay (v:=?_) rfl (by kernel_rfl) (fun w' hw=>?_) ?_;rotate_left;· (have L:=Qdg (hw rfl);obtain⟨bB,bC,bD,bE,bF,xf⟩:=ex5 (hw rfl);go_simp<;>rfl))
  iterate 3 (refine mF (v:=?_) (fun f w' hw=>?_) ?_;rotate_left;· (go_simp<;>rfl))
  refine Qab rfl (fun _=>Qa HC _ (Kp.of_below (Below.refl _ I).drew)) (fun K hK=>?_);go_simp;refine b3.mono ?_;clear b3;rintro en z⟨_,a6,i6,y6,f6,rfl,⟨A,⟨_,rfl,⟨ea,am,ec,rfl⟩,aw⟩,bf⟩,⟨ei,bn,aj⟩,H,Q⟩;rw[ei]at H;clear ei;have S2:=hide (show y6=0->exQ A+2*a5<=2*a6 from fun e=>bf.at H e);clear bf;show K _ _;refine hK _ _ ?_;clear hK K;obtain⟨e5,h5,Z,m5⟩:=Qa H5;obtain⟨a7,ad,aa,ae,af,ag,an,ah⟩:=Qa al;obtain⟨bq,br,bs⟩:=Qa aP;have a3:=Qa aE;have bv:=Z.size;have bw:I.heap.size<=z.heap.size:=Q.size;have bp:=Qaa aa;have aA:Kp rb I z:=(Kp.of_below (Below.refl _ I).drew).trans Q;have m6:=aA.keep m5 (by omega);obtain⟨U,aG⟩:=JF z.heap.size;obtain⟨w7,av⟩:=JE (z.alloc (.cells #[Ji n.kind,Ji n.num,str n.txt,.slice r u s,Ji n.at_,Ji A.kind,Ji A.num,str A.txt,.slice ea am ec,Ji A.at_] 59));have b7:Below z.heap.size z w7:=by rw[av];exact(Below.refl _ z).alloc (Nat.le_refl _) _
  have q7:w7.heap[U]?=some (.cells #[Ji n.kind,Ji n.num,str n.txt,.slice r u s,Ji n.at_,Ji A.kind,Ji A.num,str A.txt,.slice ea am ec,Ji A.at_] 59 (0,0)):=by rw[av,<- aG];exact heap_alloc_new z _
  have s7:w7.heap.size=z.heap.size+1:=by rw[av];simp
  have m7:=(b7.block _ (Qaa m6)).trans m6;have bh:=hide m7;have bg:=hide m6;obtain⟨G,a9⟩:=JE (w7.setRow ne #[Ji 5,Ji 0,str N,.slice (Js U) 2 2,Ji n.at_]);have o8:∀q,q≠ne->G.heap[q]?=w7.heap[q]?:=fun q J=>by rw[a9];exact setRow_other _ _ _ _ J
  have s8:G.heap.size=w7.heap.size:=by rw[a9,size_setRow]
  have m8:G.heap[ne]?=some (.cells #[Ji 5,Ji 0,str N,.slice (Js U) 2 2,Ji n.at_] 59 (0,0)):=by rw[a9];exact setRow_heap _ _ _ _ _ _ m7
  have h8:=(H.later b7).move (w':=G) (by omega) (o8 rb (by omega)) (o8 g (by omega));have ak:Kp rb w w7:=((ad.trans Z).trans aA).trans (Kp.of_below b7);have k8:Kp rb w G:=⟨by rw[a9];exact ak.os,by rw[a9];exact ak.tape,by rw[a9];exact ak.output,by rw[s8];exact ak.size,fun q J hn=>(o8 q (by omega)).trans (ak.block q J hn)⟩;have aB:∀q,q<I.heap.size->q≠rb->q≠ne->G.heap[q]?=I.heap[q]?:=fun q M h2 h3=>(o8 q h3).trans ((b7.block q (by omega)).trans (aA.block q M h2));have z8:G.heap[w.heap.size]?=some (.cells #[Ji 0,Ji 0,Je,Jn,Ji 0] 59 (0,0)):=(aB _ (by omega) (by have:=(Qa X).1;omega) (by omega)).trans (Z.keep ae (by have:=(Qa X).1;omega));have ba:ExS (fun b=>w.heap.size<b/\b≠ne) G [Ji n.kind,Ji n.num,str n.txt,.slice r u s,Ji n.at_] n:=Qag.same _ _ G _ _ af (by omega) (fun q J T=>(aB q (by omega) (by have:=(Qa X).1;omega) J.2).trans (Z.block q T (by have:=(Qa X).1;omega)));have bb:ExS (fun b=>w.heap.size<b/\b≠ne) G [Ji A.kind,Ji A.num,str A.txt,.slice ea am ec,Ji A.at_] A:=Qag.mono _ _ _ _ _ (Qag.same _ _ G _ _ (Qag.mono _ (fun b=>I.drew.heap.size<=b/\b<z.heap.size) _ _ _ aw (fun b T C=>⟨C,T⟩)) (by omega) (fun q J T=>(o8 q (by have:=J.1;have:I.drew.heap.size=I.heap.size:=rfl;omega)).trans (b7.block q T))) (fun b _ C=>⟨by have:=C.1;have:I.drew.heap.size=I.heap.size:=rfl;omega,by have:=C.1;have:I.drew.heap.size=I.heap.size:=rfl;omega⟩);have q8:G.heap[U]?=some (.cells #[Ji n.kind,Ji n.num,str n.txt,.slice r u s,Ji n.at_,Ji A.kind,Ji A.num,str A.txt,.slice ea am ec,Ji A.at_] 59 (0,0)):=(o8 U (by omega)).trans q7
  have ap:LsAt PE 5 (fun b=>w.heap.size<b/\b≠ne) G (.slice (Js U) 2 2) [n,A]:=⟨some (Ja U 0),2,[[Ji n.kind,Ji n.num,str n.txt,.slice r u s,Ji n.at_],[Ji A.kind,Ji A.num,str A.txt,.slice ea am ec,Ji A.at_]],rfl,Nat.le_refl _,by unfold maxLen;omega,⟨rfl,fun j x cs M h2=>by
   match j,M,h2 with
   | 0,M,h2=>cases M;cases h2;exact⟨rfl,ba⟩
   | 1,M,h2=>cases M;cases h2;exact⟨rfl,bb⟩
   |j+2,M,h2=>simp at M⟩,fun _=>⟨U,rfl,⟨by omega,by omega⟩,Qaa q8,fun j c o=>by rw[Qad q8];simpa using o⟩⟩
  have b9:ExS (fun b=>w.heap.size<b/\b≠ne) G [Ji 5,Ji 0,str N,.slice (Js U) 2 2,Ji n.at_] (.mk 5 0 N [n,A] n.at_):=Qls ap;have bd:∀(j:Nat) (t:Txt),F[j]?=some t->G.cell? (Ja E j)=some (str t):=fun j t o=>by
   have e1:G.heap[E]?=wr.heap[E]?:=(aB E (by omega) (by have:=(Qa X).1;have:=Qa aQ;omega) (by omega)).trans (Z.block E (by omega) (by have:=(Qa X).1;have:=Qa aQ;omega));have:=ag j t o;simp only[World.cell?]at this ⊢;rw[e1];exact this
  have az:=Qam (Qa HI).1 l.length;have ay:=Qam h8 l.length;have HE:=hide (show RwI rb g cap l w d i a y ne E F G a6 y6 f6 (.mk 5 0 N [n,A] n.at_) (Js U) 2 2 from ⟨h8,k8,m8,z8,b9,bd,by omega,fun e=>by have:=aj e;exact⟨(ah this.1).1,by omega⟩⟩);have SE:=hide (show y6=0->exQ (.mk 5 0 N [n,A] n.at_)+2*a<=2*a6 from fun e=>by have W:=Qa SX (aj e).1;have q2:=Qa S2 e;rw[exQ,exQs,Qhr];omega);have HM:=hide (Ya az (Ya ay (Ya e5 (Ya aj (Ya h8.lt a7.lt)))));have aU:=hide (Ya av aG);have bk:=hide a9;have bi:=hide (Ya m7 m8);clear e5 h5 Z m5 a7 ad aa ae af ag an ah bq br bs a3 bv bw bp aA m6 aG av b7 q7 s7 m7 a9 o8 s8 m8 h8 ak k8 aB z8 ba bb q8 ap b9 bd az ay aw bn aj H Q;refine Qab rfl (fun _=>Qa bg) (fun K hK=>?_);go_simp;rw[<- (Qa aU).1,(Qa aU).2];refine hK _ _ ?_;clear hK K;refine Qae rfl (by kernel_rfl) (fun _ _ _=>by go_simp<;>rfl) ?_;simp[Act.put,Array.setIfInBounds];refine Qab rfl (fun _=>Qa bh) (fun K hK=>?_);refine Qd rfl _ _ _ rfl ne _ _ #[Ji 5,Ji 0,str N,.slice (Js U) 2 2,Ji n.at_] (by kernel_rfl) (by kernel_rfl) (Qa bi).1 (by kernel_rfl) rfl (by simp[Value.oneCell',str]) ?_;refine hK _ _ ?_;clear hK K;rw[<- Qa bk];refine Qau (fun e=>by cases e) (aW _ _ ?_);clear aW PP;simp[Act.put];go_wp2_with fail;go_roundw
  case rel=>exact⟨_,_,_,_,_,_,_,HE,SE⟩
  obtain⟨az,ay,e5,aj,bz,bA⟩:=Qa HM;rw[az,ay,if_pos (Qa HY)];split
  ·
   rename_i e;have:=(aj e).2;omega
  ·omega
theorem Qsz{rb g cap d:Nat}{l:List Tok}(hR:ExC 121 rb g cap l d #[.pointer (Js rb),Ji 1]):ExC 121 rb g cap l d #[.pointer (Js rb),Ji 0]:=Qqo (.inl ⟨rfl,rfl⟩) hR
theorem Qt{rb g cap d:Nat}{l:List Tok}(hR:ExC 121 rb g cap l d #[.pointer (Js rb),Ji 2]):ExC 121 rb g cap l d #[.pointer (Js rb),Ji 1]:=Qqo (.inr ⟨rfl,rfl⟩) hR
end
section
open Go.RowKit Go.Maps
attribute [local go_sem ↓] Qbu Qc
theorem Qta{rb g cap d:Nat}{l:List Tok}(hF:ExC 132 rb g cap l d #[.pointer (Js rb)]):ExC 121 rb g cap l d #[.pointer (Js rb),Ji 2]:=fun w a i y f h=>by
 obtain⟨C,o⟩:=JE ((w.alloc (.cells #[Ji 0,Ji 0,Je,Jn,Ji 0] 59)).alloc (.cells #[.string ⟨#[43]⟩,.string ⟨#[45]⟩] 9));have m:Below w.heap.size w C:=by rw[o];exact((Below.refl _ w).alloc (Nat.le_refl _) _).alloc (by simp) _
 have u:C.heap[w.heap.size]?=some (.cells #[Ji 0,Ji 0,Je,Jn,Ji 0] 59 (0,0)):=by rw[o,Below.heap_alloc _ _ _ (by simp)];exact heap_alloc_new w _
 have M:=hF C a i y f (h.later m);have a2:=Qaa h.box;have a0:=h.row.lt;have G:C.heap.size=w.heap.size+2:=by rw[o];simp
 have X:=hide (Ya m (Ya u G));have L:=hide o;clear o m u h hF G;go_enter Tryz.func121,Tryz.ntmps121;go_wp2_with fail;rw[<- Qa L];clear L;refine M.mono ?_;clear M;rintro en J⟨_,a1,i1,y1,f1,rfl,⟨c,⟨_,rfl,⟨r,t,s,rfl⟩,N⟩,O⟩,⟨P,z,B⟩,D,E⟩;rw[P]at D;clear P;have SX:=hide (show y1=0->exQ c+2*a<=2*a1 from fun e=>O.at D e);clear O;obtain⟨m,u,G⟩:=Qa X;have R:=E.size;have K:=E.keep u (by omega);have Z:=Qbv (new:=#[Ji c.kind,Ji c.num,str c.txt,.slice r t s,Ji c.at_]) K rfl rfl (by simp[Value.oneCell',str]);obtain⟨k,j⟩:=JE (J.setRow w.heap.size #[Ji c.kind,Ji c.num,str c.txt,.slice r t s,Ji c.at_]);rw[<- j]at Z;have x:∀q,q≠w.heap.size->k.heap[q]?=J.heap[q]?:=fun q I=>by rw[j];exact setRow_other _ _ _ _ I
 have Q:k.heap.size=J.heap.size:=by rw[j,size_setRow]
 have H:k.heap[w.heap.size]?=some (.cells #[Ji c.kind,Ji c.num,str c.txt,.slice r t s,Ji c.at_] 59 (0,0)):=by rw[j];exact setRow_heap _ _ _ _ _ _ K
 have n:=(Kp.of_below (rb:=rb) m).trans E;have p:=D.move (w':=k) (by omega) (x rb (by omega)) (x g (by omega));have F:Kp rb w k:=⟨by rw[j];exact n.os,by rw[j];exact n.tape,by rw[j];exact n.output,by rw[Q];exact n.size,fun q I hn=>(x q (by omega)).trans (n.block q I hn)⟩;have A:ExS (fun b=>w.heap.size<=b) k [Ji c.kind,Ji c.num,str c.txt,.slice r t s,Ji c.at_] c:=by
  have q1:=Qag.same _ _ k _ _ N (by omega) (fun b hb hl=>x b (by omega));exact Qag.mono _ _ _ _ _ q1 (fun b _ hb=>by omega)
 have Y:=hide (Ya p (Ya F (Ya H (Ya A (Ya z B)))));clear D E N z B m u G R K j x Q H n p F A;go_wp2_with fail;obtain⟨p,F,H,A,z,B⟩:=Qa Y;obtain⟨S,T,U,V,W,zf⟩:=ex5 H;refine bodyPost_ret (v:=.agg #[Ji c.kind,Ji c.num,str c.txt,.slice r t s,Ji c.at_]) (by simp[results,Tryz.results121,go_sem,S,T,U,V,W]) rfl ?_;exact⟨_,_,_,_,_,rfl,⟨c,⟨_,rfl,⟨_,_,_,rfl⟩,A⟩,szQ.of p (Qa SX)⟩,⟨rfl,z,B⟩,p,F⟩
theorem Qtb{rb g cap d:Nat}{l:List Tok}(hF:ExC 132 rb g cap l d #[.pointer (Js rb)]):ExC 121 rb g cap l d #[.pointer (Js rb),Ji 0]:=Qsz (Qt (Qta hF))
theorem Qqm{rb g cap:Nat}{l:List Tok}(hO:∀d,d<64->ExC 108 rb g cap l d #[.pointer (Js rb)]->ExC 132 rb g cap l d #[.pointer (Js rb)]->ExC 135 rb g cap l d #[.pointer (Js rb)]):
  ∀n d,d+n=63->ExC 108 rb g cap l d #[.pointer (Js rb)]/\ExC 132 rb g cap l d #[.pointer (Js rb)]
 | 0,d,hd=>⟨fun _ _ _ _ _ h=>Qme h (by omega) (fun h32=>by omega),fun _ _ _ _ _ h=>Qhc h (by omega) (fun h32=>by omega)⟩
 |n+1,d,hd=>by
  obtain⟨hE,hF⟩:=Qqm hO n (d+1) (by omega);exact⟨fun _ _ _ _ _ h=>Qme h (by omega) (fun _=>Qtb hF),fun _ _ _ _ _ h=>Qhc h (by omega) (fun _=>hO (d+1) (by omega) hE hF)⟩
end
end Go.Proofs.YtkhndlnadhggkaaGreat
