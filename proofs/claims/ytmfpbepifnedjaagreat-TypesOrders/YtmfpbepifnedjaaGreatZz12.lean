/- The document's reader. -/
import Derived.Test.YtmfpbepifnedjaaGreatZz01
import Derived.Test.YtmfpbepifnedjaaGreatZz11
set_option maxRecDepth 100000
set_option maxHeartbeats 32000000
namespace Go.Proofs.YtmfpbepifnedjaaGreat
section
open Go.RowKit Go.Maps
attribute [local go_sem ↓] Qbt Qca
def RwI(rb g cap:Nat)(l:List Tok)(w:World)(d i a:Nat)(y:Int)(ne ns:Nat)(sg:List Txt)(wr:World)(aX:Nat)(yX fX:Int)(xX:Ex)(ka:Option Addr)(kn kc:Nat):Prop:=Rr rb g cap l wr aX d i yX fX/\Kp rb w wr/\wr.heap[ne]?=some (.cells #[.int .i64 xX.kind,.int .i64 xX.num,str xX.txt,.slice ka kn kc,.int .i64 xX.at_] 59 (0,0))/\wr.heap[w.heap.size]?=some (.cells #[.int .i64 0,.int .i64 0,.string ⟨#[]⟩,.slice none 0 0,.int .i64 0] 59 (0,0))/\ExS (fun b=>w.heap.size<b/\b≠ne) wr [.int .i64 xX.kind,.int .i64 xX.num,str xX.txt,.slice ka kn kc,.int .i64 xX.at_] xX/\(∀(j:Nat) (t:Txt),sg[j]?=some t->wr.cell? ⟨ns,j,none⟩=some (str t))/\a<=aX/\(yX=0->y=0/\a<aX)
theorem RwI.later{rb g cap:Nat}{l:List Tok}{w:World}{d i a:Nat}{y:Int}{ne ns:Nat}{sg:List Txt}{wr wr2:World}{aX:Nat}{yX fX:Int}{xX:Ex}{ka:Option Addr}{kn kc:Nat}(h:RwI rb g cap l w d i a y ne ns sg wr aX yX fX xX ka kn kc)(hn:ns<ne)(b:Below wr.heap.size wr wr2):RwI rb g cap l w d i a y ne ns sg wr2 aX yX fX xX ka kn kc:=by
 obtain⟨o,s,c,e,k,r,f,n⟩:=h
 have v:=Qaa c
 exact⟨o.later b,s.trans (Kp.of_below b),(b.block _ v).trans c,(b.block _ (Qaa e)).trans e,Qaf.same _ _ _ _ _ k b.size (fun q _ m=>b.block q m),fun j t u=>(b.cell (p:=(Ja ns j)) (by show ns<wr.heap.size;omega)).trans (r j t u),f,n⟩
theorem Qqn{rb g cap d:Nat}{l:List Tok}{m k:Int}(hV:(m=1/\k=0)∨(m=2/\k=1))(hR:ExC 121 rb g cap l d #[.pointer (Js rb),Ji m]):ExC 121 rb g cap l d #[.pointer (Js rb),Ji k]:=fun w a i y f h=>by
 rcases hV with ⟨rfl,rfl⟩|⟨rfl,rfl⟩
 case' inr=>
  obtain⟨O,R⟩:=JE (((w.alloc (.cells #[Ji 0,Ji 0,Je,Jn,Ji 0] 59)).alloc (.cells #[.string ⟨#[43]⟩,.string ⟨#[45]⟩] 9)).alloc (.cells #[.string ⟨#[42]⟩,.string ⟨#[47]⟩,.string ⟨#[37]⟩] 9))
  have b1:Below w.heap.size w O:=by rw[R];exact((((Below.refl _ w).alloc (Nat.le_refl _) _).alloc (by simp) _).alloc (by simp;omega) _)
  have n1:O.heap[w.heap.size]?=some (.cells #[Ji 0,Ji 0,Je,Jn,Ji 0] 59 (0,0)):=by rw[R,Below.heap_alloc _ _ _ (by simp;omega),Below.heap_alloc _ _ _ (by simp)];exact heap_alloc_new w _
  have T:O.heap[w.heap.size+2]?=some (.cells #[.string ⟨#[42]⟩,.string ⟨#[47]⟩,.string ⟨#[37]⟩] 9):=by
   rw[R]
   have:=heap_alloc_new ((w.alloc (.cells #[Ji 0,Ji 0,Je,Jn,Ji 0] 59)).alloc (.cells #[.string ⟨#[43]⟩,.string ⟨#[45]⟩] 9)) (.cells #[.string ⟨#[42]⟩,.string ⟨#[47]⟩,.string ⟨#[37]⟩] 9)
   rwa [show((w.alloc (.cells #[Ji 0,Ji 0,Je,Jn,Ji 0] 59)).alloc (.cells #[.string ⟨#[43]⟩,.string ⟨#[45]⟩] 9)).heap.size=w.heap.size+2 by simp]at this
  have s1:O.heap.size=w.heap.size+2+1:=by rw[R];simp
  obtain⟨E,a3⟩:=JE (w.heap.size+2)
  rw[<- a3]at T
  obtain⟨G,ad⟩:∃G:List Txt,G=[[42],[47],[37]]:=⟨_,rfl⟩
  have U:∀(j:Nat) (t:Txt),G[j]?=some t->O.cell? (Ja E j)=some (str t):=fun j t A=>by
   rw[Qad T]
   rw[ad]at A
   match j,A with
   | 0,A=>cases A;rfl
   | 1,A=>cases A;rfl
   | 2,A=>cases A;rfl
   |j+3,A=>simp at A
  obtain⟨Y,aa⟩:∃Y:Nat,Y=3:=⟨_,rfl⟩
  have aC:=hide aa
  have aU:=hide (show G.length=Y by rw[aa,ad];rfl)
  clear aa
 case' inl=>
  obtain⟨O,R⟩:=JE ((w.alloc (.cells #[Ji 0,Ji 0,Je,Jn,Ji 0] 59)).alloc (.cells #[.string ⟨#[43]⟩,.string ⟨#[45]⟩] 9))
  have b1:Below w.heap.size w O:=by rw[R];exact(((Below.refl _ w).alloc (Nat.le_refl _) _).alloc (by simp) _)
  have n1:O.heap[w.heap.size]?=some (.cells #[Ji 0,Ji 0,Je,Jn,Ji 0] 59 (0,0)):=by rw[R,Below.heap_alloc _ _ _ (by simp)];exact heap_alloc_new w _
  have T:O.heap[w.heap.size+1]?=some (.cells #[.string ⟨#[43]⟩,.string ⟨#[45]⟩] 9):=by
   rw[R]
   have:=heap_alloc_new (w.alloc (.cells #[Ji 0,Ji 0,Je,Jn,Ji 0] 59)) (.cells #[.string ⟨#[43]⟩,.string ⟨#[45]⟩] 9)
   rwa [show(w.alloc (.cells #[Ji 0,Ji 0,Je,Jn,Ji 0] 59)).heap.size=w.heap.size+1 by simp]at this
  have s1:O.heap.size=w.heap.size+1+1:=by rw[R];simp
  obtain⟨E,a3⟩:=JE (w.heap.size+1)
  rw[<- a3]at T
  obtain⟨G,ad⟩:∃G:List Txt,G=[[43],[45]]:=⟨_,rfl⟩
  have U:∀(j:Nat) (t:Txt),G[j]?=some t->O.cell? (Ja E j)=some (str t):=fun j t A=>by
   rw[Qad T]
   rw[ad]at A
   match j,A with
   | 0,A=>cases A;rfl
   | 1,A=>cases A;rfl
   |j+2,A=>simp at A
  obtain⟨Y,aa⟩:∃Y:Nat,Y=2:=⟨_,rfl⟩
  have aC:=hide aa
  have aU:=hide (show G.length=Y by rw[aa,ad];rfl)
  clear aa
 all_goals
  have b0:=hR O a i y f (h.later b1)
  have bl:=Qaa h.box
  have bu:=h.row.lt
  have X:=hide (Ya bl bu)
  have bh:=hide hR
  have H1:=hide (Ya b1 (Ya n1 (Ya U (Ya s1 (Ya a3 T)))))
  have b5:=hide R
  clear R b1 n1 T s1 ad U h hR a3
  go_enter Tryz.func121,Tryz.ntmps121
  go_wp2_with fail
  rw[<- Qa b5]
  clear b5
  refine b0.mono ?_
  clear b0
  rintro en w1⟨_,a1,i1,y1,f1,rfl,⟨B,⟨_,rfl,⟨o,r,z,rfl⟩,aV⟩,b6⟩,⟨ei,b9,ba⟩,M,k1⟩
  rw[ei]at M
  clear ei
  have bv:=hide (show y1=0->exQ B+2*a<=2*a1 from fun e=>b6.at M e)
  clear b6
  obtain⟨b1,n1,U,s1,a3,T⟩:=Qa H1
  have bg:=k1.size
  obtain⟨ne,aq⟩:=JF w1.heap.size
  obtain⟨W2,aw⟩:=JE (w1.alloc (.cells #[Ji B.kind,Ji B.num,str B.txt,.slice o r z,Ji B.at_] 59))
  have b2:Below w1.heap.size w1 W2:=by rw[aw];exact(Below.refl _ w1).alloc (Nat.le_refl _) _
  have m2:W2.heap[ne]?=some (.cells #[Ji B.kind,Ji B.num,str B.txt,.slice o r z,Ji B.at_] 59 (0,0)):=by rw[aw,<- aq];exact heap_alloc_new w1 _
  have z2:W2.heap[w.heap.size]?=some (.cells #[Ji 0,Ji 0,Je,Jn,Ji 0] 59 (0,0)):=(b2.block _ (by omega)).trans (k1.keep n1 (by omega))
  have aZ:=(b2.block _ (by omega)).trans (k1.keep T (by omega))
  have q2:∀(j:Nat) (t:Txt),G[j]?=some t->W2.cell? (Ja E j)=some (str t):=fun j t A=>by
   have:=U j t A
   rw[Qad T]at this
   rw[Qad aZ]
   exact this
  have am:ExS (fun b=>w.heap.size<b/\b≠ne) W2 [Ji B.kind,Ji B.num,str B.txt,.slice o r z,Ji B.at_] B:=Qaf.mono _ _ _ _ _ (Qaf.same _ _ W2 _ _ (Qaf.mono _ (fun b=>O.heap.size<=b/\b<w1.heap.size) _ _ _ aV (fun b W C=>⟨C,W⟩)) b2.size (fun b _ W=>b2.block b W)) (fun b _ C=>⟨by omega,by omega⟩)
  have aS:Hid (RwI rb g cap l w d i a y ne E G W2 a1 y1 f1 B o r z):=⟨M.later b2,((Kp.of_below b1).trans k1).trans (Kp.of_below b2),m2,z2,am,q2,b9,ba⟩
  have aR:=hide (show rb<ne/\g<ne/\w.heap.size<ne by omega)
  have aK:=hide (show E<ne by omega)
  have bb:=hide (show w.heap.size<E by omega)
  have N2:=Qhg w1 (c0:=Ji B.kind) (c1:=Ji B.num) (c2:=str B.txt) (c3:=.slice o r z) (c4:=Ji B.at_) (by simp[Value.oneCell',str])
  have b8:=hide (Ya aw aq)
  rw[<- aw]at N2
  clear aw b2 m2 z2 aZ q2 am b1 n1 U s1 T bg aq M k1 aV b9 ba a3
  go_wp2_with fail
  rw[(Qa b8).2,<- (Qa H1).2.2.2.2.1]
  clear b8 N2 H1
  go_loopw [7,9] (fun _ _ wr=>∃(aX:Nat) (yX fX:Int) (n:Ex) (o:Option Addr) (r z:Nat),Hid (RwI rb g cap l w d i a y ne E G wr aX yX fX n o r z)/\Hid (yX=0->exQ n+2*a<=2*aX)) (fun _ _ wr=>leftR rb l.length wr)
  case atStart=>exact⟨_,_,_,_,_,_,_,aS,bv⟩
  obtain⟨aX,yX,fX,n,o,r,z,HI,SX⟩:=hrel
  clear aS
  obtain⟨WX,a7⟩:=JE wr
  have ab:=Qaw (Qa HI).1
  by_cases hy:yX=0
  ·
   rw[decide_eq_true hy]at ab
   have HY:=hide hy
   clear hy
   clear a7 WX
   go_wp2_with fail
   refine ab.mono ?_
   clear ab
   rintro en wq⟨rfl,rfl⟩
   go_wp2_with fail
   go_loopw [7,9,26] (fun v7 _ aF br=>∃(N:Txt) (j:Nat),v7=str N/\aF = Ji (j:Int)/\j<=Y/\Hid (Below wq.heap.size wq br/\(N≠[]->yX=0/\aX+1<l.length))) (fun _ _ aF _=>Y - (intOf aF).toNat)
   case atStart=>exact⟨[],0,rfl,rfl,Nat.zero_le _,hide ⟨Below.refl _ _,fun h=>absurd rfl h⟩⟩
   obtain⟨N,j,rfl,rfl,A,HJ⟩:=hrel
   by_cases ao:j<Y
   ·
    obtain⟨st,aW⟩:∃st,G[j]?=some st:=⟨G[j]'(by rw[Qa aU];exact ao),List.getElem?_eq_getElem _⟩
    have aN:=ao
    rw[Qa aC]at aN
    have c1:=((Qa HJ).1.cell (p:=(Ja E j)) (by show E<wq.heap.size;have:=Qaa (Qa HI).2.2.1;have:=Qa aK;omega)).trans ((Qa HI).2.2.2.2.2.1 j st aW)
    have aI:=Qcj ((Qa HI).1.later (Qa HJ).1) ⟨st.toArray⟩
    rw[show(Value.string ⟨st.toArray⟩)=str st from rfl]at aI
    clear aW
    go_wp2_with fail
    refine aI.mono ?_
    clear aI
    rintro en w4⟨b,rfl,C,b4⟩
    have aJ:=hide (Ya C ((Qa HJ).1.trans (b4.mono (Qa HJ).1.size)))
    clear C b4 c1
    cases b
    ·
     go_wp2_with fail
     go_roundw
     case rel=>exact⟨N,j+1,rfl,by go_num,by omega,hide ⟨(Qa aJ).2,(Qa HJ).2⟩⟩
     case measure=>simp[intOf];omega
    go_wp2_with fail
    go_roundw
    case rel=>exact⟨st,j+1,rfl,by go_num,by omega,hide ⟨(Qa aJ).2,fun _=>(Qa aJ).1 (by trivial)⟩⟩
    case measure=>simp[intOf];omega
   have aN:=ao
   rw[Qa aC]at aN
   have au:Hid (RwI rb g cap l w d i a y ne E G wr aX yX fX n o r z):=(Qa HI).later (Qa aK) (Qa HJ).1
   by_cases ho:N=[]
   ·
    have bx:(N==[])=true:=by simpa using ho
    obtain⟨WX,a7⟩:=JE wr
    rw[<- a7]at au
    rw[<- a7]
    clear ho a7 HJ
    obtain⟨h4,P,m4,z4,al,ax,a0,a2⟩:=Qa au
    have L5:=Qdl m4
    have S5:=Qbv (new:=#[Ji n.kind,Ji n.num,str n.txt,.slice o r z,Ji n.at_]) z4 rfl rfl (by simp[Value.oneCell',str])
    obtain⟨u,D⟩:=JE (WX.setRow w.heap.size #[Ji n.kind,Ji n.num,str n.txt,.slice o r z,Ji n.at_])
    rw[<- D]at S5
    have V:∀q,q≠w.heap.size->u.heap[q]?=WX.heap[q]?:=fun q J=>by rw[D];exact setRow_other _ _ _ _ J
    have s6:u.heap.size=WX.heap.size:=by rw[D,size_setRow]
    have z6:u.heap[w.heap.size]?=some (.cells #[Ji n.kind,Ji n.num,str n.txt,.slice o r z,Ji n.at_] 59 (0,0)):=by rw[D];exact setRow_heap _ _ _ _ _ _ z4
    have H:=h4.move (w':=u) (by omega) (V rb (by have:=Qa X;omega)) (V g (by have:=Qa X;omega))
    have Q:Kp rb w u:=⟨by rw[D];exact P.os,by rw[D];exact P.tape,by rw[D];exact P.output,by rw[s6];exact P.size,fun q J hn=>(V q (by omega)).trans (P.block q J hn)⟩
    have a4:ExS (fun b=>w.heap.size<=b) u [Ji n.kind,Ji n.num,str n.txt,.slice o r z,Ji n.at_] n:=by
     have U:=Qaf.same _ _ u _ _ al (by omega) (fun b C W=>V b (by have:=C.1;omega))
     exact Qaf.mono _ _ _ _ _ U (fun b _ C=>by have:=C.1;omega)
    have HF:=hide (Ya H (Ya Q (Ya z6 (Ya a4 (Ya a0 a2)))))
    clear h4 P m4 z4 al ax a0 a2 V s6 z6 H Q a4 D
    go_wp2_with fail
    obtain⟨H,Q,z6,a4,a0,a2⟩:=Qa HF
    obtain⟨aE,aM,aL,aD,aH,zf⟩:=ex5 z6
    refine bodyPost_ret (v:=.agg #[Ji n.kind,Ji n.num,str n.txt,.slice o r z,Ji n.at_]) (by simp[results,Tryz.results121,go_sem,aE,aM,aL,aD,aH]) rfl ?_
    exact⟨_,_,_,_,_,rfl,⟨n,⟨_,rfl,⟨_,_,_,rfl⟩,a4⟩,szQ.of H (Qa SX)⟩,⟨rfl,a0,a2⟩,H,Q⟩
   have bx:(N==[])=false:=by simpa using ho
   have HO:=hide ((Qa HJ).2 ho)
   clear ho HJ
   obtain⟨a8,ak,ac,aj,ai,ag,an,ae⟩:=Qa au
   obtain⟨t,ht⟩:=a8.tok
   have bf:=Qb a8 ht
   clear a8 ak ac aj ai ag an ae ht
   go_wp2_with fail
   refine bf.mono ?_
   clear bf
   rintro en I⟨_,a5,i5,y5,f5,rfl,rfl,⟨ei,ey,bc⟩,h5,Z⟩
   rw[ei,ey]at h5
   clear ei ey
   obtain⟨a8,ak,ac,aj,ai,ag,an,ae⟩:=Qa au
   obtain⟨o1,o2⟩:=Qa HO
   have e5:a5=aX+1:=by
    rcases bc with ⟨_,_,e⟩|⟨_,hn⟩
    ·exact e
    ·exact absurd o2 (hn o1)
   have aq:=Qa aR
   have m5:=Z.keep ac (by omega)
   have aP:=Qa bh I.drew a5 i yX f5 (h5.later (Below.refl _ I).drew)
   have HC:Hid (∀w',Kp rb I w'->w'.heap[ne]?=some (.cells #[Ji n.kind,Ji n.num,str n.txt,.slice o r z,Ji n.at_] 59 (0,0))):=fun w' kk=>kk.keep m5 (by omega)
   have H5:=hide (Ya e5 (Ya h5 (Ya Z m5)))
   clear bc h5 Z a8 ak ac aj ai ag an ae o1 o2 e5 aq m5
   go_wp2_with fail
   refine Qaq (m:=10) (ml:=[(0,1),(1,1),(2,2),(3,2),(4,1),(5,1),(6,1),(7,0),(8,0),(9,1),(10,0)]) (fun ff w'=>ff=false->w'.heap[ne]?=some (.cells #[Ji n.kind,Ji n.num,str n.txt,.slice o r z,Ji n.at_] 59 (0,0))) mixedO (by kernel_rfl) rfl (by rfl) (by kernel_rfl) (fun PP b3=>?_)
   iterate 2 (refine mF (v:=?_) (fun f w' hw=>?_) ?_;rotate_left;· (go_simp<;>rfl))
   iterate 2 (refine Qax (v:=?_) rfl (by kernel_rfl) (fun w' hw=>?_) ?_;rotate_left;· (have L:=Qdl (hw rfl);obtain⟨bB,bz,bC,bE,bF,xf⟩:=ex5 (hw rfl);go_simp<;>rfl))
   iterate 3 (refine mF (v:=?_) (fun f w' hw=>?_) ?_;rotate_left;· (go_simp<;>rfl))
   refine Qab rfl (fun _=>Qa HC _ (Kp.of_below (Below.refl _ I).drew)) (fun K hK=>?_)
   go_simp
   refine aP.mono ?_
   clear aP
   rintro en u⟨_,a6,i6,y6,f6,rfl,⟨s,⟨_,rfl,⟨ea,ar,ec,rfl⟩,am⟩,aY⟩,⟨ei,bk,ah⟩,H,Q⟩
   rw[ei]at H
   clear ei
   have S2:=hide (show y6=0->exQ s+2*a5<=2*a6 from fun e=>aY.at H e)
   clear aY
   show K _ _
   refine hK _ _ ?_
   clear hK K
   obtain⟨e5,h5,Z,m5⟩:=Qa H5
   obtain⟨a8,ak,ac,aj,ai,ag,an,ae⟩:=Qa au
   obtain⟨bq,bj,bt⟩:=Qa aR
   have a3:=Qa aK
   have bp:=Z.size
   have bo:I.heap.size<=u.heap.size:=Q.size
   have bn:=Qaa ac
   have az:Kp rb I u:=(Kp.of_below (Below.refl _ I).drew).trans Q
   have m6:=az.keep m5 (by omega)
   obtain⟨S,aG⟩:=JF u.heap.size
   obtain⟨w7,av⟩:=JE (u.alloc (.cells #[Ji n.kind,Ji n.num,str n.txt,.slice o r z,Ji n.at_,Ji s.kind,Ji s.num,str s.txt,.slice ea ar ec,Ji s.at_] 59))
   have b7:Below u.heap.size u w7:=by rw[av];exact(Below.refl _ u).alloc (Nat.le_refl _) _
   have q7:w7.heap[S]?=some (.cells #[Ji n.kind,Ji n.num,str n.txt,.slice o r z,Ji n.at_,Ji s.kind,Ji s.num,str s.txt,.slice ea ar ec,Ji s.at_] 59 (0,0)):=by rw[av,<- aG];exact heap_alloc_new u _
   have s7:w7.heap.size=u.heap.size+1:=by rw[av];simp
   have m7:=(b7.block _ (Qaa m6)).trans m6
   have bs:=hide m7
   have bm:=hide m6
   obtain⟨F,a9⟩:=JE (w7.setRow ne #[Ji 5,Ji 0,str N,.slice (Js S) 2 2,Ji n.at_])
   have o8:∀q,q≠ne->F.heap[q]?=w7.heap[q]?:=fun q J=>by rw[a9];exact setRow_other _ _ _ _ J
   have s8:F.heap.size=w7.heap.size:=by rw[a9,size_setRow]
   have m8:F.heap[ne]?=some (.cells #[Ji 5,Ji 0,str N,.slice (Js S) 2 2,Ji n.at_] 59 (0,0)):=by rw[a9];exact setRow_heap _ _ _ _ _ _ m7
   have h8:=(H.later b7).move (w':=F) (by omega) (o8 rb (by omega)) (o8 g (by omega))
   have af:Kp rb w w7:=((ak.trans Z).trans az).trans (Kp.of_below b7)
   have k8:Kp rb w F:=⟨by rw[a9];exact af.os,by rw[a9];exact af.tape,by rw[a9];exact af.output,by rw[s8];exact af.size,fun q J hn=>(o8 q (by omega)).trans (af.block q J hn)⟩
   have aA:∀q,q<I.heap.size->q≠rb->q≠ne->F.heap[q]?=I.heap[q]?:=fun q M h2 h3=>(o8 q h3).trans ((b7.block q (by omega)).trans (az.block q M h2))
   have z8:F.heap[w.heap.size]?=some (.cells #[Ji 0,Ji 0,Je,Jn,Ji 0] 59 (0,0)):=(aA _ (by omega) (by have:=(Qa X).1;omega) (by omega)).trans (Z.keep aj (by have:=(Qa X).1;omega))
   have be:ExS (fun b=>w.heap.size<b/\b≠ne) F [Ji n.kind,Ji n.num,str n.txt,.slice o r z,Ji n.at_] n:=Qaf.same _ _ F _ _ ai (by omega) (fun q J W=>(aA q (by omega) (by have:=(Qa X).1;omega) J.2).trans (Z.block q W (by have:=(Qa X).1;omega)))
   have aO:ExS (fun b=>w.heap.size<b/\b≠ne) F [Ji s.kind,Ji s.num,str s.txt,.slice ea ar ec,Ji s.at_] s:=Qaf.mono _ _ _ _ _ (Qaf.same _ _ F _ _ (Qaf.mono _ (fun b=>I.drew.heap.size<=b/\b<u.heap.size) _ _ _ am (fun b W C=>⟨C,W⟩)) (by omega) (fun q J W=>(o8 q (by have:=J.1;have:I.drew.heap.size=I.heap.size:=rfl;omega)).trans (b7.block q W))) (fun b _ C=>⟨by have:=C.1;have:I.drew.heap.size=I.heap.size:=rfl;omega,by have:=C.1;have:I.drew.heap.size=I.heap.size:=rfl;omega⟩)
   have q8:F.heap[S]?=some (.cells #[Ji n.kind,Ji n.num,str n.txt,.slice o r z,Ji n.at_,Ji s.kind,Ji s.num,str s.txt,.slice ea ar ec,Ji s.at_] 59 (0,0)):=(o8 S (by omega)).trans q7
   have ap:LsAt PE 5 (fun b=>w.heap.size<b/\b≠ne) F (.slice (Js S) 2 2) [n,s]:=⟨some (Ja S 0),2,[[Ji n.kind,Ji n.num,str n.txt,.slice o r z,Ji n.at_],[Ji s.kind,Ji s.num,str s.txt,.slice ea ar ec,Ji s.at_]],rfl,Nat.le_refl _,by unfold maxLen;omega,⟨rfl,fun j x cs M h2=>by
    match j,M,h2 with
    | 0,M,h2=>cases M;cases h2;exact⟨rfl,be⟩
    | 1,M,h2=>cases M;cases h2;exact⟨rfl,aO⟩
    |j+2,M,h2=>simp at M⟩,fun _=>⟨S,rfl,⟨by omega,by omega⟩,Qaa q8,fun j c A=>by rw[Qad q8];simpa using A⟩⟩
   have bd:ExS (fun b=>w.heap.size<b/\b≠ne) F [Ji 5,Ji 0,str N,.slice (Js S) 2 2,Ji n.at_] (.mk 5 0 N [n,s] n.at_):=Qlx ap
   have aQ:∀(j:Nat) (t:Txt),G[j]?=some t->F.cell? (Ja E j)=some (str t):=fun j t A=>by
    have e1:F.heap[E]?=wr.heap[E]?:=(aA E (by omega) (by have:=(Qa X).1;have:=Qa bb;omega) (by omega)).trans (Z.block E (by omega) (by have:=(Qa X).1;have:=Qa bb;omega))
    have:=ag j t A
    simp only[World.cell?]at this ⊢
    rw[e1];exact this
   have aB:=Qan (Qa HI).1 l.length
   have ay:=Qan h8 l.length
   have HE:=hide (show RwI rb g cap l w d i a y ne E G F a6 y6 f6 (.mk 5 0 N [n,s] n.at_) (Js S) 2 2 from ⟨h8,k8,m8,z8,bd,aQ,by omega,fun e=>by have:=ah e;exact⟨(ae this.1).1,by omega⟩⟩)
   have SE:=hide (show y6=0->exQ (.mk 5 0 N [n,s] n.at_)+2*a<=2*a6 from fun e=>by have U:=Qa SX (ah e).1;have q2:=Qa S2 e;rw[exQ,exQs,Qhx];omega)
   have HM:=hide (Ya aB (Ya ay (Ya e5 (Ya ah (Ya h8.lt a8.lt)))))
   have aT:=hide (Ya av aG)
   have bw:=hide a9
   have bi:=hide (Ya m7 m8)
   clear e5 h5 Z m5 a8 ak ac aj ai ag an ae bq bj bt a3 bp bo bn az m6 aG av b7 q7 s7 m7 a9 o8 s8 m8 h8 af k8 aA z8 be aO q8 ap bd aQ aB ay am bk ah H Q
   refine Qab rfl (fun _=>Qa bm) (fun K hK=>?_)
   go_simp
   rw[<- (Qa aT).1,(Qa aT).2]
   refine hK _ _ ?_
   clear hK K
   refine Qae rfl (by kernel_rfl) (fun _ _ _=>by go_simp<;>rfl) ?_
   simp[Act.put,Array.setIfInBounds]
   refine Qab rfl (fun _=>Qa bs) (fun K hK=>?_)
   refine Qdd rfl _ _ _ rfl ne _ _ #[Ji 5,Ji 0,str N,.slice (Js S) 2 2,Ji n.at_] (by kernel_rfl) (by kernel_rfl) (Qa bi).1 (by kernel_rfl) rfl (by simp[Value.oneCell',str]) ?_
   refine hK _ _ ?_
   clear hK K
   rw[<- Qa bw]
   refine Qat (fun e=>by cases e) (b3 _ _ ?_)
   clear b3 PP
   simp[Act.put]
   go_wp2_with fail
   go_roundw
   case rel=>exact⟨_,_,_,_,_,_,_,HE,SE⟩
   obtain⟨aB,ay,e5,ah,bA,bD⟩:=Qa HM
   rw[aB,ay,if_pos (Qa HY)]
   split
   ·
    rename_i e
    have:=(ah e).2
    omega
   ·omega
  rw[decide_eq_false hy]at ab
  rw[<- a7]at HI ab
  rw[<- a7]
  clear hy a7
  go_wp2_with fail
  refine ab.mono ?_
  clear ab
  rintro en wq⟨rfl,ew⟩
  rw[ew]
  clear ew
  obtain⟨h4,P,m4,z4,al,ax,a0,a2⟩:=Qa HI
  have L5:=Qdl m4
  have S5:=Qbv (new:=#[Ji n.kind,Ji n.num,str n.txt,.slice o r z,Ji n.at_]) z4 rfl rfl (by simp[Value.oneCell',str])
  obtain⟨u,D⟩:=JE (WX.setRow w.heap.size #[Ji n.kind,Ji n.num,str n.txt,.slice o r z,Ji n.at_])
  rw[<- D]at S5
  have V:∀q,q≠w.heap.size->u.heap[q]?=WX.heap[q]?:=fun q J=>by rw[D];exact setRow_other _ _ _ _ J
  have s6:u.heap.size=WX.heap.size:=by rw[D,size_setRow]
  have z6:u.heap[w.heap.size]?=some (.cells #[Ji n.kind,Ji n.num,str n.txt,.slice o r z,Ji n.at_] 59 (0,0)):=by rw[D];exact setRow_heap _ _ _ _ _ _ z4
  have H:=h4.move (w':=u) (by omega) (V rb (by have:=Qa X;omega)) (V g (by have:=Qa X;omega))
  have Q:Kp rb w u:=⟨by rw[D];exact P.os,by rw[D];exact P.tape,by rw[D];exact P.output,by rw[s6];exact P.size,fun q J hn=>(V q (by omega)).trans (P.block q J hn)⟩
  have a4:ExS (fun b=>w.heap.size<=b) u [Ji n.kind,Ji n.num,str n.txt,.slice o r z,Ji n.at_] n:=by
   have U:=Qaf.same _ _ u _ _ al (by omega) (fun b C W=>V b (by have:=C.1;omega))
   exact Qaf.mono _ _ _ _ _ U (fun b _ C=>by have:=C.1;omega)
  have HF:=hide (Ya H (Ya Q (Ya z6 (Ya a4 (Ya a0 a2)))))
  clear h4 P m4 z4 al ax a0 a2 V s6 z6 H Q a4 D
  go_wp2_with fail
  obtain⟨H,Q,z6,a4,a0,a2⟩:=Qa HF
  obtain⟨aE,aM,aL,aD,aH,zf⟩:=ex5 z6
  refine bodyPost_ret (v:=.agg #[Ji n.kind,Ji n.num,str n.txt,.slice o r z,Ji n.at_]) (by simp[results,Tryz.results121,go_sem,aE,aM,aL,aD,aH]) rfl ?_
  exact⟨_,_,_,_,_,rfl,⟨n,⟨_,rfl,⟨_,_,_,rfl⟩,a4⟩,szQ.of H (Qa SX)⟩,⟨rfl,a0,a2⟩,H,Q⟩
theorem Qsy{rb g cap d:Nat}{l:List Tok}(hR:ExC 121 rb g cap l d #[.pointer (Js rb),Ji 1]):ExC 121 rb g cap l d #[.pointer (Js rb),Ji 0]:=Qqn (.inl ⟨rfl,rfl⟩) hR
theorem Qsz{rb g cap d:Nat}{l:List Tok}(hR:ExC 121 rb g cap l d #[.pointer (Js rb),Ji 2]):ExC 121 rb g cap l d #[.pointer (Js rb),Ji 1]:=Qqn (.inr ⟨rfl,rfl⟩) hR
end
section
open Go.RowKit Go.Maps
attribute [local go_sem ↓] Qbt Qca
theorem Qt{rb g cap d:Nat}{l:List Tok}(hF:ExC 132 rb g cap l d #[.pointer (Js rb)]):ExC 121 rb g cap l d #[.pointer (Js rb),Ji 2]:=fun w a i y f h=>by
 obtain⟨G,o⟩:=JE ((w.alloc (.cells #[Ji 0,Ji 0,Je,Jn,Ji 0] 59)).alloc (.cells #[.string ⟨#[43]⟩,.string ⟨#[45]⟩] 9))
 have n:Below w.heap.size w G:=by rw[o];exact((Below.refl _ w).alloc (Nat.le_refl _) _).alloc (by simp) _
 have p:G.heap[w.heap.size]?=some (.cells #[Ji 0,Ji 0,Je,Jn,Ji 0] 59 (0,0)):=by rw[o,Below.heap_alloc _ _ _ (by simp)];exact heap_alloc_new w _
 have N:=hF G a i y f (h.later n)
 have a0:=Qaa h.box
 have a2:=h.row.lt
 have H:G.heap.size=w.heap.size+2:=by rw[o];simp
 have Y:=hide (Ya n (Ya p H))
 have M:=hide o
 clear o n p h hF H
 go_enter Tryz.func121,Tryz.ntmps121
 go_wp2_with fail
 rw[<- Qa M]
 clear M
 refine N.mono ?_
 clear N
 rintro en I⟨_,a1,i1,y1,f1,rfl,⟨c,⟨_,rfl,⟨r,s,t,rfl⟩,O⟩,L⟩,⟨P,B,A⟩,D,E⟩
 rw[P]at D
 clear P
 have SX:=hide (show y1=0->exQ c+2*a<=2*a1 from fun e=>L.at D e)
 clear L
 obtain⟨n,p,H⟩:=Qa Y
 have R:=E.size
 have K:=E.keep p (by omega)
 have S5:=Qbv (new:=#[Ji c.kind,Ji c.num,str c.txt,.slice r s t,Ji c.at_]) K rfl rfl (by simp[Value.oneCell',str])
 obtain⟨k,j⟩:=JE (I.setRow w.heap.size #[Ji c.kind,Ji c.num,str c.txt,.slice r s t,Ji c.at_])
 rw[<- j]at S5
 have x:∀q,q≠w.heap.size->k.heap[q]?=I.heap[q]?:=fun q J=>by rw[j];exact setRow_other _ _ _ _ J
 have Q:k.heap.size=I.heap.size:=by rw[j,size_setRow]
 have F:k.heap[w.heap.size]?=some (.cells #[Ji c.kind,Ji c.num,str c.txt,.slice r s t,Ji c.at_] 59 (0,0)):=by rw[j];exact setRow_heap _ _ _ _ _ _ K
 have m:=(Kp.of_below (rb:=rb) n).trans E
 have u:=D.move (w':=k) (by omega) (x rb (by omega)) (x g (by omega))
 have C:Kp rb w k:=⟨by rw[j];exact m.os,by rw[j];exact m.tape,by rw[j];exact m.output,by rw[Q];exact m.size,fun q J hn=>(x q (by omega)).trans (m.block q J hn)⟩
 have z:ExS (fun b=>w.heap.size<=b) k [Ji c.kind,Ji c.num,str c.txt,.slice r s t,Ji c.at_] c:=by
  have q1:=Qaf.same _ _ k _ _ O (by omega) (fun b X hl=>x b (by omega))
  exact Qaf.mono _ _ _ _ _ q1 (fun b _ X=>by omega)
 have Z:=hide (Ya u (Ya C (Ya F (Ya z (Ya B A)))))
 clear D E O B A n p H R K j x Q F m u C z
 go_wp2_with fail
 obtain⟨u,C,F,z,B,A⟩:=Qa Z
 obtain⟨W,U,T,V,S,zf⟩:=ex5 F
 refine bodyPost_ret (v:=.agg #[Ji c.kind,Ji c.num,str c.txt,.slice r s t,Ji c.at_]) (by simp[results,Tryz.results121,go_sem,W,U,T,V,S]) rfl ?_
 exact⟨_,_,_,_,_,rfl,⟨c,⟨_,rfl,⟨_,_,_,rfl⟩,z⟩,szQ.of u (Qa SX)⟩,⟨rfl,B,A⟩,u,C⟩
theorem Qta{rb g cap d:Nat}{l:List Tok}(hF:ExC 132 rb g cap l d #[.pointer (Js rb)]):ExC 121 rb g cap l d #[.pointer (Js rb),Ji 0]:=Qsy (Qsz (Qt hF))
theorem Qql{rb g cap:Nat}{l:List Tok}(hO:∀d,d<64->ExC 108 rb g cap l d #[.pointer (Js rb)]->ExC 132 rb g cap l d #[.pointer (Js rb)]->ExC 135 rb g cap l d #[.pointer (Js rb)]):
  ∀n d,d+n=63->ExC 108 rb g cap l d #[.pointer (Js rb)]/\ExC 132 rb g cap l d #[.pointer (Js rb)]
 | 0,d,hd=>⟨fun _ _ _ _ _ h=>Qmj h (by omega) (fun h32=>by omega),fun _ _ _ _ _ h=>Qhh h (by omega) (fun h32=>by omega)⟩
 |n+1,d,hd=>by
  obtain⟨hE,hF⟩:=Qql hO n (d+1) (by omega)
  exact⟨fun _ _ _ _ _ h=>Qmj h (by omega) (fun _=>Qta hF),fun _ _ _ _ _ h=>Qhh h (by omega) (fun _=>hO (d+1) (by omega) hE hF)⟩
end
end Go.Proofs.YtmfpbepifnedjaaGreat
