/- types. -/
import Derived.Test.YtmfpbepifnedjaaGreatZz01
import Derived.Test.YtmfpbepifnedjaaGreatZz49
import Derived.Test.YtmfpbepifnedjaaGreatZz43
import Derived.Test.YtmfpbepifnedjaaGreatZz30
import Derived.Test.YtmfpbepifnedjaaGreatZz38
import Derived.Test.YtmfpbepifnedjaaGreatZz44
import Derived.Test.YtmfpbepifnedjaaGreatZz35
set_option maxRecDepth 100000
set_option maxHeartbeats 32000000
namespace Go.Proofs.YtmfpbepifnedjaaGreat
section
open Go.RowKit Go.Maps
theorem mem_1{S:Nat->Prop}{w:World}{a0 a1 a2 a3 a4:Option Addr}{n0 q0 n1 q1 n2 q2 n3 q3 n4 q4:Nat}{a b c:Int}{o:Pl}(hP:PgS S w [.slice a0 n0 q0,.slice a1 n1 q1,.slice a2 n2 q2,.slice a3 n3 q3,.slice a4 n4 q4] (pg1 a b c o)):∃cb aa an ac ba bn bc,a4=some (Ja cb 0)/\n4=1/\cb<w.heap.size/\(∀q v,([str tQ,.slice aa an ac,Ji o.b,.slice ba bn bc,Ji o.m]:List Value)[q]?=some v->w.cell? (Ja cb q)=some v)/\LsAt PE 5 S w (.slice aa an ac) (caQ o).head.args/\LsAt PLt 16 S w (.slice ba bn bc) (caQ o).body:=by
 obtain⟨y,z,A,B,C,e,r,s,t,u,f⟩:=hP.cells
 obtain⟨rfl,rfl,rfl,rfl,rfl⟩:=list5 e
 obtain⟨cb,cap,p,d,i,_,x,l,k⟩:=f.elem (j:=0) rfl
 obtain⟨aa,an,ac,ba,bn,bc,rfl,g,h⟩:=l
 simp only[Value.slice.injEq]at d
 exact⟨cb,aa,an,ac,ba,bn,bc,d.1,d.2.1,i,fun q v n=>by simpa using k q v n,g,h⟩
theorem mem_2{S:Nat->Prop}{w:World}{a0 a1 a2 a3 a4:Option Addr}{n0 q0 n1 q1 n2 q2 n3 q3 n4 q4:Nat}{a b c:Int}{o u:Pl}(hP:PgS S w [.slice a0 n0 q0,.slice a1 n1 q1,.slice a2 n2 q2,.slice a3 n3 q3,.slice a4 n4 q4] (pg2 a b c o u)):n2=0/\n3=0:=by
 obtain⟨l,m,n,p,q,f,i,j,g,h,k⟩:=hP.cells
 obtain⟨rfl,rfl,rfl,rfl,rfl⟩:=list5 f
 obtain⟨_,_,_,d,_⟩:=g
 obtain⟨_,_,_,e,_⟩:=h
 simp only[Value.slice.injEq]at d e
 exact⟨d.2.1,e.2.1⟩
theorem row_1{w:World}{b:Nat}{sl:Value}(h:w.ownsRow b 67 2 sl 1 (fdCells [⟨tX,tA⟩])):∃g cap,sl = .slice (Js g) 1 cap/\b<=g/\g<w.heap.size/\w.cell? (Ja g 0)=some (str tX)/\w.cell? (Ja g 1)=some (str tA):=by
 rcases h.2 with ⟨_,e⟩|⟨g,cap,j,f,i,c,k,l,m,d⟩
 ·cases e
 refine⟨g,cap,f,i,Qaa c,?_,?_⟩
 ·
  rw[Qad c]
  have a:(fdCells [⟨tX,tA⟩])[0]?=some (str tX):=rfl
  rw[<- d,List.getElem?_take_of_lt (by omega)]at a
  simpa using a
 rw[Qad c]
 have a:(fdCells [⟨tX,tA⟩])[1]?=some (str tA):=rfl
 rw[<- d,List.getElem?_take_of_lt (by omega)]at a
 simpa using a
theorem lt_Q{o:Pl}:ltBs (caQ o).body<=1000000000:=by
 simp[caQ,vaL,vaA,vaX,ltBs,ltB,exQ,exQs,tX]
theorem lt_E{o:Pl}:ltBs (caE o).body<=1000000000:=by
 simp[caE,vaL,vaA,vaX,ltBs,ltB,exQ,exQs,tX]
theorem Qkl(w:World):Calls Tryz.prog 12 #[] w fun e w'=>e = .returned (.bool true)/\Below w.heap.size w w':=by
 have aF:=parse_1 w
 have aG:=hide (fun W=>parse_2 W)
 unfold sm1 at aF
 unfold sm2 at aG
 go_enter Tryz.func12,Tryz.ntmps12
 go_wp2_with fail
 refine aF.mono ?_
 clear aF
 rintro e t⟨A,C,B,D,F,E,G,I,H,J,M,L,bq,br,N,p,rfl,b1,aN,a,b,c,o,rfl⟩
 have a0:=Qak.mono _ (fun q=>q<t.heap.size) _ _ _ aN (fun q hl _=>hl)
 obtain⟨k,aa,an,ac,ba,bn,bc,rfl,rfl,aC,aO,hA,hB⟩:=mem_1 a0
 obtain⟨d,a5⟩:=JE ((t.alloc (.cells #[.slice A C B,.slice D F E,.slice G I H,.slice J M L,.slice (Js k) 1 N] 28)).alloc (.cells #[Ji 0,Ji 0] 31))
 have n:Below t.heap.size t d:=by rw[a5];exact((Below.refl _ t).alloc (Nat.le_refl _) _).alloc (by simp) _
 have Z:d.heap[t.heap.size]?=some (.cells #[.slice A C B,.slice D F E,.slice G I H,.slice J M L,.slice (Js k) 1 N] 28 (0,0)):=by rw[a5,Below.heap_alloc _ _ _ (by simp)];exact heap_alloc_new t _
 have f1:d.heap[t.heap.size+1]?=some (.cells #[Ji 0,Ji 0] 31 (0,0)):=by
  rw[a5]
  have:=heap_alloc_new (t.alloc (.cells #[.slice A C B,.slice D F E,.slice G I H,.slice J M L,.slice (Js k) 1 N] 28)) (.cells #[Ji 0,Ji 0] 31)
  simpa using this
 obtain⟨kp,aE⟩:=JF t.heap.size
 have B1:Below w.heap.size w d:=b1.trans (n.mono b1.size)
 rw[aE]at a0 aC hA hB Z f1 n
 have aA:∀W,Below d.heap.size d W->PgS (fun q=>q<kp) W [.slice A C B,.slice D F E,.slice G I H,.slice J M L,.slice (Js k) 1 N] (pg1 a b c o):=fun W i=>by
  have Q:=n.trans (i.mono (by have:=n.size;omega))
  exact Qak.same _ _ _ _ _ a0 (by have:=Q.size;omega) (fun q X _=>Q.block q X)
 have aL:∀W,Below d.heap.size d W->LsAt PE 5 (fun q=>q<kp) W (.slice aa an ac) (caQ o).head.args:=fun W i=>by
  have Q:=n.trans (i.mono (by have:=n.size;omega))
  exact hA.same Qaf (by have:=Q.size;omega) (fun q X _=>Q.block q X)
 have aM:∀W,Below d.heap.size d W->LsAt PLt 16 (fun q=>q<kp) W (.slice ba bn bc) (caQ o).body:=fun W i=>by
  have Q:=n.trans (i.mono (by have:=n.size;omega))
  exact hB.same Qba (by have:=Q.size;omega) (fun q X _=>Q.block q X)
 have O:Hid (∀W:World,Below d.heap.size d W->W.heap[kp]?=some (.cells #[.slice A C B,.slice D F E,.slice G I H,.slice J M L,.slice (Js k) 1 N] 28 (0,0)) /\ ∀q v,([str tQ,.slice aa an ac,Ji o.b,.slice ba bn bc,Ji o.m]:List Value)[q]?=some v->W.cell? (Ja k q)=some v):=fun W i=>⟨(i.block _ (Qaa Z)).trans Z,fun q v hv=>by
  rw[i.cell (p:=(Ja k q)) (by have:=n.size;show k<_;omega),n.cell (p:=(Ja k q)) aC]
  exact aO q v hv⟩
 have HL:Hid (∀W:World,Below d.heap.size d W->Calls Tryz.prog 14 #[.agg #[.slice A C B,.slice D F E,.slice G I H,.slice J M L,.slice (Js k) 1 N],.agg #[str tQ,.slice aa an ac,Ji o.b,.slice ba bn bc,Ji o.m]] W fun R w'=>∃g cap,R = .returned (.tuple #[.slice (Js g) 1 cap,.agg #[Ji 0,Ji 0]])/\g<w'.heap.size/\w'.cell? (Ja g 0)=some (str tX)/\w'.cell? (Ja g 1)=some (str tA)/\Below W.heap.size W w'):=fun W i=>by
  have:=Qr (n0:=kp) (by have h1:=i.size;have h2:=Qaa Z;omega) (aA W i) (by show 1<=1000000000;decide) (caQ o) (aL W i) (aM W i) (fun cc=>Qi lt_Q cc)
  rw[inf_Q1]at this
  refine this.mono ?_
  rintro R w'⟨b9,sl,rfl,hr⟩
  obtain⟨g,cap,rfl,_,e2,e3,e4⟩:=row_1 hr
  exact⟨g,cap,rfl,e2,e3,e4,b9⟩
 have bi:Hid (∀W:World,Below d.heap.size d W->Calls Tryz.prog 18 #[.agg #[.slice A C B,.slice D F E,.slice G I H,.slice J M L,.slice (Js k) 1 N],str tA,str tNum] W fun R w'=>R = .returned (.bool true)/\Below W.heap.size W w'):=fun W i=>by
  have:=Qhl (n0:=kp) (by have h1:=i.size;have h2:=Qaa Z;omega) (aA W i) (by show 1<=1000000000;decide) tA tNum
  rw[below_1]at this
  exact this
 have aI:=hide B1
 have HF:=hide (Ya Z f1)
 have bj:=hide a5
 have HK:=hide aE
 clear aN a0 aC aO hA hB n Z f1 B1 aA aL aM a5 b1 aE
 go_upto_region 2 with fail
 rw[<- Qa bj,Qa HK]
 obtain⟨aq,ar,au,av,aw,xf⟩:=cl5 (Qa HF).1
 obtain⟨ax,ay,yf⟩:=cl2 (Qa HF).2
 go_upto_region 4 with fail
 clear aq ar au av aw xf ax ay yf
 go_cut [3,4] from 5 (fun u3 u4 wc=>∃(s cap fb:Nat),u3 = .slice (Js s) 1 cap/\u4 = .pointer (Js fb)/\Hid (Below d.heap.size d wc/\wc.heap[fb]?=some (.cells #[Ji 0,Ji 0] 31 (0,0))/\s<wc.heap.size/\wc.cell? (Ja s 0)=some (str tX)/\wc.cell? (Ja s 1)=some (str tA)))
 case first=>
  go_wp2_with fail
  refine Qav (tr:=(.take 0 (.take 1 (.take 2 (.take 3 (.take 4 (.two 5 9 (.take 6 (.take 7 (.take 8 (.one 9 (.take 10 (.one 11 .nil)))))) (.one 5 (.take 6 (.take 7 (.take 8 (.take 10 (.one 11 .nil)))))))))))) ) (fun W=>W.heap[kp]?=some (.cells #[.slice A C B,.slice D F E,.slice G I H,.slice J M L,.slice (Js k) 1 N] 28 (0,0)) /\ ∀q v,([str tQ,.slice aa an ac,Ji o.b,.slice ba bn bc,Ji o.m]:List Value)[q]?=some v->W.cell? (Ja k q)=some v) mixedO (by kernel_rfl) rfl (by kernel_rfl) (fun PP a7=>?_)
  refine tT (v:=?_) (fun w' hw=>?_) ?_
  rotate_left
  ·(obtain⟨z,f⟩:=hw;obtain⟨af,ag,ah,ai,aj,kf⟩:=cl5 z;have ak:=f 0 _ rfl;have al:=f 1 _ rfl;have am:=f 2 _ rfl;have ao:=f 3 _ rfl;have ap:=f 4 _ rfl;go_simp<;>rfl)
  refine tT (v:=?_) (fun w' hw=>?_) ?_
  rotate_left
  ·(obtain⟨z,f⟩:=hw;obtain⟨af,ag,ah,ai,aj,kf⟩:=cl5 z;have ak:=f 0 _ rfl;have al:=f 1 _ rfl;have am:=f 2 _ rfl;have ao:=f 3 _ rfl;have ap:=f 4 _ rfl;go_simp<;>rfl)
  refine tT (v:=?_) (fun w' hw=>?_) ?_
  rotate_left
  ·(obtain⟨z,f⟩:=hw;obtain⟨af,ag,ah,ai,aj,kf⟩:=cl5 z;have ak:=f 0 _ rfl;have al:=f 1 _ rfl;have am:=f 2 _ rfl;have ao:=f 3 _ rfl;have ap:=f 4 _ rfl;go_simp<;>rfl)
  refine tT (v:=?_) (fun w' hw=>?_) ?_
  rotate_left
  ·(obtain⟨z,f⟩:=hw;obtain⟨af,ag,ah,ai,aj,kf⟩:=cl5 z;have ak:=f 0 _ rfl;have al:=f 1 _ rfl;have am:=f 2 _ rfl;have ao:=f 3 _ rfl;have ap:=f 4 _ rfl;go_simp<;>rfl)
  refine tT (v:=?_) (fun w' hw=>?_) ?_
  rotate_left
  ·(obtain⟨z,f⟩:=hw;obtain⟨af,ag,ah,ai,aj,kf⟩:=cl5 z;have ak:=f 0 _ rfl;have al:=f 1 _ rfl;have am:=f 2 _ rfl;have ao:=f 3 _ rfl;have ap:=f 4 _ rfl;go_simp<;>rfl)
  refine Qbu rfl rfl (Qa O d.drew (Below.refl _ d).drew) (fun K h=>?_) (fun K h=>?_)
  ·
   go_simp
   refine(Qa HL d.drew (Below.refl _ d).drew).mono ?_
   rintro R y⟨g,cap,rfl,hg,j,l,b5⟩
   show K _ _
   refine h _ _ ?_
   clear h K
   have r:Below d.heap.size d y:=(Below.refl _ d).drew.trans b5
   iterate 3 (refine tT (v:=?_) (fun w' hw=>?_) ?_;rotate_left;· (go_simp<;>rfl))
   refine Qag rfl (Qa O y r) (fun K h=>?_)
   go_simp
   refine h _ _ ?_
   clear h K
   have b6:Below y.heap.size y (y.alloc (.cells #[Ji 0,Ji 0] 31)):=(Below.refl _ y).alloc (Nat.le_refl _) _
   refine tT (v:=?_) (fun w' hw=>?_) ?_
   rotate_left
   ·(go_simp<;>rfl)
   refine Qag rfl (Qa O _ (r.trans (b6.mono r.size))) (fun K h=>?_)
   go_simp
   refine h _ _ ?_
   clear h K
   obtain⟨W7,T⟩:=JE (y.alloc (.cells #[Ji 0,Ji 0] 31))
   have P:=bnw T
   have n7:=nnw T
   rw[<- T]
   have S:=r.trans (P.mono r.size)
   refine Qap (Qa O _ S) (a7 _ _ ?_)
   clear a7 PP
   have a2:=hide (Ya S (Ya n7 (Ya (show g<W7.heap.size by have:=P.size;omega) (Ya ((P.cell (p:=(Ja g 0)) hg).trans j) ((P.cell (p:=(Ja g 1)) hg).trans l)))))
   clear hg j l b5 r b6 T P n7 S
   go_wp2_with fail
   go_meet
   exact⟨g,cap,_,rfl,rfl,a2⟩
  go_simp
  refine h _ _ ?_
  clear h K
  obtain⟨w4,ad⟩:=JE ((d.alloc (.cells #[Ji 0,Ji 0] 31)).drew)
  have b4:Below d.heap.size d w4:=by rw[ad];exact((Below.refl _ _).alloc (Nat.le_refl _) _).drew
  have n4:w4.heap[d.heap.size]?=some (.cells #[Ji 0,Ji 0] 31 (0,0)):=by rw[ad];exact heap_alloc_new d _
  rw[<- ad]
  clear ad
  refine Qag rfl (Qa O w4 b4) (fun K h=>?_)
  go_simp
  refine(Qa HL w4 b4).mono ?_
  rintro R y⟨g,cap,rfl,hg,j,l,b5⟩
  show K _ _
  refine h _ _ ?_
  clear h K
  have r:=b4.trans (b5.mono b4.size)
  have n5:=(b5.block _ (Qaa n4)).trans n4
  iterate 4 (refine tT (v:=?_) (fun w' hw=>?_) ?_;rotate_left;· (go_simp<;>rfl))
  obtain⟨W7,T,sc⟩:=sc2 n5 (Ji 0) (Ji 0)
  obtain⟨ax,ay,yf⟩:=cl2 n5
  have aP:g≠d.heap.size:=fun e=>by
   subst e
   rw[Qad n5]at j
   cases j
  refine Qag rfl (Qa O y r) (fun K h=>?_)
  go_simp
  rw[<- T]
  refine h _ _ ?_
  clear h K
  have S:=sc.below r (Nat.le_refl _)
  refine Qap (Qa O _ S) (a7 _ _ ?_)
  clear a7 PP
  have aD:∀q,W7.cell? (Ja g q)=y.cell? (Ja g q):=fun q=>by
   have:=sc.oth g aP
   simp only[World.cell?,this]
  have a2:=hide (Ya S (Ya sc.box (Ya (show g<W7.heap.size by rw[sc.size];exact hg) (Ya ((aD 0).trans j) ((aD 1).trans l)))))
  clear hg j l b4 n4 b5 r n5 T sc S aD aP ax ay yf
  go_wp2_with fail
  go_meet
  exact⟨g,cap,_,rfl,rfl,a2⟩
 obtain⟨s,cap,fb,rfl,rfl,HE⟩:=hcut
 obtain⟨WX,bk⟩:=JE wc
 subst bk
 have aR:=Qa aG WX
 clear HL aG
 go_wp2_with fail
 refine aR.mono ?_
 clear aR
 rintro e u⟨aT,aV,aU,aW,aY,aX,aZ,bs,b0,b3,bt,bd,be,bg,bf,p2,rfl,b2,aB,a',b',c',o',u',rfl⟩
 obtain⟨rfl,rfl⟩:=mem_2 aB
 have a4:=Qak.mono _ (fun q=>q<u.heap.size) _ _ _ aB (fun q hl _=>hl)
 obtain⟨W2,a8⟩:=JE ((u.alloc (.cells #[.slice aT aV aU,.slice aW aY aX,.slice aZ 0 b0,.slice b3 0 bd,.slice be bg bf] 28)).alloc (.cells #[Ji 0,Ji 0] 31))
 have c2:Below u.heap.size u W2:=by rw[a8];exact((Below.refl _ u).alloc (Nat.le_refl _) _).alloc (by simp) _
 have p2:W2.heap[u.heap.size]?=some (.cells #[.slice aT aV aU,.slice aW aY aX,.slice aZ 0 b0,.slice b3 0 bd,.slice be bg bf] 28 (0,0)):=by rw[a8,Below.heap_alloc _ _ _ (by simp)];exact heap_alloc_new u _
 obtain⟨kq,ab⟩:=JF u.heap.size
 rw[ab]at a4 p2 c2
 have a9:=Qgz (n0:=kq) (w:=W2) (by have h2:=Qaa p2;omega) (Qak.same _ _ _ _ _ a4 c2.size (fun q X _=>c2.block q X)) (by show 1<=1000000000;decide) (fun cc x hx=>by
  have aS:x∈[caQ o',caE u']:=hx
  simp only[List.mem_cons,List.not_mem_nil,or_false]at aS
  rcases aS with rfl|rfl
  ·exact Qi lt_Q cc
  ·exact Qi lt_E cc)
 rw[ck_2]at a9
 unfold ftV at a9
 obtain⟨V,Y,U,j,l⟩:=Qa HE
 have a1:=b2.trans ((ab▸c2:Below u.heap.size u W2).mono b2.size)
 have H2:=hide (Ya (V.trans (a1.mono V.size)) (Ya ((a1.block _ (Qaa Y)).trans Y) (Ya (show s<W2.heap.size by have:=a1.size;omega) (Ya ((a1.cell (p:=(Ja s 0)) U).trans j) ((a1.cell (p:=(Ja s 1)) U).trans l)))))
 obtain⟨aq,ar,au,av,aw,xf⟩:=cl5 p2
 have az:=hide (Ya a8 ab)
 clear b2 aB a4 a8 c2 p2 ab V Y U j l a1 HE
 go_upto_region 6 with fail
 rw[<- (Qa az).1,(Qa az).2]
 go_wp2_with fail
 refine a9.mono ?_
 clear a9 aq ar au av aw xf az
 rintro R w6⟨rfl,b6⟩
 obtain⟨w7,ae⟩:=JE (w6.alloc (.cells #[Ji 13,Ji u'.a] 31))
 have P:=bnw ae
 have n7:=nnw ae
 obtain⟨xb,aH⟩:=JF w6.heap.size
 rw[aH]at n7
 have a3:=b6.trans (P.mono b6.size)
 obtain⟨V,Y,U,j,l⟩:=Qa H2
 have a6:=V.trans (a3.mono V.size)
 have aQ:=Qa bi w7 a6
 have ax:=(a3.cell (p:=(Ja s 0)) U).trans j
 have ay:=(a3.cell (p:=(Ja s 1)) U).trans l
 obtain⟨bo,bp,ff⟩:=cl2 ((a3.block _ (Qaa Y)).trans Y)
 obtain⟨bl,bm,df⟩:=cl2 n7
 obtain⟨aq,ar,au,av,aw,xf⟩:=cl5 (Qa O w7 a6).1
 have aJ:=hide ((Qa aI).trans (a6.mono (Qa aI).size))
 have aK:=hide (Ya ae aH)
 clear b6 ae P n7 aH a3 V Y U j l a6 H2
 go_upto_region 7 with fail
 rw[<- (Qa aK).1,(Qa aK).2]
 go_wp2_with fail
 refine aQ.mono ?_
 clear aQ
 rintro R w8⟨rfl,b8⟩
 have bh:=hide ((Qa aJ).trans (b8.mono (Qa aJ).size))
 clear b8
 go_wp2_with fail
 go_ret
 exact⟨rfl,Qa bh⟩
theorem OwL.later{n1:Nat}{V W W':World}{sl:Value}{acc:List Txt}(h:OwL n1 V W sl acc)(b:Below W.heap.size W W'):OwL n1 V W' sl acc:=
 ⟨h.b.trans (b.mono (Nat.le_trans h.l h.b.size)),h.row.mv Qam b.size (fun q a _=>b.block q a) (fun _ _ c=>c),h.l⟩
theorem OwL.two(v:World)(s t:Txt):OwL v.heap.size v (v.alloc (.cells #[str s,str t] 9)) (.slice (Js v.heap.size) 2 2) [s,t]:=by
 refine⟨(Below.refl _ v).alloc (Nat.le_refl _) _,⟨[[str s],[str t]],⟨rfl,.inr ⟨v.heap.size,2,_,rfl,Nat.le_refl _,heap_alloc_new v _,Nat.le_refl _,by unfold maxLen;omega,rfl,rfl⟩⟩,rfl,fun j x c a b=>?_⟩,Nat.le_refl _⟩
 rcases j with _|_|j
 ·simp at a b;subst a;subst b;exact⟨rfl,rfl⟩
 ·simp at a b;subst a;subst b;exact⟨rfl,rfl⟩
 ·simp at a
def nmsP(q:Pg):List Txt:=[tNum,tSym]++q.types.map (·.name)
theorem nms_nm{q:Pg}(ok:OkT q){a:Txt}(ha:a∈nmsP q):NmT q a:=by
 unfold nmsP at ha
 rcases List.mem_append.1 ha with h|h
 ·
  simp only[List.mem_cons,List.not_mem_nil,or_false]at h
  show tyNo q a≠0
  unfold tyNo tyRow
  rcases h with h|h
  ·rw[h,Qby,if_pos rfl];simp
  rw[h,Qby];split
  ·simp
  ·rw[Qby,if_pos rfl];simp
 obtain⟨t,d,e⟩:=List.mem_map.1 h
 obtain⟨i,c,b⟩:=List.getElem_of_mem d
 have:=ok.nm i t (by rw[List.getElem?_eq_getElem c,b])
 show tyNo q a≠0
 rw[<- e,this]
 omega
theorem Qie(s:ByteArray)(hs:s.size<=281474976710656)(w:World):Calls Tryz.prog 5 #[.string s] w fun e w'=>e = .returned (.bool true)/\Below w.heap.size w w':=by
 have aX:=Qnb s hs w
 go_enter Tryz.func5,Tryz.ntmps5
 go_wp2_with fail
 refine aX.mono ?_
 clear aX
 rintro A v1⟨_,q,ok,rfl,⟨Q,E,R,Z,a1,a0,a2,a4,a3,a5,a7,a6,a8,aa,a9,rfl,hq⟩,b1,aY,aZ,aI,b0⟩
 obtain⟨v,al⟩:=JE (v1.alloc (.cells #[.slice Q E R,.slice Z a1 a0,.slice a2 a4 a3,.slice a5 a7 a6,.slice a8 aa a9] 28))
 have c1:=bnw al
 have p1:=nnw al
 obtain⟨N,am⟩:=JF v1.heap.size
 have B1:Below w.heap.size w v:=b1.trans (c1.mono b1.size)
 rw[am]at c1 p1
 have P:∀W,Below v.heap.size v W->N<=W.heap.size/\PgS (fun b=>b<N) W [.slice Q E R,.slice Z a1 a0,.slice a2 a4 a3,.slice a5 a7 a6,.slice a8 aa a9] q:=fun W z=>by
  have bb:=c1.trans (z.mono (by have:=c1.size;omega))
  exact⟨by have:=bb.size;omega,Qak.same _ _ _ _ _ (Qak.mono _ (fun b=>b<N) _ _ _ hq (fun b hl _=>by rw[<- am];exact hl)) (by have:=bb.size;omega) (fun b hb _=>bb.block b hb)⟩
 have ao:q.types.length<=1000000000:=by have:=aI.1;omega
 have aF:q.types.length=E:=(Qmh hq).1
 obtain⟨f1,f2,aE⟩:∃f1 f2,chkP q=(f1,f2):=⟨_,_,rfl⟩
 have af:f1=0->OkT q:=fun e=>okT_of (by
  have M:chkP q=ckF q 0:=by unfold chkP;rw[if_pos ⟨aY,aZ⟩]
  rw[<- M,aE];exact e)
 have L:=hide (show ∀W,Below v.heap.size v W->W.heap[N]?=some (.cells #[.slice Q E R,.slice Z a1 a0,.slice a2 a4 a3,.slice a5 a7 a6,.slice a8 aa a9] 28 (0,0)) from fun W z=>(z.block _ (Qaa p1)).trans p1)
 have aO:=hide (show ∀W,Below v.heap.size v W->Calls Tryz.prog 10 #[.agg #[.slice Q E R,.slice Z a1 a0,.slice a2 a4 a3,.slice a5 a7 a6,.slice a8 aa a9]] W fun A w'=>A = .returned (.agg #[Ji f1,Ji f2])/\Below W.heap.size W w' from fun W z=>by
  have:=Qom (n0:=N) (P W z).1 (P W z).2 ao (fun x hx=>Nat.le_trans (b0 x hx) (by omega))
  rw[aE]at this
  exact this)
 have aM:=hide (show ∀W,Below v.heap.size v W -> ∀t,Calls Tryz.prog 17 #[.agg #[.slice Q E R,.slice Z a1 a0,.slice a2 a4 a3,.slice a5 a7 a6,.slice a8 aa a9],str t] W fun A w'=>A = .returned (bsV (baseP q t))/\Below W.heap.size W w' from fun W z t=>Qqz (n0:=N) (P W z).1 (P W z).2 ao t)
 have U:=hide (show ∀W,Below v.heap.size v W -> ∀s t,Calls Tryz.prog 18 #[.agg #[.slice Q E R,.slice Z a1 a0,.slice a2 a4 a3,.slice a5 a7 a6,.slice a8 aa a9],str s,str t] W fun A w'=>A = .returned (.bool (belowP q s t))/\Below W.heap.size W w' from fun W z s t=>Qhl (n0:=N) (P W z).1 (P W z).2 ao s t)
 have az:=hide (show ∀W,Below v.heap.size v W->LsAt PTy 4 (fun b=>b<N) W (.slice Q E R) q.types from fun W z=>by
  obtain⟨_,_,_,_,_,ee,h0,_,_,_,_⟩:=PgS.cells (P W z).2
  obtain⟨rfl,-,-,-,-⟩:=list5 ee
  exact h0)
 have HA:=hide (show ∀W,Calls Tryz.prog 12 #[] W fun A w'=>A = .returned (.bool true)/\Below W.heap.size W w' from fun W=>Qkl W)
 have HE:=hide (show ∀W,Below v.heap.size v W->Below w.heap.size w W from fun W z=>B1.trans (z.mono B1.size))
 have ak:=hide af
 have ai:=hide aF
 have aW:E<=97:=by rw[<- aF];exact aI.1
 have aA:=hide (Ya al am)
 have be:=((Qa az) v (Below.refl _ _)).cap rfl
 have X:Hid (Below v.heap.size v v):=hide (Below.refl _ _)
 clear aY aZ aI b0 al c1 p1 am B1 P ao aF aE af hq b1
 go_upto_region 2 with fail
 rw[<- (Qa aA).1,(Qa aA).2]
 clear aA
 cases ok
 ·
  have d:=Qa HA v
  obtain⟨l,m,n,o,p,r⟩:=cl5 (Qa L v (Qa X))
  go_wp2_with fail
  refine d.mono ?_
  clear d l m n o p r
  rintro A vA⟨rfl,f⟩
  have Y:=hide ((Qa X).trans (f.mono (Qa X).size))
  clear f
  go_wp2_with fail
  go_ret
  exact⟨rfl,Qa HE vA (Qa Y)⟩
 have d:=Qa aO v (Qa X)
 obtain⟨l,m,n,o,p,r⟩:=cl5 (Qa L v (Qa X))
 go_wp2_with fail
 refine d.mono ?_
 clear d l m n o p r
 rintro A O⟨rfl,f⟩
 have G:=hide ((Qa X).trans (f.mono (Qa X).size))
 clear f
 by_cases g1:f1=0
 ·
  by_cases g2:f2=0
  ·
   have af:=Qa ak g1
   subst g1
   subst g2
   by_cases bp:30<E
   ·
    obtain⟨l,m,n,o,p,r⟩:=cl5 (Qa L O (Qa G))
    go_upto_region 3 with fail
    clear l m n o p r
    have d:=Qa HA O
    obtain⟨l,m,n,o,p,r⟩:=cl5 (Qa L O (Qa G))
    go_wp2_with fail
    refine d.mono ?_
    clear d l m n o p r
    rintro A vA⟨rfl,f⟩
    have Y:=hide ((Qa G).trans (f.mono (Qa G).size))
    clear f
    go_wp2_with fail
    go_ret
    exact⟨rfl,Qa HE vA (Qa Y)⟩
   have HK:=hide af
   clear af ak aO
   have d:=Qa HA O
   obtain⟨l,m,n,o,p,r⟩:=cl5 (Qa L O (Qa G))
   go_wp2_with fail
   refine d.mono ?_
   clear d l m n o p r
   rintro A S⟨rfl,f⟩
   have ac:=hide ((Qa G).trans (f.mono (Qa G).size))
   clear f
   obtain⟨v4,ap⟩:=JE (S.alloc (.cells #[.string ⟨#[110,117,109,98,101,114]⟩,.string ⟨#[115,121,109,98,111,108]⟩] 9))
   have O4:OwL S.heap.size S v4 (.slice (Js S.heap.size) 2 2) [tNum,tSym]:=by rw[ap];exact OwL.two S tNum tSym
   have b9:=hide ((Qa ac).trans ((bnw ap).mono (Qa ac).size))
   have aR:=hide ap
   have S0:=hide O4
   clear O4 ap
   go_upto_region 5 with fail
   rw[<- Qa aR]
   clear aR
   obtain⟨l,m,n,o,p,r⟩:=cl5 (Qa L v4 (Qa b9))
   go_wp2_with fail
   clear l m n o p r
   go_loopw [5,46] (fun lv F wr=>∃(u:List Txt) (i:Nat) (sa:Option Addr) (sc:Nat),lv = .slice sa u.length sc/\F = Ji (i:Int)/\i<=E/\u.length<=sc/\sc<=maxLen/\Hid (OwL S.heap.size S wr (.slice sa u.length sc) u)/\Hid (u=[tNum,tSym]++(q.types.take i).map (·.name))) (fun _ F _=>E - (intOf F).toNat)
   case atStart=>exact⟨[tNum,tSym],0,some (Ja S.heap.size 0),2,rfl,rfl,Nat.zero_le _,Nat.le_refl _,by unfold maxLen;omega,S0,hide (by simp)⟩
   obtain⟨u,i,sa,sc,rfl,rfl,hi,bq,bm,HI,HS⟩:=hrel
   unfold maxLen at bm
   clear S0
   by_cases an:i<E
   ·
    obtain⟨t,ht⟩:∃t,q.types[i]?=some t:=⟨q.types[i]'(by rw[Qa ai];exact an),List.getElem?_eq_getElem _⟩
    have aT:Below v.heap.size v wr:=(Qa ac).trans ((Qa HI).b.mono (Qa ac).size)
    obtain⟨gb,cap,ts,e1,bi,bh,bj,⟨xa,xn,xc,rfl,hX⟩,aV⟩:=(Qa az wr aT).elem ht
    simp only[Value.slice.injEq]at e1
    obtain⟨rfl,-,rfl⟩:=e1
    obtain⟨bv,bw,bx,bA⟩:=cs4 aV
    obtain⟨w5,aq⟩:=JE (wr.alloc (.cells #[str t.name,str t.sub,.slice xa xn xc,Ji t.at_] 54))
    have b5:=bnw aq
    have n5:=nnw aq
    obtain⟨xb,aK⟩:=JF wr.heap.size
    rw[aK]at n5
    have hO:=(Qa HI).later b5
    obtain⟨g,c,w8,av,bf,bg,aU⟩:=hO.more (by have:=Qa HS;rw[this];simp;omega) t.name
    obtain⟨br,bs,bt,bu,lf⟩:=cl4 n5
    have b8:=hide (show u++[t.name]=[tNum,tSym]++(q.types.take (i+1)).map (·.name) by
     rw[Qa HS,List.take_add_one,ht,Option.toList_some,List.map_append,List.append_assoc]
     rfl)
    have ax:=hide (show(u++[t.name]).length=u.length+1 by rw[List.length_append];rfl)
    have ar:=hide av
    have b7:=hide aU
    have aB:=hide (Ya aq aK)
    clear ht aT bi bh bj hX aV aq b5 n5 aK hO av aU
    go_upto_region 8 with fail
    rw[<- (Qa aB).1,(Qa aB).2]
    clear aB
    go_wp2_with (at_builtin;refine Qai _ rfl _ _ 51 rfl _ _ rfl rfl _ _ (Qa ar) ?_;clear ar)
    go_roundw
    case rel=>exact⟨_,i+1,_,_,by rw[Qa ax],by simp,by omega,by rw[Qa ax];exact bf,bg,by rw[Qa ax];exact b7,b8⟩
    case measure=>simp[intOf];omega
   have ay:=hide (show u=nmsP q by
    have:i=E:=by omega
    rw[Qa HS,this,<- Qa ai,List.take_length]
    rfl)
   have aN:=hide ((Qa ac).trans ((Qa HI).b.mono (Qa ac).size))
   have H:=hide (show ∀W,Below wr.heap.size wr W->Below v.heap.size v W from fun W z=>(Qa aN).trans (z.mono (Qa aN).size))
   have K:=hide (show ∀W,Below wr.heap.size wr W->W.heap[N]?=some (.cells #[.slice Q E R,.slice Z a1 a0,.slice a2 a4 a3,.slice a5 a7 a6,.slice a8 aa a9] 28 (0,0)) from fun W z=>Qa L W (Qa H W z))
   have ah:=hide (show ∀W,Below wr.heap.size wr W -> ∀j a,u[j]?=some a -> ∃g,sa=some (Ja g 0)/\W.cell? (Ja g j)=some (str a) from fun W z j a ha=>by
    obtain⟨_,_,e,_,_,h⟩:=Qmc ((Qa HI).ls.later Qam z)
    simp only[Value.slice.injEq]at e
    obtain⟨g,M,hc⟩:=h j a ha
    exact⟨g,e.1.trans M,hc⟩)
   have aQ:=hide (show ∀a,a∈u->NmT q a from fun a ha=>nms_nm (Qa HK) (by rw[<- Qa ay];exact ha))
   have bo:u.length<=99:=by
    rw[Qa ay]
    unfold nmsP
    simp
    have:=Qa ai
    omega
   obtain⟨V,hV⟩:=JE wr
   have SV:Hid (Below V.heap.size V wr):=hide (by rw[hV];exact Below.refl _ _)
   rw[<- hV]at H K ah
   clear hV HI HS ay az ai be
   go_wp2_with fail
   clear an hi aW
   go_loopw [58] (fun F wr=>∃(i:Nat),F = Ji (i:Int)/\i<=u.length/\Hid (Below V.heap.size V wr)) (fun F _=>u.length - (intOf F).toNat)
   case atStart=>exact⟨0,rfl,Nat.zero_le _,SV⟩
   clear SV
   obtain⟨i,rfl,hi,B⟩:=hrel
   by_cases an:i<u.length
   ·
    obtain⟨a,ha⟩:∃a,u[i]?=some a:=⟨u[i]'an,List.getElem?_eq_getElem _⟩
    obtain⟨g,rfl,y0⟩:=Qa ah wr (Qa B) i a ha
    have aG:=Qa aQ a (List.mem_of_getElem? ha)
    obtain⟨x,aJ,b2,b3⟩:=Qmg (Qa HK) aG
    have aj:=hide (Ya aG aJ)
    have d:=Qa aM wr (Qa H wr (Qa B)) a
    rw[aJ,show bsV (some x) = .tuple #[str x,.bool true] from rfl]at d
    have aC:=fun W z=>Qa U W z a a
    rw[b2]at aC
    have aD:=fun W z=>Qa U W z a x
    rw[b3]at aD
    have aw:=hide (Ya aC aD)
    clear aG aJ b2 b3 aC aD ha
    obtain⟨l,m,n,o,p,r⟩:=cl5 (Qa K wr (Qa B))
    go_wp2_with fail
    refine d.mono ?_
    clear d l m n o p r y0
    rintro A I⟨rfl,f⟩
    have C:=hide ((Qa B).trans (f.mono (Qa B).size))
    clear f
    have d:=(Qa aw).1 I (Qa H I (Qa C))
    obtain⟨l,m,n,o,p,r⟩:=cl5 (Qa K I (Qa C))
    go_wp2_with fail
    refine d.mono ?_
    clear d l m n o p r
    rintro A J⟨rfl,f⟩
    have D:=hide ((Qa C).trans (f.mono (Qa C).size))
    clear f
    have d:=(Qa aw).2 J (Qa H J (Qa D))
    obtain⟨l,m,n,o,p,r⟩:=cl5 (Qa K J (Qa D))
    go_wp2_with fail
    refine d.mono ?_
    clear d l m n o p r
    rintro A w3⟨rfl,f⟩
    have T:=hide ((Qa D).trans (f.mono (Qa D).size))
    clear f
    go_wp2_with fail
    clear aw
    go_loopw [86] (fun F wr=>∃(j:Nat),F = Ji (j:Int)/\j<=u.length/\Hid (Below V.heap.size V wr)) (fun F _=>u.length - (intOf F).toNat)
    case atStart=>exact⟨0,rfl,Nat.zero_le _,T⟩
    clear B C D T
    obtain⟨j,rfl,hj,B⟩:=hrel
    by_cases bk:j<u.length
    ·
     obtain⟨b,hb⟩:∃b,u[j]?=some b:=⟨u[j]'bk,List.getElem?_eq_getElem _⟩
     obtain⟨g2,M,y0⟩:=Qa ah wr (Qa B) j b hb
     simp only[Option.some.injEq,Addr.mk.injEq,and_true]at M
     subst M
     have aH:=Qa aQ b (List.mem_of_getElem? hb)
     obtain⟨y,aL,-,-⟩:=Qmg (Qa HK) aH
     have aP:=hide (Ya aH aL)
     have d:=Qa aM wr (Qa H wr (Qa B)) b
     rw[aL,show bsV (some y) = .tuple #[str y,.bool true] from rfl]at d
     clear aH aL hb
     obtain⟨l,m,n,o,p,r⟩:=cl5 (Qa K wr (Qa B))
     go_wp2_with fail
     refine d.mono ?_
     clear d l m n o p r y0
     rintro A I⟨rfl,f⟩
     have C:=hide ((Qa B).trans (f.mono (Qa B).size))
     clear f
     obtain⟨aS,ab⟩:=JF (belowP q a b)
     have ag:=hide ab
     go_upto_region 20 with fail
     go_cut [86,115] from 86 to 140 (fun jv cv wc=>jv = Ji (j:Int)/\cv = .bool false/\Hid (Below V.heap.size V wc))
     case first=>
      have d:=Qa U I (Qa H I (Qa C)) a b
      rw[ab]at d
      clear ab
      obtain⟨l,m,n,o,p,r⟩:=cl5 (Qa K I (Qa C))
      go_wp2_with fail
      refine d.mono ?_
      clear d l m n o p r
      rintro A J⟨rfl,f⟩
      have D:=hide ((Qa C).trans (f.mono (Qa C).size))
      clear f
      cases aS
      ·
       go_wp2_with fail
       go_meet
       exact⟨rfl,rfl,D⟩
      have bn:y=x:=by
       have h1:=ord_one (Qa HK) (Qa aj).1 (Qa ag)
       rw[(Qa aj).2,(Qa aP).2]at h1
       exact Option.some.inj h1
      subst bn
      obtain⟨ba,ad⟩:=JF (belowP q b a)
      have b4:=hide ad
      have d:=Qa U J (Qa H J (Qa D)) b a
      rw[ad]at d
      clear ad
      obtain⟨l,m,n,o,p,r⟩:=cl5 (Qa K J (Qa D))
      go_wp2_with fail
      refine d.mono ?_
      clear d l m n o p r
      rintro A w3⟨rfl,f⟩
      have T:=hide ((Qa D).trans (f.mono (Qa D).size))
      clear f
      cases ba
      ·
       go_wp2_with fail
       go_meet
       exact⟨rfl,rfl,T⟩
      have bd:=Qss (Qa HK) (Qa aj).1 (Qa aP).1 (Qa ag) (Qa b4)
      subst bd
      go_wp2_with fail
      go_meet
      exact⟨rfl,rfl,T⟩
     obtain⟨rfl,rfl,au⟩:=hcut
     clear ab B
     go_wp2_with fail
     clear C
     go_loopw [118] (fun F wr=>∃(k:Nat),F = Ji (k:Int)/\k<=u.length/\Hid (Below V.heap.size V wr)) (fun F _=>u.length - (intOf F).toNat)
     case atStart=>exact⟨0,rfl,Nat.zero_le _,au⟩
     clear au
     obtain⟨k,rfl,hk,B⟩:=hrel
     by_cases bl:k<u.length
     ·
      obtain⟨c,hc⟩:∃c,u[k]?=some c:=⟨u[k]'bl,List.getElem?_eq_getElem _⟩
      obtain⟨g2,M,y0⟩:=Qa ah wr (Qa B) k c hc
      simp only[Option.some.injEq,Addr.mk.injEq,and_true]at M
      subst M
      clear hc
      have d:=Qa U wr (Qa H wr (Qa B)) a b
      rw[Qa ag]at d
      obtain⟨l,m,n,o,p,r⟩:=cl5 (Qa K wr (Qa B))
      go_wp2_with fail
      refine d.mono ?_
      clear d l m n o p r y0
      rintro A I⟨rfl,f⟩
      have C:=hide ((Qa B).trans (f.mono (Qa B).size))
      clear f
      cases aS
      ·
       go_wp2_with fail
       go_roundw
       case rel=>exact⟨k+1,by simp,by omega,C⟩
       case measure=>simp[intOf];omega
      obtain⟨bc,ae⟩:=JF (belowP q b c)
      have b6:=hide ae
      have d:=Qa U I (Qa H I (Qa C)) b c
      rw[ae]at d
      clear ae
      obtain⟨l,m,n,o,p,r⟩:=cl5 (Qa K I (Qa C))
      go_wp2_with fail
      refine d.mono ?_
      clear d l m n o p r
      rintro A J⟨rfl,f⟩
      have D:=hide ((Qa C).trans (f.mono (Qa C).size))
      clear f
      cases bc
      ·
       go_wp2_with fail
       go_roundw
       case rel=>exact⟨k+1,by simp,by omega,D⟩
       case measure=>simp[intOf];omega
      have d:=Qa U J (Qa H J (Qa D)) a c
      rw[Qqc (Qa HK) (Qa aj).1 (Qa ag) (Qa b6)]at d
      obtain⟨l,m,n,o,p,r⟩:=cl5 (Qa K J (Qa D))
      go_wp2_with fail
      refine d.mono ?_
      clear d l m n o p r
      rintro A w3⟨rfl,f⟩
      have T:=hide ((Qa D).trans (f.mono (Qa D).size))
      clear f
      go_wp2_with fail
      go_roundw
      case rel=>exact⟨k+1,by simp,by omega,T⟩
      case measure=>simp[intOf];omega
     go_wp2_with fail
     go_roundw
     case rel=>exact⟨j+1,by simp,by omega,B⟩
     case measure=>simp[intOf];omega
    go_wp2_with fail
    go_roundw
    case rel=>exact⟨i+1,by simp,by omega,B⟩
    case measure=>simp[intOf];omega
   go_wp2_with fail
   go_ret
   exact⟨rfl,Qa HE wr (Qa H wr (Qa B))⟩
  have g3:(f2==0)=false:=beq_eq_false_iff_ne.2 g2
  subst g1
  clear g2 ak
  go_upto_region 3 with fail
  have d:=Qa HA O
  obtain⟨l,m,n,o,p,r⟩:=cl5 (Qa L O (Qa G))
  go_wp2_with fail
  refine d.mono ?_
  clear d l m n o p r
  rintro A vA⟨rfl,f⟩
  have Y:=hide ((Qa G).trans (f.mono (Qa G).size))
  clear f
  go_wp2_with fail
  go_ret
  exact⟨rfl,Qa HE vA (Qa Y)⟩
 have g3:(f1==0)=false:=beq_eq_false_iff_ne.2 g1
 clear g1 ak
 go_upto_region 3 with fail
 have d:=Qa HA O
 obtain⟨l,m,n,o,p,r⟩:=cl5 (Qa L O (Qa G))
 go_wp2_with fail
 refine d.mono ?_
 clear d l m n o p r
 rintro A vA⟨rfl,f⟩
 have Y:=hide ((Qa G).trans (f.mono (Qa G).size))
 clear f
 go_wp2_with fail
 go_ret
 exact⟨rfl,Qa HE vA (Qa Y)⟩
end
end Go.Proofs.YtmfpbepifnedjaaGreat
