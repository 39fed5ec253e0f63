/- The laws' flat. -/
import Derived.Test.YtkhndlnadhggkaaGreatAp01
import Derived.Test.YtkhndlnadhggkaaGreatAp23
import Derived.Test.YtkhndlnadhggkaaGreatAp29
import Derived.Test.YtkhndlnadhggkaaGreatAp17
set_option maxRecDepth 100000
set_option maxHeartbeats 32000000
namespace Go.Proofs.YtkhndlnadhggkaaGreat
section
open Go.RowKit Go.Maps
def FlQ(q:Pg):Prop:=q.comps=[]/\q.inits=[]/\Few q 97 /\ ∀x∈q.clauses,ltBs x.body<=131074
def FlA(w:World)(en:Ending)(w':World):Prop:=∃v q b,en = .returned (.tuple #[v,.bool b])/\VPg (fun b=>w.heap.size<=b) w' v q/\Below w.heap.size w w'/\FlQ q
theorem Qmz(s:ByteArray)(hs:s.size<=281474976710656)(w:World):Calls Tryz.prog 13 #[.string s] w fun en w'=>FlA w en w':=by
 obtain⟨w1,a2⟩:=JE (w.alloc (.cells #[Jn,Jn,Jn,Jn,Jn] 28));have b1:=bnw a2;have n1:=nnw a2;have s1:w1.heap.size=w.heap.size+1:=by rw[a2];simp
 have al:=Qnm s hs w1;have HW:=hide a2;have H1:=hide (Ya b1 (Ya n1 s1));clear a2 b1 n1 s1;go_enter Tryz.func13,Tryz.ntmps13;go_upto_region 1 with fail;rw[<- Qa HW];clear HW;go_wp2_with fail;refine al.mono ?_;clear al;rintro en v1⟨ar,av,au,aw,ay,ax,az,aB,aA,aC,aE,aD,aF,aH,aG,a0,U,p,rfl,b2,hR,ak,aq⟩;obtain⟨kp,a7⟩:=JF v1.heap.size;obtain⟨W1,ag,c1,p1,f1,s2⟩:=new2 v1 #[.slice ar av au,.slice aw ay ax,.slice az aB aA,.slice aC aE aD,.slice aF aH aG] #[Ji a0,Ji U] 28 31;rw[a7]at c1 p1 f1 s2;have ae:PgS (fun b=>w.heap.size+1<=b/\b<kp) W1 [.slice ar av au,.slice aw ay ax,.slice az aB aA,.slice aC aE aD,.slice aF aH aG] p:=Qal.same _ v1 W1 _ _ (Qal.mono _ _ _ _ _ hR (fun b hl hb=>⟨by have aN:w1.heap.size<=b:=hb;have:=(Qa H1).2.2;omega,by omega⟩)) (by omega) (fun q hq _=>c1.block q hq.2);have aj:=Qkl (S0:=fun b=>w.heap.size+1<=b) ak aq ae (by omega);obtain⟨aI,aJ,aK,aL,aM,xf⟩:=cl5 p1;have B1:Below w.heap.size w W1:=(Qa H1).1.trans ((b2.trans (c1.mono (by rw[<- a7];exact b2.size))).mono (by have:=(Qa H1).2.2;omega));have nL:=(c1.block w.heap.size (by have:=(Qa H1).2.2;have:=b2.size;omega)).trans ((b2.block w.heap.size (by have:=(Qa H1).2.2;omega)).trans (Qa H1).2.1);have a6:w.heap.size<kp:=by have:=(Qa H1).2.2;have:=b2.size;omega
 have H2:=hide (Ya B1 (Ya nL (Ya f1 (Ya a6 s2))));have a8:=hide (Ya ag a7);clear ak aq hR ae a7 ag c1 p1 f1 s2 b2 B1 nL a6;go_upto_region 2 with fail;rw[<- (Qa a8).1,(Qa a8).2];clear a8;go_wp2_with fail;refine aj.mono ?_;clear aj aI aJ aK aL aM xf;rintro en v2⟨_,q,y,f,rfl,⟨t,x,u,z,B,A,C,E,D,F,H,G,I,L,J,rfl,hq⟩,b3,am,ao,an,ap,-,hyf⟩;obtain⟨B1,nL,f1,a6,s2⟩:=Qa H2;obtain⟨P,ac⟩:=JF v2.heap.size;obtain⟨W2,ah,c3,p3,f3,s3⟩:=new2 v2 #[.slice t x u,.slice z B A,.slice C E D,.slice F H G,.slice I L J] #[Ji y,Ji f] 28 31;have aa:=b3.size;rw[ac]at c3 p3 f3 s3 aa;obtain⟨WD,ab⟩:=JE W2.drew;have bD:Below W2.heap.size W2 WD:=by rw[ab];exact(Below.refl _ W2).drew
 have c4:Below P v2 WD:=c3.trans (bD.mono (by omega));have ad:=(c4.block _ (by omega)).trans ((b3.block _ (by omega)).trans nL);have fD:=(c4.block (kp+1) (by omega)).trans ((b3.block (kp+1) (by omega)).trans f1);have pD:=(bD.block _ (Qaa p3)).trans p3;have gD:=(bD.block _ (Qaa f3)).trans f3;obtain⟨W9,ai,S⟩:=sc5 ad (.slice t x u) (.slice z B A) (.slice C E D) (.slice F H G) (.slice I L J);have T:=hide (Ya (show WD.heap[P]?=some (.cells #[.slice t x u,.slice z B A,.slice C E D,.slice F H G,.slice I L J] 28 (0,0))/\WD.heap[kp+1]?=some (.cells #[Ji a0,Ji U] 31 (0,0))/\WD.heap[P+1]?=some (.cells #[Ji y,Ji f] 31 (0,0)) from ⟨pD,fD,gD⟩) (show W9.heap[P]?=some (.cells #[.slice t x u,.slice z B A,.slice C E D,.slice F H G,.slice I L J] 28 (0,0))/\W9.heap[kp+1]?=some (.cells #[Ji a0,Ji U] 31 (0,0))/\W9.heap[P+1]?=some (.cells #[Ji y,Ji f] 31 (0,0)) from ⟨(S.oth _ (by omega)).trans pD,(S.oth _ (by omega)).trans fD,(S.oth _ (by omega)).trans gD⟩));have HE:=hide (show ∀b,FlA w (.returned (.tuple #[.agg #[.slice t x u,.slice z B A,.slice C E D,.slice F H G,.slice I L J],.bool b])) W9 from fun b=>⟨_,q,b,rfl,⟨_,_,_,_,_,_,_,_,_,_,_,_,_,_,_,rfl,Qal.mono _ _ _ _ _ (Qal.same _ WD W9 _ _ (Qal.same _ v2 WD _ _ hq c4.size (fun q _ hl=>c4.block q (by omega))) (by rw[S.size];exact Nat.le_refl _) (fun q hq _=>S.oth q (by rcases hq with e|e<;>omega))) (fun b _ hb=>by show w.heap.size<=b;rcases hb with e|e<;>omega)⟩,S.below (B1.trans ((b3.trans (c4.mono aa)).mono (by omega))) (Nat.le_refl _),am,ao,an,ap⟩);have a3:=hide S.box;have a9:=hide (Ya ah ac);have a5:=hide ab;have a4:=hide ai;obtain⟨aO,aP,aQ,aR,aS,zf⟩:=cl5 ad;clear B1 nL f1 a6 s2 ac ah c3 p3 f3 s3 aa ab bD c4 ad fD pD gD ai S hq b3 am ao an ap;go_upto_region 3 with fail;rw[<- (Qa a9).1,(Qa a9).2];clear a9;by_cases h1:a0=0
 rotate_left
 ·
  have g1:(a0==0)=false:=beq_eq_false_iff_ne.2 h1;clear hyf h1;refine Qas (tr:=.take 0 (.take 1 (.take 2 (.take 3 (.take 4 (.take 5 (.take 6 (.take 7 (.take 8 (.one 9 (.take 10 .nil))))))))))) (fun W=>W.heap[P]?=some (.cells #[.slice t x u,.slice z B A,.slice C E D,.slice F H G,.slice I L J] 28 (0,0))/\W.heap[kp+1]?=some (.cells #[Ji a0,Ji U] 31 (0,0))/\W.heap[P+1]?=some (.cells #[Ji y,Ji f] 31 (0,0))) mixedO (by kernel_rfl) rfl (by kernel_rfl) (fun PP R=>?_);rw[<- Qa a5]
  iterate 5 (refine tT (v:=?_) (fun w' hw=>?_) ?_;rotate_left;· (obtain⟨a,d,g⟩:=hw;obtain⟨h,i,j,k,l,M⟩:=cl5 a;obtain⟨m,n,N⟩:=cl2 d;obtain⟨o,r,O⟩:=cl2 g;go_simp<;>rfl))
  iterate 3 (refine Qjz rfl (by kernel_rfl) ?_)
  refine tT (v:=?_) (fun w' hw=>?_) ?_;rotate_left;· (obtain⟨a,d,g⟩:=hw;obtain⟨h,i,j,k,l,M⟩:=cl5 a;obtain⟨m,n,N⟩:=cl2 d;obtain⟨o,r,O⟩:=cl2 g;go_simp<;>rfl)
  refine Qaf rfl (Qa T).1 (fun K Q=>?_);go_simp;rw[<- Qa a4];refine Q _ _ ?_;clear Q K;refine tT (v:=?_) (fun w' hw=>?_) ?_;rotate_left;· (obtain⟨a,d,g⟩:=hw;obtain⟨h,i,j,k,l,M⟩:=cl5 a;obtain⟨m,n,N⟩:=cl2 d;obtain⟨o,r,O⟩:=cl2 g;go_simp<;>rfl)
  refine Qan (Qa T).2 (R _ _ ?_);clear R PP;go_wp2_with fail;obtain⟨V,X,Y,Z,a1,vf⟩:=cl5 (Qa a3);refine bodyPost_ret (v:=.tuple #[.agg #[.slice t x u,.slice z B A,.slice C E D,.slice F H G,.slice I L J],.bool false]) (by simp[results,Tryz.results13,go_sem,V,X,Y,Z,a1]) rfl ?_;exact Qa HE _
 subst h1;by_cases h2:U=0
 rotate_left
 ·
  have g2:(U==0)=false:=beq_eq_false_iff_ne.2 h2;clear hyf h2;refine Qas (tr:=.take 0 (.take 1 (.take 2 (.take 3 (.take 4 (.take 5 (.take 6 (.take 7 (.take 8 (.one 9 (.take 10 .nil))))))))))) (fun W=>W.heap[P]?=some (.cells #[.slice t x u,.slice z B A,.slice C E D,.slice F H G,.slice I L J] 28 (0,0))/\W.heap[kp+1]?=some (.cells #[Ji 0,Ji U] 31 (0,0))/\W.heap[P+1]?=some (.cells #[Ji y,Ji f] 31 (0,0))) mixedO (by kernel_rfl) rfl (by kernel_rfl) (fun PP R=>?_);rw[<- Qa a5]
  iterate 5 (refine tT (v:=?_) (fun w' hw=>?_) ?_;rotate_left;· (obtain⟨a,d,g⟩:=hw;obtain⟨h,i,j,k,l,M⟩:=cl5 a;obtain⟨m,n,N⟩:=cl2 d;obtain⟨o,r,O⟩:=cl2 g;go_simp<;>rfl))
  iterate 3 (refine Qjz rfl (by kernel_rfl) ?_)
  refine tT (v:=?_) (fun w' hw=>?_) ?_;rotate_left;· (obtain⟨a,d,g⟩:=hw;obtain⟨h,i,j,k,l,M⟩:=cl5 a;obtain⟨m,n,N⟩:=cl2 d;obtain⟨o,r,O⟩:=cl2 g;go_simp<;>rfl)
  refine Qaf rfl (Qa T).1 (fun K Q=>?_);go_simp;rw[<- Qa a4];refine Q _ _ ?_;clear Q K;refine tT (v:=?_) (fun w' hw=>?_) ?_;rotate_left;· (obtain⟨a,d,g⟩:=hw;obtain⟨h,i,j,k,l,M⟩:=cl5 a;obtain⟨m,n,N⟩:=cl2 d;obtain⟨o,r,O⟩:=cl2 g;go_simp<;>rfl)
  refine Qan (Qa T).2 (R _ _ ?_);clear R PP;go_wp2_with fail;obtain⟨V,X,Y,Z,a1,vf⟩:=cl5 (Qa a3);refine bodyPost_ret (v:=.tuple #[.agg #[.slice t x u,.slice z B A,.slice C E D,.slice F H G,.slice I L J],.bool false]) (by simp[results,Tryz.results13,go_sem,V,X,Y,Z,a1]) rfl ?_;exact Qa HE _
 subst h2;by_cases h3:y=0
 ·
  have hf:=(hyf h3).1;subst h3;subst hf;clear hyf;refine Qas (tr:=.take 0 (.take 1 (.take 2 (.take 3 (.take 4 (.take 5 (.take 6 (.take 7 (.take 8 (.one 9 (.take 10 .nil))))))))))) (fun W=>W.heap[P]?=some (.cells #[.slice t x u,.slice z B A,.slice C E D,.slice F H G,.slice I L J] 28 (0,0))/\W.heap[kp+1]?=some (.cells #[Ji 0,Ji 0] 31 (0,0))/\W.heap[P+1]?=some (.cells #[Ji 0,Ji 0] 31 (0,0))) mixedO (by kernel_rfl) rfl (by kernel_rfl) (fun PP R=>?_);rw[<- Qa a5]
  iterate 5 (refine tT (v:=?_) (fun w' hw=>?_) ?_;rotate_left;· (obtain⟨a,d,g⟩:=hw;obtain⟨h,i,j,k,l,M⟩:=cl5 a;obtain⟨m,n,N⟩:=cl2 d;obtain⟨o,r,O⟩:=cl2 g;go_simp<;>rfl))
  iterate 3 (refine tT (v:=?_) (fun w' hw=>?_) ?_;rotate_left;· (obtain⟨a,d,g⟩:=hw;obtain⟨h,i,j,k,l,M⟩:=cl5 a;obtain⟨m,n,N⟩:=cl2 d;obtain⟨o,r,O⟩:=cl2 g;go_simp<;>rfl))
  refine tT (v:=?_) (fun w' hw=>?_) ?_;rotate_left;· (obtain⟨a,d,g⟩:=hw;obtain⟨h,i,j,k,l,M⟩:=cl5 a;obtain⟨m,n,N⟩:=cl2 d;obtain⟨o,r,O⟩:=cl2 g;go_simp<;>rfl)
  refine Qaf rfl (Qa T).1 (fun K Q=>?_);go_simp;rw[<- Qa a4];refine Q _ _ ?_;clear Q K;refine tT (v:=?_) (fun w' hw=>?_) ?_;rotate_left;· (obtain⟨a,d,g⟩:=hw;obtain⟨h,i,j,k,l,M⟩:=cl5 a;obtain⟨m,n,N⟩:=cl2 d;obtain⟨o,r,O⟩:=cl2 g;go_simp<;>rfl)
  refine Qan (Qa T).2 (R _ _ ?_);clear R PP;go_wp2_with fail;obtain⟨V,X,Y,Z,a1,vf⟩:=cl5 (Qa a3);refine bodyPost_ret (v:=.tuple #[.agg #[.slice t x u,.slice z B A,.slice C E D,.slice F H G,.slice I L J],.bool true]) (by simp[results,Tryz.results13,go_sem,V,X,Y,Z,a1]) rfl ?_;exact Qa HE _
 have g3:(y==0)=false:=beq_eq_false_iff_ne.2 h3;clear hyf h3;refine Qas (tr:=.take 0 (.take 1 (.take 2 (.take 3 (.take 4 (.take 5 (.take 6 (.take 7 (.take 8 (.one 9 (.take 10 .nil))))))))))) (fun W=>W.heap[P]?=some (.cells #[.slice t x u,.slice z B A,.slice C E D,.slice F H G,.slice I L J] 28 (0,0))/\W.heap[kp+1]?=some (.cells #[Ji 0,Ji 0] 31 (0,0))/\W.heap[P+1]?=some (.cells #[Ji y,Ji f] 31 (0,0))) mixedO (by kernel_rfl) rfl (by kernel_rfl) (fun PP R=>?_);rw[<- Qa a5]
 iterate 5 (refine tT (v:=?_) (fun w' hw=>?_) ?_;rotate_left;· (obtain⟨a,d,g⟩:=hw;obtain⟨h,i,j,k,l,M⟩:=cl5 a;obtain⟨m,n,N⟩:=cl2 d;obtain⟨o,r,O⟩:=cl2 g;go_simp<;>rfl))
 iterate 3 (refine tT (v:=?_) (fun w' hw=>?_) ?_;rotate_left;· (obtain⟨a,d,g⟩:=hw;obtain⟨h,i,j,k,l,M⟩:=cl5 a;obtain⟨m,n,N⟩:=cl2 d;obtain⟨o,r,O⟩:=cl2 g;go_simp<;>rfl))
 refine tT (v:=?_) (fun w' hw=>?_) ?_;rotate_left;· (obtain⟨a,d,g⟩:=hw;obtain⟨h,i,j,k,l,M⟩:=cl5 a;obtain⟨m,n,N⟩:=cl2 d;obtain⟨o,r,O⟩:=cl2 g;go_simp<;>rfl)
 refine Qaf rfl (Qa T).1 (fun K Q=>?_);go_simp;rw[<- Qa a4];refine Q _ _ ?_;clear Q K;refine tT (v:=?_) (fun w' hw=>?_) ?_;rotate_left;· (obtain⟨a,d,g⟩:=hw;obtain⟨h,i,j,k,l,M⟩:=cl5 a;obtain⟨m,n,N⟩:=cl2 d;obtain⟨o,r,O⟩:=cl2 g;go_simp<;>rfl)
 refine Qan (Qa T).2 (R _ _ ?_);clear R PP;go_wp2_with fail;obtain⟨V,X,Y,Z,a1,vf⟩:=cl5 (Qa a3);refine bodyPost_ret (v:=.tuple #[.agg #[.slice t x u,.slice z B A,.slice C E D,.slice F H G,.slice I L J],.bool false]) (by simp[results,Tryz.results13,go_sem,V,X,Y,Z,a1]) rfl ?_;exact Qa HE _
def fnV(f:Nat)(cb:Nat):Value:=.func (.func f) #[.pointer (some ⟨cb,0,none⟩)] #[]
def fdCells(vs:List Fld):List Value:=vs.flatMap fun v=>[str v.name,str v.type]
def vRow(vs:List Fld):List (Txt×Nat):=vs.zipIdx.map fun q=>(q.1.name,q.2)
structure Wk(n0 n1:Nat)(p:Pg)(c:CatP)(wb mb:Nat)(sl:Value)(vs:List Fld)(w:World):Prop where
 cat:Cs n0 p c w
 box:w.heap[wb]?=some (.cells #[fnV 47 c.cb,fnV 48 c.cb,fnV 78 c.cb,fnV 79 c.cb,sl,.map (some mb)] 143 (0,0))
 row:w.ownsRow n1 67 2 sl vs.length (fdCells vs)
 map:MpF nOf w mb (vRow vs)
 lo:n0<=n1/\c.cb<n1/\c.kb<n1/\c.mt<n1/\c.md<n1/\c.mc<n1/\n1<=wb/\n1<=mb
 nd:(vs.map (·.name)).Nodup
structure Kw(wb mb:Nat)(sl sl':Value)(w w':World):Prop where
 os:w'.os=w.os
 tape:w'.tape=w.tape
 output:w'.output=w.output
 size:w.heap.size<=w'.heap.size
 block:∀b,b<w.heap.size->b≠wb->b≠mb->some b≠sl.ownBlock->w'.heap[b]?=w.heap[b]?
 own:sl'.ownBlock=sl.ownBlock ∨ ∃g,sl'.ownBlock=some g/\w.heap.size<=g
theorem Kw.of_below{wb mb:Nat}{sl:Value}{w w':World}(h:Below w.heap.size w w'):Kw wb mb sl sl w w':=⟨h.os,h.tape,h.output,h.size,fun b a _ _ _=>h.block b a,.inl rfl⟩
theorem Kw.trans{wb mb:Nat}{s1 s2 s3:Value}{a b c:World}(h:Kw wb mb s1 s2 a b)(k:Kw wb mb s2 s3 b c):Kw wb mb s1 s3 a c:=
 ⟨k.os.trans h.os,k.tape.trans h.tape,k.output.trans h.output,Nat.le_trans h.size k.size,fun q l f i j=>by
  rw[k.block q (by have:=h.size;omega) f i (fun e=>by
   rcases h.own with d|⟨g,d,m⟩
   ·exact j (e.trans d)
   ·rw[d]at e;cases e;omega),h.block q l f i j],by
  rcases k.own with e|⟨g,e,n⟩
  ·rw[e];exact h.own
  ·exact .inr ⟨g,e,by have:=h.size;omega⟩⟩
section
variable {n0 n1:Nat}{p:Pg}{c:CatP}{wb mb:Nat}{sl sl':Value}{vs:List Fld}{w w':World}
theorem Wk.later(h:Wk n0 n1 p c wb mb sl vs w)(b:Below w.heap.size w w'):Wk n0 n1 p c wb mb sl vs w':=
 ⟨Ct.later h.cat b,(b.block _ (Qaa h.box)).trans h.box,by
  refine⟨h.row.1,?_⟩;rcases h.row.2 with e|⟨g,cap,d,f,i,a,j⟩
  ·exact .inl e
  ·exact .inr ⟨g,cap,d,f,i,(b.block _ (Qaa a)).trans a,j⟩,h.map.keep (b.block _ h.map.lt),h.lo,h.nd⟩
def Wk.off(_:Wk n0 n1 p c wb mb sl vs w)(b:Nat):Prop:=b≠wb/\b≠mb/\some b≠sl.ownBlock
theorem Wk.new(h:Wk n0 n1 p c wb mb sl vs w){b:Nat}(hb:w.heap.size<=b):b≠wb/\b≠mb/\some b≠sl.ownBlock:=
 ⟨by have:=Qaa h.box;omega,by have:=h.map.lt;omega,fun e=>by have:=(World.ownsRow.lt h.row b e.symm).2;omega⟩
theorem Wk.low(h:Wk n0 n1 p c wb mb sl vs w){b:Nat}(hb:b<n0):b≠wb/\b≠mb/\some b≠sl.ownBlock:=
 ⟨by have:=h.lo;omega,by have:=h.lo;omega,fun e=>by have:=(World.ownsRow.lt h.row b e.symm).1;have:=h.lo;omega⟩
theorem Kw.keep(k:Kw wb mb sl sl' w w'){b:Nat}{o:Obj}(hb:w.heap[b]?=some o)(hn:b≠wb/\b≠mb/\some b≠sl.ownBlock):w'.heap[b]?=some o:=(k.block b (Qaa hb) hn.1 hn.2.1 hn.2.2).trans hb
theorem Wk.lookV(h:Wk n0 n1 p c wb mb sl vs w)(t:Txt)(b:Bool):(Instr.lookup 125 (.map (some mb)) (str t) b).run Tryz.prog w = .ok (if b then .tuple #[Ji (((asc (vRow vs) t).getD 0:Nat):Int),.bool (asc (vRow vs) t).isSome] else Ji (((asc (vRow vs) t).getD 0:Nat):Int)) w:=by
 obtain⟨e,a,d⟩:=h.map;rw[Qdx uS mI zI w mb e t a b,d t];cases asc (vRow vs) t<;>rfl
end
theorem Qmo:∀(vs:List Fld) (k:Nat) (t:Txt),(asc (vs.zipIdx k |>.map fun q=>(q.1.name,q.2)) t).isSome=(typV vs t).isSome
 | [],_,_=>rfl
 |v :: vs,k,t=>by
  have ih:=Qmo vs (k+1) t;unfold asc typV at ih ⊢;simp only[List.zipIdx_cons,List.map_cons,List.find?_cons];by_cases e:v.name=t
  ·simp[e]
  ·simpa[e] using ih
theorem Qec(vs:List Fld)(t:Txt):(asc (vRow vs) t).isSome=(typV vs t).isSome:=Qmo vs 0 t
def ftV(f:Flt):Value:=.agg #[.int .i64 f.1,.int .i64 f.2]
theorem Qbd(w:World)(y:Int)(k n:Int)(s:Txt)(v:Value)(hv:∃a n c,v = .slice a n c)(at_:Int):
  Calls Tryz.prog 119 #[Ji y,.agg #[Ji k,Ji n,str s,v,Ji at_]] w fun en w'=>en = .returned (.agg #[Ji y,Ji at_])/\Below w.heap.size w w':=by
 obtain⟨e,g,f,rfl⟩:=hv;obtain⟨h,b⟩:=JE ((w.alloc (.cells #[Ji k,Ji n,str s,.slice e g f,Ji at_] 59)).alloc (.cells #[Ji y,Ji at_] 31));have d:h.heap[w.heap.size+1]?=some (.cells #[Ji y,Ji at_] 31 (0,0)):=by
  rw[b];have:=heap_alloc_new (w.alloc (.cells #[Ji k,Ji n,str s,.slice e g f,Ji at_] 59)) (.cells #[Ji y,Ji at_] 31)
  simpa using this
 have m:Below w.heap.size w h:=by rw[b];exact((Below.refl _ w).alloc (Nat.le_refl _) _).alloc (by simp) _
 obtain⟨i,j,o⟩:=cl2 d;have l:=hide b;clear b d;go_enter Tryz.func119,Tryz.ntmps119;go_wp2_with fail;rw[<- Qa l];refine bodyPost_ret (v:=.agg #[Ji y,Ji at_]) (by simp[results,Tryz.results119,go_sem,i,j]) rfl ?_;exact⟨rfl,m⟩
section
variable {n0 n1:Nat}{p:Pg}{c:CatP}{wb mb:Nat}{sl:Value}{vs:List Fld}{w:World}
theorem Qfr(h:Wk n0 n1 p c wb mb sl vs w)(t b:Txt):
  Calls Tryz.prog 118 #[.pointer (Js wb),str t,str b] w fun en w'=>en = .returned (.bool (hasP p t b))/\Below w.heap.size w w':=by
 have a:=Qhm h.cat t;obtain⟨q,k,l,m,n,o,v⟩:=cl6 h.box;obtain⟨r,d⟩:=JF (hasP p t b);rw[d];unfold hasP at d;unfold fnV at q
 cases g:baseP p t with
 |none=>
  rw[g]at d a;have j:=hide d;unfold bsV at a;simp only[Option.getD_none,Option.isSome_none]at a;clear h k l m n o d g;go_enter Tryz.func118,Tryz.ntmps118;go_wp2_with fail;refine a.mono ?_;clear a;rintro en s⟨rfl,f⟩;have i:=hide f;clear f;go_wp2_with fail;go_ret;exact⟨by rw[<- Qa j];rfl,Qa i⟩
 |some u=>
  rw[g]at d a;have j:=hide d;unfold bsV at a;simp only[Option.getD_some,Option.isSome_some]at a;clear h k l m n o d g;go_enter Tryz.func118,Tryz.ntmps118;go_wp2_with fail;refine a.mono ?_;clear a;rintro en s⟨rfl,f⟩;have i:=hide f;clear f;go_wp2_with fail;go_ret;refine⟨?_,Qa i⟩;rw[<- Qa j];by_cases e:u=b<;>simp[e,str]
theorem Qis(h:Wk n0 n1 p c wb mb sl vs w)(t b:Txt):
  Calls Tryz.prog 126 #[.pointer (Js wb),str t,str b] w fun en w'=>en = .returned (.bool (alikeP p t b))/\Below w.heap.size w w':=by
 have f:=Qhm h.cat t;have s:=hide (show ∀a,Below w.heap.size w a->Calls Tryz.prog 47 #[.pointer (Js c.cb),str b] a fun en w'=>en = .returned (bsV (baseP p b))/\Below a.heap.size a w' from fun a d=>Qhm (Ct.later h.cat d) b);have D:=hide (show ∀a,Below w.heap.size w a->a.cell? (Ja wb 0)=some (.func (.func 47) #[.pointer (Js c.cb)] #[]) from fun a d=>(cl6 (h.later d).box).1);have q:=Qa D w (Below.refl _ _);obtain⟨r,g⟩:=JF (alikeP p t b);rw[g];unfold alikeP at g;obtain⟨j,x⟩:=JF (baseP p t);obtain⟨k,y⟩:=JF (baseP p b);rw[x]at f g;rw[y]at s g;unfold bsV at f s;have B:=hide g;clear h g x y;go_enter Tryz.func126,Tryz.ntmps126;go_wp2_with fail;refine f.mono ?_;clear f q;rintro en a⟨rfl,d⟩;have f:=Qa s a d;have q:=Qa D a d;have z:=hide d;clear d;go_wp2_with fail;refine f.mono ?_;clear f q;rintro en M⟨rfl,F⟩;have A:=hide ((Qa z).trans (F.mono (Qa z).size));clear F;obtain⟨u1,n⟩:=JF (j.getD []);obtain⟨u2,o⟩:=JF (k.getD []);obtain⟨K,l⟩:=JF j.isSome;obtain⟨L,m⟩:=JF k.isSome;rw[n,o,l,m];have C:=hide (Ya n (Ya o (Ya l m)));clear n o l m;by_cases e:u1=u2
 ·
  have I:(u1==u2)=true:=by simpa using e
  have E:=hide e;clear e;go_wp2_with fail;go_ret;refine⟨?_,Qa A⟩;obtain⟨u,v,G,H⟩:=Qa C;rw[<- Qa B,<- G,<- H];have i:=Qa E;rw[<- u,<- v]at i;cases j<;>cases k<;>simp_all
 have I:(u1==u2)=false:=by simpa using e
 have E:=hide e;clear e;go_wp2_with fail;go_ret;refine⟨?_,Qa A⟩;obtain⟨u,v,G,H⟩:=Qa C;rw[<- Qa B];have i:=Qa E;rw[<- u,<- v]at i;have J:¬j=k:=fun e=>i (by rw[e]);simp[J]
theorem Qdp(h:Wk n0 n1 p c wb mb sl vs w)(x:Ex)(xv:Value)(hv:∃a n c,xv = .slice a n c):
  Calls Tryz.prog 128 #[.pointer (Js wb),.agg #[Ji x.kind,Ji x.num,str x.txt,xv,Ji x.at_]] w fun en w'=>en = .returned (.bool (openP vs x))/\Below w.heap.size w w':=by
 obtain⟨B,D,C,rfl⟩:=hv;obtain⟨F,d⟩:=JE (w.alloc (.cells #[Ji x.kind,Ji x.num,str x.txt,.slice B D C,Ji x.at_] 59));have g:=bnw d;have l:=nnw d;have b:=h.later g;have j:=b.lookV x.txt true;have k:=(b.later (Below.refl _ F).drew).lookV x.txt true;rw[if_pos rfl,Qec]at j k;obtain⟨s,t,u,v,y,G,N⟩:=cl6 b.box;obtain⟨H,I,J,K,L,O⟩:=cl5 l;obtain⟨r,f⟩:=JF (openP vs x);rw[f];unfold openP at f;obtain⟨M,i⟩:=JF ((typV vs x.txt).isSome);rw[i]at j k;have o:=hide (Ya f i);have z:=hide d;have m:=hide g;clear h b d g l f i s t u v y;go_enter Tryz.func128,Tryz.ntmps128;go_upto_region 1 with fail;rw[<- Qa z]
 go_region
 by_cases e:x.kind=1
 ·
  have A:(x.kind==1)=true:=beq_iff_eq.2 e;have E:=hide e;clear e;go_wp2_with fail;go_ret;refine⟨?_,(Qa m).drew⟩;obtain⟨b,q⟩:=Qa o;rw[<- b,<- q,Qa E];cases typV vs x.txt<;>rfl
 have A:(x.kind==1)=false:=beq_eq_false_iff_ne.2 e;have E:=hide e;clear e;go_wp2_with fail;go_ret;refine⟨?_,(Qa m).drew⟩;obtain⟨b,q⟩:=Qa o;rw[<- b,decide_eq_false (Qa E)];rfl
end
theorem Qj(vs:List Fld)(v:Fld):fdCells (vs++[v])=fdCells vs++[str v.name,str v.type]:=by
 unfold fdCells;rw[List.flatMap_append];rfl
theorem Qfo:∀(vs:List Fld) (i:Nat) (v:Fld),vs[i]?=some v->(fdCells vs)[i*2]?=some (str v.name)/\(fdCells vs)[i*2+1]?=some (str v.type)
 | [],i,v,h=>by simp at h
 |u :: vs,0,v,h=>by cases h;exact⟨rfl,rfl⟩
 |u :: vs,i+1,v,h=>by
  have:=Qfo vs i v (by simpa using h);unfold fdCells at this ⊢;rw[List.flatMap_cons,show(i+1)*2=i*2+2 by omega]
  simpa using this
theorem Qfp:∀(vs:List Fld) (i:Nat) (v:Fld) (t:Txt),vs[i]?=some v->(fdCells vs).set (i*2+1) (str t)=fdCells (vs.set i ⟨v.name,t⟩)
 | [],i,v,t,h=>by simp at h
 |u :: vs,0,v,t,h=>by cases h;rfl
 |u :: vs,i+1,v,t,h=>by
  have:=Qfp vs i v t (by simpa using h);unfold fdCells at this ⊢;rw[List.flatMap_cons,show(i+1)*2+1=i*2+1+2 by omega];simp only[List.set_cons_succ,List.flatMap_cons,List.cons_append,List.nil_append];rw[this]
theorem Qrg(vs:List Fld)(v:Fld):vRow (vs++[v])=vRow vs++[(v.name,vs.length)]:=by
 unfold vRow;rw[List.zipIdx_append,List.map_append];simp
theorem Qrf{vs:List Fld}{s:Txt}(h:typV vs s=none):s∉vs.map (·.name):=by
 unfold typV at h;simp only[Option.map_eq_none_iff,List.find?_eq_none,decide_eq_true_eq]at h;intro a;obtain⟨v,b,e⟩:=List.mem_map.1 a;exact h v b e
section
variable {n0 n1:Nat}{p:Pg}{c:CatP}{wb mb:Nat}{sl:Value}{vs:List Fld}{w:World}
theorem Qqj(h:Wk n0 n1 p c wb mb sl vs w)(hl:vs.length<=1000000000)(s t:Txt)(hn:typV vs s=none):
  Calls Tryz.prog 133 #[.pointer (Js wb),str s,str t] w fun en w'=>en = .returned (.tuple #[]) /\ ∃sl',Wk n0 n1 p c wb mb sl' (vs++[⟨s,t⟩]) w'/\Kw wb mb sl sl' w w':=by
 have a8:Below w.heap.size w w.drew:=(Below.refl _ w).drew;have m:=h.later a8;obtain⟨ms,J,U⟩:=m.map;have a1:asc ms s=none:=by
  rw[U s];have:=Qec vs s;rw[hn]at this
  cases F:asc (vRow vs) s with
  |none=>rfl
  |some _=>rw[F]at this;cases this
 obtain⟨k,ab,L,V,aa,ad,ae,H⟩:=Qqw uS mI w.drew mb ms s (Ji (vs.length:Int)) J a1;have W:wb≠mb:=fun e=>by
  obtain⟨es,ck,hh,_⟩:=J;have:=m.box;rw[e,hh]at this;cases this
 have E:k.heap[wb]?=some (.cells #[fnV 47 c.cb,fnV 48 c.cb,fnV 78 c.cb,fnV 79 c.cb,sl,.map (some mb)] 143 (0,0)):=(H wb W).trans m.box;have X:some mb≠sl.ownBlock:=fun e=>by
  rcases m.row.2 with ⟨d,_⟩|⟨g,cap,y,d,_,i,_⟩
  ·rw[d]at e;cases e
  rw[d]at e;cases e
  obtain⟨es,ck,hh,_⟩:=J;rw[hh]at i;cases i
 have Y:some wb≠sl.ownBlock:=fun e=>by
  rcases m.row.2 with ⟨d,_⟩|⟨g,cap,y,d,_,i,_⟩
  ·rw[d]at e;cases e
  rw[d]at e;cases e
  have:=m.box;rw[i]at this;simp at this
 obtain⟨Q,f⟩:=JE (k.alloc (.cells #[str s,str t] 67));have a7:k.ownsRow n1 67 2 sl vs.length (fdCells vs):=by
  refine⟨m.row.1,?_⟩;rcases m.row.2 with e|⟨g,cap,y,B,d,i,e4⟩
  ·exact .inl e
  ·exact .inr ⟨g,cap,y,B,d,(H g (fun e=>X (by rw[B,<- e];rfl))).trans i,e4⟩
 obtain⟨i0,hi,hz,ac,a9⟩:=infoF;have a4:n1<=Q.heap.size:=by
  have h1:=h.lo;have h2:=Qaa h.box;rw[f];have:k.heap.size=w.heap.size:=V;simp;omega
 obtain⟨r,R,I,o3,A,_,a3⟩:=run_append_own_at (P:=Tryz.prog) Q n1 46 46 67 i0 _ 2 32 (by kernel_rfl) hi hz ac a9 rfl (by decide) sl vs.length (fdCells vs) (by rw[f];exact World.ownsRow.alloc a7 _) (Ja k.heap.size 0) 1 1 [str s,str t] rfl (fun j u hj=>by
  have B:((Ja k.heap.size 0):Addr).add j=(Ja k.heap.size j):=by cases j<;>simp[Addr.add]
  rw[B,f,Qad (heap_alloc_new k _)]
  simpa using hj) (fun c l=>by simp only[List.mem_cons,List.not_mem_nil,or_false]at l;rcases l with rfl|rfl<;>rfl) (by unfold maxLen;omega) (by omega) a4
 have am:∃o x v,r = .slice o x v:=by
  rcases o3.2 with ⟨e,_⟩|⟨g,cap,y,e,_⟩
  ·exact⟨_,_,_,e⟩
  ·exact⟨_,_,_,e⟩
 obtain⟨aH,ao,aI,M⟩:∃a n c,sl = .slice a n c:=by
  rcases h.row.2 with ⟨e,_⟩|⟨g,cap,y,e,_⟩
  ·exact⟨_,_,_,e⟩
  ·exact⟨_,_,_,e⟩
 have a6:ao=vs.length:=by
  rcases h.row.2 with ⟨e,d⟩|⟨g,cap,y,e,_⟩
  ·rw[M]at e;cases e;omega
  ·rw[M]at e;cases e;rfl
 obtain⟨o,x,v,rfl⟩:=am;have s2:Q.heap.size=k.heap.size+1:=by rw[f];simp
 have an:k.heap.size=w.heap.size:=V;have a2:Q.heap[wb]?=k.heap[wb]?:=by rw[f];exact Below.heap_alloc _ _ _ (Qaa E)
 have S:R.heap[wb]?=some (.cells #[fnV 47 c.cb,fnV 48 c.cb,fnV 78 c.cb,fnV 79 c.cb,sl,.map (some mb)] 143 (0,0)):=(A.block wb (by have:=Qaa E;omega) Y).trans (a2.trans E);obtain⟨G,z⟩:=JE (R.setCell (Ja wb 4) (.slice o x v));have O:∀q,q≠wb->G.heap[q]?=R.heap[q]?:=fun q F=>by rw[z];exact hpS F
 have same:∀b,b<w.heap.size->b≠wb->b≠mb->some b≠sl.ownBlock->G.heap[b]?=w.heap[b]?:=fun b N h1 h2 h3=>by
  rw[O b h1,A.block b (by omega) h3,f,Below.heap_alloc _ _ _ (by omega),H b h2];rfl
 have T:(Value.slice o x v).ownBlock=sl.ownBlock ∨ ∃g,(Value.slice o x v).ownBlock=some g/\w.heap.size<=g:=by
  rcases a3 with e|e
  ·exact .inl e
  ·exact .inr ⟨_,e,by omega⟩
 have ag:∀b,some b=(Value.slice o x v).ownBlock->b≠wb:=fun b e d=>by
  subst d;rcases T with i|⟨g,i,hg⟩
  ·exact Y (e.trans i)
  rw[i]at e;cases e
  have:=Qaa h.box;omega
 have K:Kw wb mb sl (.slice o x v) w G:=by
  refine⟨?_,?_,?_,?_,same,T⟩
  ·rw[z];exact(A.os.trans (by rw[f];rfl)).trans aa
  ·rw[z];exact(A.tape.trans (by rw[f];rfl)).trans ad
  ·rw[z];exact(A.output.trans (by rw[f];rfl)).trans ae
  have:=A.size;rw[z];simp;omega
 have WK:Wk n0 n1 p c wb mb (.slice o x v) (vs++[⟨s,t⟩]) G:=by
  have D:=h.lo;have C:∀b,b<n1->G.heap[b]?=w.heap[b]?:=fun b N=>by
   have al:b<w.heap.size:=by have:=Qaa h.box;omega
   exact same b al (by omega) (by omega) (fun e=>by have:=(World.ownsRow.lt h.row b e.symm).1;omega)
  refine⟨?_,?_,?_,?_,D,?_⟩
  ·
   have l:=h.cat;exact⟨(C _ D.2.1).trans l.box,Qcj.same _ _ _ _ _ l.prg K.size (fun q F _=>C q (by have aG:q<n0:=F;omega)),l.row.keep (C _ D.2.2.1),l.mt.keep (C _ D.2.2.2.1),l.md.keep (C _ D.2.2.2.2.1),l.mc.keep (C _ D.2.2.2.2.2.1),l.l0⟩
  ·rw[z];exact(Qah S 4 _).trans rfl
  ·
   have o5:R.ownsRow n1 67 2 (.slice o x v) (vs.length+1) (fdCells vs++[str s,str t]):=o3;rw[Qj,List.length_append];refine⟨o5.1,?_⟩;rcases o5.2 with e|⟨g,cap,y,B,d,i,e4⟩
   ·exact .inl e
   ·exact .inr ⟨g,cap,y,B,d,(O g (ag g (by rw[B];rfl))).trans i,e4⟩
  ·
   refine⟨ms++[(s,Ji (vs.length:Int))],?_,fun t'=>?_⟩
   ·
    refine L.keep ?_;rw[O mb (Ne.symm W),A.block mb (by have:=L.lt;omega) X,f];exact Below.heap_alloc _ _ _ L.lt
   rw[Qrg,Qcl,Qcl,U t',Qeq,Qeq]
   cases asc (vRow vs) t' with
   |some _=>rfl
   |none=>
    by_cases e:s=t'
    ·simp[e,nOf]
    ·simp[e]
  rw[List.map_append,List.nodup_append];refine⟨h.nd,by simp,fun a ha b N e=>?_⟩;simp only[List.map_cons,List.map_nil,List.mem_singleton]at N;rw[e,N]at ha;exact Qrf hn ha
 obtain⟨ap,aq,ar,au,Z,av,xf⟩:=cl6 h.box;obtain⟨aw,ax,ay,az,ah,aA,yf⟩:=cl6 E;obtain⟨aB,aC,aD,aE,ai,aF,zf⟩:=cl6 S;rw[M,a6]at Z ah ai I;have a5:(Instr.mapUpdate 125 (.map (some mb)) (str s) (Ji (vs.length:Int))).run Tryz.prog w.drew = .ok () k:=ab;obtain⟨vn,af⟩:=JF vs.length;rw[af]at Z ah ai I a5 hl;have HE:=hide (Ya WK K);have aj:=hide f;have ak:=hide z;have a0:=hide I;clear h m a8 J U a1 ab L V aa ad ae H W E X Y f a7 hi hz ac a9 a4 I o3 A a3 M a6 s2 an a2 S z O same T ag K WK af hn ap aq ar au aw ax ay az aA aB aC aD aE aF;go_enter Tryz.func133,Tryz.ntmps133;go_wp2_with fail
 go_region
 clear Z av xf a5;go_wp2_with (at_builtin;rw[<- Qa aj];refine Qaj _ rfl _ _ 46 rfl _ _ rfl rfl _ _ (Qa a0) ?_;clear a0);rw[<- Qa ak]
 go_end0
 exact⟨rfl,_,Qa HE⟩
end
theorem Qat(w:World)(cs:Array Value)(T:TypeId):∃w2,w2=(w.alloc (.cells cs T)).alloc (.cells #[Ji 0,Ji 0] 31)/\Below w.heap.size w w2/\w2.heap[w.heap.size]?=some (.cells cs T (0,0))/\w2.heap[w.heap.size+1]?=some (.cells #[Ji 0,Ji 0] 31 (0,0))/\w2.heap.size=w.heap.size+2:=by
 refine⟨_,rfl,((Below.refl _ w).alloc (Nat.le_refl _) _).alloc (by simp) _,?_,?_,by simp⟩
 ·rw[Below.heap_alloc _ _ _ (by simp)];exact heap_alloc_new w _
 have:=heap_alloc_new (w.alloc (.cells cs T)) (.cells #[Ji 0,Ji 0] 31)
 simpa using this
section
variable {n0 n1:Nat}{p:Pg}{c:CatP}{wb mb:Nat}{sl:Value}{vs:List Fld}{w:World}
theorem Qee(h:Wk n0 n1 p c wb mb sl vs w)(x:Ex)(xv:Value)(hv:∃a n c,xv = .slice a n c)(t b:Txt):
  Calls Tryz.prog 123 #[.pointer (Js wb),.agg #[Ji x.kind,Ji x.num,str x.txt,xv,Ji x.at_],str t,str b] w fun en w'=>en = .returned (ftV (if hasP p t b=true then (0,0) else (13,x.at_)))/\Below w.heap.size w w':=by
 obtain⟨G,I,H,rfl⟩:=hv;obtain⟨X,C,d,f,e,g⟩:=Qat w #[Ji x.kind,Ji x.num,str x.txt,.slice G I H,Ji x.at_] 59;have o:=Qfr (h.later d) t b;have R:=hide C;have Q:=hide (Ya d (Ya f (Ya e g)));obtain⟨r,F⟩:=JF (hasP p t b);rw[F]at o ⊢;clear C d f e g h F;go_enter Tryz.func123,Tryz.ntmps123;go_upto_region 1 with fail;rw[<- Qa R];go_wp2_with fail;refine o.mono ?_;clear o;rintro en S⟨rfl,k⟩;obtain⟨d,f,e,g⟩:=Qa Q;have s:=(k.block _ (by omega)).trans f;have i:=(k.block _ (by omega)).trans e;have z:=hide (d.trans (k.mono d.size));cases r
 ·
  have D:=Qbd S 13 x.kind x.num x.txt (.slice G I H) ⟨_,_,_,rfl⟩ x.at_;obtain⟨J,K,L,M,N,T⟩:=cl5 s;have E:=hide (Ya i g);clear d f e g s i k;go_wp2_with fail;refine D.mono ?_;clear D J K L M N T;rintro en Y⟨rfl,A⟩;have q:=(A.block _ (Qaa (Qa E).1)).trans (Qa E).1;have B:=(Qa z).trans (A.mono (Qa z).size);obtain⟨W,l,sc⟩:=sc2 q (Ji 13) (Ji x.at_);obtain⟨O,P,U⟩:=cl2 q;have j:=hide (Ya (sc.below B (by omega)) sc.box);have m:=hide l;clear A q B l sc;go_wp2_with fail;rw[<- Qa m];obtain⟨u,y,V⟩:=cl2 (Qa j).2;refine bodyPost_ret (v:=ftV (13,x.at_)) (by simp[results,Tryz.results123,go_sem,u,y,ftV]) rfl ?_;exact⟨rfl,(Qa j).1⟩
 obtain⟨W,l,sc⟩:=sc2 i (Ji 0) (Ji 0);obtain⟨O,P,U⟩:=cl2 i;have j:=hide (Ya (sc.below (Qa z) (by omega)) sc.box);have m:=hide l;clear d f e g s i k l sc;go_wp2_with fail;rw[<- Qa m];obtain⟨u,y,V⟩:=cl2 (Qa j).2;refine bodyPost_ret (v:=ftV (0,0)) (by simp[results,Tryz.results123,go_sem,u,y,ftV]) rfl ?_;exact⟨rfl,(Qa j).1⟩
end
end
end Go.Proofs.YtkhndlnadhggkaaGreat
