/- The laws' flat. -/
import Derived.Test.YtmfpbepifnedjaaGreatZz01
import Derived.Test.YtmfpbepifnedjaaGreatZz23
import Derived.Test.YtmfpbepifnedjaaGreatZz29
import Derived.Test.YtmfpbepifnedjaaGreatZz17
set_option maxRecDepth 100000
set_option maxHeartbeats 32000000
namespace Go.Proofs.YtmfpbepifnedjaaGreat
section
open Go.RowKit Go.Maps
def FlQ(q:Pg):Prop:=q.comps=[]/\q.inits=[]/\Few q 97 /\ ∀x∈q.clauses,ltBs x.body<=131074
def FlA(w:World)(en:Ending)(w':World):Prop:=∃v q b,en = .returned (.tuple #[v,.bool b])/\VPg (fun b=>w.heap.size<=b) w' v q/\Below w.heap.size w w'/\FlQ q
theorem Qnb(s:ByteArray)(hs:s.size<=281474976710656)(w:World):Calls Tryz.prog 13 #[.string s] w fun en w'=>FlA w en w':=by
 obtain⟨w1,a2⟩:=JE (w.alloc (.cells #[Jn,Jn,Jn,Jn,Jn] 28))
 have b1:=bnw a2
 have n1:=nnw a2
 have s1:w1.heap.size=w.heap.size+1:=by rw[a2];simp
 have aw:=Qnn s hs w1
 have HW:=hide a2
 have H1:=hide (Ya b1 (Ya n1 s1))
 clear a2 b1 n1 s1
 go_enter Tryz.func13,Tryz.ntmps13
 go_upto_region 1 with fail
 rw[<- Qa HW]
 clear HW
 go_wp2_with fail
 refine aw.mono ?_
 clear aw
 rintro en v1⟨az,aE,ah,au,aq,aH,ak,aB,ax,aF,an,am,aj,aD,aC,a0,V,p,rfl,b2,hR,ag,al⟩
 obtain⟨kp,a7⟩:=JF v1.heap.size
 obtain⟨W1,av,c1,p1,f1,s2⟩:=new2 v1 #[.slice az aE ah,.slice au aq aH,.slice ak aB ax,.slice aF an am,.slice aj aD aC] #[Ji a0,Ji V] 28 31
 rw[a7]at c1 p1 f1 s2
 have ay:PgS (fun b=>w.heap.size+1<=b/\b<kp) W1 [.slice az aE ah,.slice au aq aH,.slice ak aB ax,.slice aF an am,.slice aj aD aC] p:=Qak.same _ v1 W1 _ _ (Qak.mono _ _ _ _ _ hR (fun b hl hb=>⟨by have aS:w1.heap.size<=b:=hb;have:=(Qa H1).2.2;omega,by omega⟩)) (by omega) (fun q hq _=>c1.block q hq.2)
 have ae:=Qkq (S0:=fun b=>w.heap.size+1<=b) ag al ay (by omega)
 obtain⟨aJ,aK,aL,aI,aM,xf⟩:=cl5 p1
 have B1:Below w.heap.size w W1:=(Qa H1).1.trans ((b2.trans (c1.mono (by rw[<- a7];exact b2.size))).mono (by have:=(Qa H1).2.2;omega))
 have nL:=(c1.block w.heap.size (by have:=(Qa H1).2.2;have:=b2.size;omega)).trans ((b2.block w.heap.size (by have:=(Qa H1).2.2;omega)).trans (Qa H1).2.1)
 have a4:w.heap.size<kp:=by have:=(Qa H1).2.2;have:=b2.size;omega
 have H2:=hide (Ya B1 (Ya nL (Ya f1 (Ya a4 s2))))
 have a9:=hide (Ya av a7)
 clear ag al hR ay a7 av c1 p1 f1 s2 b2 B1 nL a4
 go_upto_region 2 with fail
 rw[<- (Qa a9).1,(Qa a9).2]
 clear a9
 go_wp2_with fail
 refine ae.mono ?_
 clear ae aJ aK aL aI aM xf
 rintro en v2⟨_,q,y,f,rfl,⟨k,r,h,D,z,E,C,x,G,t,u,o,n,F,J,rfl,hq⟩,b3,ar,aA,ap,ai,-,hyf⟩
 obtain⟨B1,nL,f1,a4,s2⟩:=Qa H2
 obtain⟨N,ad⟩:=JF v2.heap.size
 obtain⟨W2,ao,c3,p3,f3,s3⟩:=new2 v2 #[.slice k r h,.slice D z E,.slice C x G,.slice t u o,.slice n F J] #[Ji y,Ji f] 28 31
 have a8:=b3.size
 rw[ad]at c3 p3 f3 s3 a8
 obtain⟨WD,aa⟩:=JE W2.drew
 have bD:Below W2.heap.size W2 WD:=by rw[aa];exact(Below.refl _ W2).drew
 have c4:Below N v2 WD:=c3.trans (bD.mono (by omega))
 have ac:=(c4.block _ (by omega)).trans ((b3.block _ (by omega)).trans nL)
 have fD:=(c4.block (kp+1) (by omega)).trans ((b3.block (kp+1) (by omega)).trans f1)
 have pD:=(bD.block _ (Qaa p3)).trans p3
 have gD:=(bD.block _ (Qaa f3)).trans f3
 obtain⟨W9,aG,S⟩:=sc5 ac (.slice k r h) (.slice D z E) (.slice C x G) (.slice t u o) (.slice n F J)
 have T:=hide (Ya (show WD.heap[N]?=some (.cells #[.slice k r h,.slice D z E,.slice C x G,.slice t u o,.slice n F J] 28 (0,0))/\WD.heap[kp+1]?=some (.cells #[Ji a0,Ji V] 31 (0,0))/\WD.heap[N+1]?=some (.cells #[Ji y,Ji f] 31 (0,0)) from ⟨pD,fD,gD⟩) (show W9.heap[N]?=some (.cells #[.slice k r h,.slice D z E,.slice C x G,.slice t u o,.slice n F J] 28 (0,0))/\W9.heap[kp+1]?=some (.cells #[Ji a0,Ji V] 31 (0,0))/\W9.heap[N+1]?=some (.cells #[Ji y,Ji f] 31 (0,0)) from ⟨(S.oth _ (by omega)).trans pD,(S.oth _ (by omega)).trans fD,(S.oth _ (by omega)).trans gD⟩))
 have HE:=hide (show ∀b,FlA w (.returned (.tuple #[.agg #[.slice k r h,.slice D z E,.slice C x G,.slice t u o,.slice n F J],.bool b])) W9 from fun b=>⟨_,q,b,rfl,⟨_,_,_,_,_,_,_,_,_,_,_,_,_,_,_,rfl,Qak.mono _ _ _ _ _ (Qak.same _ WD W9 _ _ (Qak.same _ v2 WD _ _ hq c4.size (fun q _ hl=>c4.block q (by omega))) (by rw[S.size];exact Nat.le_refl _) (fun q hq _=>S.oth q (by rcases hq with e|e<;>omega))) (fun b _ hb=>by show w.heap.size<=b;rcases hb with e|e<;>omega)⟩,S.below (B1.trans ((b3.trans (c4.mono a8)).mono (by omega))) (Nat.le_refl _),ar,aA,ap,ai⟩)
 have a5:=hide S.box
 have ab:=hide (Ya ao ad)
 have a6:=hide aa
 have a3:=hide aG
 obtain⟨aQ,aO,aN,aP,aR,zf⟩:=cl5 ac
 clear B1 nL f1 a4 s2 ad ao c3 p3 f3 s3 a8 aa bD c4 ac fD pD gD aG S hq b3 ar aA ap ai
 go_upto_region 3 with fail
 rw[<- (Qa ab).1,(Qa ab).2]
 clear ab
 by_cases h1:a0=0
 ·
  subst h1
  by_cases h2:V=0
  subst h2
  by_cases h3:y=0
  ·
   have hf:=(hyf h3).1
   subst h3
   subst hf
   clear hyf
   refine Qav (tr:=.take 0 (.take 1 (.take 2 (.take 3 (.take 4 (.take 5 (.take 6 (.take 7 (.take 8 (.one 9 (.take 10 .nil))))))))))) (fun W=>W.heap[N]?=some (.cells #[.slice k r h,.slice D z E,.slice C x G,.slice t u o,.slice n F J] 28 (0,0))/\W.heap[kp+1]?=some (.cells #[Ji 0,Ji 0] 31 (0,0))/\W.heap[N+1]?=some (.cells #[Ji 0,Ji 0] 31 (0,0))) mixedO (by kernel_rfl) rfl (by kernel_rfl) (fun PP R=>?_)
   rw[<- Qa a6]
   iterate 5 (refine tT (v:=?_) (fun w' hw=>?_) ?_;rotate_left;· (obtain⟨g,a,d⟩:=hw;obtain⟨j,A,i,H,B,O⟩:=cl5 g;obtain⟨I,m,M⟩:=cl2 a;obtain⟨L,l,P⟩:=cl2 d;go_simp<;>rfl))
   iterate 3 (refine tT (v:=?_) (fun w' hw=>?_) ?_;rotate_left;· (obtain⟨g,a,d⟩:=hw;obtain⟨j,A,i,H,B,O⟩:=cl5 g;obtain⟨I,m,M⟩:=cl2 a;obtain⟨L,l,P⟩:=cl2 d;go_simp<;>rfl))
   refine tT (v:=?_) (fun w' hw=>?_) ?_;rotate_left;· (obtain⟨g,a,d⟩:=hw;obtain⟨j,A,i,H,B,O⟩:=cl5 g;obtain⟨I,m,M⟩:=cl2 a;obtain⟨L,l,P⟩:=cl2 d;go_simp<;>rfl)
   refine Qag rfl (Qa T).1 (fun K Q=>?_)
   go_simp
   rw[<- Qa a3]
   refine Q _ _ ?_
   clear Q K
   refine tT (v:=?_) (fun w' hw=>?_) ?_;rotate_left;· (obtain⟨g,a,d⟩:=hw;obtain⟨j,A,i,H,B,O⟩:=cl5 g;obtain⟨I,m,M⟩:=cl2 a;obtain⟨L,l,P⟩:=cl2 d;go_simp<;>rfl)
   refine Qap (Qa T).2 (R _ _ ?_)
   clear R PP
   go_wp2_with fail
   obtain⟨a1,X,Z,Y,U,vf⟩:=cl5 (Qa a5)
   refine bodyPost_ret (v:=.tuple #[.agg #[.slice k r h,.slice D z E,.slice C x G,.slice t u o,.slice n F J],.bool true]) (by simp[results,Tryz.results13,go_sem,a1,X,Z,Y,U]) rfl ?_
   exact Qa HE _
  have g3:(y==0)=false:=beq_eq_false_iff_ne.2 h3
  clear hyf h3
  refine Qav (tr:=.take 0 (.take 1 (.take 2 (.take 3 (.take 4 (.take 5 (.take 6 (.take 7 (.take 8 (.one 9 (.take 10 .nil))))))))))) (fun W=>W.heap[N]?=some (.cells #[.slice k r h,.slice D z E,.slice C x G,.slice t u o,.slice n F J] 28 (0,0))/\W.heap[kp+1]?=some (.cells #[Ji 0,Ji 0] 31 (0,0))/\W.heap[N+1]?=some (.cells #[Ji y,Ji f] 31 (0,0))) mixedO (by kernel_rfl) rfl (by kernel_rfl) (fun PP R=>?_)
  rw[<- Qa a6]
  iterate 5 (refine tT (v:=?_) (fun w' hw=>?_) ?_;rotate_left;· (obtain⟨g,a,d⟩:=hw;obtain⟨j,A,i,H,B,O⟩:=cl5 g;obtain⟨I,m,M⟩:=cl2 a;obtain⟨L,l,P⟩:=cl2 d;go_simp<;>rfl))
  iterate 3 (refine tT (v:=?_) (fun w' hw=>?_) ?_;rotate_left;· (obtain⟨g,a,d⟩:=hw;obtain⟨j,A,i,H,B,O⟩:=cl5 g;obtain⟨I,m,M⟩:=cl2 a;obtain⟨L,l,P⟩:=cl2 d;go_simp<;>rfl))
  rotate_left
  have g2:(V==0)=false:=beq_eq_false_iff_ne.2 h2
  clear hyf h2
  refine Qav (tr:=.take 0 (.take 1 (.take 2 (.take 3 (.take 4 (.take 5 (.take 6 (.take 7 (.take 8 (.one 9 (.take 10 .nil))))))))))) (fun W=>W.heap[N]?=some (.cells #[.slice k r h,.slice D z E,.slice C x G,.slice t u o,.slice n F J] 28 (0,0))/\W.heap[kp+1]?=some (.cells #[Ji 0,Ji V] 31 (0,0))/\W.heap[N+1]?=some (.cells #[Ji y,Ji f] 31 (0,0))) mixedO (by kernel_rfl) rfl (by kernel_rfl) (fun PP R=>?_)
  rw[<- Qa a6]
  iterate 5 (refine tT (v:=?_) (fun w' hw=>?_) ?_;rotate_left;· (obtain⟨g,a,d⟩:=hw;obtain⟨j,A,i,H,B,O⟩:=cl5 g;obtain⟨I,m,M⟩:=cl2 a;obtain⟨L,l,P⟩:=cl2 d;go_simp<;>rfl))
  iterate 3 (refine Qkf rfl (by kernel_rfl) ?_)
  all_goals
   refine tT (v:=?_) (fun w' hw=>?_) ?_;rotate_left;· (obtain⟨g,a,d⟩:=hw;obtain⟨j,A,i,H,B,O⟩:=cl5 g;obtain⟨I,m,M⟩:=cl2 a;obtain⟨L,l,P⟩:=cl2 d;go_simp<;>rfl)
   refine Qag rfl (Qa T).1 (fun K Q=>?_)
   go_simp
   rw[<- Qa a3]
   refine Q _ _ ?_
   clear Q K
   refine tT (v:=?_) (fun w' hw=>?_) ?_;rotate_left;· (obtain⟨g,a,d⟩:=hw;obtain⟨j,A,i,H,B,O⟩:=cl5 g;obtain⟨I,m,M⟩:=cl2 a;obtain⟨L,l,P⟩:=cl2 d;go_simp<;>rfl)
   refine Qap (Qa T).2 (R _ _ ?_)
   clear R PP
   go_wp2_with fail
   obtain⟨a1,X,Z,Y,U,vf⟩:=cl5 (Qa a5)
   refine bodyPost_ret (v:=.tuple #[.agg #[.slice k r h,.slice D z E,.slice C x G,.slice t u o,.slice n F J],.bool false]) (by simp[results,Tryz.results13,go_sem,a1,X,Z,Y,U]) rfl ?_
   exact Qa HE _
 have g1:(a0==0)=false:=beq_eq_false_iff_ne.2 h1
 clear hyf h1
 refine Qav (tr:=.take 0 (.take 1 (.take 2 (.take 3 (.take 4 (.take 5 (.take 6 (.take 7 (.take 8 (.one 9 (.take 10 .nil))))))))))) (fun W=>W.heap[N]?=some (.cells #[.slice k r h,.slice D z E,.slice C x G,.slice t u o,.slice n F J] 28 (0,0))/\W.heap[kp+1]?=some (.cells #[Ji a0,Ji V] 31 (0,0))/\W.heap[N+1]?=some (.cells #[Ji y,Ji f] 31 (0,0))) mixedO (by kernel_rfl) rfl (by kernel_rfl) (fun PP R=>?_)
 rw[<- Qa a6]
 iterate 5 (refine tT (v:=?_) (fun w' hw=>?_) ?_;rotate_left;· (obtain⟨g,a,d⟩:=hw;obtain⟨j,A,i,H,B,O⟩:=cl5 g;obtain⟨I,m,M⟩:=cl2 a;obtain⟨L,l,P⟩:=cl2 d;go_simp<;>rfl))
 iterate 3 (refine Qkf rfl (by kernel_rfl) ?_)
 refine tT (v:=?_) (fun w' hw=>?_) ?_;rotate_left;· (obtain⟨g,a,d⟩:=hw;obtain⟨j,A,i,H,B,O⟩:=cl5 g;obtain⟨I,m,M⟩:=cl2 a;obtain⟨L,l,P⟩:=cl2 d;go_simp<;>rfl)
 refine Qag rfl (Qa T).1 (fun K Q=>?_)
 go_simp
 rw[<- Qa a3]
 refine Q _ _ ?_
 clear Q K
 refine tT (v:=?_) (fun w' hw=>?_) ?_;rotate_left;· (obtain⟨g,a,d⟩:=hw;obtain⟨j,A,i,H,B,O⟩:=cl5 g;obtain⟨I,m,M⟩:=cl2 a;obtain⟨L,l,P⟩:=cl2 d;go_simp<;>rfl)
 refine Qap (Qa T).2 (R _ _ ?_)
 clear R PP
 go_wp2_with fail
 obtain⟨a1,X,Z,Y,U,vf⟩:=cl5 (Qa a5)
 refine bodyPost_ret (v:=.tuple #[.agg #[.slice k r h,.slice D z E,.slice C x G,.slice t u o,.slice n F J],.bool false]) (by simp[results,Tryz.results13,go_sem,a1,X,Z,Y,U]) rfl ?_
 exact Qa HE _
def fnV(f:Nat)(cb:Nat):Value:=.func (.func f) #[.pointer (some ⟨cb,0,none⟩)] #[]
def fdCells(vs:List Fld):List Value:=vs.flatMap fun v=>[str v.name,str v.type]
def vRow(vs:List Fld):List (Txt×Nat):=vs.zipIdx.map fun q=>(q.1.name,q.2)
structure Wk(n0 n1:Nat)(p:Pg)(c:CatP)(wb mb:Nat)(sl:Value)(vs:List Fld)(w:World):Prop where
 cat:Cs n0 p c w
 box:w.heap[wb]?=some (.cells #[fnV 47 c.cb,fnV 48 c.cb,fnV 78 c.cb,fnV 79 c.cb,sl,.map (some mb)] 143 (0,0))
 row:w.ownsRow n1 67 2 sl vs.length (fdCells vs)
 map:MpF nOf w mb (vRow vs)
 lo:n0<=n1/\c.cb<n1/\c.kb<n1/\c.mt<n1/\c.md<n1/\c.mc<n1/\n1<=wb/\n1<=mb
 nd:(vs.map (·.name)).Nodup
structure Kw(wb mb:Nat)(sl sl':Value)(w w':World):Prop where
 os:w'.os=w.os
 tape:w'.tape=w.tape
 output:w'.output=w.output
 size:w.heap.size<=w'.heap.size
 block:∀b,b<w.heap.size->b≠wb->b≠mb->some b≠sl.ownBlock->w'.heap[b]?=w.heap[b]?
 own:sl'.ownBlock=sl.ownBlock ∨ ∃g,sl'.ownBlock=some g/\w.heap.size<=g
theorem Kw.of_below{wb mb:Nat}{sl:Value}{w w':World}(h:Below w.heap.size w w'):Kw wb mb sl sl w w':=⟨h.os,h.tape,h.output,h.size,fun b a _ _ _=>h.block b a,.inl rfl⟩
theorem Kw.trans{wb mb:Nat}{s1 s2 s3:Value}{a b c:World}(h:Kw wb mb s1 s2 a b)(k:Kw wb mb s2 s3 b c):Kw wb mb s1 s3 a c:=
 ⟨k.os.trans h.os,k.tape.trans h.tape,k.output.trans h.output,Nat.le_trans h.size k.size,fun q l i j f=>by
  rw[k.block q (by have:=h.size;omega) i j (fun e=>by
   rcases h.own with d|⟨g,d,m⟩
   ·exact f (e.trans d)
   ·rw[d]at e;cases e;omega),h.block q l i j f],by
  rcases k.own with e|⟨g,e,n⟩
  ·rw[e];exact h.own
  ·exact .inr ⟨g,e,by have:=h.size;omega⟩⟩
section
variable {n0 n1:Nat}{p:Pg}{c:CatP}{wb mb:Nat}{sl sl':Value}{vs:List Fld}{w w':World}
theorem Wk.later(h:Wk n0 n1 p c wb mb sl vs w)(b:Below w.heap.size w w'):Wk n0 n1 p c wb mb sl vs w':=
 ⟨Ct.later h.cat b,(b.block _ (Qaa h.box)).trans h.box,by
  refine⟨h.row.1,?_⟩
  rcases h.row.2 with e|⟨g,cap,d,j,f,a,i⟩
  ·exact .inl e
  ·exact .inr ⟨g,cap,d,j,f,(b.block _ (Qaa a)).trans a,i⟩,h.map.keep (b.block _ h.map.lt),h.lo,h.nd⟩
def Wk.off(_:Wk n0 n1 p c wb mb sl vs w)(b:Nat):Prop:=b≠wb/\b≠mb/\some b≠sl.ownBlock
theorem Wk.new(h:Wk n0 n1 p c wb mb sl vs w){b:Nat}(hb:w.heap.size<=b):b≠wb/\b≠mb/\some b≠sl.ownBlock:=
 ⟨by have:=Qaa h.box;omega,by have:=h.map.lt;omega,fun e=>by have:=(World.ownsRow.lt h.row b e.symm).2;omega⟩
theorem Wk.low(h:Wk n0 n1 p c wb mb sl vs w){b:Nat}(hb:b<n0):b≠wb/\b≠mb/\some b≠sl.ownBlock:=
 ⟨by have:=h.lo;omega,by have:=h.lo;omega,fun e=>by have:=(World.ownsRow.lt h.row b e.symm).1;have:=h.lo;omega⟩
theorem Kw.keep(k:Kw wb mb sl sl' w w'){b:Nat}{o:Obj}(hb:w.heap[b]?=some o)(hn:b≠wb/\b≠mb/\some b≠sl.ownBlock):w'.heap[b]?=some o:=(k.block b (Qaa hb) hn.1 hn.2.1 hn.2.2).trans hb
theorem Wk.lookV(h:Wk n0 n1 p c wb mb sl vs w)(t:Txt)(b:Bool):(Instr.lookup 125 (.map (some mb)) (str t) b).run Tryz.prog w = .ok (if b then .tuple #[Ji (((asc (vRow vs) t).getD 0:Nat):Int),.bool (asc (vRow vs) t).isSome] else Ji (((asc (vRow vs) t).getD 0:Nat):Int)) w:=by
 obtain⟨a,d,e⟩:=h.map
 rw[Qeb uS mI zI w mb a t d b,e t]
 cases asc (vRow vs) t<;>rfl
end
theorem Qmu:∀(vs:List Fld) (k:Nat) (t:Txt),(asc (vs.zipIdx k |>.map fun q=>(q.1.name,q.2)) t).isSome=(typV vs t).isSome
 | [],_,_=>rfl
 |v :: vs,k,t=>by
  have ih:=Qmu vs (k+1) t
  unfold asc typV at ih ⊢
  simp only[List.zipIdx_cons,List.map_cons,List.find?_cons]
  by_cases e:v.name=t
  ·simp[e]
  ·simpa[e] using ih
theorem Qeh(vs:List Fld)(t:Txt):(asc (vRow vs) t).isSome=(typV vs t).isSome:=Qmu vs 0 t
def ftV(f:Flt):Value:=.agg #[.int .i64 f.1,.int .i64 f.2]
theorem Qbd(w:World)(y:Int)(k n:Int)(s:Txt)(v:Value)(hv:∃a n c,v = .slice a n c)(at_:Int):
  Calls Tryz.prog 119 #[Ji y,.agg #[Ji k,Ji n,str s,v,Ji at_]] w fun en w'=>en = .returned (.agg #[Ji y,Ji at_])/\Below w.heap.size w w':=by
 obtain⟨g,h,e,rfl⟩:=hv
 obtain⟨d,b⟩:=JE ((w.alloc (.cells #[Ji k,Ji n,str s,.slice g h e,Ji at_] 59)).alloc (.cells #[Ji y,Ji at_] 31))
 have f:d.heap[w.heap.size+1]?=some (.cells #[Ji y,Ji at_] 31 (0,0)):=by
  rw[b]
  have:=heap_alloc_new (w.alloc (.cells #[Ji k,Ji n,str s,.slice g h e,Ji at_] 59)) (.cells #[Ji y,Ji at_] 31)
  simpa using this
 have l:Below w.heap.size w d:=by rw[b];exact((Below.refl _ w).alloc (Nat.le_refl _) _).alloc (by simp) _
 obtain⟨j,i,o⟩:=cl2 f
 have m:=hide b
 clear b f
 go_enter Tryz.func119,Tryz.ntmps119
 go_wp2_with fail
 rw[<- Qa m]
 refine bodyPost_ret (v:=.agg #[Ji y,Ji at_]) (by simp[results,Tryz.results119,go_sem,j,i]) rfl ?_
 exact⟨rfl,l⟩
section
variable {n0 n1:Nat}{p:Pg}{c:CatP}{wb mb:Nat}{sl:Value}{vs:List Fld}{w:World}
theorem Qfy(h:Wk n0 n1 p c wb mb sl vs w)(t b:Txt):
  Calls Tryz.prog 118 #[.pointer (Js wb),str t,str b] w fun en w'=>en = .returned (.bool (hasP p t b))/\Below w.heap.size w w':=by
 have a:=Qfg h.cat t
 obtain⟨q,k,o,l,m,n,v⟩:=cl6 h.box
 obtain⟨r,d⟩:=JF (hasP p t b)
 rw[d]
 unfold hasP at d
 unfold fnV at q
 cases g:baseP p t with
 |none=>
  rw[g]at d a
  have i:=hide d
  unfold bsV at a
  simp only[Option.getD_none,Option.isSome_none]at a
  clear h k o l m n d g
  go_enter Tryz.func118,Tryz.ntmps118
  go_wp2_with fail
  refine a.mono ?_
  clear a
  rintro en s⟨rfl,f⟩
  have j:=hide f
  clear f
  go_wp2_with fail
  go_ret
  exact⟨by rw[<- Qa i];rfl,Qa j⟩
 |some u=>
  rw[g]at d a
  have i:=hide d
  unfold bsV at a
  simp only[Option.getD_some,Option.isSome_some]at a
  clear h k o l m n d g
  go_enter Tryz.func118,Tryz.ntmps118
  go_wp2_with fail
  refine a.mono ?_
  clear a
  rintro en s⟨rfl,f⟩
  have j:=hide f
  clear f
  go_wp2_with fail
  go_ret
  refine⟨?_,Qa j⟩
  rw[<- Qa i]
  by_cases e:u=b<;>simp[e,str]
theorem Qja(h:Wk n0 n1 p c wb mb sl vs w)(t b:Txt):
  Calls Tryz.prog 126 #[.pointer (Js wb),str t,str b] w fun en w'=>en = .returned (.bool (alikeP p t b))/\Below w.heap.size w w':=by
 have f:=Qfg h.cat t
 have v:=hide (show ∀a,Below w.heap.size w a->Calls Tryz.prog 47 #[.pointer (Js c.cb),str b] a fun en w'=>en = .returned (bsV (baseP p b))/\Below a.heap.size a w' from fun a d=>Qfg (Ct.later h.cat d) b)
 have H:=hide (show ∀a,Below w.heap.size w a->a.cell? (Ja wb 0)=some (.func (.func 47) #[.pointer (Js c.cb)] #[]) from fun a d=>(cl6 (h.later d).box).1)
 have l:=Qa H w (Below.refl _ _)
 obtain⟨r,g⟩:=JF (alikeP p t b)
 rw[g]
 unfold alikeP at g
 obtain⟨k,y⟩:=JF (baseP p t)
 obtain⟨i,x⟩:=JF (baseP p b)
 rw[y]at f g
 rw[x]at v g
 unfold bsV at f v
 have F:=hide g
 clear h g y x
 go_enter Tryz.func126,Tryz.ntmps126
 go_wp2_with fail
 refine f.mono ?_
 clear f l
 rintro en a⟨rfl,d⟩
 have f:=Qa v a d
 have l:=Qa H a d
 have A:=hide d
 clear d
 go_wp2_with fail
 refine f.mono ?_
 clear f l
 rintro en K⟨rfl,z⟩
 have G:=hide ((Qa A).trans (z.mono (Qa A).size))
 clear z
 obtain⟨u1,n⟩:=JF (k.getD [])
 obtain⟨u2,o⟩:=JF (i.getD [])
 obtain⟨L,m⟩:=JF k.isSome
 obtain⟨M,q⟩:=JF i.isSome
 rw[n,o,m,q]
 have D:=hide (Ya n (Ya o (Ya m q)))
 clear n o m q
 by_cases e:u1=u2
 ·
  have J:(u1==u2)=true:=by simpa using e
  have E:=hide e
  clear e
  go_wp2_with fail
  go_ret
  refine⟨?_,Qa G⟩
  obtain⟨s,u,B,C⟩:=Qa D
  rw[<- Qa F,<- B,<- C]
  have j:=Qa E
  rw[<- s,<- u]at j
  cases k<;>cases i<;>simp_all
 have J:(u1==u2)=false:=by simpa using e
 have E:=hide e
 clear e
 go_wp2_with fail
 go_ret
 refine⟨?_,Qa G⟩
 obtain⟨s,u,B,C⟩:=Qa D
 rw[<- Qa F]
 have j:=Qa E
 rw[<- s,<- u]at j
 have I:¬k=i:=fun e=>j (by rw[e])
 simp[I]
theorem Qdu(h:Wk n0 n1 p c wb mb sl vs w)(x:Ex)(xv:Value)(hv:∃a n c,xv = .slice a n c):
  Calls Tryz.prog 128 #[.pointer (Js wb),.agg #[Ji x.kind,Ji x.num,str x.txt,xv,Ji x.at_]] w fun en w'=>en = .returned (.bool (openP vs x))/\Below w.heap.size w w':=by
 obtain⟨A,F,D,rfl⟩:=hv
 obtain⟨z,d⟩:=JE (w.alloc (.cells #[Ji x.kind,Ji x.num,str x.txt,.slice A F D,Ji x.at_] 59))
 have g:=bnw d
 have k:=nnw d
 have b:=h.later g
 have j:=b.lookV x.txt true
 have l:=(b.later (Below.refl _ z).drew).lookV x.txt true
 rw[if_pos rfl,Qeh]at j l
 obtain⟨y,s,u,v,t,L,O⟩:=cl6 b.box
 obtain⟨G,J,I,H,K,N⟩:=cl5 k
 obtain⟨r,f⟩:=JF (openP vs x)
 rw[f]
 unfold openP at f
 obtain⟨M,i⟩:=JF ((typV vs x.txt).isSome)
 rw[i]at j l
 have o:=hide (Ya f i)
 have C:=hide d
 have m:=hide g
 clear h b d g k f i y s u v t
 go_enter Tryz.func128,Tryz.ntmps128
 go_upto_region 1 with fail
 rw[<- Qa C]
 go_region
 by_cases e:x.kind=1
 ·
  have B:(x.kind==1)=true:=beq_iff_eq.2 e
  have E:=hide e
  clear e
  go_wp2_with fail
  go_ret
  refine⟨?_,(Qa m).drew⟩
  obtain⟨b,q⟩:=Qa o
  rw[<- b,<- q,Qa E]
  cases typV vs x.txt<;>rfl
 have B:(x.kind==1)=false:=beq_eq_false_iff_ne.2 e
 have E:=hide e
 clear e
 go_wp2_with fail
 go_ret
 refine⟨?_,(Qa m).drew⟩
 obtain⟨b,q⟩:=Qa o
 rw[<- b,decide_eq_false (Qa E)]
 rfl
end
theorem Qjh(vs:List Fld)(v:Fld):fdCells (vs++[v])=fdCells vs++[str v.name,str v.type]:=by
 unfold fdCells
 rw[List.flatMap_append]
 rfl
theorem Qfv:∀(vs:List Fld) (i:Nat) (v:Fld),vs[i]?=some v->(fdCells vs)[i*2]?=some (str v.name)/\(fdCells vs)[i*2+1]?=some (str v.type)
 | [],i,v,h=>by simp at h
 |u :: vs,0,v,h=>by cases h;exact⟨rfl,rfl⟩
 |u :: vs,i+1,v,h=>by
  have:=Qfv vs i v (by simpa using h)
  unfold fdCells at this ⊢
  rw[List.flatMap_cons,show(i+1)*2=i*2+2 by omega]
  simpa using this
theorem Qfw:∀(vs:List Fld) (i:Nat) (v:Fld) (t:Txt),vs[i]?=some v->(fdCells vs).set (i*2+1) (str t)=fdCells (vs.set i ⟨v.name,t⟩)
 | [],i,v,t,h=>by simp at h
 |u :: vs,0,v,t,h=>by cases h;rfl
 |u :: vs,i+1,v,t,h=>by
  have:=Qfw vs i v t (by simpa using h)
  unfold fdCells at this ⊢
  rw[List.flatMap_cons,show(i+1)*2+1=i*2+1+2 by omega]
  simp only[List.set_cons_succ,List.flatMap_cons,List.cons_append,List.nil_append]
  rw[this]
theorem Qrg(vs:List Fld)(v:Fld):vRow (vs++[v])=vRow vs++[(v.name,vs.length)]:=by
 unfold vRow
 rw[List.zipIdx_append,List.map_append]
 simp
theorem Qrf{vs:List Fld}{s:Txt}(h:typV vs s=none):s∉vs.map (·.name):=by
 unfold typV at h
 simp only[Option.map_eq_none_iff,List.find?_eq_none,decide_eq_true_eq]at h
 intro b
 obtain⟨v,a,e⟩:=List.mem_map.1 b
 exact h v a e
section
variable {n0 n1:Nat}{p:Pg}{c:CatP}{wb mb:Nat}{sl:Value}{vs:List Fld}{w:World}
theorem Qqi(h:Wk n0 n1 p c wb mb sl vs w)(hl:vs.length<=1000000000)(s t:Txt)(hn:typV vs s=none):
  Calls Tryz.prog 133 #[.pointer (Js wb),str s,str t] w fun en w'=>en = .returned (.tuple #[]) /\ ∃sl',Wk n0 n1 p c wb mb sl' (vs++[⟨s,t⟩]) w'/\Kw wb mb sl sl' w w':=by
 have ac:Below w.heap.size w w.drew:=(Below.refl _ w).drew
 have v:=h.later ac
 obtain⟨ms,J,W⟩:=v.map
 have a1:asc ms s=none:=by
  rw[W s]
  have:=Qeh vs s
  rw[hn]at this
  cases F:asc (vRow vs) s with
  |none=>rfl
  |some _=>rw[F]at this;cases this
 obtain⟨i,ai,M,U,ag,ab,ah,H⟩:=Qqv uS mI w.drew mb ms s (Ji (vs.length:Int)) J a1
 have X:wb≠mb:=fun e=>by
  obtain⟨es,ck,hh,_⟩:=J
  have:=v.box
  rw[e,hh]at this
  cases this
 have E:i.heap[wb]?=some (.cells #[fnV 47 c.cb,fnV 48 c.cb,fnV 78 c.cb,fnV 79 c.cb,sl,.map (some mb)] 143 (0,0)):=(H wb X).trans v.box
 have Z:some mb≠sl.ownBlock:=fun e=>by
  rcases v.row.2 with ⟨d,_⟩|⟨g,cap,z,d,_,k,_⟩
  ·rw[d]at e;cases e
  rw[d]at e
  cases e
  obtain⟨es,ck,hh,_⟩:=J
  rw[hh]at k
  cases k
 have V:some wb≠sl.ownBlock:=fun e=>by
  rcases v.row.2 with ⟨d,_⟩|⟨g,cap,z,d,_,k,_⟩
  ·rw[d]at e;cases e
  rw[d]at e
  cases e
  have:=v.box
  rw[k]at this
  simp at this
 obtain⟨R,f⟩:=JE (i.alloc (.cells #[str s,str t] 67))
 have a0:i.ownsRow n1 67 2 sl vs.length (fdCells vs):=by
  refine⟨v.row.1,?_⟩
  rcases v.row.2 with e|⟨g,cap,z,B,d,k,e4⟩
  ·exact .inl e
  ·exact .inr ⟨g,cap,z,B,d,(H g (fun e=>Z (by rw[B,<- e];rfl))).trans k,e4⟩
 obtain⟨i0,hi,hz,ad,a8⟩:=infoF
 have a4:n1<=R.heap.size:=by
  have h1:=h.lo
  have h2:=Qaa h.box
  rw[f]
  have:i.heap.size=w.heap.size:=U
  simp
  omega
 obtain⟨r,N,I,o3,A,_,a3⟩:=run_append_own_at (P:=Tryz.prog) R n1 46 46 67 i0 _ 2 32 (by kernel_rfl) hi hz ad a8 rfl (by decide) sl vs.length (fdCells vs) (by rw[f];exact World.ownsRow.alloc a0 _) (Ja i.heap.size 0) 1 1 [str s,str t] rfl (fun j u hj=>by
  have B:((Ja i.heap.size 0):Addr).add j=(Ja i.heap.size j):=by cases j<;>simp[Addr.add]
  rw[B,f,Qad (heap_alloc_new i _)]
  simpa using hj) (fun c l=>by simp only[List.mem_cons,List.not_mem_nil,or_false]at l;rcases l with rfl|rfl<;>rfl) (by unfold maxLen;omega) (by omega) a4
 have aF:∃o m x,r = .slice o m x:=by
  rcases o3.2 with ⟨e,_⟩|⟨g,cap,z,e,_⟩
  ·exact⟨_,_,_,e⟩
  ·exact⟨_,_,_,e⟩
 obtain⟨aI,aC,aH,L⟩:∃a n c,sl = .slice a n c:=by
  rcases h.row.2 with ⟨e,_⟩|⟨g,cap,z,e,_⟩
  ·exact⟨_,_,_,e⟩
  ·exact⟨_,_,_,e⟩
 have a2:aC=vs.length:=by
  rcases h.row.2 with ⟨e,d⟩|⟨g,cap,z,e,_⟩
  ·rw[L]at e;cases e;omega
  ·rw[L]at e;cases e;rfl
 obtain⟨o,m,x,rfl⟩:=aF
 have s2:R.heap.size=i.heap.size+1:=by rw[f];simp
 have aj:i.heap.size=w.heap.size:=U
 have a5:R.heap[wb]?=i.heap[wb]?:=by rw[f];exact Below.heap_alloc _ _ _ (Qaa E)
 have T:N.heap[wb]?=some (.cells #[fnV 47 c.cb,fnV 48 c.cb,fnV 78 c.cb,fnV 79 c.cb,sl,.map (some mb)] 143 (0,0)):=(A.block wb (by have:=Qaa E;omega) V).trans (a5.trans E)
 obtain⟨G,y⟩:=JE (N.setCell (Ja wb 4) (.slice o m x))
 have Q:∀q,q≠wb->G.heap[q]?=N.heap[q]?:=fun q F=>by rw[y];exact hpS F
 have same:∀b,b<w.heap.size->b≠wb->b≠mb->some b≠sl.ownBlock->G.heap[b]?=w.heap[b]?:=fun b O h1 h2 h3=>by
  rw[Q b h1,A.block b (by omega) h3,f,Below.heap_alloc _ _ _ (by omega),H b h2]
  rfl
 have S:(Value.slice o m x).ownBlock=sl.ownBlock ∨ ∃g,(Value.slice o m x).ownBlock=some g/\w.heap.size<=g:=by
  rcases a3 with e|e
  ·exact .inl e
  ·exact .inr ⟨_,e,by omega⟩
 have aa:∀b,some b=(Value.slice o m x).ownBlock->b≠wb:=fun b e d=>by
  subst d
  rcases S with k|⟨g,k,hg⟩
  ·exact V (e.trans k)
  rw[k]at e
  cases e
  have:=Qaa h.box
  omega
 have K:Kw wb mb sl (.slice o m x) w G:=by
  refine⟨?_,?_,?_,?_,same,S⟩
  ·rw[y];exact(A.os.trans (by rw[f];rfl)).trans ag
  ·rw[y];exact(A.tape.trans (by rw[f];rfl)).trans ab
  ·rw[y];exact(A.output.trans (by rw[f];rfl)).trans ah
  have:=A.size
  rw[y];simp;omega
 have WK:Wk n0 n1 p c wb mb (.slice o m x) (vs++[⟨s,t⟩]) G:=by
  have D:=h.lo
  have C:∀b,b<n1->G.heap[b]?=w.heap[b]?:=fun b O=>by
   have aE:b<w.heap.size:=by have:=Qaa h.box;omega
   exact same b aE (by omega) (by omega) (fun e=>by have:=(World.ownsRow.lt h.row b e.symm).1;omega)
  refine⟨?_,?_,?_,?_,D,?_⟩
  ·
   have l:=h.cat
   exact⟨(C _ D.2.1).trans l.box,Qak.same _ _ _ _ _ l.prg K.size (fun q F _=>C q (by have aG:q<n0:=F;omega)),l.row.keep (C _ D.2.2.1),l.mt.keep (C _ D.2.2.2.1),l.md.keep (C _ D.2.2.2.2.1),l.mc.keep (C _ D.2.2.2.2.2.1),l.l0⟩
  ·rw[y];exact(Qah T 4 _).trans rfl
  ·
   have o5:N.ownsRow n1 67 2 (.slice o m x) (vs.length+1) (fdCells vs++[str s,str t]):=o3
   rw[Qjh,List.length_append]
   refine⟨o5.1,?_⟩
   rcases o5.2 with e|⟨g,cap,z,B,d,k,e4⟩
   ·exact .inl e
   ·exact .inr ⟨g,cap,z,B,d,(Q g (aa g (by rw[B];rfl))).trans k,e4⟩
  ·
   refine⟨ms++[(s,Ji (vs.length:Int))],?_,fun t'=>?_⟩
   ·
    refine M.keep ?_
    rw[Q mb (Ne.symm X),A.block mb (by have:=M.lt;omega) Z,f]
    exact Below.heap_alloc _ _ _ M.lt
   rw[Qrg,Qcm,Qcm,W t',Qev,Qev]
   cases asc (vRow vs) t' with
   |some _=>rfl
   |none=>
    by_cases e:s=t'
    ·simp[e,nOf]
    ·simp[e]
  rw[List.map_append,List.nodup_append]
  refine⟨h.nd,by simp,fun a ha b O e=>?_⟩
  simp only[List.map_cons,List.map_nil,List.mem_singleton]at O
  rw[e,O]at ha
  exact Qrf hn ha
 obtain⟨am,aA,aD,al,Y,az,xf⟩:=cl6 h.box
 obtain⟨ao,au,aq,ap,ae,ax,yf⟩:=cl6 E
 obtain⟨ay,ar,an,av,af,ak,zf⟩:=cl6 T
 rw[L,a2]at Y ae af I
 have a7:(Instr.mapUpdate 125 (.map (some mb)) (str s) (Ji (vs.length:Int))).run Tryz.prog w.drew = .ok () i:=ai
 obtain⟨vn,a9⟩:=JF vs.length
 rw[a9]at Y ae af I a7 hl
 have HE:=hide (Ya WK K)
 have aB:=hide f
 have aw:=hide y
 have a6:=hide I
 clear h v ac J W a1 ai M U ag ab ah H X E Z V f a0 hi hz ad a8 a4 I o3 A a3 L a2 s2 aj a5 T y Q same S aa K WK a9 hn am aA aD al ao au aq ap ax ay ar an av ak
 go_enter Tryz.func133,Tryz.ntmps133
 go_wp2_with fail
 go_region
 clear Y az xf a7
 go_wp2_with (at_builtin;rw[<- Qa aB];refine Qai _ rfl _ _ 46 rfl _ _ rfl rfl _ _ (Qa a6) ?_;clear a6)
 rw[<- Qa aw]
 go_end0
 exact⟨rfl,_,Qa HE⟩
end
theorem Qas(w:World)(cs:Array Value)(T:TypeId):∃w2,w2=(w.alloc (.cells cs T)).alloc (.cells #[Ji 0,Ji 0] 31)/\Below w.heap.size w w2/\w2.heap[w.heap.size]?=some (.cells cs T (0,0))/\w2.heap[w.heap.size+1]?=some (.cells #[Ji 0,Ji 0] 31 (0,0))/\w2.heap.size=w.heap.size+2:=by
 refine⟨_,rfl,((Below.refl _ w).alloc (Nat.le_refl _) _).alloc (by simp) _,?_,?_,by simp⟩
 ·rw[Below.heap_alloc _ _ _ (by simp)];exact heap_alloc_new w _
 have:=heap_alloc_new (w.alloc (.cells cs T)) (.cells #[Ji 0,Ji 0] 31)
 simpa using this
section
variable {n0 n1:Nat}{p:Pg}{c:CatP}{wb mb:Nat}{sl:Value}{vs:List Fld}{w:World}
theorem Qej(h:Wk n0 n1 p c wb mb sl vs w)(x:Ex)(xv:Value)(hv:∃a n c,xv = .slice a n c)(t b:Txt):
  Calls Tryz.prog 123 #[.pointer (Js wb),.agg #[Ji x.kind,Ji x.num,str x.txt,xv,Ji x.at_],str t,str b] w fun en w'=>en = .returned (ftV (if hasP p t b=true then (0,0) else (13,x.at_)))/\Below w.heap.size w w':=by
 obtain⟨H,E,F,rfl⟩:=hv
 obtain⟨Y,C,d,e,f,g⟩:=Qas w #[Ji x.kind,Ji x.num,str x.txt,.slice H E F,Ji x.at_] 59
 have s:=Qfy (h.later d) t b
 have V:=hide C
 have T:=hide (Ya d (Ya e (Ya f g)))
 obtain⟨r,I⟩:=JF (hasP p t b)
 rw[I]at s ⊢
 clear C d e f g h I
 go_enter Tryz.func123,Tryz.ntmps123
 go_upto_region 1 with fail
 rw[<- Qa V]
 go_wp2_with fail
 refine s.mono ?_
 clear s
 rintro en U⟨rfl,k⟩
 obtain⟨d,e,f,g⟩:=Qa T
 have y:=(k.block _ (by omega)).trans e
 have i:=(k.block _ (by omega)).trans f
 have z:=hide (d.trans (k.mono d.size))
 cases r
 ·
  have B:=Qbd U 13 x.kind x.num x.txt (.slice H E F) ⟨_,_,_,rfl⟩ x.at_
  obtain⟨K,N,O,J,P,S⟩:=cl5 y
  have G:=hide (Ya i g)
  clear d e f g y i k
  go_wp2_with fail
  refine B.mono ?_
  clear B K N O J P S
  rintro en X⟨rfl,A⟩
  have o:=(A.block _ (Qaa (Qa G).1)).trans (Qa G).1
  have D:=(Qa z).trans (A.mono (Qa z).size)
  obtain⟨W,l,sc⟩:=sc2 o (Ji 13) (Ji x.at_)
  obtain⟨L,M,Q⟩:=cl2 o
  have j:=hide (Ya (sc.below D (by omega)) sc.box)
  have u:=hide l
  clear A o D l sc
  go_wp2_with fail
  rw[<- Qa u]
  obtain⟨q,m,R⟩:=cl2 (Qa j).2
  refine bodyPost_ret (v:=ftV (13,x.at_)) (by simp[results,Tryz.results123,go_sem,q,m,ftV]) rfl ?_
  exact⟨rfl,(Qa j).1⟩
 obtain⟨W,l,sc⟩:=sc2 i (Ji 0) (Ji 0)
 obtain⟨L,M,Q⟩:=cl2 i
 have j:=hide (Ya (sc.below (Qa z) (by omega)) sc.box)
 have u:=hide l
 clear d e f g y i k l sc
 go_wp2_with fail
 rw[<- Qa u]
 obtain⟨q,m,R⟩:=cl2 (Qa j).2
 refine bodyPost_ret (v:=ftV (0,0)) (by simp[results,Tryz.results123,go_sem,q,m,ftV]) rfl ?_
 exact⟨rfl,(Qa j).1⟩
end
end
end Go.Proofs.YtmfpbepifnedjaaGreat
