/- The document's whole. -/
import Derived.Test.YtmfpbepifnedjaaGreatZz01
import Derived.Test.YtmfpbepifnedjaaGreatZz18
set_option maxRecDepth 100000
set_option maxHeartbeats 32000000
namespace Go.Proofs.YtmfpbepifnedjaaGreat
section
open Go.RowKit Go.Maps
theorem Qcs(S:Nat->Prop)(w:World):PgS S w [Jn,Jn,Jn,Jn,Jn] .none:=Qjr (LsAt.nil _ _) (LsAt.nil _ _) (LsAt.nil _ _) (LsAt.nil _ _) (LsAt.nil _ _)
section
variable {S0:Nat->Prop}{B n:Nat}{p:Pg}{p0:Option Addr}{m0 o0:Nat}{p1:Option Addr}{m1 o1:Nat}{p2:Option Addr}{m2 o2:Nat}{p3:Option Addr}{m3 o3:Nat}{p4:Option Addr}{m4 o4:Nat}
structure WhW(S0:Nat->Prop)(B n:Nat)(p0:Option Addr)(m0 o0:Nat)(p1:Option Addr)(m1 o1:Nat)(p2:Option Addr)(m2 o2:Nat)(p3:Option Addr)(m3 o3:Nat)(p4:Option Addr)(m4 o4:Nat)(w:World)(nb k ob:Nat)(yv:Value)(way:List Txt)(W:World)(qv:List Value)(q:Pg)(k1:Nat):Prop where
 kp:Kp nb w W
 px:W.heap[w.heap.size]?=some (.cells #[.slice p0 m0 o0,.slice p1 m1 o1,.slice p2 m2 o2,.slice p3 m3 o3,.slice p4 m4 o4] 28 (0,0))
 rx:W.heap[w.heap.size+1]?=some (.cells #[.slice none 0 0,.slice none 0 0,.slice none 0 0,.slice none 0 0,.slice none 0 0] 28 (0,0))
 nx:W.heap[nb]?=some (.cells #[.int .i64 (k1:Int)] 3 (0,0))
 ox:W.heap[ob]?=some (.cells qv.toArray 28 (0,0))
 pg:PgS (fun b=>(S0 b/\b<B)∨ob<b) W qv q
 few:Few q 96
 wf:WfZ n q
 way:LsAt PSt 1 (fun b=>w.heap.size<=b/\b<ob) W yv way
 okb:w.heap.size+1<ob
 lk:k<k1
 k96:k1<=96
 nbl:nb<w.heap.size
 hB:B<=nb
variable {w W W':World}{nb k ob:Nat}{yv:Value}{way:List Txt}{qv:List Value}{q:Pg}{k1:Nat}
theorem WhW.call(h:WhW S0 B n p0 m0 o0 p1 m1 o1 p2 m2 o2 p3 m3 o3 p4 m4 o4 w nb k ob yv way W qv q k1)(kk:Kp nb W W'){k2:Nat}(hn:W'.heap[nb]?=some (.cells #[Ji (k2:Int)] 3 (0,0)))(h1:k1<=k2)(h2:k2<=96):WhW S0 B n p0 m0 o0 p1 m1 o1 p2 m2 o2 p3 m3 o3 p4 m4 o4 w nb k ob yv way W' qv q k2:=
 ⟨h.kp.trans kk,kk.keep h.px (by have:=h.nbl;omega),kk.keep h.rx (by have:=h.nbl;omega),hn,kk.keep h.ox (by have:=h.nbl;have:=h.okb;omega),Qak.same _ _ _ _ _ h.pg kk.size (fun b a c=>kk.block b c (by have:=h.nbl;have:=h.okb;have:=h.hB;rcases a with e|e<;>omega)),h.few,h.wf,h.way.same Qam kk.size (fun b a c=>kk.block b c (by have:=h.nbl;have:=a.1;omega)),h.okb,by have:=h.lk;omega,h2,h.nbl,h.hB⟩
theorem WhW.put(h:WhW S0 B n p0 m0 o0 p1 m1 o1 p2 m2 o2 p3 m3 o3 p4 m4 o4 w nb k ob yv way W qv q k1){rv:List Value}{r:Pg}(sc:Sc ob 28 rv.toArray W W')(hr:PgS (fun b=>(S0 b/\b<B)∨ob<b) W rv r)(hf:Few r 96)(hw:WfZ n r):WhW S0 B n p0 m0 o0 p1 m1 o1 p2 m2 o2 p3 m3 o3 p4 m4 o4 w nb k ob yv way W' rv r k1:=by
 have:=h.okb
 have:=h.nbl
 have:=h.hB
 exact⟨⟨sc.os.trans h.kp.os,sc.tape.trans h.kp.tape,sc.output.trans h.kp.output,by rw[sc.size];exact h.kp.size,fun b a c=>(sc.oth b (by omega)).trans (h.kp.block b a c)⟩,(sc.oth _ (by omega)).trans h.px,(sc.oth _ (by omega)).trans h.rx,(sc.oth _ (by omega)).trans h.nx,sc.box,Qak.same _ _ _ _ _ hr (by rw[sc.size];exact Nat.le_refl _) (fun b a _=>sc.oth b (by rcases a with e|e<;>omega)),hf,hw,h.way.same Qam (by rw[sc.size];exact Nat.le_refl _) (fun b a _=>sc.oth b (by have:=a.2;omega)),h.okb,h.lk,h.k96,h.nbl,h.hB⟩
theorem Qmh{S:Nat->Prop}{w:World}{q:Pg}(h:PgS S w [.slice p0 m0 o0,.slice p1 m1 o1,.slice p2 m2 o2,.slice p3 m3 o3,.slice p4 m4 o4] q):q.types.length=m0/\q.decls.length=m1/\q.comps.length=m2/\q.inits.length=m3/\q.clauses.length=m4:=by
 obtain⟨_,_,_,_,_,e,b,g,i,c,f⟩:=PgS.cells h
 obtain⟨rfl,rfl,rfl,rfl,rfl⟩:=list5 e
 obtain⟨_,_,m⟩:=b.sl
 obtain⟨_,_,l⟩:=g.sl
 obtain⟨_,_,a⟩:=i.sl
 obtain⟨_,_,j⟩:=c.sl
 obtain⟨_,_,d⟩:=f.sl
 cases m
 cases l
 cases a
 cases j
 cases d
 exact⟨rfl,rfl,rfl,rfl,rfl⟩
theorem Qfi{q:Pg}{i j:Nat}(h:Few q i)(hij:i<=j):Few q j:=by unfold Few at h ⊢;omega
theorem Qoy{q:Pg}{j:Nat}(h:q.types.length+q.decls.length+q.comps.length+q.inits.length+q.clauses.length<=j):Few q j:=by unfold Few;omega
theorem Qtk(hfp:Few p 97)(hwf:WfZ n p)(D:Nat)(hR:∀D',D'<D->WhC S0 B n D' p p0 m0 o0 p1 m1 o1 p2 m2 o2 p3 m3 o3 p4 m4 o4):WhC S0 B n D p p0 m0 o0 p1 m1 o1 p2 m2 o2 p3 m3 o3 p4 m4 o4:=fun w name wv way nb k hk hD hP X bZ cj aw=>by
 obtain⟨vt,vd,vc,vi,vl,ee,_,_,hC,_,_⟩:=PgS.cells hP
 obtain⟨-,-,e3,-,-⟩:=list5 ee
 subst e3
 clear ee
 have aM:p.comps.length=m2:=by obtain⟨_,_,e⟩:=hC.sl;cases e;rfl
 have cZ:=hC.cap rfl
 obtain⟨w2,co,b2,nx,nz,s2⟩:=new2 w #[.slice p0 m0 o0,.slice p1 m1 o1,.slice p2 m2 o2,.slice p3 m3 o3,.slice p4 m4 o4] #[Jn,Jn,Jn,Jn,Jn] 28 28
 have a4:=Qaa bZ
 have ag:=(b2.block _ a4).trans bZ
 have aL:=hC.later Qbm b2
 have y:Kp nb w w2:=Kp.of_below b2
 obtain⟨ay,ax,aA,au,aC,xf⟩:=cl5 nx
 have HW:=hide co
 have HH:=hide (Ya y (Ya nx (Ya nz (Ya ag (Ya s2 b2)))))
 have HC:=hide (Ya aL aM)
 have cO:=hide hC
 have HP:=hide hP
 have HN:=hide (Ya a4 (Ya X (Ya hk (Ya hD aw))))
 have HY:=hide cj
 have HR:=hide hR
 have HF:=hide (Ya hfp hwf)
 have cV:m2<=97:=by rw[<- aM];exact hfp.2.2.1
 clear hC co b2 nx nz s2 a4 ag aL y aM hP X bZ cj aw hk hD hfp hwf hR ay ax au aC
 go_enter Tryz.func95,Tryz.ntmps95
 go_upto_region 1 with fail
 rw[<- Qa HW]
 go_wp2_with fail
 go_loopw [10,11] (fun av iv wr=>∃az jz:Int,av = Ji az/\iv = Ji jz /\ -1<=az/\az<m2 /\ -1<=jz/\jz<m2/\wr=w2) (fun _ iv _=>(intOf iv+1).toNat)
 case atStart=>exact⟨-1,(m2:Int) - 1,rfl,rfl,by omega,by omega,by omega,by omega,rfl⟩
 obtain⟨az,jz,rfl,rfl,cP,cJ,ce,cq,rfl⟩:=hrel
 by_cases hj:0<=jz
 ·
  obtain⟨i,rfl⟩:=Int.eq_ofNat_of_zero_le hj
  have hi:i<m2:=by omega
  obtain⟨aL,aM⟩:=Qa HC
  obtain⟨c,hc⟩:∃c,p.comps[i]?=some c:=⟨p.comps[i]'(by omega),List.getElem?_eq_getElem _⟩
  obtain⟨m,cap,qs,e1,aW,aV,bN,⟨vb,bd,rfl,bs,aP,aZ⟩,ah⟩:=aL.elem hc
  simp only[Value.slice.injEq]at e1
  obtain⟨rfl,-,rfl⟩:=e1
  have aq:wr.cell? (Ja m (i*8))=some (str c.1):=ah 0 _ rfl
  obtain⟨z,hz⟩:=JF ((c.1==name))
  clear aL aM hc aW aV bN bs aP aZ ah hj ce cq
  cases z
  ·
   go_wp2_with fail
   go_roundw
   case rel=>exact⟨az,(i:Int) - 1,rfl,rfl,by omega,by omega,by omega,by omega,trivial⟩
   case measure=>simp[intOf]
  go_wp2_with fail
  go_roundw
  case rel=>exact⟨i,(i:Int) - 1,rfl,rfl,by omega,by omega,by omega,by omega,trivial⟩
  case measure=>simp[intOf]
 have cz:jz = -1:=by omega
 subst cz
 clear hj ce cq aA
 by_cases ha:az<0
 ·
  obtain⟨y,nx,nz,ag,s2,b2⟩:=Qa HH
  obtain⟨a4,X,hk,hD,aw⟩:=Qa HN
  obtain⟨E,H,d⟩:=sc5 nz (Jn) (Jn) (Jn) (Jn) (Jn)
  have I:Kp nb w E:=⟨d.os.trans y.os,d.tape.trans y.tape,d.output.trans y.output,by have:=y.size;rw[d.size];exact this,fun q f N=>(d.oth q (by omega)).trans (y.block q f N)⟩
  have HE:=hide (show WhA S0 B n w nb k (.returned (.tuple #[.agg #[Jn,Jn,Jn,Jn,Jn],Ji 6])) E from ⟨_,.none,_,k,rfl,⟨_,_,_,_,_,_,_,_,_,_,_,_,_,_,_,rfl,Qcs _ _⟩,fun _=>rfl,Qc _,Qcc,(d.oth nb (by omega)).trans ag,by omega,by intro e;omega,I⟩)
  have ad:=hide d.box
  have ae:=hide H
  obtain⟨P,S,R,O,Q,Y⟩:=cl5 nz
  clear H d I y nx nz ag s2 b2 a4 X hk hD aw
  go_wp2_with fail
  rw[<- Qa ae]
  obtain⟨ac,a8,ab,aa,a9,vf⟩:=cl5 (Qa ad)
  refine bodyPost_ret (v:=.tuple #[.agg #[Jn,Jn,Jn,Jn,Jn],Ji 6]) (by simp[results,Tryz.results95,go_sem,ac,a8,ab,aa,a9]) rfl ?_
  exact Qa HE
 obtain⟨a,rfl⟩:=Int.eq_ofNat_of_zero_le (show 0<=az by omega)
 have da:a<m2:=by omega
 have c7:=Qji ((Qa HY).same Qam (Qa HH).1.size (fun q f L=>(Qa HH).1.block q L f)) name
 clear ha cP cJ
 go_wp2_with fail
 refine c7.mono ?_
 clear c7
 rintro en w3⟨⟨b,rfl⟩,rfl⟩
 cases b
 ·
  obtain⟨y,nx,nz,ag,s2,b2⟩:=Qa HH
  obtain⟨a4,X,hk,hD,aw⟩:=Qa HN
  have cU:w3.cell? (Ja nb 0)=some (Ji (k:Int)):=(Qad ag 0).trans rfl
  have cY:∀o,w3.frozen? (Ja nb o)=false:=fun o=>by simp[World.frozen?,ag]
  obtain⟨w4,aY⟩:=JE (w3.setCell (Ja nb 0) (Ji ((k:Int)+1)))
  have bn:∀q,q≠nb->w4.heap[q]?=w3.heap[q]?:=fun q f=>by rw[aY,hpS f]
  have s4:w4.heap.size=w3.heap.size:=by rw[aY];simp
  have ap:w4.heap[nb]?=some (.cells #[Ji ((k+1:Nat):Int)] 3 (0,0)):=by rw[aY];exact(Qah ag 0 _).trans (by simp)
  have am:=(bn (w.heap.size+1) (by omega)).trans nz
  have aK:=(bn w.heap.size (by omega)).trans nx
  have k4:Kp nb w w4:=by rw[aY];exact y.trans (Kp.set _ _ _ _)
  have cx:w4.cell? (Ja nb 0)=some (Ji ((k:Int)+1)):=(Qad ap 0).trans rfl
  have ck:=hide aY
  have H4:=hide (Ya k4 (Ya aK (Ya am (Ya ap s4))))
  clear y nx nz ag s2 b2 bn s4 ap am aK k4 aY X hD
  by_cases cp:96<=k
  ·
   go_upto_region 13 with fail
   rw[<- Qa ck]
   obtain⟨k4,aK,am,ap,s4⟩:=Qa H4
   obtain⟨-,X,-,-,-⟩:=Qa HN
   have e6:(96:Int)<(k:Int)+1:=by omega
   obtain⟨E,H,d⟩:=sc5 am (Jn) (Jn) (Jn) (Jn) (Jn)
   have I:Kp nb w E:=⟨d.os.trans k4.os,d.tape.trans k4.tape,d.output.trans k4.output,by have:=k4.size;rw[d.size];exact this,fun q f N=>(d.oth q (by omega)).trans (k4.block q f N)⟩
   have HE:=hide (show WhA S0 B n w nb k (.returned (.tuple #[.agg #[Jn,Jn,Jn,Jn,Jn],Ji 3])) E from ⟨_,.none,_,k+1,rfl,⟨_,_,_,_,_,_,_,_,_,_,_,_,_,_,_,rfl,Qcs _ _⟩,fun _=>rfl,Qc _,Qcc,(d.oth nb (by omega)).trans ap,by omega,by intro e;omega,I⟩)
   have ad:=hide d.box
   have ae:=hide H
   obtain⟨P,S,R,O,Q,Y⟩:=cl5 am
   clear H d I k4 aK am ap s4 X cp
   go_wp2_with fail
   rw[<- Qa ae]
   obtain⟨ac,a8,ab,aa,a9,vf⟩:=cl5 (Qa ad)
   refine bodyPost_ret (v:=.tuple #[.agg #[Jn,Jn,Jn,Jn,Jn],Ji 3]) (by simp[results,Tryz.results95,go_sem,ac,a8,ab,aa,a9]) rfl ?_
   exact Qa HE
  have an:k<96:=by omega
  clear cp a4
  obtain⟨k4,aK,am,ap,s4⟩:=Qa H4
  obtain⟨a4,X,-,hD,-⟩:=Qa HN
  obtain⟨aL,aM⟩:=Qa HC
  obtain⟨hfp,hwf⟩:=Qa HF
  obtain⟨u,U,g,c,W8,T,b1,V,b8,ao⟩:=Qre ((Qa HY).same Qam k4.size (fun q f L=>k4.block q L f)) (by omega) name
  obtain⟨c8,aS⟩:=JE (W8.alloc (.cells #[Jn,Jn,Jn,Jn,Jn] 28))
  have bu:=bnw aS
  have bM:=nnw aS
  obtain⟨ob,bV⟩:=JF W8.heap.size
  rw[bV]at bM
  have b4:Below w4.heap.size w4 c8:=b8.trans (bu.mono b8.size)
  have cH:=b8.size
  have c1:=Qaa am
  have c6:=hide (show WhW S0 B n p0 m0 o0 p1 m1 o1 p2 m2 o2 p3 m3 o3 p4 m4 o4 w nb k ob (.slice (Js g) (way.length+1) c) (way++[name]) c8 [Jn,Jn,Jn,Jn,Jn] .none (k+1) from ⟨k4.trans (Kp.of_below b4),(b4.block _ (by omega)).trans aK,(b4.block _ (by omega)).trans am,(b4.block _ (by omega)).trans ap,bM,Qcs _ _,Qc _,Qcc,((ao.mono Qam (S':=fun b=>w.heap.size<=b/\b<ob) (fun b L F=>⟨by have d5:w4.heap.size<=b:=F;have:=k4.size;omega,by omega⟩)).same Qam bu.size (fun q _ L=>bu.block q L)),by omega,by omega,by omega,a4,X⟩)
  have c9:=hide T
  have cg:=hide V
  have bJ:=hide (Ya aS bV)
  obtain⟨t,b5⟩:∃t,p.comps[a]?=some t:=⟨p.comps[a]'(by omega),List.getElem?_eq_getElem _⟩
  obtain⟨m,cap,qs,e1,aW,aV,bN,⟨vb,bd,rfl,bs,aP,aZ⟩,ah⟩:=(Qa cO).elem b5
  simp only[Value.slice.injEq]at e1
  obtain⟨rfl,-,rfl⟩:=e1
  obtain⟨dd,d6,cX,d7,db,cA,cf,cd,ca,cm,ci⟩:=PgS.cells aZ
  obtain⟨bo,bv,cB⟩:=cf.sl
  obtain⟨br,bz,cQ⟩:=cd.sl
  obtain⟨bD,bx,cR⟩:=ca.sl
  obtain⟨bw,bq,cK⟩:=cm.sl
  obtain⟨bB,bp,cC⟩:=ci.sl
  subst cB
  subst cQ
  subst cR
  subst cK
  subst cC
  subst cA
  obtain⟨va,vc,cw,cL,cW,bh⟩:=Qmc aP
  subst cw
  have bC:=hide (Ya aZ (Ya b5 (Ya bh (Ya ah (Ya aV (Ya aW aP))))))
  have bX:=hide (show Few t.2.2.1 97/\WfZ n t.2.2.1 from by cases hwf with|mk ts ds cs is ls hT hC hL hD x hBB=>exact⟨hBB _ (List.mem_of_getElem? b5),hC _ (List.mem_of_getElem? b5)⟩)
  obtain⟨aI,bI⟩:=JF t.2.1.length
  have c2:=hide bI
  rw[bI]at cL
  clear k4 aK am ap s4 a4 X hD aL aM hfp hwf T b1 V b8 ao aS bu bM bV b4 cH c1 aW aV bN bs aP aZ ah cf cd ca cm ci bh b5 HH
  go_upto_region 14 with fail
  rw[<- Qa ck]
  go_wp2_with (at_builtin;first|(refine Qai _ rfl _ _ 51 rfl _ _ rfl rfl _ _ (Qa c9) ?_;clear c9)|(refine Qai _ rfl _ _ 51 rfl _ _ rfl rfl _ _ (Qa cg) ?_;clear cg))
  rw[<- (Qa bJ).1,(Qa bJ).2]
  have bl:=hide (show ∀W,Kp nb w W->W.cell? (Ja m (a*8+1))=some (.slice va aI vc)/\(W.cell? (Ja m (a*8+2))=some (.slice bo t.2.2.1.types.length bv)/\W.cell? (Ja m (a*8+2+1))=some (.slice br t.2.2.1.decls.length bz)/\W.cell? (Ja m (a*8+2+2))=some (.slice bD t.2.2.1.comps.length bx)/\W.cell? (Ja m (a*8+2+3))=some (.slice bw t.2.2.1.inits.length bq)/\W.cell? (Ja m (a*8+2+4))=some (.slice bB t.2.2.1.clauses.length bp)) /\ ∀i s,t.2.1[i]?=some s -> ∃gb,va=some (Ja gb 0)/\W.cell? (Ja gb i)=some (str s) from fun W kW=>by
   obtain⟨aZ,b5,bh,ah,aV,aW,aP⟩:=Qa bC
   obtain⟨a4,X,hk,hD,aw⟩:=Qa HN
   have aU:∀o,W.cell? (Ja m o)=w.cell? (Ja m o):=fun o=>World.cell?_of_block (kW.block m aW (by have cT:m<B:=aV.2;omega))
   refine⟨by rw[aU,ah 1 _ rfl,Qa c2],⟨by rw[aU];exact ah 2 _ rfl,by rw[aU];exact ah 3 _ rfl,by rw[aU];exact ah 4 _ rfl,by rw[aU];exact ah 5 _ rfl,by rw[aU];exact ah 6 _ rfl⟩,fun i s hs=>?_⟩
   obtain⟨_,_,e,_,_,hh⟩:=Qmc (aP.same Qam kW.size (fun q f L=>kW.block q L (by have cu:q<B:=f.2;omega)))
   simp only[Value.slice.injEq]at e
   obtain⟨rfl,-,rfl⟩:=e
   exact hh i s hs)
  go_loopw [13] (fun iv wr=>∃(i:Nat) (q:Pg) (q0 q1 q2 q3 q4:Option Addr) (e0 e1 e2 e3 e4 d0 d1 d2 d3 d4 k1:Nat),iv = Ji (i:Int)/\i<=aI/\Hid (WhW S0 B n p0 m0 o0 p1 m1 o1 (Js m) m2 o2 p3 m3 o3 p4 m4 o4 w nb k ob (.slice (Js g) (way.length+1) c) (way++[name]) wr [.slice q0 e0 d0,.slice q1 e1 d1,.slice q2 e2 d2,.slice q3 e3 d3,.slice q4 e4 d4] q k1)) (fun iv _=>aI - (intOf iv).toNat)
  case atStart=>exact⟨0,.none,none,none,none,none,none,0,0,0,0,0,0,0,0,0,0,k+1,rfl,Nat.zero_le _,c6⟩
  obtain⟨i,q,q0,q1,q2,q3,q4,e0,e1,e2,e3,e4,d0,d1,d2,d3,d4,k1,rfl,hi,J⟩:=hrel
  clear c6
  obtain⟨ay,ax,aA,au,aC,xf⟩:=cl5 (Qa J).px
  obtain⟨bF,-,hbat⟩:=Qa bl wr (Qa J).kp
  by_cases cF:i<aI
  ·
   obtain⟨s,hs⟩:∃s,t.2.1[i]?=some s:=⟨t.2.1[i]'(by rw[Qa c2];exact cF),List.getElem?_eq_getElem _⟩
   obtain⟨gb,rfl,cE⟩:=hbat i s hs
   have HS:=hide hs
   clear hbat hs
   go_upto_region 19 with fail
   have a5:=hide (show ∀W,Kp nb wr W->W.heap[w.heap.size]?=some (.cells #[.slice p0 m0 o0,.slice p1 m1 o1,.slice (Js m) m2 o2,.slice p3 m3 o3,.slice p4 m4 o4] 28 (0,0))/\W.cell? (Ja m (a*8+1))=some (.slice (Js gb) aI vc)/\W.cell? (Ja gb i)=some (str s) from fun W kW=>by
    have bt:=(Qa J).kp.trans kW
    obtain⟨g1,-,g3⟩:=Qa bl W bt
    obtain⟨dc,eg,g4⟩:=g3 i s (Qa HS)
    simp only[Option.some.injEq,Addr.mk.injEq,and_true]at eg
    subst eg
    exact⟨kW.keep (Qa J).px (by have:=(Qa J).nbl;omega),g1,g4⟩)
   have aN:=hide (show ∀W,Below wr.heap.size wr W->Calls Tryz.prog 95 #[.agg #[.slice p0 m0 o0,.slice p1 m1 o1,.slice (Js m) m2 o2,.slice p3 m3 o3,.slice p4 m4 o4],str s,.slice (Js g) (way.length+1) c,.pointer (Js nb)] W fun en w'=>WhA S0 B n W nb k1 en w' from fun W bW=>by
    obtain⟨a4,X,hk,hD,aw⟩:=Qa HN
    have x:=Qa J
    have bt:=x.kp.trans (Kp.of_below (rb:=nb) bW)
    have C:=x.lk
    have h2:=x.k96
    exact Qa HR (97 - k1) (by omega) W s _ (way++[name]) nb k1 h2 (Nat.le_refl _) (Qak.same _ _ _ _ _ (Qa HP) bt.size (fun q f L=>bt.block q L (by have cu:q<B:=f.2;omega))) X ((bW.block _ (by have:=Qaa x.nx;omega)).trans x.nx) ((x.way.later Qam bW).mono Qam (fun b _ F=>by have:=F.1;omega)) (by rw[List.length_append];simp only[List.length_cons,List.length_nil];omega))
   obtain⟨PX,bS⟩:∃PX:World->Nat->Int->Prop,PX=fun W bb e=>∃(q5:Pg) (r0 T V r3 r4:Option Addr) (f0 f1 f2 f3 f4 g0 g1 g2 g3 g4 y:Nat),Kp nb wr W/\W.heap[nb]?=some (.cells #[Ji ((y:Nat):Int)] 3 (0,0))/\k1<=y/\(e=0->y<=96)/\W.heap[bb]?=some (.cells #[.slice r0 f0 g0,.slice T f1 g1,.slice V f2 g2,.slice r3 f3 g3,.slice r4 f4 g4] 28 (0,0))/\PgS (fun b=>(S0 b/\b<B)∨ob<b) W [.slice r0 f0 g0,.slice T f1 g1,.slice V f2 g2,.slice r3 f3 g3,.slice r4 f4 g4] q5/\Few q5 97/\WfZ n q5:=⟨_,rfl⟩
   have bH:=fun (W5 W7:World) (q5:Pg) (r0 T V r3 r4:Option Addr) (f0 f1 f2 f3 f4 g0 g1 g2 g3 g4 y bb:Nat) (e:Int) (C:Kp nb wr W5) (af:W5.heap[nb]?=some (.cells #[Ji ((y:Nat):Int)] 3 (0,0))) (hk1:k1<=y) (he:e=0->y<=96) (hg:PgS (fun b=>((S0 b/\b<B)∨ob<b)/\b≠bb) W5 [.slice r0 f0 g0,.slice T f1 g1,.slice V f2 g2,.slice r3 f3 g3,.slice r4 f4 g4] q5) (hf:Few q5 97) (hw:WfZ n q5) (hs:W5.heap.size<=W7.heap.size) (hoo:W7.os=W5.os/\W7.tape=W5.tape/\W7.output=W5.output) (hot:∀q,q<W5.heap.size->q≠bb->W7.heap[q]?=W5.heap[q]?) (bi:W7.heap[bb]?=some (.cells #[.slice r0 f0 g0,.slice T f1 g1,.slice V f2 g2,.slice r3 f3 g3,.slice r4 f4 g4] 28 (0,0))) (bs:wr.heap.size<=bb)=>(show PX W7 bb e by
    rw[bS]
    have d9:=Qaa (Qa J).nx
    have cr:=Qaa af
    exact⟨q5,r0,T,V,r3,r4,f0,f1,f2,f3,f4,g0,g1,g2,g3,g4,y,⟨hoo.1.trans C.os,hoo.2.1.trans C.tape,hoo.2.2.trans C.output,Nat.le_trans C.size hs,fun q f bO=>(hot q (by have:=C.size;omega) (by omega)).trans (C.block q f bO)⟩,(hot nb cr (by omega)).trans af,hk1,he,bi,Qak.mono _ _ _ _ _ (Qak.same _ _ _ _ _ hg hs (fun b F L=>hot b L F.2)) (fun _ _ F=>F.1),hf,hw⟩)
   have bc:=hide bH
   have cn:=bl
   have cS:=Qaa (Qa J).ox
   clear bH cn cE bF
   go_cut [14,15] from 56 to 93 (fun u v wc=>∃(bb:Nat) (e:Int),u = .pointer (Js bb)/\v = Ji e/\PX wc bb e)
   case first=>
    go_wp2_with fail
    refine Qav (tr:=.take 0 (.take 1 (.take 2 (.take 3 (.take 4 (.take 5 (.take 6 (.take 7 (.take 8 (.take 9 (.take 10 (.take 11 (.two 12 16 (.take 13 (.take 14 (.take 15 (.one 16 (.one 17 (.take 18 .nil)))))) (.one 12 (.take 13 (.take 14 (.take 15 (.one 17 (.take 18 .nil))))))))))))))))))) (fun W=>W.heap[w.heap.size]?=some (.cells #[.slice p0 m0 o0,.slice p1 m1 o1,.slice (Js m) m2 o2,.slice p3 m3 o3,.slice p4 m4 o4] 28 (0,0))/\W.cell? (Ja m (a*8+1))=some (.slice (Js gb) aI vc)/\W.cell? (Ja gb i)=some (str s)) mixedO (by kernel_rfl) rfl (by kernel_rfl) (fun PP aJ=>?_)
    iterate 12 (refine tT (v:=?_) (fun w' hw=>?_) ?_;rotate_left;· (obtain⟨aj,b9,be⟩:=hw;obtain⟨P,S,R,O,Q,Y⟩:=cl5 aj;go_simp<;>rfl))
    refine Qbu rfl rfl (Qa a5 _ (Kp.of_below (Below.refl _ wr).drew)) (fun K A=>?_) (fun K A=>?_)
    ·
     go_simp
     refine(Qa aN wr.drew (Below.refl _ wr).drew).mono ?_
     rintro en w5⟨v5,q5,e,k5,rfl,⟨r0,f0,g0,T,f1,g1,V,f2,g2,r3,f3,g3,r4,f4,g4,rfl,aB⟩,bU,a6,ai,af,an,ar,b0⟩
     show K _ _
     refine A _ _ ?_
     clear A K bU
     have G:Kp nb wr w5:=(Kp.of_below (Below.refl _ wr).drew).trans b0
     have hds:wr.drew.heap.size=wr.heap.size:=rfl
     iterate 3 (refine tT (v:=?_) (fun w' hw=>?_) ?_;rotate_left;· (obtain⟨aj,b9,be⟩:=hw;obtain⟨P,S,R,O,Q,Y⟩:=cl5 aj;go_simp<;>rfl))
     refine Qag rfl (Qa a5 w5 G) (fun K A=>?_)
     go_simp
     refine A _ _ ?_
     clear A K
     have b6:Below w5.heap.size w5 (w5.alloc (.cells #[Jn,Jn,Jn,Jn,Jn] 28)):=(Below.refl _ w5).alloc (Nat.le_refl _) _
     refine Qag rfl (Qa a5 _ (G.trans (Kp.of_below b6))) (fun K A=>?_)
     go_simp
     refine A _ _ ?_
     clear A K
     obtain⟨W7,aQ⟩:=JE (w5.alloc (.cells #[.slice r0 f0 g0,.slice T f1 g1,.slice V f2 g2,.slice r3 f3 g3,.slice r4 f4 g4] 28))
     have b7:=bnw aQ
     have n7:=nnw aQ
     rw[<- aQ]
     refine tT (v:=?_) (fun w' hw=>?_) ?_;rotate_left;· (obtain⟨aj,b9,be⟩:=hw;obtain⟨P,S,R,O,Q,Y⟩:=cl5 aj;go_simp<;>rfl)
     refine Qap (Qa a5 _ (G.trans (Kp.of_below b7))) (aJ _ _ ?_)
     clear aJ PP
     have bY:=hide (Qa bc w5 W7 q5 r0 T V r3 r4 f0 f1 f2 f3 f4 g0 g1 g2 g3 g4 k5 w5.heap.size e G af an ar (Qak.mono _ _ _ _ _ aB (fun b L F=>⟨by rcases F with q|q;exact .inl q;exact .inr (by omega),by omega⟩)) a6 ai b7.size ⟨b7.os,b7.tape,b7.output⟩ (fun q f _=>b7.block q f) n7 G.size)
     clear aB a6 ai af an ar b0 G hds b6 aQ b7 n7
     go_wp2_with fail
     go_meet
     exact⟨_,e,rfl,rfl,Qa bY⟩
    go_simp
    refine A _ _ ?_
    clear A K
    obtain⟨ba,aD⟩:=JE ((wr.alloc (.cells #[Jn,Jn,Jn,Jn,Jn] 28)).drew)
    have b4:Below wr.heap.size wr ba:=by rw[aD];exact((Below.refl _ _).alloc (Nat.le_refl _) _).drew
    have n4:ba.heap[wr.heap.size]?=some (.cells #[Jn,Jn,Jn,Jn,Jn] 28 (0,0)):=by rw[aD];exact heap_alloc_new wr _
    have cM:ba.heap.size=wr.heap.size+1:=by rw[aD];show(wr.alloc (.cells #[Jn,Jn,Jn,Jn,Jn] 28)).heap.size=_;simp
    rw[<- aD]
    clear aD
    refine Qag rfl (Qa a5 ba (Kp.of_below b4)) (fun K A=>?_)
    go_simp
    refine(Qa aN ba b4).mono ?_
    rintro en w5⟨v5,q5,e,k5,rfl,⟨r0,f0,g0,T,f1,g1,V,f2,g2,r3,f3,g3,r4,f4,g4,rfl,aB⟩,bU,a6,ai,af,an,ar,b0⟩
    show K _ _
    refine A _ _ ?_
    clear A K bU
    have G:Kp nb wr w5:=(Kp.of_below b4).trans b0
    have ct:=Qaa (Qa J).nx
    have n5:=b0.keep n4 (by omega)
    iterate 3 (refine tT (v:=?_) (fun w' hw=>?_) ?_;rotate_left;· (obtain⟨aj,b9,be⟩:=hw;obtain⟨P,S,R,O,Q,Y⟩:=cl5 aj;go_simp<;>rfl))
    obtain⟨W7,aQ,sc⟩:=sc5 n5 (.slice r0 f0 g0) (.slice T f1 g1) (.slice V f2 g2) (.slice r3 f3 g3) (.slice r4 f4 g4)
    obtain⟨aq,aH,aG,aE,aF,yf⟩:=cl5 n5
    refine Qag rfl (Qa a5 w5 G) (fun K A=>?_)
    go_simp
    rw[<- aQ]
    refine A _ _ ?_
    clear A K
    have c0:Kp nb wr W7:=⟨sc.os.trans G.os,sc.tape.trans G.tape,sc.output.trans G.output,by have:=G.size;rw[sc.size];exact this,fun q f N=>(sc.oth q (by omega)).trans (G.block q f N)⟩
    refine tT (v:=?_) (fun w' hw=>?_) ?_;rotate_left;· (obtain⟨aj,b9,be⟩:=hw;obtain⟨P,S,R,O,Q,Y⟩:=cl5 aj;go_simp<;>rfl)
    refine Qap (Qa a5 _ c0) (aJ _ _ ?_)
    clear aJ PP
    have bY:=hide (Qa bc w5 W7 q5 r0 T V r3 r4 f0 f1 f2 f3 f4 g0 g1 g2 g3 g4 k5 wr.heap.size e G af an ar (Qak.mono _ _ _ _ _ aB (fun b L F=>⟨by rcases F with q|q;exact .inl q;exact .inr (by omega),by rcases F with q|q;have:=(Qa J).hB;omega;omega⟩)) a6 ai (by rw[sc.size];exact Nat.le_refl _) ⟨sc.os,sc.tape,sc.output⟩ (fun q _ f=>sc.oth q f) sc.box (Nat.le_refl _))
    clear aB a6 ai af an ar b0 G b4 n4 cM ct n5 aQ sc c0 aq aH aG aE aF yf
    go_wp2_with fail
    go_meet
    exact⟨_,e,rfl,rfl,Qa bY⟩
   obtain⟨bb,e,rfl,rfl,hX⟩:=hcut
   rw[bS]at hX
   obtain⟨q5,r0,T,V,r3,r4,f0,f1,f2,f3,f4,g0,g1,g2,g3,g4,k5,G,af,an,ar,bi,aB,a6,ai⟩:=hX
   obtain⟨WX,cI⟩:=JE wc
   subst cI
   clear bS bc a5 aN
   by_cases he:e=0
   ·
    have ge:(e != 0)=false:=by simp[he]
    have a7:=(Qa J).call G af an (ar he)
    have bf:=Qol a7.pg aB (Qfi a7.few (by omega)) a6
    obtain⟨P,S,R,O,Q,Y⟩:=cl5 a7.ox
    obtain⟨aq,aH,aG,aE,aF,yf⟩:=cl5 bi
    have H5:=hide (Ya a7 (Ya a6 ai))
    clear G af an ar bi aB a6 ai he a7 ay ax aA au aC xf
    go_wp2_with fail
    refine bf.mono ?_
    clear bf P S R O Q Y aq aH aG aE aF yf
    rintro en w8⟨v8,rfl,⟨u0,v0,t0,u1,v1,t1,u2,v2,t2,u3,v3,t3,u4,v4,t4,rfl,Z⟩,b8⟩
    obtain⟨a7,a6,ai⟩:=Qa H5
    have l:=a7.call (Kp.of_below b8) ((b8.block _ (by have:=Qaa a7.nx;omega)).trans a7.nx) (Nat.le_refl _) a7.k96
    have c3:=Qaa a7.ox
    obtain⟨V9,bj,r⟩:=sc5 l.ox (.slice u0 v0 t0) (.slice u1 v1 t1) (.slice u2 v2 t2) (.slice u3 v3 t3) (.slice u4 v4 t4)
    obtain⟨l0,l1,l2,l3,l4⟩:=Qmh Z
    have bm:v0<=193/\v1<=193/\v2<=193/\v3<=193/\v4<=193:=by
     have C:=a7.few
     unfold Few at C a6
     cases q
     cases q5
     simp only[both,Pg.types,Pg.decls,Pg.comps,Pg.inits,Pg.clauses,List.length_append]at l0 l1 l2 l3 l4 C a6
     omega
    have aR:=Qmm (w:=V9) (p0:=u0) (o0:=t0) (p1:=u1) (o1:=t1) (p2:=u2) (o2:=t2) (p3:=u3) (o3:=t3) (p4:=u4) (o4:=t4) (m0:=v0) (m1:=v1) (m2:=v2) (m3:=v3) (m4:=v4) (by omega) (by omega) (by omega) (by omega) (by omega)
    obtain⟨su,al⟩:=JF (v0+v1+v2+v3+v4)
    rw[al]at aR
    obtain⟨P,S,R,O,Q,Y⟩:=cl5 l.ox
    obtain⟨aq,aH,aG,aE,aF,yf⟩:=cl5 r.box
    have cG:=hide bj
    have H8:=hide (Ya l (Ya r (Ya (Qak.mono _ (fun b=>(S0 b/\b<B)∨ob<b) _ _ _ Z (fun b L F=>by rcases F with q|q;exact q;exact .inr (by omega))) (Ya (Qmw a7.wf ai) (Qoy (q:=both q q5) (j:=su) (by omega))))))
    have cv:=hide (show su<=965 by omega)
    clear a7 a6 ai l c3 bj r l0 l1 l2 l3 l4 bm al Z b8 H5
    go_upto_region 23 with fail
    rw[<- Qa cG]
    clear P S R O Q Y
    go_wp2_with fail
    refine aR.mono ?_
    clear aR aq aH aG aE aF yf
    rintro en bg⟨rfl,a1⟩
    obtain⟨l,r,Z,ao,aO⟩:=Qa H8
    have a3:=l.okb
    have a0:=l.nbl
    by_cases al:96<su
    ·
     have gs:(96:Int)<(su:Int):=by omega
     have C:=(r.oth (w.heap.size+1) (by omega)).trans l.rx
     have a2:=(a1.block _ (Qaa C)).trans C
     have h2:=(r.oth nb (by omega)).trans l.nx
     have ak:=(a1.block _ (Qaa h2)).trans h2
     have k9:Kp nb w V9:=⟨r.os.trans l.kp.os,r.tape.trans l.kp.tape,r.output.trans l.kp.output,by rw[r.size];exact l.kp.size,fun q f N=>(r.oth q (by omega)).trans (l.kp.block q f N)⟩
     have M:=k9.trans (Kp.of_below (rb:=nb) a1)
     have aT:=l.lk
     obtain⟨E,H,d⟩:=sc5 a2 (Jn) (Jn) (Jn) (Jn) (Jn)
     have I:Kp nb w E:=⟨d.os.trans M.os,d.tape.trans M.tape,d.output.trans M.output,by have:=M.size;rw[d.size];exact this,fun q f N=>(d.oth q (by omega)).trans (M.block q f N)⟩
     have HE:=hide (show WhA S0 B n w nb k (.returned (.tuple #[.agg #[Jn,Jn,Jn,Jn,Jn],Ji 3])) E from ⟨_,.none,_,k5,rfl,⟨_,_,_,_,_,_,_,_,_,_,_,_,_,_,_,rfl,Qcs _ _⟩,fun _=>rfl,Qc _,Qcc,(d.oth nb (by omega)).trans ak,by omega,by intro e;omega,I⟩)
     have ad:=hide d.box
     have ae:=hide H
     obtain⟨P,S,R,O,Q,Y⟩:=cl5 a2
     clear H d I l r Z ao aO a3 a0 al C a2 h2 ak k9 M aT
     go_wp2_with fail
     rw[<- Qa ae]
     obtain⟨ac,a8,ab,aa,a9,vf⟩:=cl5 (Qa ad)
     refine bodyPost_ret (v:=.tuple #[.agg #[Jn,Jn,Jn,Jn,Jn],Ji 3]) (by simp[results,Tryz.results95,go_sem,ac,a8,ab,aa,a9]) rfl ?_
     exact Qa HE
    have gs:¬(96:Int)<(su:Int):=by omega
    have h9:=l.put r Z (Qfi aO (by omega)) ao
    have cD:=hide (h9.call (Kp.of_below a1) ((a1.block _ (by have:=Qaa h9.nx;omega)).trans h9.nx) (Nat.le_refl _) h9.k96)
    clear l r Z ao aO a3 a0 al h9
    go_wp2_with fail
    go_roundw
    case rel=>exact⟨i+1,_,_,_,_,_,_,_,_,_,_,_,_,_,_,_,_,_,by simp,by omega,cD⟩
    case measure=>simp[intOf];omega
   have ge:(e != 0)=true:=by simp[he]
   have x:=Qa J
   have a3:=x.okb
   have a0:=x.nbl
   have bR:=G.keep x.rx (by omega)
   have b3:=x.kp.trans G
   have aT:=x.lk
   have bO:=hide he
   clear ay ax aA au aC xf
   obtain⟨E,H,d⟩:=sc5 bR (Jn) (Jn) (Jn) (Jn) (Jn)
   have I:Kp nb w E:=⟨d.os.trans b3.os,d.tape.trans b3.tape,d.output.trans b3.output,by have:=b3.size;rw[d.size];exact this,fun q f N=>(d.oth q (by omega)).trans (b3.block q f N)⟩
   have HE:=hide (show WhA S0 B n w nb k (.returned (.tuple #[.agg #[Jn,Jn,Jn,Jn,Jn],Ji e])) E from ⟨_,.none,_,k5,rfl,⟨_,_,_,_,_,_,_,_,_,_,_,_,_,_,_,rfl,Qcs _ _⟩,fun _=>rfl,Qc _,Qcc,(d.oth nb (by omega)).trans af,by omega,by intro h;exact absurd h (Qa bO),I⟩)
   have ad:=hide d.box
   have ae:=hide H
   obtain⟨P,S,R,O,Q,Y⟩:=cl5 bR
   clear H d I G af an ar bi aB a6 ai he x a3 a0 bR b3 aT
   go_wp2_with fail
   rw[<- Qa ae]
   obtain⟨ac,a8,ab,aa,a9,vf⟩:=cl5 (Qa ad)
   refine bodyPost_ret (v:=.tuple #[.agg #[Jn,Jn,Jn,Jn,Jn],Ji e]) (by simp[results,Tryz.results95,go_sem,ac,a8,ab,aa,a9]) rfl ?_
   exact Qa HE
  have cN:i=aI:=by omega
  subst cN
  obtain⟨-,hbody,-⟩:=Qa bl wr (Qa J).kp
  clear hbat
  have a5:=hide (show ∀W,Kp nb wr W->(W.heap[w.heap.size]?=some (.cells #[.slice p0 m0 o0,.slice p1 m1 o1,.slice (Js m) m2 o2,.slice p3 m3 o3,.slice p4 m4 o4] 28 (0,0)))/\(W.cell? (Ja m (a*8+2))=some (.slice bo t.2.2.1.types.length bv)/\W.cell? (Ja m (a*8+2+1))=some (.slice br t.2.2.1.decls.length bz)/\W.cell? (Ja m (a*8+2+2))=some (.slice bD t.2.2.1.comps.length bx)/\W.cell? (Ja m (a*8+2+3))=some (.slice bw t.2.2.1.inits.length bq)/\W.cell? (Ja m (a*8+2+4))=some (.slice bB t.2.2.1.clauses.length bp)) from fun W kW=>by
   have x:=Qa J
   exact⟨kW.keep x.px (by have:=x.nbl;omega),(Qa bl W (x.kp.trans kW)).2.1⟩)
  have bK:=(Qa bC).1
  have bT:=(Qa J).kp
  have bA:=(Qa J).hB
  have bG:PgS (fun b=>(S0 b/\b<B)∨ob<b) wr.drew [.slice bo t.2.2.1.types.length bv,.slice br t.2.2.1.decls.length bz,.slice bD t.2.2.1.comps.length bx,.slice bw t.2.2.1.inits.length bq,.slice bB t.2.2.1.clauses.length bp] t.2.2.1:=Qak.mono _ _ _ _ _ (Qak.same _ w wr.drew _ _ bK bT.size (fun q f L=>bT.block q L (by have cu:q<B:=f.2;omega))) (fun _ _ F=>.inl F)
  have ch:PgS (fun b=>(S0 b/\b<B)∨ob<b) wr.drew [.slice q0 e0 d0,.slice q1 e1 d1,.slice q2 e2 d2,.slice q3 e3 d3,.slice q4 e4 d4] q:=(Qa J).pg.move (w':=wr.drew) (Nat.le_refl _) (fun _ _ _=>rfl) (fun _ F=>F)
  have bf:=Qol ch bG (Qfi (Qa J).few (by omega)) (Qa bX).1
  clear bK bT bA bG ch hbody
  go_upto_region 25 with fail
  clear ay ax aA au aC xf bF
  go_wp2_with fail
  refine Qav (tr:=.take 1 (.take 2 (.take 3 (.take 4 (.take 5 (.take 6 (.one 0 (.one 7 (.one 8 .nil))))))))) (fun W=>(W.heap[w.heap.size]?=some (.cells #[.slice p0 m0 o0,.slice p1 m1 o1,.slice (Js m) m2 o2,.slice p3 m3 o3,.slice p4 m4 o4] 28 (0,0)))/\(W.cell? (Ja m (a*8+2))=some (.slice bo t.2.2.1.types.length bv)/\W.cell? (Ja m (a*8+2+1))=some (.slice br t.2.2.1.decls.length bz)/\W.cell? (Ja m (a*8+2+2))=some (.slice bD t.2.2.1.comps.length bx)/\W.cell? (Ja m (a*8+2+3))=some (.slice bw t.2.2.1.inits.length bq)/\W.cell? (Ja m (a*8+2+4))=some (.slice bB t.2.2.1.clauses.length bp))) mixedO (by kernel_rfl) rfl (by kernel_rfl) (fun PP aJ=>?_)
  iterate 6 (refine tT (v:=?_) (fun w' hw=>?_) ?_;rotate_left;· (obtain⟨aj,b9,be,df,de,d8⟩:=hw;obtain⟨P,S,R,O,Q,Y⟩:=cl5 aj;go_simp<;>rfl))
  obtain⟨ay,ax,aA,au,aC,xf⟩:=cl5 (show wr.drew.heap[ob]?=_ from (Qa J).ox)
  refine Qag rfl (Qa a5 _ (Kp.of_below (Below.refl _ wr).drew)) (fun K A=>?_)
  go_simp
  refine A _ _ ?_
  clear A K ay ax aA au aC xf
  refine Qag rfl (Qa a5 _ (Kp.of_below (Below.refl _ wr).drew)) (fun K A=>?_)
  go_simp
  refine bf.mono ?_
  clear bf
  rintro en w8⟨v8,rfl,⟨u0,v0,t0,u1,v1,t1,u2,v2,t2,u3,v3,t3,u4,v4,t4,rfl,Z⟩,b8⟩
  show K _ _
  refine A _ _ ?_
  clear A K
  have bk:Below wr.heap.size wr w8:=(Below.refl _ wr).drew.trans b8
  have x:=Qa J
  have l:=x.call (Kp.of_below bk) ((bk.block _ (by have:=Qaa x.nx;omega)).trans x.nx) (Nat.le_refl _) x.k96
  have c4:=Qaa x.ox
  obtain⟨V9,bj,r⟩:=sc5 l.ox (.slice u0 v0 t0) (.slice u1 v1 t1) (.slice u2 v2 t2) (.slice u3 v3 t3) (.slice u4 v4 t4)
  obtain⟨l0,l1,l2,l3,l4⟩:=Qmh Z
  have bm:v0<=193/\v1<=193/\v2<=193/\v3<=193/\v4<=193:=by
   have C:=x.few
   have h2:=(Qa bX).1
   unfold Few at C h2
   simp only[both,Pg.types,Pg.decls,Pg.comps,Pg.inits,Pg.clauses,List.length_append]at l0 l1 l2 l3 l4 C h2
   omega
  have aR:=Qmm (w:=V9) (p0:=u0) (o0:=t0) (p1:=u1) (o1:=t1) (p2:=u2) (o2:=t2) (p3:=u3) (o3:=t3) (p4:=u4) (o4:=t4) (m0:=v0) (m1:=v1) (m2:=v2) (m3:=v3) (m4:=v4) (by omega) (by omega) (by omega) (by omega) (by omega)
  obtain⟨su,al⟩:=JF (v0+v1+v2+v3+v4)
  rw[al]at aR
  obtain⟨ay,ax,aA,au,aC,xf⟩:=cl5 l.ox
  obtain⟨aq,aH,aG,aE,aF,yf⟩:=cl5 r.box
  refine Qag rfl (Qa a5 w8 (Kp.of_below bk)) (fun K A=>?_)
  go_simp
  rw[<- bj]
  refine A _ _ ?_
  clear A K
  have k9:Kp nb w V9:=⟨r.os.trans l.kp.os,r.tape.trans l.kp.tape,r.output.trans l.kp.output,by rw[r.size];exact l.kp.size,fun q f N=>(r.oth q (by have:=x.okb;omega)).trans (l.kp.block q f N)⟩
  have bQ:=Qa a5 w8 (Kp.of_below bk)
  have bL:=x.okb
  have bA:=x.hB
  have a0:=x.nbl
  have cl:m<B/\m<w.heap.size:=⟨(Qa bC).2.2.2.2.1.2,(Qa bC).2.2.2.2.2.1⟩
  have aX:∀q,V9.cell? (Ja m q)=w8.cell? (Ja m q):=fun q=>World.cell?_of_block (r.oth m (by omega))
  refine Qap ⟨(r.oth _ (by omega)).trans bQ.1,by rw[aX,aX,aX,aX,aX];exact bQ.2⟩ (aJ _ _ ?_)
  clear aJ PP
  have cy:=l.kp
  have H8:=hide (Ya l (Ya r (Ya (Qak.mono _ (fun b=>(S0 b/\b<B)∨ob<b) _ _ _ Z (fun b L F=>by rcases F with (q|q)|q;exact .inl q;exact .inr q;exact .inr (by have:wr.drew.heap.size=wr.heap.size:=rfl;omega))) (Ya (Qmw x.wf (Qa bX).2) (Ya (Qoy (q:=both q t.2.2.1) (j:=su) (by omega)) (Ya k9 (Ya bL (Ya a0 l.lk))))))))
  have cv:=hide (show su<=965 by omega)
  clear aX cl bA bL a0 bQ k9 l0 l1 l2 l3 l4 bm al Z b8 c4 l x bk bj r cy ay ax aA au aC xf a5
  go_wp2_with fail
  refine aR.mono ?_
  clear aR aq aH aG aE aF yf
  rintro en bg⟨rfl,a1⟩
  obtain⟨l,r,Z,ao,aO,k9,a3,a0,aT⟩:=Qa H8
  have C:=(r.oth (w.heap.size+1) (by omega)).trans l.rx
  have a2:=(a1.block _ (Qaa C)).trans C
  have h2:=(r.oth nb (by omega)).trans l.nx
  have ak:=(a1.block _ (Qaa h2)).trans h2
  have M:=k9.trans (Kp.of_below (rb:=nb) a1)
  have bP:=l.k96
  by_cases al:96<su
  ·
   have gs:(96:Int)<(su:Int):=by omega
   obtain⟨E,H,d⟩:=sc5 a2 (Jn) (Jn) (Jn) (Jn) (Jn)
   have I:Kp nb w E:=⟨d.os.trans M.os,d.tape.trans M.tape,d.output.trans M.output,by have:=M.size;rw[d.size];exact this,fun q f N=>(d.oth q (by omega)).trans (M.block q f N)⟩
   have HE:=hide (show WhA S0 B n w nb k (.returned (.tuple #[.agg #[Jn,Jn,Jn,Jn,Jn],Ji 3])) E from ⟨_,.none,_,k1,rfl,⟨_,_,_,_,_,_,_,_,_,_,_,_,_,_,_,rfl,Qcs _ _⟩,fun _=>rfl,Qc _,Qcc,(d.oth nb (by omega)).trans ak,by omega,by intro e;omega,I⟩)
   have ad:=hide d.box
   have ae:=hide H
   obtain⟨P,S,R,O,Q,Y⟩:=cl5 a2
   clear H d I l r Z ao aO a3 a0 al C a2 h2 ak k9 M aT bP
   go_wp2_with fail
   rw[<- Qa ae]
   obtain⟨ac,a8,ab,aa,a9,vf⟩:=cl5 (Qa ad)
   refine bodyPost_ret (v:=.tuple #[.agg #[Jn,Jn,Jn,Jn,Jn],Ji 3]) (by simp[results,Tryz.results95,go_sem,ac,a8,ab,aa,a9]) rfl ?_
   exact Qa HE
  have gs:¬(96:Int)<(su:Int):=by omega
  have bE:=(a1.block _ (Qaa r.box)).trans r.box
  obtain⟨E,H,d⟩:=sc5 a2 (.slice u0 v0 t0) (.slice u1 v1 t1) (.slice u2 v2 t2) (.slice u3 v3 t3) (.slice u4 v4 t4)
  have I:Kp nb w E:=⟨d.os.trans M.os,d.tape.trans M.tape,d.output.trans M.output,by have:=M.size;rw[d.size];exact this,fun q f N=>(d.oth q (by omega)).trans (M.block q f N)⟩
  have cc:PgS (fun b=>(S0 b/\b<B)∨w.heap.size<=b) E [.slice u0 v0 t0,.slice u1 v1 t1,.slice u2 v2 t2,.slice u3 v3 t3,.slice u4 v4 t4] (both q t.2.2.1):=by
   have bA:=(Qa HN).2.1
   have e1:=Qak.same _ w8 V9 _ _ Z (by rw[r.size];exact Nat.le_refl _) (fun q f _=>r.oth q (by rcases f with e|e<;>omega))
   have e2:=Qak.same _ V9 bg _ _ e1 a1.size (fun q _ L=>a1.block q L)
   have e3:=Qak.same _ bg E _ _ e2 (by rw[d.size];exact Nat.le_refl _) (fun q f _=>d.oth q (by rcases f with e|e<;>omega))
   exact Qak.mono _ _ _ _ _ e3 (fun b _ F=>by rcases F with e|e;exact .inl e;exact .inr (by omega))
  have HE:=hide (show WhA S0 B n w nb k (.returned (.tuple #[.agg #[.slice u0 v0 t0,.slice u1 v1 t1,.slice u2 v2 t2,.slice u3 v3 t3,.slice u4 v4 t4],Ji 0])) E from ⟨_,both q t.2.2.1,0,k1,rfl,⟨_,_,_,_,_,_,_,_,_,_,_,_,_,_,_,rfl,cc⟩,fun e=>absurd rfl e,Qfi aO (by omega),ao,(d.oth nb (by omega)).trans ak,by omega,fun _=>bP,I⟩)
  have ad:=hide d.box
  have ae:=hide H
  obtain⟨P,S,R,O,Q,Y⟩:=cl5 a2
  obtain⟨aq,aH,aG,aE,aF,yf⟩:=cl5 bE
  clear l r Z ao aO a3 a0 al C a2 h2 ak k9 M aT bP bE H d I cc
  go_wp2_with fail
  rw[<- Qa ae]
  obtain⟨ac,a8,ab,aa,a9,vf⟩:=cl5 (Qa ad)
  refine bodyPost_ret (v:=.tuple #[.agg #[.slice u0 v0 t0,.slice u1 v1 t1,.slice u2 v2 t2,.slice u3 v3 t3,.slice u4 v4 t4],Ji 0]) (by simp[results,Tryz.results95,go_sem,ac,a8,ab,aa,a9]) rfl ?_
  exact Qa HE
 obtain⟨y,nx,nz,ag,s2,b2⟩:=Qa HH
 obtain⟨a4,X,hk,hD,aw⟩:=Qa HN
 obtain⟨E,H,d⟩:=sc5 nz (Jn) (Jn) (Jn) (Jn) (Jn)
 have I:Kp nb w E:=⟨d.os.trans y.os,d.tape.trans y.tape,d.output.trans y.output,by have:=y.size;rw[d.size];exact this,fun q f N=>(d.oth q (by omega)).trans (y.block q f N)⟩
 have HE:=hide (show WhA S0 B n w nb k (.returned (.tuple #[.agg #[Jn,Jn,Jn,Jn,Jn],Ji 12])) E from ⟨_,.none,_,k,rfl,⟨_,_,_,_,_,_,_,_,_,_,_,_,_,_,_,rfl,Qcs _ _⟩,fun _=>rfl,Qc _,Qcc,(d.oth nb (by omega)).trans ag,by omega,by intro e;omega,I⟩)
 have ad:=hide d.box
 have ae:=hide H
 obtain⟨P,S,R,O,Q,Y⟩:=cl5 nz
 clear H d I y nx nz ag s2 b2 a4 X hk hD aw
 go_wp2_with fail
 rw[<- Qa ae]
 obtain⟨ac,a8,ab,aa,a9,vf⟩:=cl5 (Qa ad)
 refine bodyPost_ret (v:=.tuple #[.agg #[Jn,Jn,Jn,Jn,Jn],Ji 12]) (by simp[results,Tryz.results95,go_sem,ac,a8,ab,aa,a9]) rfl ?_
 exact Qa HE
end
end
end Go.Proofs.YtmfpbepifnedjaaGreat
