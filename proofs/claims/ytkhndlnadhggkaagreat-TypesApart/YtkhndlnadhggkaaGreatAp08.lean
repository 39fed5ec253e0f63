/- The document's Both. -/
import Derived.Test.YtkhndlnadhggkaaGreatAp01
import Derived.Test.YtkhndlnadhggkaaGreatAp07
import Derived.Test.YtkhndlnadhggkaaGreatAp04
import Derived.Test.YtkhndlnadhggkaaGreatAp02
set_option maxRecDepth 100000
set_option maxHeartbeats 32000000
namespace Go.Proofs.YtkhndlnadhggkaaGreat
section
open Go.RowKit Go.Maps
theorem Qlu{k:Nat}:∀(css:List (List Value)),(∀c∈css,c.length=k)->css.flatten.length=css.length*k
 | [],_=>by simp
 |c :: css,h=>by
  rw[List.flatten_cons,List.length_append,Qlu css (fun x hx=>h x (by simp[hx])),h c (by simp),List.length_cons,Nat.succ_mul];omega
theorem All.len_of{α : Type}{p:PS α}{k:Nat}{S:Nat->Prop}{w:World}{css:List (List Value)}{xs:List α}(h:All p k S w css xs):∀c∈css,c.length=k /\ ∃x,p S w c x:=fun c g=>by
 obtain⟨i,a,e⟩:=List.getElem_of_mem g;have b:i<xs.length:=by rw[<- h.1];exact a
 obtain⟨d,f⟩:=h.2 i _ c (List.getElem?_eq_getElem b) (by rw[List.getElem?_eq_getElem a,e]);exact⟨d,_,f⟩
theorem All.app{α : Type}{p:PS α}{k:Nat}{S:Nat->Prop}{w:World}{css dss:List (List Value)}{xs ys:List α}(h:All p k S w css xs)(g:All p k S w dss ys):All p k S w (css++dss) (xs++ys):=by
 refine⟨by rw[List.length_append,List.length_append,h.1,g.1],fun j x c a b=>?_⟩;by_cases d:j<xs.length
 ·
  rw[List.getElem?_append_left d]at a;rw[List.getElem?_append_left (by rw[h.1];exact d)]at b;exact h.2 j x c a b
 rw[List.getElem?_append_right (by omega)]at a;rw[List.getElem?_append_right (by rw[h.1];omega),h.1]at b;exact g.2 _ x c a b
section
variable {α : Type}{p:PS α}{k:Nat}{T ST:TypeId}{i0:TypeInfo}{z:Value}{by_:Nat}
theorem Qed(hp:PSok p)(hone:∀S w cs x,p S w cs x -> ∀c∈cs,c.oneCell'=true)(ht:Tryz.prog.underlying ST=some (.slice T))(hi:Tryz.prog.info? T=some i0)(hz:i0.zero=some z)(hsz:i0.size=k)(hby:i0.bytes=by_)(hzc:z.cells.size=k)(hk:0<k)(hb6:by_<=1000)
  {base:Nat}{S:Nat->Prop}{w:World}{v vb:Value}{xs ys:List α}{css:List (List Value)}(ho:w.ownsRow base T k v xs.length css.flatten)(ha:All p k S w css xs)(hb:LsAt p k S w vb ys)(hS:∀b,S b->some b≠v.ownBlock)(hl:xs.length<=97)(hl2:ys.length<=97)(hbase:base<=w.heap.size):
  ∃v' w' dss,(Builtin.append_ #[ST,ST] ST #[v,vb]).run Tryz.prog w = .ok v' w'/\w'.ownsRow base T k v' (xs++ys).length dss.flatten/\All p k S w' dss (xs++ys)/\w.grownBy w' v.ownBlock:=by
 obtain⟨a,cap,dss,rfl,I,J,d,t⟩:=hb;by_cases l:ys=[]
 ·
  subst l;have i:(Builtin.append_ #[ST,ST] ST #[v,.slice a ([]:List α).length cap]).run Tryz.prog w = .ok v w:=by
   rcases ho.2 with ⟨rfl,e⟩|⟨g,H,F,rfl,_,_,q,_⟩
   ·cases a<;>simp[Builtin.append_,run_underlying ht,sizeOf,typeInfo,hi,Builtin.lenOf,Builtin.firstCells,loadCells,loadCellsFrom]
   ·cases a<;>simp[Builtin.append_,run_underlying ht,sizeOf,typeInfo,hi,Builtin.lenOf,Builtin.firstCells,loadCells,loadCellsFrom,q,storeCells]
  exact⟨v,w,css,i,by rw[List.append_nil];exact ho,by rw[List.append_nil];exact ha,⟨rfl,rfl,rfl,Nat.le_refl _,fun _ _ _=>rfl⟩⟩
 obtain⟨b,rfl,_,G,h⟩:=t l;have o:dss.flatten.length=ys.length*k:=by rw[Qlu dss (fun c h=>(d.len_of c h).1),d.1]
 obtain⟨r,E,i,D,f,_,_⟩:=run_append_own_at (P:=Tryz.prog) w base ST ST T i0 z k by_ ht hi hz hsz hby hzc hk v xs.length css.flatten ho (Ja b 0) ys.length cap dss.flatten o (fun j u y=>by
  have s:((Ja b 0):Addr).add j=(Ja b j):=by cases j<;>simp[Addr.add]
  rw[s];exact h j u y) (fun u B=>by
  obtain⟨c,m,n⟩:=List.mem_flatten.1 B;obtain⟨_,x,C⟩:=d.len_of c m;exact hone _ _ _ _ C u n) (by unfold maxLen;omega) (by
  have d:xs.length+ys.length<=194:=by omega
  have:=Nat.mul_le_mul d hb6
  omega) hbase
 exact⟨r,E,css++dss,i,by rw[List.length_append,List.flatten_append];exact D,(ha.app d).same hp f.size (fun b A hl=>f.block b hl (hS b A)),f⟩
theorem Qhy{base:Nat}{S:Nat->Prop}{w:World}{v:Value}{css:List (List Value)}{xs:List α}(hp:PSok p)(ho:w.ownsRow base T k v xs.length css.flatten)(ha:All p k S w css xs):LsAt p k (fun b=>S b∨base<=b) w v xs:=by
 rcases id ho.2 with ⟨e,d⟩|⟨g,cap,q,e,f,i,n,m,_⟩
 ·
  have o:xs=[]:=List.length_eq_zero_iff.1 d;subst o;rw[e];exact LsAt.nil _ _
 refine⟨some (Ja g 0),cap,css,e,n,m,ha.mono hp (fun _ _ h=>.inl h),fun _=>⟨g,rfl,.inr f,Qaa i,fun j c a=>?_⟩⟩;subst e;have l:j<xs.length*k:=by rw[<- ho.1];exact(List.getElem?_eq_some_iff.1 a).1
 rw[World.ownsRow.cellAt ho j l];exact a
theorem Qfh(hp:PSok p)(hone:∀S w cs x,p S w cs x -> ∀c∈cs,c.oneCell'=true)(ht:Tryz.prog.underlying ST=some (.slice T))(hi:Tryz.prog.info? T=some i0)(hz:i0.zero=some z)(hsz:i0.size=k)(hby:i0.bytes=by_)(hzc:z.cells.size=k)(hk:0<k)(hb6:by_<=1000)
  {S:Nat->Prop}{w:World}{va vb:Value}{xs ys:List α}(ha:LsAt p k S w va xs)(hb:LsAt p k S w vb ys)(hl:xs.length<=97)(hl2:ys.length<=97):
  ∃v1 w1 v2 w2,(Builtin.append_ #[ST,ST] ST #[Jn,va]).run Tryz.prog w = .ok v1 w1/\Below w.heap.size w w1/\(Builtin.append_ #[ST,ST] ST #[v1,vb]).run Tryz.prog w1 = .ok v2 w2/\Below w.heap.size w w2/\(∃a c,v2 = .slice a (xs++ys).length c)/\LsAt p k (fun b=>S b∨w.heap.size<=b) w2 v2 (xs++ys):=by
 have s:=ha.mono hp (S':=fun b=>S b/\b<w.heap.size) (fun b hl h=>⟨h,hl⟩);have t:=hb.mono hp (S':=fun b=>S b/\b<w.heap.size) (fun b hl h=>⟨h,hl⟩);obtain⟨v1,w1,F,C,l,n,f⟩:=Qed (ys:=xs) (css:=[]) (xs:=([]:List α)) (base:=w.heap.size) hp hone ht hi hz hsz hby hzc hk hb6 (v:=Jn) (World.ownsRow_nil _ _ _ _) ⟨rfl,fun j x cs A=>by simp at A⟩ s (fun b _=>by simp[Value.ownBlock]) (by simp) hl (Nat.le_refl _);rw[List.nil_append]at l n;have d:Below w.heap.size w w1:=⟨f.os,f.tape,f.output,f.size,fun q i=>f.block q i (by simp[Value.ownBlock])⟩;have u:=t.same hp d.size (fun q _ i=>d.block q i);have m:∀b,some b=v1.ownBlock->w.heap.size<=b:=fun b e=>(World.ownsRow.lt l b e.symm).1;obtain⟨v2,w2,E,D,B,r,g⟩:=Qed (base:=w.heap.size) hp hone ht hi hz hsz hby hzc hk hb6 l n u (fun b hb e=>by have:=m b e;have:=hb.2;omega) hl hl2 d.size;have y:Below w.heap.size w w2:=⟨g.os.trans d.os,g.tape.trans d.tape,g.output.trans d.output,Nat.le_trans d.size g.size,fun q i=>(g.block q (by have:=d.size;omega) (fun e=>by have:=m q e;omega)).trans (d.block q i)⟩;have o:=(Qhy hp B r).mono hp (S':=fun b=>S b∨w.heap.size<=b) (fun b _ h=>h.elim (fun h=>.inl h.1) .inr);obtain⟨a,c,e⟩:=o.sl;exact⟨v1,w1,v2,w2,C,d,D,y,⟨a,c,e⟩,o⟩
end
theorem Qol{p q:Pg}{S:Nat->Prop}{w:World}{x0a y0a x1a y1a x2a y2a x3a y3a x4a y4a:Option Addr}{x0n x0c y0n y0c x1n x1c y1n y1c x2n x2c y2n y2c x3n x3c y3n y3c x4n x4c y4n y4c:Nat}(hx:PgS S w [.slice x0a x0n x0c,.slice x1a x1n x1c,.slice x2a x2n x2c,.slice x3a x3n x3c,.slice x4a x4n x4c] p)(hy:PgS S w [.slice y0a y0n y0c,.slice y1a y1n y1c,.slice y2a y2n y2c,.slice y3a y3n y3c,.slice y4a y4n y4c] q)(fp:Few p 97)(fq:Few q 97):
  Calls Tryz.prog 109 #[.agg #[.slice x0a x0n x0c,.slice x1a x1n x1c,.slice x2a x2n x2c,.slice x3a x3n x3c,.slice x4a x4n x4c],.agg #[.slice y0a y0n y0c,.slice y1a y1n y1c,.slice y2a y2n y2c,.slice y3a y3n y3c,.slice y4a y4n y4c]] w fun en w'=>∃v,en = .returned v/\VPg (fun b=>S b∨w.heap.size<=b) w' v (both p q)/\Below w.heap.size w w':=by
 obtain⟨v0,v1,v2,v3,v4,ex,h0,h1,h2,h3,h4⟩:=hx.cells;obtain⟨u0,u1,u2,u3,u4,ey,g0,g1,g2,g3,g4⟩:=hy.cells;obtain⟨rfl,rfl,rfl,rfl,rfl⟩:=list5 ex;obtain⟨rfl,rfl,rfl,rfl,rfl⟩:=list5 ey;clear hx hy ex ey;have h0:=h0.mono Qbe (S':=fun b=>S b/\b<w.heap.size) (fun b a h=>⟨h,a⟩);have g0:=g0.mono Qbe (S':=fun b=>S b/\b<w.heap.size) (fun b a h=>⟨h,a⟩);have h1:=h1.mono Qav (S':=fun b=>S b/\b<w.heap.size) (fun b a h=>⟨h,a⟩);have g1:=g1.mono Qav (S':=fun b=>S b/\b<w.heap.size) (fun b a h=>⟨h,a⟩);have h2:=h2.mono Qbj (S':=fun b=>S b/\b<w.heap.size) (fun b a h=>⟨h,a⟩);have g2:=g2.mono Qbj (S':=fun b=>S b/\b<w.heap.size) (fun b a h=>⟨h,a⟩);have h3:=h3.mono Qbg (S':=fun b=>S b/\b<w.heap.size) (fun b a h=>⟨h,a⟩);have g3:=g3.mono Qbg (S':=fun b=>S b/\b<w.heap.size) (fun b a h=>⟨h,a⟩);have h4:=h4.mono Qaw (S':=fun b=>S b/\b<w.heap.size) (fun b a h=>⟨h,a⟩);have g4:=g4.mono Qaw (S':=fun b=>S b/\b<w.heap.size) (fun b a h=>⟨h,a⟩);obtain⟨W,hW⟩:=JE ((((w.alloc (.cells #[.slice x0a x0n x0c,.slice x1a x1n x1c,.slice x2a x2n x2c,.slice x3a x3n x3c,.slice x4a x4n x4c] 28)).alloc (.cells #[.slice y0a y0n y0c,.slice y1a y1n y1c,.slice y2a y2n y2c,.slice y3a y3n y3c,.slice y4a y4n y4c] 28)).alloc pgZ).drew);have O:Below w.heap.size w W:=by rw[hW];exact((((Below.refl _ w).alloc (Nat.le_refl _) _).alloc (by simp) _).alloc (by simp;omega) _).drew
 have na:W.heap[w.heap.size]?=some (.cells #[.slice x0a x0n x0c,.slice x1a x1n x1c,.slice x2a x2n x2c,.slice x3a x3n x3c,.slice x4a x4n x4c] 28 (0,0)):=by
  rw[hW];show(((w.alloc (.cells #[.slice x0a x0n x0c,.slice x1a x1n x1c,.slice x2a x2n x2c,.slice x3a x3n x3c,.slice x4a x4n x4c] 28)).alloc (.cells #[.slice y0a y0n y0c,.slice y1a y1n y1c,.slice y2a y2n y2c,.slice y3a y3n y3c,.slice y4a y4n y4c] 28)).alloc pgZ).heap[w.heap.size]?=_;rw[Below.heap_alloc _ _ _ (by simp;omega),Below.heap_alloc _ _ _ (by simp)];exact heap_alloc_new w _
 have nb:W.heap[w.heap.size+1]?=some (.cells #[.slice y0a y0n y0c,.slice y1a y1n y1c,.slice y2a y2n y2c,.slice y3a y3n y3c,.slice y4a y4n y4c] 28 (0,0)):=by
  rw[hW];show(((w.alloc (.cells #[.slice x0a x0n x0c,.slice x1a x1n x1c,.slice x2a x2n x2c,.slice x3a x3n x3c,.slice x4a x4n x4c] 28)).alloc (.cells #[.slice y0a y0n y0c,.slice y1a y1n y1c,.slice y2a y2n y2c,.slice y3a y3n y3c,.slice y4a y4n y4c] 28)).alloc pgZ).heap[w.heap.size+1]?=_;rw[Below.heap_alloc _ _ _ (by simp)];have:=heap_alloc_new (w.alloc (.cells #[.slice x0a x0n x0c,.slice x1a x1n x1c,.slice x2a x2n x2c,.slice x3a x3n x3c,.slice x4a x4n x4c] 28)) (.cells #[.slice y0a y0n y0c,.slice y1a y1n y1c,.slice y2a y2n y2c,.slice y3a y3n y3c,.slice y4a y4n y4c] 28);rwa [show(w.alloc (.cells #[.slice x0a x0n x0c,.slice x1a x1n x1c,.slice x2a x2n x2c,.slice x3a x3n x3c,.slice x4a x4n x4c] 28)).heap.size=w.heap.size+1 by simp]at this
 have nc:W.heap[w.heap.size+2]?=some pgZ:=by
  rw[hW];show(((w.alloc (.cells #[.slice x0a x0n x0c,.slice x1a x1n x1c,.slice x2a x2n x2c,.slice x3a x3n x3c,.slice x4a x4n x4c] 28)).alloc (.cells #[.slice y0a y0n y0c,.slice y1a y1n y1c,.slice y2a y2n y2c,.slice y3a y3n y3c,.slice y4a y4n y4c] 28)).alloc pgZ).heap[w.heap.size+2]?=_;have:=heap_alloc_new ((w.alloc (.cells #[.slice x0a x0n x0c,.slice x1a x1n x1c,.slice x2a x2n x2c,.slice x3a x3n x3c,.slice x4a x4n x4c] 28)).alloc (.cells #[.slice y0a y0n y0c,.slice y1a y1n y1c,.slice y2a y2n y2c,.slice y3a y3n y3c,.slice y4a y4n y4c] 28)) pgZ;rwa [show((w.alloc (.cells #[.slice x0a x0n x0c,.slice x1a x1n x1c,.slice x2a x2n x2c,.slice x3a x3n x3c,.slice x4a x4n x4c] 28)).alloc (.cells #[.slice y0a y0n y0c,.slice y1a y1n y1c,.slice y2a y2n y2c,.slice y3a y3n y3c,.slice y4a y4n y4c] 28)).heap.size=w.heap.size+2 by simp]at this
 obtain⟨i0,af,ap,ak,aa⟩:=info50;obtain⟨u0,U0,t0,T0,r0,c0,R0,C0,⟨D,I,ax⟩,L0⟩:=Qfh (ST:=22) (w:=W) Qbe pty_one (by kernel_rfl) af ap ak aa rfl (by decide) (by decide) (h0.later Qbe O) (g0.later Qbe O) fp.1 fq.1;have P:Below w.heap.size w T0:=O.trans (C0.mono O.size);have V0:Below w.heap.size w U0:=O.trans (c0.mono O.size);have X:Below W.heap.size W T0:=C0;have F0:Below W.heap.size W U0:=c0;obtain⟨i1,ag,aq,al,ab⟩:=info51;obtain⟨u1,U1,t1,T1,r1,c1,R1,C1,⟨E,J,ay⟩,L1⟩:=Qfh (ST:=23) (w:=T0) Qav Qqh (by kernel_rfl) ag aq al ab rfl (by decide) (by decide) (h1.later Qav P) (g1.later Qav P) fp.2.1 fq.2.1;have Q:Below w.heap.size w T1:=P.trans (C1.mono P.size);have V1:Below w.heap.size w U1:=P.trans (c1.mono P.size);have Y:Below W.heap.size W T1:=X.trans (C1.mono X.size);have F1:Below W.heap.size W U1:=X.trans (c1.mono X.size);obtain⟨i2,ah,ar,am,ac⟩:=info52;obtain⟨u2,U2,t2,T2,r2,c2,R2,C2,⟨F,L,az⟩,L2⟩:=Qfh (ST:=24) (w:=T1) Qbj (fun _ _ _ _ h=>Qqg h) (by kernel_rfl) ah ar am ac rfl (by decide) (by decide) (h2.later Qbj Q) (g2.later Qbj Q) fp.2.2.1 fq.2.2.1;have R:Below w.heap.size w T2:=Q.trans (C2.mono Q.size);have V2:Below w.heap.size w U2:=Q.trans (c2.mono Q.size);have Z:Below W.heap.size W T2:=Y.trans (C2.mono Y.size);have F2:Below W.heap.size W U2:=Y.trans (c2.mono Y.size);obtain⟨i3,ai,au,an,ad⟩:=info53;obtain⟨u3,U3,t3,T3,r3,c3,R3,C3,⟨G,M,aA⟩,L3⟩:=Qfh (ST:=25) (w:=T2) Qbg pin_one (by kernel_rfl) ai au an ad rfl (by decide) (by decide) (h3.later Qbg R) (g3.later Qbg R) fp.2.2.2.1 fq.2.2.2.1;have U:Below w.heap.size w T3:=R.trans (C3.mono R.size);have V3:Below w.heap.size w U3:=R.trans (c3.mono R.size);have E3:Below W.heap.size W T3:=Z.trans (C3.mono Z.size);have F3:Below W.heap.size W U3:=Z.trans (c3.mono Z.size);obtain⟨i4,aj,av,ao,ae⟩:=info54
 obtain⟨u4,U4,t4,B,r4,c4,R4,C4,⟨H,N,aB⟩,L4⟩:=Qfh (ST:=26) (w:=T3) Qaw Qqf (by kernel_rfl) aj av ao ae rfl (by decide) (by decide) (h4.later Qaw U) (g4.later Qaw U) fp.2.2.2.2 fq.2.2.2.2;have D4:Below w.heap.size w B:=U.trans (C4.mono U.size);have V4:Below w.heap.size w U4:=U.trans (c4.mono U.size);have E4:Below W.heap.size W B:=E3.trans (C4.mono E3.size);have F4:Below W.heap.size W U4:=E3.trans (c4.mono E3.size);have G3:Below T3.heap.size T3 B:=C4;have G2:Below T2.heap.size T2 B:=C3.trans (G3.mono C3.size);have G1:Below T1.heap.size T1 B:=C2.trans (G2.mono C2.size);have G0:Below T0.heap.size T0 B:=C1.trans (G1.mono C1.size);obtain⟨u,aC⟩:=JF w.heap.size;obtain⟨A,aD⟩:=JF (w.heap.size+1);obtain⟨t,aE⟩:=JF (w.heap.size+2);rw[aC]at na;rw[aD]at nb;rw[aE]at nc;have a2:=(E4.block _ (Qaa nc)).trans nc;have a1:u+2=t/\t<W.heap.size:=⟨by omega,Qaa nc⟩;have wz:w.heap.size<=t:=by omega
 subst ax;subst ay;subst az;subst aA;subst aB;have x:Hid (∀w',Below W.heap.size W w'->w'.heap[u]?=some (.cells #[.slice x0a x0n x0c,.slice x1a x1n x1c,.slice x2a x2n x2c,.slice x3a x3n x3c,.slice x4a x4n x4c] 28 (0,0))/\w'.heap[A]?=some (.cells #[.slice y0a y0n y0c,.slice y1a y1n y1c,.slice y2a y2n y2c,.slice y3a y3n y3c,.slice y4a y4n y4c] 28 (0,0))):=fun w' bb=>⟨(bb.block _ (Qaa na)).trans na,(bb.block _ (Qaa nb)).trans nb⟩;have a3:=hide (Ya F0 X);have a4:=hide (Ya F1 Y);have a5:=hide (Ya F2 Z);have a6:=hide (Ya F3 E3);have a7:=hide (Ya F4 E4);have zs:W.heap.size<=T0.heap.size/\W.heap.size<=T1.heap.size/\W.heap.size<=T2.heap.size/\W.heap.size<=T3.heap.size/\W.heap.size<=B.heap.size:=⟨X.size,Y.size,Z.size,E3.size,E4.size⟩;obtain⟨V,hV⟩:=JE (B.setRow t #[.slice D (p.types++q.types).length I,.slice E (p.decls++q.decls).length J,.slice F (p.comps++q.comps).length L,.slice G (p.inits++q.inits).length M,.slice H (p.clauses++q.clauses).length N]);have C:∀b,b≠t->V.heap[b]?=B.heap[b]?:=fun b y=>by rw[hV];exact setRow_other _ _ _ _ y
 have a0:V.heap.size=B.heap.size:=by rw[hV,size_setRow]
 have a9:V.heap[t]?=some (.cells #[.slice D (p.types++q.types).length I,.slice E (p.decls++q.decls).length J,.slice F (p.comps++q.comps).length L,.slice G (p.inits++q.inits).length M,.slice H (p.clauses++q.clauses).length N] 28 (0,0)):=by rw[hV];exact setRow_heap _ _ _ _ _ _ a2
 have M0:=(((L0.mono Qbe (S':=fun b=>(S b∨w.heap.size<=b)/\b≠t) (fun b a h=>by have:=a1.2;rcases h with h|h;exact⟨.inl h.1,by have:=h.2;omega⟩;exact⟨.inr (by omega),by omega⟩)).same Qbe (G0.size) (fun b _ a=>G0.block b a)).same Qbe (by rw[a0];exact Nat.le_refl _) (fun b y a=>C b y.2));have M1:=(((L1.mono Qav (S':=fun b=>(S b∨w.heap.size<=b)/\b≠t) (fun b a h=>by have:=a1.2;have:=zs.1;rcases h with h|h;exact⟨.inl h.1,by have:=h.2;omega⟩;exact⟨.inr (by omega),by omega⟩)).same Qav (G1.size) (fun b _ a=>G1.block b a)).same Qav (by rw[a0];exact Nat.le_refl _) (fun b y a=>C b y.2));have M2:=(((L2.mono Qbj (S':=fun b=>(S b∨w.heap.size<=b)/\b≠t) (fun b a h=>by have:=a1.2;have:=zs.2.1;rcases h with h|h;exact⟨.inl h.1,by have:=h.2;omega⟩;exact⟨.inr (by omega),by omega⟩)).same Qbj (G2.size) (fun b _ a=>G2.block b a)).same Qbj (by rw[a0];exact Nat.le_refl _) (fun b y a=>C b y.2));have M3:=(((L3.mono Qbg (S':=fun b=>(S b∨w.heap.size<=b)/\b≠t) (fun b a h=>by have:=a1.2;have:=zs.2.2.1;rcases h with h|h;exact⟨.inl h.1,by have:=h.2;omega⟩;exact⟨.inr (by omega),by omega⟩)).same Qbg (G3.size) (fun b _ a=>G3.block b a)).same Qbg (by rw[a0];exact Nat.le_refl _) (fun b y a=>C b y.2));have M4:=(((L4.mono Qaw (S':=fun b=>(S b∨w.heap.size<=b)/\b≠t) (fun b a h=>by have:=a1.2;have:=zs.2.2.2.1;rcases h with h|h;exact⟨.inl h.1,by have:=h.2;omega⟩;exact⟨.inr (by omega),by omega⟩)).same Qaw (Nat.le_refl _) (fun b _ a=>rfl)).same Qaw (by rw[a0];exact Nat.le_refl _) (fun b y a=>C b y.2));have bV:Below w.heap.size w V:=by
  rw[hV];exact⟨D4.os,D4.tape,D4.output,by rw[size_setRow];exact D4.size,fun b hb=>by rw[setRow_other _ _ _ _ (by omega)];exact D4.block b hb⟩
 have HR:=hide (Ya a9 (Ya bV (Qji (S:=fun b=>(S b∨w.heap.size<=b)/\b≠t) M0 M1 M2 M3 M4)));have aw:=hide (show V.heap[u]?=some (.cells #[.slice x0a x0n x0c,.slice x1a x1n x1c,.slice x2a x2n x2c,.slice x3a x3n x3c,.slice x4a x4n x4c] 28 (0,0))/\V.heap[A]?=some (.cells #[.slice y0a y0n y0c,.slice y1a y1n y1c,.slice y2a y2n y2c,.slice y3a y3n y3c,.slice y4a y4n y4c] 28 (0,0)) from ⟨(C u (by omega)).trans ((E4.block _ (Qaa na)).trans na),(C A (by omega)).trans ((E4.block _ (Qaa nb)).trans nb)⟩);have HV:=hide hV;have HN:=hide a2;have HW:=hide hW;clear hV C a0 a9 bV M0 M1 M2 M3 M4 a2 hW na nb nc O P V0 X F0 c0 C0 L0 h0 g0 af ap ak aa Q V1 Y F1 c1 C1 L1 h1 g1 ag aq al ab R V2 Z F2 c2 C2 L2 h2 g2 ah ar am ac U V3 E3 F3 c3 C3 L3 h3 g3 ai au an ad D4 V4 E4 F4 c4 C4 L4 h4 g4 aj av ao ae G0 G1 G2 G3 fp fq zs;go_enter Tryz.func109,Tryz.ntmps109;go_wp2_with fail;rw[show u+1=A by omega];refine Qaz (md:=[(0,true),(1,true),(3,true),(4,true),(6,true),(7,true),(9,true),(10,true),(12,true),(13,true),(15,true),(16,true),(18,true),(19,true),(21,true),(22,true),(24,true),(25,true),(27,true),(28,true),(2,false),(5,false),(8,false),(11,false),(14,false),(17,false),(20,false),(23,false),(26,false),(29,false),(30,true),(31,false)]) (fun w'=>w'.heap[u]?=some (.cells #[.slice x0a x0n x0c,.slice x1a x1n x1c,.slice x2a x2n x2c,.slice x3a x3n x3c,.slice x4a x4n x4c] 28 (0,0))/\w'.heap[A]?=some (.cells #[.slice y0a y0n y0c,.slice y1a y1n y1c,.slice y2a y2n y2c,.slice y3a y3n y3c,.slice y4a y4n y4c] 28 (0,0))) mixedO (by kernel_rfl) rfl (by kernel_rfl) (fun PP a8=>?_);rw[<- Qa HW];refine Qac rfl (by kernel_rfl) (fun w' hw=>by obtain⟨d,e,f,g,i,r⟩:=cl5 hw.1;obtain⟨j,l,m,n,o,s⟩:=cl5 hw.2;go_simp<;>rfl) ?_
 refine Qac rfl (by kernel_rfl) (fun w' hw=>by obtain⟨d,e,f,g,i,r⟩:=cl5 hw.1;obtain⟨j,l,m,n,o,s⟩:=cl5 hw.2;go_simp<;>rfl) ?_;refine Qac rfl (by kernel_rfl) (fun w' hw=>by obtain⟨d,e,f,g,i,r⟩:=cl5 hw.1;obtain⟨j,l,m,n,o,s⟩:=cl5 hw.2;go_simp<;>rfl) ?_;refine Qac rfl (by kernel_rfl) (fun w' hw=>by obtain⟨d,e,f,g,i,r⟩:=cl5 hw.1;obtain⟨j,l,m,n,o,s⟩:=cl5 hw.2;go_simp<;>rfl) ?_;refine Qac rfl (by kernel_rfl) (fun w' hw=>by obtain⟨d,e,f,g,i,r⟩:=cl5 hw.1;obtain⟨j,l,m,n,o,s⟩:=cl5 hw.2;go_simp<;>rfl) ?_;refine Qac rfl (by kernel_rfl) (fun w' hw=>by obtain⟨d,e,f,g,i,r⟩:=cl5 hw.1;obtain⟨j,l,m,n,o,s⟩:=cl5 hw.2;go_simp<;>rfl) ?_;refine Qac rfl (by kernel_rfl) (fun w' hw=>by obtain⟨d,e,f,g,i,r⟩:=cl5 hw.1;obtain⟨j,l,m,n,o,s⟩:=cl5 hw.2;go_simp<;>rfl) ?_;refine Qac rfl (by kernel_rfl) (fun w' hw=>by obtain⟨d,e,f,g,i,r⟩:=cl5 hw.1;obtain⟨j,l,m,n,o,s⟩:=cl5 hw.2;go_simp<;>rfl) ?_;refine Qac rfl (by kernel_rfl) (fun w' hw=>by obtain⟨d,e,f,g,i,r⟩:=cl5 hw.1;obtain⟨j,l,m,n,o,s⟩:=cl5 hw.2;go_simp<;>rfl) ?_;refine Qac rfl (by kernel_rfl) (fun w' hw=>by obtain⟨d,e,f,g,i,r⟩:=cl5 hw.1;obtain⟨j,l,m,n,o,s⟩:=cl5 hw.2;go_simp<;>rfl) ?_;refine Qac rfl (by kernel_rfl) (fun w' hw=>by obtain⟨d,e,f,g,i,r⟩:=cl5 hw.1;obtain⟨j,l,m,n,o,s⟩:=cl5 hw.2;go_simp<;>rfl) ?_;refine Qac rfl (by kernel_rfl) (fun w' hw=>by obtain⟨d,e,f,g,i,r⟩:=cl5 hw.1;obtain⟨j,l,m,n,o,s⟩:=cl5 hw.2;go_simp<;>rfl) ?_;refine Qac rfl (by kernel_rfl) (fun w' hw=>by obtain⟨d,e,f,g,i,r⟩:=cl5 hw.1;obtain⟨j,l,m,n,o,s⟩:=cl5 hw.2;go_simp<;>rfl) ?_;refine Qac rfl (by kernel_rfl) (fun w' hw=>by obtain⟨d,e,f,g,i,r⟩:=cl5 hw.1;obtain⟨j,l,m,n,o,s⟩:=cl5 hw.2;go_simp<;>rfl) ?_;refine Qac rfl (by kernel_rfl) (fun w' hw=>by obtain⟨d,e,f,g,i,r⟩:=cl5 hw.1;obtain⟨j,l,m,n,o,s⟩:=cl5 hw.2;go_simp<;>rfl) ?_
 refine Qac rfl (by kernel_rfl) (fun w' hw=>by obtain⟨d,e,f,g,i,r⟩:=cl5 hw.1;obtain⟨j,l,m,n,o,s⟩:=cl5 hw.2;go_simp<;>rfl) ?_;refine Qac rfl (by kernel_rfl) (fun w' hw=>by obtain⟨d,e,f,g,i,r⟩:=cl5 hw.1;obtain⟨j,l,m,n,o,s⟩:=cl5 hw.2;go_simp<;>rfl) ?_;refine Qac rfl (by kernel_rfl) (fun w' hw=>by obtain⟨d,e,f,g,i,r⟩:=cl5 hw.1;obtain⟨j,l,m,n,o,s⟩:=cl5 hw.2;go_simp<;>rfl) ?_;refine Qac rfl (by kernel_rfl) (fun w' hw=>by obtain⟨d,e,f,g,i,r⟩:=cl5 hw.1;obtain⟨j,l,m,n,o,s⟩:=cl5 hw.2;go_simp<;>rfl) ?_;refine Qac rfl (by kernel_rfl) (fun w' hw=>by obtain⟨d,e,f,g,i,r⟩:=cl5 hw.1;obtain⟨j,l,m,n,o,s⟩:=cl5 hw.2;go_simp<;>rfl) ?_;refine Qak rfl (Qa x _ (Below.refl W.heap.size W)) (fun K c=>?_);refine Qai rfl _ _ 22 rfl (Jn) (.slice x0a x0n x0c) (by kernel_rfl) (by kernel_rfl) r0 ?_;refine c _ _ ?_;clear c K r0;refine Qak rfl (Qa x _ (Qa a3).1) (fun K c=>?_);refine Qai rfl _ _ 22 rfl u0 (.slice y0a y0n y0c) (by kernel_rfl) (by kernel_rfl) R0 ?_;refine c _ _ ?_;clear c K R0;refine Qak rfl (Qa x _ ((Qa a3).2)) (fun K c=>?_);refine Qai rfl _ _ 23 rfl (Jn) (.slice x1a x1n x1c) (by kernel_rfl) (by kernel_rfl) r1 ?_;refine c _ _ ?_;clear c K r1;refine Qak rfl (Qa x _ (Qa a4).1) (fun K c=>?_);refine Qai rfl _ _ 23 rfl u1 (.slice y1a y1n y1c) (by kernel_rfl) (by kernel_rfl) R1 ?_;refine c _ _ ?_;clear c K R1;refine Qak rfl (Qa x _ ((Qa a4).2)) (fun K c=>?_);refine Qai rfl _ _ 24 rfl (Jn) (.slice x2a x2n x2c) (by kernel_rfl) (by kernel_rfl) r2 ?_;refine c _ _ ?_;clear c K r2;refine Qak rfl (Qa x _ (Qa a5).1) (fun K c=>?_);refine Qai rfl _ _ 24 rfl u2 (.slice y2a y2n y2c) (by kernel_rfl) (by kernel_rfl) R2 ?_;refine c _ _ ?_;clear c K R2;refine Qak rfl (Qa x _ ((Qa a5).2)) (fun K c=>?_);refine Qai rfl _ _ 25 rfl (Jn) (.slice x3a x3n x3c) (by kernel_rfl) (by kernel_rfl) r3 ?_;refine c _ _ ?_
 clear c K r3;refine Qak rfl (Qa x _ (Qa a6).1) (fun K c=>?_);refine Qai rfl _ _ 25 rfl u3 (.slice y3a y3n y3c) (by kernel_rfl) (by kernel_rfl) R3 ?_;refine c _ _ ?_;clear c K R3;refine Qak rfl (Qa x _ ((Qa a6).2)) (fun K c=>?_);refine Qai rfl _ _ 26 rfl (Jn) (.slice x4a x4n x4c) (by kernel_rfl) (by kernel_rfl) r4 ?_;refine c _ _ ?_;clear c K r4;refine Qak rfl (Qa x _ (Qa a7).1) (fun K c=>?_);refine Qai rfl _ _ 26 rfl u4 (.slice y4a y4n y4c) (by kernel_rfl) (by kernel_rfl) R4 ?_;refine c _ _ ?_;clear c K R4;refine Qac (v:=.agg #[.slice D (p.types++q.types).length I,.slice E (p.decls++q.decls).length J,.slice F (p.comps++q.comps).length L,.slice G (p.inits++q.inits).length M,.slice H (p.clauses++q.clauses).length N]) rfl (by kernel_rfl) (fun w' hw=>?_) ?_
 ·(go_simp<;>rfl)
 refine Qij (b:={ tmps:=#[.agg #[.slice x0a x0n x0c,.slice x1a x1n x1c,.slice x2a x2n x2c,.slice x3a x3n x3c,.slice x4a x4n x4c],.agg #[.slice y0a y0n y0c,.slice y1a y1n y1c,.slice y2a y2n y2c,.slice y3a y3n y3c,.slice y4a y4n y4c],.pointer (Js u),.pointer (Js A),.pointer (Js t),.pointer (Js u),.slice x0a x0n x0c,u0,.pointer (Js A),.slice y0a y0n y0c,.slice D (p.types++q.types).length I,.pointer (some (Ja u 1)),.slice x1a x1n x1c,u1,.pointer (some (Ja A 1)),.slice y1a y1n y1c,.slice E (p.decls++q.decls).length J,.pointer (some (Ja u 2)),.slice x2a x2n x2c,u2,.pointer (some (Ja A 2)),.slice y2a y2n y2c,.slice F (p.comps++q.comps).length L,.pointer (some (Ja u 3)),.slice x3a x3n x3c,u3,.pointer (some (Ja A 3)),.slice y3a y3n y3c,.slice G (p.inits++q.inits).length M,.pointer (some (Ja u 4)),.slice x4a x4n x4c,u4,.pointer (some (Ja A 4)),.slice y4a y4n y4c,.slice H (p.clauses++q.clauses).length N,.agg #[.slice D (p.types++q.types).length I,.slice E (p.decls++q.decls).length J,.slice F (p.comps++q.comps).length L,.slice G (p.inits++q.inits).length M,.slice H (p.clauses++q.clauses).length N]],defers:=[] }) (by kernel_rfl) ?_;refine Qak rfl (Qa x _ (Qa a7).2) (fun K c=>?_);refine Qd rfl _ _ _ rfl t _ _ #[.slice D (p.types++q.types).length I,.slice E (p.decls++q.decls).length J,.slice F (p.comps++q.comps).length L,.slice G (p.inits++q.inits).length M,.slice H (p.clauses++q.clauses).length N] (by kernel_rfl) (by kernel_rfl) (Qa HN) size_pg rfl (by simp[Value.oneCell']) ?_;refine c _ _ ?_;clear c K;rw[<- Qa HV];refine Qbc (Qa aw) (a8 _ _ ?_);clear a8 PP;simp[Act.put];obtain⟨aF,aG,aH,aI,aJ,zf⟩:=cl5 (Qa HR).1;go_wp2_with fail
 refine bodyPost_ret (v:=.agg #[.slice D (p.types++q.types).length I,.slice E (p.decls++q.decls).length J,.slice F (p.comps++q.comps).length L,.slice G (p.inits++q.inits).length M,.slice H (p.clauses++q.clauses).length N]) (by simp[results,Tryz.results109,go_sem,aF,aG,aH,aI,aJ]) rfl ?_;exact⟨_,rfl,⟨_,_,_,_,_,_,_,_,_,_,_,_,_,_,_,rfl,Qal.mono _ _ _ _ _ (Qa HR).2.2 (fun _ _ h=>h.1)⟩,(Qa HR).2.1⟩
theorem Qpx{S:Nat->Prop}{w:World}{sl:Value}{xs:List Txt}(h:LsAt PSt 1 S w sl xs):∃a cap,sl = .slice a xs.length cap/\xs.length<=cap/\cap<=9223372036854775807 /\ ∀i s,xs[i]?=some s -> ∃g,a=some (Ja g 0)/\w.cell? (Ja g i)=some (str s):=by
 have f:=h;obtain⟨a,cap,r,rfl,j,l,_,_⟩:=f;refine⟨a,cap,rfl,j,l,fun i s o=>?_⟩;obtain⟨b,q,d,e,_,_,_,n,m⟩:=h.elem o;simp only[Value.slice.injEq]at e;refine⟨b,e.1,?_⟩;have c:d=[str s]:=n;have:=m 0 (str s) (by rw[c];rfl);rw[Nat.mul_one,Nat.add_zero]at this;exact this
theorem Qja{S:Nat->Prop}{w:World}{sl:Value}{xs:List Txt}(h:LsAt PSt 1 S w sl xs)(t:Txt):
  Calls Tryz.prog 25 #[sl,str t] w fun en w'=>(∃b,en = .returned (.bool b))/\w'=w:=by
 obtain⟨a,cap,rfl,l,o,c⟩:=Qpx h;obtain⟨n,d⟩:=JF xs.length;rw[d]at l ⊢;have j:=hide (Ya c d);clear h c d;go_enter Tryz.func25,Tryz.ntmps25;go_wp2_with fail;go_loopw [5] (fun v wr=>∃i:Nat,v = Ji (i:Int)/\i<=n/\wr=w) (fun v _=>n - (intOf v).toNat)
 case atStart=>exact⟨0,rfl,Nat.zero_le _,rfl⟩
 obtain⟨i,rfl,q,rfl⟩:=hrel;by_cases m:i<n
 ·
  obtain⟨c,d⟩:=Qa j;obtain⟨s,e⟩:∃s,xs[i]?=some s:=⟨xs[i]'(by omega),List.getElem?_eq_getElem _⟩;obtain⟨g,rfl,u⟩:=c i s e;obtain⟨z,r⟩:=JF ((s==t));clear c d e;cases z
  ·
   go_wp2_with fail;go_roundw
   case rel=>exact⟨i+1,by congr 1,by omega,trivial⟩
   case measure=>simp[intOf];omega
  go_wp2_with fail;go_ret;exact⟨⟨_,rfl⟩,rfl⟩
 have f:i=n:=by omega
 subst f;go_wp2_with fail;go_ret;exact⟨⟨_,rfl⟩,rfl⟩
theorem Qqz(s:ByteArray)(i:Nat):(Value.string (s.extract 0 i))=str (s.data.toList.take i):=by
 have e:(s.extract 0 i)=⟨(s.data.toList.take i).toArray⟩:=by
  apply ByteArray.ext;apply Array.toList_inj.1;simp
 rw[e]
theorem Qp{w:World}(s:ByteArray)(hs:s.size<=9223372036854775807):
  Calls Tryz.prog 111 #[.string s] w fun en w'=>(∃r:Txt,en = .returned (str r))/\w'=w:=by
 go_enter Tryz.func111,Tryz.ntmps111;go_wp2_with fail;go_loopw [3] (fun v wr=>∃i:Nat,v = Ji (i:Int)/\i<=s.size/\wr=w) (fun v _=>s.size - (intOf v).toNat)
 case atStart=>exact⟨0,rfl,Nat.zero_le _,rfl⟩
 obtain⟨i,rfl,b,rfl⟩:=hrel;by_cases a:i<s.size
 ·
  go_wp2_with fail
  ·
   go_ret;exact⟨⟨_,by rw[Qqz];rfl⟩,rfl⟩
  go_roundw
  case rel=>exact⟨i+1,by congr 1,by omega,trivial⟩
  case measure=>simp[intOf];omega
 go_wp2_with fail;go_ret;exact⟨⟨s.data.toList,rfl⟩,rfl⟩
end
section
mutual

def exQ:Ex->Nat
 | .mk _ _ _ ks _=>exQs ks+1
def exQs:List Ex->Nat
 | []=>0
 |x :: xs=>exQ x+exQs xs
end
theorem Qfm:∀xs ys:List Ex,exQs (xs++ys)=exQs xs+exQs ys
 | [],ys=>by rw[List.nil_append,exQs];omega
 |x :: xs,ys=>by rw[List.cons_append,exQs,exQs,Qfm xs ys];omega
theorem Qhr(x:Ex):exQs [x]=exQ x:=by rw[exQs,exQs];omega

def lngQ(s:Txt):Nat:=s.length - 65536
theorem Qpp{s:Txt}(h:s.length<=65536):lngQ s=0:=by unfold lngQ;omega

def ltQ(y:Lt):Nat:=exQs y.atom.args+1+lngQ y.atom.rel
def ltQs:List Lt->Nat
 | []=>0
 |y :: ys=>ltQ y+ltQs ys
theorem Qfw:∀xs ys:List Lt,ltQs (xs++ys)=ltQs xs+ltQs ys
 | [],ys=>by rw[List.nil_append,ltQs];omega
 |x :: xs,ys=>by rw[List.cons_append,ltQs,ltQs,Qfw xs ys];omega
theorem Qsn(x:Lt):ltQs [x]=ltQ x:=by rw[ltQs,ltQs];omega

def ltB(y:Lt):Nat:=exQs y.atom.args+1
def ltBs:List Lt->Nat
 | []=>0
 |y :: ys=>ltB y+ltBs ys
theorem Qea:∀xs ys:List Lt,ltBs (xs++ys)=ltBs xs+ltBs ys
 | [],ys=>by rw[List.nil_append,ltBs];omega
 |x :: xs,ys=>by rw[List.cons_append,ltBs,ltBs,Qea xs ys];omega
theorem Qm(x:Lt):ltBs [x]=ltB x:=by rw[ltBs,ltBs];omega
theorem Qkr:∀xs:List Lt,ltBs xs<=ltQs xs
 | []=>Nat.zero_le _
 |x :: xs=>by
  rw[ltBs,ltQs,ltB,ltQ];have:=Qkr xs;omega
end
end Go.Proofs.YtkhndlnadhggkaaGreat
