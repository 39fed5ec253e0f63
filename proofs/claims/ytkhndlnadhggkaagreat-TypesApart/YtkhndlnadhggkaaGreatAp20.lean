/- The document's Whole. -/
import Derived.Test.YtkhndlnadhggkaaGreatAp01
import Derived.Test.YtkhndlnadhggkaaGreatAp19
set_option maxRecDepth 100000
set_option maxHeartbeats 32000000
namespace Go.Proofs.YtkhndlnadhggkaaGreat
section
open Go.RowKit Go.Maps
section
variable {S0:Nat->Prop}{B n:Nat}{p:Pg}{p0:Option Addr}{m0 o0:Nat}{p1:Option Addr}{m1 o1:Nat}{p2:Option Addr}{m2 o2:Nat}{p3:Option Addr}{m3 o3:Nat}{p4:Option Addr}{m4 o4:Nat}
theorem Qrq(hfp:Few p 97)(hwf:WfZ n p):∀D,WhC S0 B n D p p0 m0 o0 p1 m1 o1 p2 m2 o2 p3 m3 o3 p4 m4 o4:=fun D=>by
 induction D using Nat.strongRecOn with
 |_ D ih=>exact Qtl hfp hwf D ih
theorem Qof{w:World}(hfp:Few p 97)(hwf:WfZ n p)(hP:PgS (fun b=>S0 b/\b<B) w [.slice p0 m0 o0,.slice p1 m1 o1,.slice p2 m2 o2,.slice p3 m3 o3,.slice p4 m4 o4] p)(hB:B<=w.heap.size)(name:Txt):
  Calls Tryz.prog 67 #[.agg #[.slice p0 m0 o0,.slice p1 m1 o1,.slice p2 m2 o2,.slice p3 m3 o3,.slice p4 m4 o4],str name] w fun en w'=>∃v q e,en = .returned (.tuple #[v,Ji e])/\VPg (fun b=>(S0 b/\b<B)∨w.heap.size<=b) w' v q/\(e≠0->q = .none)/\Few q 97/\WfZ n q/\Below w.heap.size w w':=by
 obtain⟨w2,I,C,Z,nz,s2⟩:=new2 w #[.slice p0 m0 o0,.slice p1 m1 o1,.slice p2 m2 o2,.slice p3 m3 o3,.slice p4 m4 o4] #[Jn,Jn,Jn,Jn,Jn] 28 28;obtain⟨z,h⟩:=JE (w2.alloc (.cells #[Ji 0] 3));have x:=bnw h;have E:=nnw h;have J:=(x.block _ (by omega)).trans Z;have i:=(x.block _ (by omega)).trans nz;have a:Below w.heap.size w z:=C.trans (x.mono C.size);obtain⟨Y,g⟩:=JF w2.heap.size;rw[g]at E;have G:=Qrq (B:=B) (n:=n) hfp hwf 97 z name (Jn) [] Y 0 (by omega) (by omega) (Qal.same _ w z _ _ hP a.size (fun q _ hl=>a.block q hl)) (by omega) E (LsAt.nil _ _) (Nat.le_refl _);obtain⟨ab,ac,ad,ae,af,xf⟩:=cl5 J;have r:z.heap.size=w.heap.size+3:=by rw[h];simp;omega
 have t:=hide (Ya I (Ya h g));have K:=hide (Ya a (Ya i (Ya r (show Y=w.heap.size+2 by omega))));clear I C Z nz s2 h x E J i a g r hP hfp hwf;go_enter Tryz.func67,Tryz.ntmps67;go_upto_region 1 with fail;rw[<- (Qa t).1];go_upto_region 2 with fail;rw[<- (Qa t).2.1,(Qa t).2.2];go_wp2_with fail;refine G.mono ?_;clear G ab ac ad ae af xf;rintro en w5⟨v5,q5,e,k5,rfl,⟨r0,L,Q,r1,M,S,r2,N,T,r3,O,U,r4,P,X,rfl,H⟩,o,k,s,a4,a3,a2,d⟩;obtain⟨a,i,r,g⟩:=Qa K;have A:=d.keep i (by omega);have a5:=d.size;obtain⟨W9,F,c⟩:=sc5 A (.slice r0 L Q) (.slice r1 M S) (.slice r2 N T) (.slice r3 O U) (.slice r4 P X);have j:Below w.heap.size w W9:=⟨c.os.trans (d.os.trans a.os),c.tape.trans (d.tape.trans a.tape),c.output.trans (d.output.trans a.output),by rw[c.size];omega,fun q D=>(c.oth q (by omega)).trans ((d.block q (by omega) (by omega)).trans (a.block q D))⟩;have l:=Qal.mono _ (fun b=>(S0 b/\b<B)∨w.heap.size<=b) _ _ _ (Qal.same _ w5 W9 _ _ H (by rw[c.size];exact Nat.le_refl _) (fun q D _=>c.oth q (by rcases D with e|e<;>omega))) (fun b _ hb=>by rcases hb with e|e;exact .inl e;exact .inr (by omega));have HE:=hide (Ya l (Ya o (Ya k (Ya s j))));have a0:=hide c.box;have a1:=hide F;obtain⟨ag,ah,ai,aj,ak,zf⟩:=cl5 A;clear a i r g A a5 F c j l H o k s a4 a3 a2 d K t;go_wp2_with fail;rw[<- Qa a1];obtain⟨a6,a7,a8,a9,aa,vf⟩:=cl5 (Qa a0);refine bodyPost_ret (v:=.tuple #[.agg #[.slice r0 L Q,.slice r1 M S,.slice r2 N T,.slice r3 O U,.slice r4 P X],Ji e]) (by simp[results,Tryz.results67,go_sem,a6,a7,a8,a9,aa]) rfl ?_;obtain⟨l,o,k,s,j⟩:=Qa HE;exact⟨_,q5,e,rfl,⟨_,_,_,_,_,_,_,_,_,_,_,_,_,_,_,rfl,l⟩,o,k,s,j⟩
end
structure OwL(n1:Nat)(V W:World)(sl:Value)(acc:List Txt):Prop where
 b:Below n1 V W
 row:Row PSt 1 9 n1 (fun _=>False) W sl acc
 l:n1<=V.heap.size
section
variable {n1:Nat}{V W:World}{sl:Value}{acc:List Txt}
theorem OwL.nil(h:n1<=V.heap.size):OwL n1 V V (Jn) []:=⟨Below.refl _ _,Row.nil _ _,h⟩
theorem OwL.more(h:OwL n1 V W sl acc)(hf:acc.length<=1000000)(t:Txt):
  ∃g c w8,(Builtin.append_ #[51,51] 51 #[sl,.slice (Js W.heap.size) 1 1]).run Tryz.prog (W.alloc (.cells #[str t] 9)) = .ok (.slice (Js g) (acc.length+1) c) w8/\acc.length+1<=c/\c<=maxLen/\OwL n1 V w8 (.slice (Js g) (acc.length+1) c) (acc++[t]):=by
 obtain⟨C,r,A,j,i⟩:=infoS;obtain⟨g,c,w8,w,a,k,o,d⟩:=h.row.more (x:=t) (cs:=[str t]) Qao (by kernel_rfl:Tryz.prog.underlying 51=some (.slice 9)) r A j i rfl (by decide) (by decide) (fun b z=>z.elim) rfl (by simp[Value.oneCell',str]) rfl (Nat.le_trans h.l h.b.size) hf;exact⟨g,c,w8,w,k,o,⟨a.os.trans h.b.os,a.tape.trans h.b.tape,a.output.trans h.b.output,Nat.le_trans h.b.size a.size,fun q s=>(a.block q (by have:=h.b.size;have:=h.l;omega) (fun e=>by have:=(h.row.lt q e).1;omega)).trans (h.b.block q s)⟩,d,h.l⟩
theorem OwL.ls(h:OwL n1 V W sl acc):LsAt PSt 1 (fun b=>n1<=b) W sl acc:=by
 obtain⟨g,c,a⟩:=h.row;exact(Qhy Qao c a).mono Qao (fun b _ d=>d.elim (fun e=>e.elim) id)
end
def InA(R:Nat->Prop)(wb:Nat)(p0:Option Addr)(m0 o0:Nat)(p1:Option Addr)(m1 o1:Nat)(p2:Option Addr)(m2 o2:Nat)(p3:Option Addr)(m3 o3:Nat)(p4:Option Addr)(m4 o4:Nat)(p:Pg)(tv:Value)(Bd:Nat->Prop)(w:World)(dv cv:Value)(y:Int)(m:Nat)(en:Ending)(w':World):Prop:=
 ∃dv' cv' ds' cs' y' f' m',en = .returned (.tuple #[])/\Fl (fun b=>R b∨w.heap.size<=b) wb p0 m0 o0 p1 m1 o1 p2 m2 o2 p3 m3 o3 p4 m4 o4 p tv Bd w' dv' cv' ds' cs' y' f' m'/\FK wb dv cv dv' cv' w w'/\(y≠0->y'≠0)/\m<=m'/\m'<=97/\(y'=0->m'<=96)
def IsC(wb:Nat)(p0:Option Addr)(m0 o0:Nat)(p1:Option Addr)(m1 o1:Nat)(p2:Option Addr)(m2 o2:Nat)(p3:Option Addr)(m3 o3:Nat)(p4:Option Addr)(m4 o4:Nat)(p:Pg)(tv:Value)(Bd:Nat->Prop)(D:Nat):Prop:=∀(R Q:Nat->Prop) (w:World) (dv cv:Value) (ds:List Dcl) (cs:List Cls) (y f:Int) (m:Nat) (q:Pg) (b0:Option Addr) (a0 c0:Nat) (b1:Option Addr) (a1 c1:Nat) (b2:Option Addr) (a2 c2:Nat) (b3:Option Addr) (a3 c3:Nat) (b4:Option Addr) (a4 c4:Nat) (pre nm co:Txt) (at_:Int) (yv:Value) (way:List Txt),Fl R wb p0 m0 o0 p1 m1 o1 p2 m2 o2 p3 m3 o3 p4 m4 o4 p tv Bd w dv cv ds cs y f m->(∀b,Bd b/\b<wb->R b)->m<=96->97 - m<=D->PgS Q w [.slice b0 a0 c0,.slice b1 a1 c1,.slice b2 a2 c2,.slice b3 a3 c3,.slice b4 a4 c4] q->(∀b,Q b->b<w.heap.size->FS wb dv cv b/\R b)->Few q 97->WfZ 65537 q->pre.length<=65537*(m+1)->LsAt PSt 1 (FS wb dv cv) w yv way->way.length<=m+1 ->
 Calls Tryz.prog 68 #[.pointer (some ⟨wb,0,none⟩),.agg #[.slice b0 a0 c0,.slice b1 a1 c1,.slice b2 a2 c2,.slice b3 a3 c3,.slice b4 a4 c4],str pre,.agg #[str nm,str co,.int .i64 at_],yv] w fun en w'=>InA R wb p0 m0 o0 p1 m1 o1 p2 m2 o2 p3 m3 o3 p4 m4 o4 p tv Bd w dv cv y m en w'
def IcC(wb:Nat)(p0:Option Addr)(m0 o0:Nat)(p1:Option Addr)(m1 o1:Nat)(p2:Option Addr)(m2 o2:Nat)(p3:Option Addr)(m3 o3:Nat)(p4:Option Addr)(m4 o4:Nat)(p:Pg)(tv:Value)(Bd:Nat->Prop)(D:Nat):Prop:=∀(R Q:Nat->Prop) (w:World) (dv cv:Value) (ds:List Dcl) (cs:List Cls) (y f:Int) (m:Nat) (q:Pg) (b0:Option Addr) (a0 c0:Nat) (b1:Option Addr) (a1 c1:Nat) (b2:Option Addr) (a2 c2:Nat) (b3:Option Addr) (a3 c3:Nat) (b4:Option Addr) (a4 c4:Nat) (pre:Txt) (yv:Value) (way:List Txt),Fl R wb p0 m0 o0 p1 m1 o1 p2 m2 o2 p3 m3 o3 p4 m4 o4 p tv Bd w dv cv ds cs y f m->(∀b,Bd b/\b<wb->R b)->m<=97->(y=0->m<=96)->97 - m<=D->PgS Q w [.slice b0 a0 c0,.slice b1 a1 c1,.slice b2 a2 c2,.slice b3 a3 c3,.slice b4 a4 c4] q->(∀b,Q b->b<w.heap.size->FS wb dv cv b)->Few q 97->WfZ 65537 q->pre.length<=65537*m->LsAt PSt 1 (FS wb dv cv) w yv way->way.length<=m ->
 Calls Tryz.prog 27 #[.pointer (some ⟨wb,0,none⟩),.agg #[.slice b0 a0 c0,.slice b1 a1 c1,.slice b2 a2 c2,.slice b3 a3 c3,.slice b4 a4 c4],str pre,yv] w fun en w'=>InA R wb p0 m0 o0 p1 m1 o1 p2 m2 o2 p3 m3 o3 p4 m4 o4 p tv Bd w dv cv y m en w'
theorem Qmg{α : Type}{p:PS α}{k:Nat}{T:TypeId}(hp:PSok p)(hone:∀S w cs x,p S w cs x -> ∀c∈cs,c.oneCell'=true){ST:TypeId}{i0:TypeInfo}{z:Value}{by_:Nat}(ht:Tryz.prog.underlying ST=some (.slice T))(hi:Tryz.prog.info? T=some i0)(hz:i0.zero=some z)(hsz:i0.size=k)(hby:i0.bytes=by_)(hzc:z.cells.size=k)(hk:0<k)(hb6:by_<=1000)
  {wb:Nat}{w:World}{v:Value}{xs:List α}{S:Nat->Prop}(h:LsAt p k S w v xs)(hl:xs.length<=97)(hw:wb<w.heap.size):
  ∃u U,(Builtin.append_ #[ST,ST] ST #[Jn,v]).run Tryz.prog w = .ok u U/\Below w.heap.size w U/\Row p k T (wb+1) S U u xs /\ ∀b,some b=u.ownBlock->w.heap.size<=b/\b<U.heap.size:=by
 obtain⟨u,U,css,A,o1,d,a⟩:=Qed (ys:=xs) (css:=[]) (xs:=([]:List α)) (base:=w.heap.size) hp hone ht hi hz hsz hby hzc hk hb6 (v:=Jn) (World.ownsRow_nil _ _ _ _) ⟨rfl,fun j x cs t=>by simp at t⟩ h (fun b _=>by simp[Value.ownBlock]) (by simp) hl (Nat.le_refl _);rw[List.nil_append]at o1 d;have l:Below w.heap.size w U:=⟨a.os,a.tape,a.output,a.size,fun q s=>a.block q s (by simp[Value.ownBlock])⟩;refine⟨u,U,A,l,⟨css,⟨o1.1,?_⟩,d⟩,fun b e=>World.ownsRow.lt o1 b e.symm⟩;rcases o1.2 with e|⟨g,cap,i,o,C,r⟩
 ·exact .inl e
 ·exact .inr ⟨g,cap,i,o,by omega,r⟩
section
variable {R:Nat->Prop}{wb:Nat}{p0:Option Addr}{m0 o0:Nat}{p1:Option Addr}{m1 o1:Nat}{p2:Option Addr}{m2 o2:Nat}{p3:Option Addr}{m3 o3:Nat}{p4:Option Addr}{m4 o4:Nat}{p:Pg}{tv tv2:Value}{Bd:Nat->Prop}{W V W9:World}{u v:Value}{y f:Int}{m:Nat}
theorem fl_put(h:Fl R wb p0 m0 o0 p1 m1 o1 p2 m2 o2 p3 m3 o3 p4 m4 o4 p tv Bd W (Jn) (Jn) [] [] y f m)(hb:Below W.heap.size W V)(hu:Row PDc 5 63 (wb+1) (fun b=>Bd b/\b<wb) V u p.decls)(hv:Row PCl 5 45 (wb+1) (fun b=>Bd b/\b<wb) V v p.clauses)(hap:Apt u v)(hfp:Few p 97)(hsz:∀x∈p.clauses,ltBs x.body<=131074)
  (hs:W9.heap.size=V.heap.size)(ho:∀q,q≠wb->W9.heap[q]?=V.heap[q]?)(hbx:W9.heap[wb]?=some (.cells #[.slice p0 m0 o0,.slice p1 m1 o1,.slice p2 m2 o2,.slice p3 m3 o3,.slice p4 m4 o4,tv2,u,Jn,Jn,v,Ji y,Ji f,Ji (m:Int)] 80 (0,0))):
  Fl (fun b=>Bd b/\b<wb) wb p0 m0 o0 p1 m1 o1 p2 m2 o2 p3 m3 o3 p4 m4 o4 p tv2 Bd W9 u v p.decls p.clauses y f m:=by
 have d:=hu.lt;have g:=hv.lt;have i:∀b,(Bd b/\b<wb)->((Bd b/\b<wb)/\FS wb u v b):=fun b a=>⟨a,by omega,fun e=>by have:=(d b e).1;omega,fun e=>by have:=(g b e).1;omega⟩;have k:=Qal.same _ V W9 _ _ (Qal.same _ W V _ _ h.hp hb.size (fun q _ l=>hb.block q l)) (by omega) (fun q c _=>ho q (by have o:q<wb:=c.2;omega));refine⟨hbx,k,hu.mv Qav (by omega) (fun q _ c=>ho q (by rcases c with e|e;have j:q<wb:=e.2;omega;have:=(d q e).1;omega)) (fun b _ a=>i b a),hv.mv Qaw (by omega) (fun q _ c=>ho q (by rcases c with e|e;have j:q<wb:=e.2;omega;have:=(g q e).1;omega)) (fun b _ a=>i b a),hap,h.z,hfp.2.1,hfp.2.2.2.2,hsz⟩
end
end
end Go.Proofs.YtkhndlnadhggkaaGreat
