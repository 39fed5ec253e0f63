/- The document's Whole. -/
import Derived.Test.YtmfpbepifnedjaaGreatZz01
import Derived.Test.YtmfpbepifnedjaaGreatZz19
set_option maxRecDepth 100000
set_option maxHeartbeats 32000000
namespace Go.Proofs.YtmfpbepifnedjaaGreat
section
open Go.RowKit Go.Maps
section
variable {S0:Nat->Prop}{B n:Nat}{p:Pg}{p0:Option Addr}{m0 o0:Nat}{p1:Option Addr}{m1 o1:Nat}{p2:Option Addr}{m2 o2:Nat}{p3:Option Addr}{m3 o3:Nat}{p4:Option Addr}{m4 o4:Nat}
theorem Qro(hfp:Few p 97)(hwf:WfZ n p):∀D,WhC S0 B n D p p0 m0 o0 p1 m1 o1 p2 m2 o2 p3 m3 o3 p4 m4 o4:=fun D=>by
 induction D using Nat.strongRecOn with
 |_ D ih=>exact Qtk hfp hwf D ih
theorem Qof{w:World}(hfp:Few p 97)(hwf:WfZ n p)(hP:PgS (fun b=>S0 b/\b<B) w [.slice p0 m0 o0,.slice p1 m1 o1,.slice p2 m2 o2,.slice p3 m3 o3,.slice p4 m4 o4] p)(hB:B<=w.heap.size)(name:Txt):
  Calls Tryz.prog 67 #[.agg #[.slice p0 m0 o0,.slice p1 m1 o1,.slice p2 m2 o2,.slice p3 m3 o3,.slice p4 m4 o4],str name] w fun en w'=>∃v q e,en = .returned (.tuple #[v,Ji e])/\VPg (fun b=>(S0 b/\b<B)∨w.heap.size<=b) w' v q/\(e≠0->q = .none)/\Few q 97/\WfZ n q/\Below w.heap.size w w':=by
 obtain⟨w2,F,E,L,nz,s2⟩:=new2 w #[.slice p0 m0 o0,.slice p1 m1 o1,.slice p2 m2 o2,.slice p3 m3 o3,.slice p4 m4 o4] #[Jn,Jn,Jn,Jn,Jn] 28 28
 obtain⟨z,g⟩:=JE (w2.alloc (.cells #[Ji 0] 3))
 have x:=bnw g
 have C:=nnw g
 have J:=(x.block _ (by omega)).trans L
 have h:=(x.block _ (by omega)).trans nz
 have a:Below w.heap.size w z:=E.trans (x.mono E.size)
 obtain⟨P,i⟩:=JF w2.heap.size
 rw[i]at C
 have G:=Qro (B:=B) (n:=n) hfp hwf 97 z name (Jn) [] P 0 (by omega) (by omega) (Qak.same _ w z _ _ hP a.size (fun q _ hl=>a.block q hl)) (by omega) C (LsAt.nil _ _) (Nat.le_refl _)
 obtain⟨a7,a2,ac,a6,ad,xf⟩:=cl5 J
 have o:z.heap.size=w.heap.size+3:=by rw[g];simp;omega
 have t:=hide (Ya F (Ya g i))
 have HH:=hide (Ya a (Ya h (Ya o (show P=w.heap.size+2 by omega))))
 clear F E L nz s2 g x C J h a i o hP hfp hwf
 go_enter Tryz.func67,Tryz.ntmps67
 go_upto_region 1 with fail
 rw[<- (Qa t).1]
 go_upto_region 2 with fail
 rw[<- (Qa t).2.1,(Qa t).2.2]
 go_wp2_with fail
 refine G.mono ?_
 clear G a7 a2 ac a6 ad xf
 rintro en w5⟨v5,q5,e,k5,rfl,⟨r0,O,M,N,f1,Z,Y,S,K,r3,Q,X,T,U,g4,rfl,H⟩,r,j,k,a4,a8,a3,d⟩
 obtain⟨a,h,o,i⟩:=Qa HH
 have A:=d.keep h (by omega)
 have af:=d.size
 obtain⟨W9,I,c⟩:=sc5 A (.slice r0 O M) (.slice N f1 Z) (.slice Y S K) (.slice r3 Q X) (.slice T U g4)
 have l:Below w.heap.size w W9:=⟨c.os.trans (d.os.trans a.os),c.tape.trans (d.tape.trans a.tape),c.output.trans (d.output.trans a.output),by rw[c.size];omega,fun q D=>(c.oth q (by omega)).trans ((d.block q (by omega) (by omega)).trans (a.block q D))⟩
 have s:=Qak.mono _ (fun b=>(S0 b/\b<B)∨w.heap.size<=b) _ _ _ (Qak.same _ w5 W9 _ _ H (by rw[c.size];exact Nat.le_refl _) (fun q D _=>c.oth q (by rcases D with e|e<;>omega))) (fun b _ hb=>by rcases hb with e|e;exact .inl e;exact .inr (by omega))
 have HE:=hide (Ya s (Ya r (Ya j (Ya k l))))
 have ae:=hide c.box
 have a0:=hide I
 obtain⟨aj,ah,ag,ai,ak,zf⟩:=cl5 A
 clear a h o i A af I c l s H r j k a4 a8 a3 d HH t
 go_wp2_with fail
 rw[<- Qa a0]
 obtain⟨ab,a1,aa,a9,a5,vf⟩:=cl5 (Qa ae)
 refine bodyPost_ret (v:=.tuple #[.agg #[.slice r0 O M,.slice N f1 Z,.slice Y S K,.slice r3 Q X,.slice T U g4],Ji e]) (by simp[results,Tryz.results67,go_sem,ab,a1,aa,a9,a5]) rfl ?_
 obtain⟨s,r,j,k,l⟩:=Qa HE
 exact⟨_,q5,e,rfl,⟨_,_,_,_,_,_,_,_,_,_,_,_,_,_,_,rfl,s⟩,r,j,k,l⟩
end
structure OwL(n1:Nat)(V W:World)(sl:Value)(acc:List Txt):Prop where
 b:Below n1 V W
 row:Row PSt 1 9 n1 (fun _=>False) W sl acc
 l:n1<=V.heap.size
section
variable {n1:Nat}{V W:World}{sl:Value}{acc:List Txt}
theorem OwL.nil(h:n1<=V.heap.size):OwL n1 V V (Jn) []:=⟨Below.refl _ _,Row.nil _ _,h⟩
theorem OwL.more(h:OwL n1 V W sl acc)(hf:acc.length<=1000000)(t:Txt):
  ∃g c w8,(Builtin.append_ #[51,51] 51 #[sl,.slice (Js W.heap.size) 1 1]).run Tryz.prog (W.alloc (.cells #[str t] 9)) = .ok (.slice (Js g) (acc.length+1) c) w8/\acc.length+1<=c/\c<=maxLen/\OwL n1 V w8 (.slice (Js g) (acc.length+1) c) (acc++[t]):=by
 obtain⟨C,o,k,j,i⟩:=infoS
 obtain⟨g,c,w8,s,a,A,r,d⟩:=h.row.more (x:=t) (cs:=[str t]) Qam (by kernel_rfl:Tryz.prog.underlying 51=some (.slice 9)) o k j i rfl (by decide) (by decide) (fun b w=>w.elim) rfl (by simp[Value.oneCell',str]) rfl (Nat.le_trans h.l h.b.size) hf
 exact⟨g,c,w8,s,A,r,⟨a.os.trans h.b.os,a.tape.trans h.b.tape,a.output.trans h.b.output,Nat.le_trans h.b.size a.size,fun q z=>(a.block q (by have:=h.b.size;have:=h.l;omega) (fun e=>by have:=(h.row.lt q e).1;omega)).trans (h.b.block q z)⟩,d,h.l⟩
theorem OwL.ls(h:OwL n1 V W sl acc):LsAt PSt 1 (fun b=>n1<=b) W sl acc:=by
 obtain⟨g,a,c⟩:=h.row
 exact(Qid Qam a c).mono Qam (fun b _ d=>d.elim (fun e=>e.elim) id)
end
def InA(R:Nat->Prop)(wb:Nat)(p0:Option Addr)(m0 o0:Nat)(p1:Option Addr)(m1 o1:Nat)(p2:Option Addr)(m2 o2:Nat)(p3:Option Addr)(m3 o3:Nat)(p4:Option Addr)(m4 o4:Nat)(p:Pg)(tv:Value)(Bd:Nat->Prop)(w:World)(dv cv:Value)(y:Int)(m:Nat)(en:Ending)(w':World):Prop:=
 ∃dv' cv' ds' cs' y' f' m',en = .returned (.tuple #[])/\Fl (fun b=>R b∨w.heap.size<=b) wb p0 m0 o0 p1 m1 o1 p2 m2 o2 p3 m3 o3 p4 m4 o4 p tv Bd w' dv' cv' ds' cs' y' f' m'/\FK wb dv cv dv' cv' w w'/\(y≠0->y'≠0)/\m<=m'/\m'<=97/\(y'=0->m'<=96)
def IsC(wb:Nat)(p0:Option Addr)(m0 o0:Nat)(p1:Option Addr)(m1 o1:Nat)(p2:Option Addr)(m2 o2:Nat)(p3:Option Addr)(m3 o3:Nat)(p4:Option Addr)(m4 o4:Nat)(p:Pg)(tv:Value)(Bd:Nat->Prop)(D:Nat):Prop:=∀(R Q:Nat->Prop) (w:World) (dv cv:Value) (ds:List Dcl) (cs:List Cls) (y f:Int) (m:Nat) (q:Pg) (b0:Option Addr) (a0 c0:Nat) (b1:Option Addr) (a1 c1:Nat) (b2:Option Addr) (a2 c2:Nat) (b3:Option Addr) (a3 c3:Nat) (b4:Option Addr) (a4 c4:Nat) (pre nm co:Txt) (at_:Int) (yv:Value) (way:List Txt),Fl R wb p0 m0 o0 p1 m1 o1 p2 m2 o2 p3 m3 o3 p4 m4 o4 p tv Bd w dv cv ds cs y f m->(∀b,Bd b/\b<wb->R b)->m<=96->97 - m<=D->PgS Q w [.slice b0 a0 c0,.slice b1 a1 c1,.slice b2 a2 c2,.slice b3 a3 c3,.slice b4 a4 c4] q->(∀b,Q b->b<w.heap.size->FS wb dv cv b/\R b)->Few q 97->WfZ 65537 q->pre.length<=65537*(m+1)->LsAt PSt 1 (FS wb dv cv) w yv way->way.length<=m+1 ->
 Calls Tryz.prog 68 #[.pointer (some ⟨wb,0,none⟩),.agg #[.slice b0 a0 c0,.slice b1 a1 c1,.slice b2 a2 c2,.slice b3 a3 c3,.slice b4 a4 c4],str pre,.agg #[str nm,str co,.int .i64 at_],yv] w fun en w'=>InA R wb p0 m0 o0 p1 m1 o1 p2 m2 o2 p3 m3 o3 p4 m4 o4 p tv Bd w dv cv y m en w'
def IcC(wb:Nat)(p0:Option Addr)(m0 o0:Nat)(p1:Option Addr)(m1 o1:Nat)(p2:Option Addr)(m2 o2:Nat)(p3:Option Addr)(m3 o3:Nat)(p4:Option Addr)(m4 o4:Nat)(p:Pg)(tv:Value)(Bd:Nat->Prop)(D:Nat):Prop:=∀(R Q:Nat->Prop) (w:World) (dv cv:Value) (ds:List Dcl) (cs:List Cls) (y f:Int) (m:Nat) (q:Pg) (b0:Option Addr) (a0 c0:Nat) (b1:Option Addr) (a1 c1:Nat) (b2:Option Addr) (a2 c2:Nat) (b3:Option Addr) (a3 c3:Nat) (b4:Option Addr) (a4 c4:Nat) (pre:Txt) (yv:Value) (way:List Txt),Fl R wb p0 m0 o0 p1 m1 o1 p2 m2 o2 p3 m3 o3 p4 m4 o4 p tv Bd w dv cv ds cs y f m->(∀b,Bd b/\b<wb->R b)->m<=97->(y=0->m<=96)->97 - m<=D->PgS Q w [.slice b0 a0 c0,.slice b1 a1 c1,.slice b2 a2 c2,.slice b3 a3 c3,.slice b4 a4 c4] q->(∀b,Q b->b<w.heap.size->FS wb dv cv b)->Few q 97->WfZ 65537 q->pre.length<=65537*m->LsAt PSt 1 (FS wb dv cv) w yv way->way.length<=m ->
 Calls Tryz.prog 27 #[.pointer (some ⟨wb,0,none⟩),.agg #[.slice b0 a0 c0,.slice b1 a1 c1,.slice b2 a2 c2,.slice b3 a3 c3,.slice b4 a4 c4],str pre,yv] w fun en w'=>InA R wb p0 m0 o0 p1 m1 o1 p2 m2 o2 p3 m3 o3 p4 m4 o4 p tv Bd w dv cv y m en w'
theorem Qml{α : Type}{p:PS α}{k:Nat}{T:TypeId}(hp:PSok p)(hone:∀S w cs x,p S w cs x -> ∀c∈cs,c.oneCell'=true){ST:TypeId}{i0:TypeInfo}{z:Value}{by_:Nat}(ht:Tryz.prog.underlying ST=some (.slice T))(hi:Tryz.prog.info? T=some i0)(hz:i0.zero=some z)(hsz:i0.size=k)(hby:i0.bytes=by_)(hzc:z.cells.size=k)(hk:0<k)(hb6:by_<=1000)
  {wb:Nat}{w:World}{v:Value}{xs:List α}{S:Nat->Prop}(h:LsAt p k S w v xs)(hl:xs.length<=97)(hw:wb<w.heap.size):
  ∃u U,(Builtin.append_ #[ST,ST] ST #[Jn,v]).run Tryz.prog w = .ok u U/\Below w.heap.size w U/\Row p k T (wb+1) S U u xs /\ ∀b,some b=u.ownBlock->w.heap.size<=b/\b<U.heap.size:=by
 obtain⟨u,U,css,r,o1,d,a⟩:=Qei (ys:=xs) (css:=[]) (xs:=([]:List α)) (base:=w.heap.size) hp hone ht hi hz hsz hby hzc hk hb6 (v:=Jn) (World.ownsRow_nil _ _ _ _) ⟨rfl,fun j x cs l=>by simp at l⟩ h (fun b _=>by simp[Value.ownBlock]) (by simp) hl (Nat.le_refl _)
 rw[List.nil_append]at o1 d
 have s:Below w.heap.size w U:=⟨a.os,a.tape,a.output,a.size,fun q t=>a.block q t (by simp[Value.ownBlock])⟩
 refine⟨u,U,r,s,⟨css,⟨o1.1,?_⟩,d⟩,fun b e=>World.ownsRow.lt o1 b e.symm⟩
 rcases o1.2 with e|⟨g,cap,i,A,C,o⟩
 ·exact .inl e
 ·exact .inr ⟨g,cap,i,A,by omega,o⟩
section
variable {R:Nat->Prop}{wb:Nat}{p0:Option Addr}{m0 o0:Nat}{p1:Option Addr}{m1 o1:Nat}{p2:Option Addr}{m2 o2:Nat}{p3:Option Addr}{m3 o3:Nat}{p4:Option Addr}{m4 o4:Nat}{p:Pg}{tv tv2:Value}{Bd:Nat->Prop}{W V W9:World}{u v:Value}{y f:Int}{m:Nat}
theorem fl_put(h:Fl R wb p0 m0 o0 p1 m1 o1 p2 m2 o2 p3 m3 o3 p4 m4 o4 p tv Bd W (Jn) (Jn) [] [] y f m)(hb:Below W.heap.size W V)(hu:Row PDc 5 63 (wb+1) (fun b=>Bd b/\b<wb) V u p.decls)(hv:Row PCl 5 45 (wb+1) (fun b=>Bd b/\b<wb) V v p.clauses)(hap:Apt u v)(hfp:Few p 97)(hsz:∀x∈p.clauses,ltBs x.body<=131074)
  (hs:W9.heap.size=V.heap.size)(ho:∀q,q≠wb->W9.heap[q]?=V.heap[q]?)(hbx:W9.heap[wb]?=some (.cells #[.slice p0 m0 o0,.slice p1 m1 o1,.slice p2 m2 o2,.slice p3 m3 o3,.slice p4 m4 o4,tv2,u,Jn,Jn,v,Ji y,Ji f,Ji (m:Int)] 80 (0,0))):
  Fl (fun b=>Bd b/\b<wb) wb p0 m0 o0 p1 m1 o1 p2 m2 o2 p3 m3 o3 p4 m4 o4 p tv2 Bd W9 u v p.decls p.clauses y f m:=by
 have d:=hu.lt
 have g:=hv.lt
 have i:∀b,(Bd b/\b<wb)->((Bd b/\b<wb)/\FS wb u v b):=fun b a=>⟨a,by omega,fun e=>by have:=(d b e).1;omega,fun e=>by have:=(g b e).1;omega⟩
 have k:=Qak.same _ V W9 _ _ (Qak.same _ W V _ _ h.hp hb.size (fun q _ l=>hb.block q l)) (by omega) (fun q c _=>ho q (by have o:q<wb:=c.2;omega))
 refine⟨hbx,k,hu.mv Qau (by omega) (fun q _ c=>ho q (by rcases c with e|e;have j:q<wb:=e.2;omega;have:=(d q e).1;omega)) (fun b _ a=>i b a),hv.mv Qay (by omega) (fun q _ c=>ho q (by rcases c with e|e;have j:q<wb:=e.2;omega;have:=(g q e).1;omega)) (fun b _ a=>i b a),hap,h.z,hfp.2.1,hfp.2.2.2.2,hsz⟩
end
end
end Go.Proofs.YtmfpbepifnedjaaGreat
