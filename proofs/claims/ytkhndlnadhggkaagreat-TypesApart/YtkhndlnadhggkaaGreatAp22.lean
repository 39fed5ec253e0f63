/- The document's flattener. -/
import Derived.Test.YtkhndlnadhggkaaGreatAp01
import Derived.Test.YtkhndlnadhggkaaGreatAp20
import Derived.Test.YtkhndlnadhggkaaGreatAp21
set_option maxRecDepth 100000
set_option maxHeartbeats 32000000
namespace Go.Proofs.YtkhndlnadhggkaaGreat
section
open Go.RowKit Go.Maps
theorem Qtj{S:Nat->Prop}{w:World}{wv:Value}{xs:List Txt}(h:LsAt PSt 1 S w wv xs)(hl:xs.length<=97)(t:Txt):
  ∃u U g c W8,(Builtin.append_ #[51,51] 51 #[Jn,wv]).run Tryz.prog (w.alloc (.cells #[str t] 9)) = .ok u U/\Below w.heap.size w U/\(Builtin.append_ #[51,51] 51 #[u,.slice (Js w.heap.size) 1 1]).run Tryz.prog U = .ok (.slice (Js g) (xs.length+1) c) W8/\Below w.heap.size w W8/\LsAt PSt 1 (fun b=>w.heap.size<=b) W8 (.slice (Js g) (xs.length+1) c) (xs++[t]):=by
 obtain⟨V,E,G,D,C⟩:=infoS;have F:Tryz.prog.underlying 51=some (.slice 9):=by kernel_rfl
 have b1:Below w.heap.size w (w.alloc (.cells #[str t] 9)):=(Below.refl _ w).alloc (Nat.le_refl _) _;have H:=heap_alloc_new w (.cells #[str t] 9);have i:=h.later Qao b1;have T:(w.alloc (.cells #[str t] 9)).heap.size=w.heap.size+1:=by simp
 obtain⟨W,O⟩:=JE (w.alloc (.cells #[str t] 9));rw[<- O]at b1 H i T ⊢;obtain⟨u,U,css,Q,o1,k,d⟩:=Qed (ys:=xs) (css:=[]) (xs:=([]:List Txt)) (base:=W.heap.size) Qao (fun _ _ _ _ z c n=>by rw[z]at n;simp only[List.mem_singleton]at n;rw[n];simp[Value.oneCell']) F E G D C rfl (by decide) (by decide) (v:=Jn) (World.ownsRow_nil _ _ _ _) ⟨rfl,fun j x cs z=>by simp at z⟩ i (fun b _=>by simp[Value.ownBlock]) (by simp) hl (Nat.le_refl _);rw[List.nil_append]at o1 k;have l:Below W.heap.size W U:=⟨d.os,d.tape,d.output,d.size,fun q o=>d.block q o (by simp[Value.ownBlock])⟩;have B:Row PSt 1 9 W.heap.size (fun _=>False) U u xs:=⟨css,o1,k.1,fun j x cs i N=>k.2 j x cs i N⟩;obtain⟨r,W8,I,f,a2,⟨g,c,M⟩,A⟩:=B.app (x:=t) (cs:=[str t]) Qao F E G D C rfl (by decide) (by decide) (fun b s=>s.elim) rfl (by simp[Value.oneCell',str]) rfl l.size (by omega) w.heap.size ((l.block _ (by omega)).trans H);subst M;have a:Below w.heap.size w U:=b1.trans (l.mono (by omega));have K:Below w.heap.size w W8:=⟨f.os.trans a.os,f.tape.trans a.tape,f.output.trans a.output,Nat.le_trans a.size f.size,fun q o=>(f.block q (by have:=a.size;omega) (fun e=>by have:=(B.lt q e).1;omega)).trans (a.block q o)⟩;have L:xs.length+1=(xs++[t]).length:=by simp
 rw[L]at A I ⊢;obtain⟨cs8,P,J⟩:=A;exact⟨u,U,g,c,W8,Q,a,I,K,(Qhy Qao P J).mono Qao (fun b _ s=>s.elim (fun e=>e.elim) (fun e=>by omega))⟩
structure InL(R:Nat->Prop)(wb:Nat)(p0:Option Addr)(m0 o0:Nat)(p1:Option Addr)(m1 o1:Nat)(p2:Option Addr)(m2 o2:Nat)(p3:Option Addr)(m3 o3:Nat)(p4:Option Addr)(m4 o4:Nat)(p:Pg)(tv:Value)(Bd:Nat->Prop)(w:World)(dv cv:Value)(y:Int)(m:Nat)(b0:Option Addr)(a0 c0:Nat)(b1:Option Addr)(a1 c1:Nat)(b2:Option Addr)(a2 c2:Nat)(b3:Option Addr)(a3 c3:Nat)(b4:Option Addr)(a4 c4:Nat)(W:World)(Rk:Nat->Prop)(dv' cv':Value)(ds':List Dcl)(cs':List Cls)(y' f':Int)(m':Nat)(sl:Value)(acc:List Txt):Prop where
 fl:Fl Rk wb p0 m0 o0 p1 m1 o1 p2 m2 o2 p3 m3 o3 p4 m4 o4 p tv Bd W dv' cv' ds' cs' y' f' m'
 sub:∀b,Rk b->R b∨w.heap.size<=b
 fk:FK wb dv cv dv' cv' w W
 ye:y≠0->y'≠0
 ml:m<=m'
 m97:m'<=97
 m0:y'=0->m'<=96
 bx:W.heap[w.heap.size]?=some (.cells #[.slice b0 a0 c0,.slice b1 a1 c1,.slice b2 a2 c2,.slice b3 a3 c3,.slice b4 a4 c4] 28 (0,0))
 row:Row PSt 1 9 (w.heap.size+1) (fun _=>False) W sl acc
 own:∀b,some b=sl.ownBlock -> ¬Rk b/\FS wb dv' cv' b
 low:∀b,Bd b/\b<wb->Rk b
 fb:FS wb dv' cv' w.heap.size
 wl:wb<w.heap.size
section
variable {R:Nat->Prop}{wb:Nat}{p0:Option Addr}{m0 o0:Nat}{p1:Option Addr}{m1 o1:Nat}{p2:Option Addr}{m2 o2:Nat}{p3:Option Addr}{m3 o3:Nat}{p4:Option Addr}{m4 o4:Nat}{p:Pg}{tv:Value}{Bd:Nat->Prop}{w W W':World}{dv cv dv' cv':Value}{ds':List Dcl}{cs':List Cls}{y y' f':Int}{m m':Nat}{b0:Option Addr}{a0 c0:Nat}{b1:Option Addr}{a1 c1:Nat}{b2:Option Addr}{a2 c2:Nat}{b3:Option Addr}{a3 c3:Nat}{b4:Option Addr}{a4 c4:Nat}{Rk:Nat->Prop}{sl:Value}{acc:List Txt}
theorem InL.later(h:InL R wb p0 m0 o0 p1 m1 o1 p2 m2 o2 p3 m3 o3 p4 m4 o4 p tv Bd w dv cv y m b0 a0 c0 b1 a1 c1 b2 a2 c2 b3 a3 c3 b4 a4 c4 W Rk dv' cv' ds' cs' y' f' m' sl acc)(b:Below W.heap.size W W'):InL R wb p0 m0 o0 p1 m1 o1 p2 m2 o2 p3 m3 o3 p4 m4 o4 p tv Bd w dv cv y m b0 a0 c0 b1 a1 c1 b2 a2 c2 b3 a3 c3 b4 a4 c4 W' Rk dv' cv' ds' cs' y' f' m' sl acc:=
 ⟨h.fl.later b,h.sub,h.fk.trans (FK.of_below b),h.ye,h.ml,h.m97,h.m0,(b.block _ (Qaa h.bx)).trans h.bx,h.row.mv Qao b.size (fun q a _=>b.block q a) (fun _ _ c=>c),h.own,h.low,h.fb,h.wl⟩
theorem InL.ls(h:InL R wb p0 m0 o0 p1 m1 o1 p2 m2 o2 p3 m3 o3 p4 m4 o4 p tv Bd w dv cv y m b0 a0 c0 b1 a1 c1 b2 a2 c2 b3 a3 c3 b4 a4 c4 W Rk dv' cv' ds' cs' y' f' m' sl acc):LsAt PSt 1 (fun b=>w.heap.size+1<=b) W sl acc:=by
 obtain⟨f,c,a⟩:=h.row;exact(Qhy Qao c a).mono Qao (fun b _ d=>d.elim (fun e=>e.elim) id)
theorem InL.met(h:InL R wb p0 m0 o0 p1 m1 o1 p2 m2 o2 p3 m3 o3 p4 m4 o4 p tv Bd w dv cv y m b0 a0 c0 b1 a1 c1 b2 a2 c2 b3 a3 c3 b4 a4 c4 W Rk dv' cv' ds' cs' y' f' m' sl acc)(hf:acc.length<=65536)(t:Txt):
  ∃g c w8,(Builtin.append_ #[51,51] 51 #[sl,.slice (Js W.heap.size) 1 1]).run Tryz.prog (W.alloc (.cells #[str t] 9)) = .ok (.slice (Js g) (acc.length+1) c) w8/\acc.length+1<=c/\c<=maxLen/\InL R wb p0 m0 o0 p1 m1 o1 p2 m2 o2 p3 m3 o3 p4 m4 o4 p tv Bd w dv cv y m b0 a0 c0 b1 a1 c1 b2 a2 c2 b3 a3 c3 b4 a4 c4 w8 (fun b=>Rk b/\b<W.heap.size) dv' cv' ds' cs' y' f' m' (.slice (Js g) (acc.length+1) c) (acc++[t])/\(∀q,q<W.heap.size->w.heap.size+1<=q->some q≠sl.ownBlock->w8.heap[q]?=W.heap[q]?):=by
 obtain⟨i0,L,O,G,E⟩:=infoS;have f:Below W.heap.size W (W.alloc (.cells #[str t] 9)):=(Below.refl _ W).alloc (Nat.le_refl _) _;have D:=heap_alloc_new W (.cells #[str t] 9);have P:(W.alloc (.cells #[str t] 9)).heap.size=W.heap.size+1:=by simp
 have B:=h.later f;have n:∀b,some b=sl.ownBlock->w.heap.size+1<=b/\b<W.heap.size:=fun b e=>h.row.lt b e;have Y:=h.wl;have T:=Qaa h.bx;have U:=h.fk.size;obtain⟨X,K⟩:=JE (W.alloc (.cells #[str t] 9));rw[<- K]at f D P B ⊢;obtain⟨r,w8,d,i,H,⟨g,c,J⟩,A⟩:=B.row.app (x:=t) (cs:=[str t]) Qao (by kernel_rfl:Tryz.prog.underlying 51=some (.slice 9)) L O G E rfl (by decide) (by decide) (fun b j=>j.elim) rfl (by simp[Value.oneCell',str]) rfl (by omega) hf W.heap.size D;subst J;have F:=A;obtain⟨Q,N,_⟩:=F;have z:acc.length+1<=c/\c<=maxLen:=by
  rcases N.2 with ⟨e,_⟩|⟨Z,cap,S,e,_,_,C,I,_⟩
  ·cases e
  simp only[Value.slice.injEq]at e;obtain⟨_,_,rfl⟩:=e;rw[List.length_append]at C;exact⟨C,I⟩
 have k:∀q,q<W.heap.size->some q≠sl.ownBlock->w8.heap[q]?=W.heap[q]?:=fun q a v=>(i.block q (by omega) v).trans (f.block q a);refine⟨g,c,w8,d,z.1,z.2,⟨?_,fun b u=>h.sub b u.1,?_,h.ye,h.ml,h.m97,h.m0,(k _ (by omega) (fun e=>by have:=n _ e;omega)).trans h.bx,A,?_,fun b u=>⟨h.low b u,by omega⟩,h.fb,h.wl⟩,fun q a _ v=>k q a v⟩
 ·
  refine(h.fl.mono (fun b M d=>(⟨d,M⟩:Rk b/\b<W.heap.size))).keep (by have:=i.size;omega) (fun q a j=>k q a (fun e=>?_));have l:=h.own q e;have V:=n q e;rcases j with s|s|s
  ·exact l.1 s.1
  ·omega
  rcases s with s|s
  ·exact l.2.2.1 s
  ·exact l.2.2.2 s
 ·exact⟨i.os.trans (f.os.trans h.fk.os),i.tape.trans (f.tape.trans h.fk.tape),i.output.trans (f.output.trans h.fk.output),by have:=i.size;omega,fun q a j=>(k q (by omega) (fun e=>by have:=n q e;omega)).trans (h.fk.block q a j),h.fk.fs⟩
 intro b e;rcases H with o|o
 ·
  rw[o]at e;exact⟨fun d=>(h.own b e).1 d.1,(h.own b e).2⟩
 rw[o]at e;simp only[Option.some.injEq]at e;exact⟨fun d=>by have:=d.2;omega,by omega,fun q=>by have:=h.fl.dlt b (.inl q);omega,fun q=>by have:=h.fl.dlt b (.inr q);omega⟩
end
section
variable {wb:Nat}{p0:Option Addr}{m0 o0:Nat}{p1:Option Addr}{m1 o1:Nat}{p2:Option Addr}{m2 o2:Nat}{p3:Option Addr}{m3 o3:Nat}{p4:Option Addr}{m4 o4:Nat}{p:Pg}{tv:Value}{Bd:Nat->Prop}
theorem Qlx(hfp:Few p 97)(hwf:WfZ 65537 p)(D:Nat)(hN:IsC wb p0 m0 o0 p1 m1 o1 p2 m2 o2 p3 m3 o3 p4 m4 o4 p tv Bd D):IcC wb p0 m0 o0 p1 m1 o1 p2 m2 o2 p3 m3 o3 p4 m4 o4 p tv Bd D:=fun R Q w dv cv ds cs y f m q b0 a0 c0 b1 a1 c1 b2 a2 c2 b3 a3 c3 b4 a4 c4 pre yv aT h bC hm cw hD hP hQ bE cC bJ cD bM=>by
 obtain⟨w2,aQ⟩:=JE (w.alloc (.cells #[.slice b0 a0 c0,.slice b1 a1 c1,.slice b2 a2 c2,.slice b3 a3 c3,.slice b4 a4 c4] 28));have aB:=bnw aQ;have n2:=nnw aQ;have s2:w2.heap.size=w.heap.size+1:=by rw[aQ];simp
 have aA:=h.lt;obtain⟨d0,d1,d2,d3,d4,ee,d6,aZ,d7,b8,d8⟩:=PgS.cells hP;obtain⟨-,e1,-,e3,-⟩:=list5 ee;subst e1;subst e3;have cr:q.decls.length=a1:=by obtain⟨_,_,e⟩:=aZ.sl;cases e;rfl
 have ct:q.inits.length=a3:=by obtain⟨_,_,e⟩:=b8.sl;cases e;rfl
 have dq:=aZ.cap rfl;have dr:=b8.cap rfl;have du:a1<=97/\a3<=97:=by unfold Few at bE;omega
 have cO:=hide (show ∀W,Below w.heap.size w W->LsAt PDc 5 (fun b=>Q b/\b<w.heap.size) W (.slice b1 a1 c1) q.decls from fun W r=>(aZ.mono Qav (S':=fun b=>Q b/\b<w.heap.size) (fun b I hq=>⟨hq,I⟩)).same Qav r.size (fun b hq I=>r.block b I));have cP:=hide (show ∀W dv' cv',FK wb dv cv dv' cv' w W->LsAt PIn 3 (fun b=>Q b/\b<w.heap.size) W (.slice b3 a3 c3) q.inits from fun W dv' cv' kW=>(b8.mono Qbg (S':=fun b=>Q b/\b<w.heap.size) (fun b I hq=>⟨hq,I⟩)).same Qbg kW.size (fun b hq I=>kW.block b I (hQ b hq.1 hq.2)));have aG:∀b,(some b=dv.ownBlock∨some b=cv.ownBlock)->b<w.heap.size:=fun b e=>(h.dlt b e).2;have HA:=hide (Ya cr ct)
 have ce:=hide (show ∀(W:World) (sl:Value) (acc:List Txt),OwL (w.heap.size+1) w2 W sl acc->InL R wb p0 m0 o0 p1 m1 o1 p2 m2 o2 p3 m3 o3 p4 m4 o4 p tv Bd w dv cv y m b0 a0 c0 b1 a1 c1 b2 a2 c2 b3 a3 c3 b4 a4 c4 W (fun b=>R b/\b<w.heap.size) dv cv ds cs y f m sl acc from fun W sl acc o=>by
  have r:Below w.heap.size w W:=aB.trans (o.b.mono (by omega));refine⟨(h.mono (fun b I hr=>⟨hr,I⟩)).later r,fun b n=>.inl n.1,FK.of_below r,fun e=>e,Nat.le_refl _,hm,cw,(o.b.block _ (by omega)).trans n2,o.row,fun b e=>?_,fun b n=>⟨bC b n,by omega⟩,⟨by omega,fun e=>by have:=aG _ (.inl e);omega,fun e=>by have:=aG _ (.inr e);omega⟩,aA⟩;have:=o.row.lt b e
  exact⟨fun hr=>by have:=hr.2;omega,by omega,fun e=>by have:=aG b (.inl e);omega,fun e=>by have:=aG b (.inr e);omega⟩)
 have S0:Hid (OwL (w.heap.size+1) w2 w2 (Jn) []):=hide (OwL.nil (by omega));have HW:=hide aQ;have H2:=hide (Ya aB (Ya n2 s2));have HF:=hide (Ya bE cC);have HP:=hide (Ya hfp hwf);have HY:=hide cD;have HN:=hide hN;have cR:=hide bC;have HL:=hide (Ya bJ (Ya bM (Ya hm hD)));have HD:=hide (Ya aA aG);clear aQ aB n2 s2 aA aG ee d6 aZ d7 b8 d8 cr ct h bC cw hD hP hQ bE cC bJ cD bM hN hfp hwf;go_enter Tryz.func27,Tryz.ntmps27;go_upto_region 1 with fail;rw[<- Qa HW];clear HW;go_wp2_with fail;go_loopw [8,9] (fun lv iv wr=>∃(acc:List Txt) (i:Nat) (sa:Option Addr) (sc:Nat),lv = .slice sa acc.length sc/\iv = Ji (i:Int)/\i<=a1/\acc.length<=sc/\sc<=maxLen/\Hid (OwL (w.heap.size+1) w2 wr (.slice sa acc.length sc) acc)/\Hid (acc.length=i)) (fun _ iv _=>a1 - (intOf iv).toNat)
 case atStart=>exact⟨[],0,none,0,rfl,rfl,Nat.zero_le _,Nat.le_refl _,by unfold maxLen;omega,S0,hide rfl⟩
 obtain⟨acc,i,sa,sc,rfl,rfl,hi,cA,bL,HI,HS⟩:=hrel;unfold maxLen at bL;clear S0;obtain⟨bU,bV,bY,bZ,c5,xf⟩:=cl5 (((Qa HI).b.block _ (by omega)).trans (Qa H2).2.1);by_cases bc:i<a1
 ·
  obtain⟨d,aF⟩:∃d,q.decls[i]?=some d:=⟨q.decls[i]'(by rw[(Qa HA).1];exact bc),List.getElem?_eq_getElem _⟩;obtain⟨gb,cap,qs,e1,bG,bF,bH,⟨xa,xn,xc,rfl,hX⟩,aL⟩:=(Qa cO wr ((Qa H2).1.trans ((Qa HI).b.mono (by omega)))).elem aF;simp only[Value.slice.injEq]at e1;obtain⟨rfl,-,rfl⟩:=e1;have ai:wr.cell? (Ja gb (i*5))=some (str d.name):=aL 0 _ rfl;obtain⟨g,c,j,al,b9,ba,cq⟩:=(Qa HI).more (by have:=Qa HS;omega) d.name;have aj:=hide al;have cQ:=hide cq;have a6:=hide (show(acc++[d.name]).length=i+1 by rw[List.length_append,Qa HS];rfl);clear aF bG bF bH hX aL al cq;go_wp2_with (at_builtin;refine Qaj _ rfl _ _ 51 rfl _ _ rfl rfl _ _ (Qa aj) ?_;clear aj);go_roundw
  case rel=>exact⟨_,i+1,_,_,by rw[Qa a6,<- Qa HS],by simp,by omega,by rw[Qa a6,<- Qa HS];exact b9,ba,by rw[Qa a6,<- Qa HS];exact cQ,a6⟩
  case measure=>simp[intOf];omega
 have S1:Hid (∃Rk A x ac ab y2 F mk,InL R wb p0 m0 o0 p1 m1 o1 p2 m2 o2 p3 m3 o3 p4 m4 o4 p tv Bd w dv cv y m b0 a0 c0 b1 a1 c1 b2 a2 c2 b3 a3 c3 b4 a4 c4 wr Rk A x ac ab y2 F mk (.slice sa acc.length sc) acc):=hide ⟨_,_,_,_,_,_,_,_,Qa ce wr _ _ (Qa HI)⟩;have cg:=hide (show acc.length<=97 by have:=Qa HS;omega);have bv:=hide (Ya cA bL);clear ce H2;go_wp2_with fail;clear bU bV bY bZ c5 xf HS bc hi cA bL;go_loopw [8,10] (fun lv iv wr=>∃(a5:List Txt) (i2:Nat) (bl:Option Addr) (sc2:Nat),lv = .slice bl a5.length sc2/\iv = Ji (i2:Int)/\i2<=a3/\a5.length<=sc2/\sc2<=maxLen/\Hid (∃Rk A x ac ab y2 F mk,InL R wb p0 m0 o0 p1 m1 o1 p2 m2 o2 p3 m3 o3 p4 m4 o4 p tv Bd w dv cv y m b0 a0 c0 b1 a1 c1 b2 a2 c2 b3 a3 c3 b4 a4 c4 wr Rk A x ac ab y2 F mk (.slice bl a5.length sc2) a5)/\Hid (a5.length<=97+i2)) (fun _ iv _=>a3 - (intOf iv).toNat)
 case atStart=>exact⟨acc,0,sa,sc,rfl,rfl,Nat.zero_le _,(Qa bv).1,by unfold maxLen;exact(Qa bv).2,S1,cg⟩
 clear S1 cg bv HI;obtain⟨a5,i2,bl,sc2,rfl,rfl,dt,dw,db,cf,bu⟩:=hrel;unfold maxLen at db;obtain⟨Rk,A,x,ac,ab,y2,F,az,h5⟩:=Qa cf;clear cf;obtain⟨bU,bV,bY,bZ,c5,xf⟩:=cl5 h5.bx;have hz:=h5.fl.z;obtain⟨bP,bQ,bR,bS,bT,dg,dh,di,dj,dk,cL,cM,cN,vf⟩:=cl13 h5.fl.box;have ag:=hide (show ∀(W:World) (G f9:Int) (K:Kp wb wr W) ,Fl Rk wb p0 m0 o0 p1 m1 o1 p2 m2 o2 p3 m3 o3 p4 m4 o4 p tv Bd W A x ac ab G f9 az->(y2≠0->G≠0)->(G=0->y2=0)->InA R wb p0 m0 o0 p1 m1 o1 p2 m2 o2 p3 m3 o3 p4 m4 o4 p tv Bd w dv cv y m (.returned (.tuple #[])) W from fun W G f9 K hF e1 e2=>⟨A,x,ac,ab,G,f9,az,rfl,hF.mono (fun b _ hr=>h5.sub b hr),h5.fk.trans (FK.of_kp K),fun e=>e1 (h5.ye e),h5.ml,h5.m97,fun e=>h5.m0 (e2 e)⟩);have H5:=hide h5;clear h5 dg dh di dj dk cN;by_cases bc:i2<a3
 rotate_left
 ·
  have HE:=hide (Qa ag wr y2 F (Kp.refl _ _) (Qa H5).fl (fun e=>e) (fun e=>e));clear hz;go_wp2_with fail
  go_end0
  exact Qa HE
 by_cases hy:y2=0
 rotate_left
 ·
  have H:(y2==0)=false:=beq_eq_false_iff_ne.2 hy;have HE:=hide (Qa ag wr y2 F (Kp.refl _ _) (Qa H5).fl (fun e=>e) (fun e=>e));clear hz hy;go_wp2_with fail
  go_end0
  exact Qa HE
 have hf:=hz hy;subst hy;subst hf;clear hz;obtain⟨d,aF⟩:∃d,q.inits[i2]?=some d:=⟨q.inits[i2]'(by rw[(Qa HA).2];exact bc),List.getElem?_eq_getElem _⟩;obtain⟨gb,cap,qs,e1,bG,bF,bH,hX,aL⟩:=(Qa cP wr A x (Qa H5).fk).elem aF;simp only[Value.slice.injEq]at e1;obtain⟨rfl,-,rfl⟩:=e1;have cZ:qs=[str d.name,str d.comp,Ji d.at_]:=hX;subst cZ;obtain⟨ai,aq,ar⟩:=cs3 aL;have bI:d.name.length<=65536:=by cases (Qa HF).2 with|mk ts ac ab is ls hT hC hL hDD hI hBB=>exact hI _ (List.mem_of_getElem? aF)
 obtain⟨Z,C⟩:=JE (wr.alloc (.cells #[str d.name,str d.comp,Ji d.at_] 93));have b5:=bnw C;have n5:=nnw C;obtain⟨xb,aR⟩:=JF wr.heap.size;rw[aR]at n5;have h6:=(Qa H5).later b5;have aP:=Qja h6.ls d.name;obtain⟨bi,bj,bk,lf⟩:=cl3 n5;have aU:=hide bI;have H6:=hide (Ya h6 (Ya b5 (Ya n5 aR)));have ch:=hide C;clear aF bG bF bH hX aL bI C b5 n5 aR h6;go_upto_region 10 with fail;rw[<- Qa ch,(Qa H6).2.2.2];clear ch ai aq ar;go_wp2_with fail;refine aP.mono ?_;clear aP;rintro en w6⟨⟨bq,rfl⟩,rfl⟩;cases bq
 rotate_left
 ·
  have ak:=Qbt (Qa H6).1.fl (why:=11) (by decide) d.at_;go_wp2_with fail;refine ak.mono ?_;clear ak;rintro en t⟨rfl,G,f9,k,k9,e9⟩;have HE:=hide (Qa ag t G f9 ((Kp.of_below (Qa H6).2.1).trans k9) k (fun _=>e9) (fun e=>absurd e e9));clear k k9 e9;go_wp2_with fail
  go_end0
  exact Qa HE
 obtain⟨h6,b5,n5,aR⟩:=Qa H6;obtain⟨g,c,j,al,b9,ba,h8,cu⟩:=h6.met (by have:=Qa bu;omega) d.name;have cF:some xb≠(Value.slice bl a5.length sc2).ownBlock:=fun e=>by have:=((Qa H5).row.lt xb e).2;omega
 have cE:=Qaa n5;have bN:w.heap.size+1<=xb:=by have:=(Qa H5).fk.size;have:=Qaa (Qa H5).bx;omega
 have n8:=(cu xb cE bN cF).trans n5;have aj:=hide al;have H8:=hide (Ya h8 (Ya n8 (Ya b9 ba)));have dm:=hide bN;have cU:=hide (show FS wb A x xb from ⟨by have:=(Qa HD).1;omega,fun e=>by have:=(Qa H5).fl.dlt xb (.inl e);omega,fun e=>by have:=(Qa H5).fl.dlt xb (.inr e);omega⟩);obtain⟨bi,bj,bk,lf⟩:=cl3 n5;have a6:=hide (show(a5++[d.name]).length=a5.length+1 by rw[List.length_append];rfl);obtain⟨PX,aW⟩:∃PX:World->Nat->Int->Prop,PX=fun W bb e=>∃(q5:Pg) (T U V X Y:Option Addr) (J L F s M N H O P S:Nat),Below j.heap.size j W/\W.heap[bb]?=some (.cells #[.slice T J N,.slice U L H,.slice V F O,.slice X s P,.slice Y M S] 28 (0,0))/\PgS (fun b=>(Bd b/\b<wb)∨j.heap.size<=b) W [.slice T J N,.slice U L H,.slice V F O,.slice X s P,.slice Y M S] q5/\Few q5 97/\WfZ 65537 q5/\j.heap.size<=bb:=⟨_,rfl⟩
 have B:=hide (show ∀W,Below j.heap.size j W->W.heap[xb]?=some (.cells #[str d.name,str d.comp,Ji d.at_] 93 (0,0))/\W.cell? (Ja wb 0)=some (.slice p0 m0 o0)/\W.cell? (Ja wb 1)=some (.slice p1 m1 o1)/\W.cell? (Ja wb 2)=some (.slice p2 m2 o2)/\W.cell? (Ja wb 3)=some (.slice p3 m3 o3)/\W.cell? (Ja wb 4)=some (.slice p4 m4 o4) from fun W r=>by
  have I:=h8.later r;obtain⟨bP,bQ,bR,bS,bT,_⟩:=cl13 I.fl.box
  exact⟨(r.block _ (Qaa n8)).trans n8,bP,bQ,bR,bS,bT⟩)
 have au:=hide (show ∀W,Below j.heap.size j W->Calls Tryz.prog 67 #[.agg #[.slice p0 m0 o0,.slice p1 m1 o1,.slice p2 m2 o2,.slice p3 m3 o3,.slice p4 m4 o4],str d.comp] W fun en w'=>∃v q e,en = .returned (.tuple #[v,Ji e])/\VPg (fun b=>(Bd b/\b<wb)∨W.heap.size<=b) w' v q/\(e≠0->q = .none)/\Few q 97/\WfZ 65537 q/\Below W.heap.size W w' from fun W r=>Qof (Qa HP).1 (Qa HP).2 (h8.later r).fl.hp (by have:=(h8.later r).fl.lt;omega) d.comp);clear h6 b5 n5 aR al b9 ba h8 cu cF cE bN n8 ag;go_upto_region 12 with fail;go_wp2_with (at_builtin;refine Qaj _ rfl _ _ 51 rfl _ _ rfl rfl _ _ (Qa aj) ?_;clear aj);clear bi bj bk lf bU bV bY bZ c5 xf bP bQ bR bS bT cL cM vf;go_cut [12,13] from 30 to 102 (fun u v wc=>∃(bb:Nat) (e:Int),u = .pointer (Js bb)/\v = Ji e/\PX wc bb e)
 case first=>
  go_wp2_with fail;refine Qas (tr:=.take 0 (.take 1 (.take 2 (.take 3 (.take 4 (.take 5 (.two 6 10 (.take 7 (.take 8 (.take 9 (.one 10 (.one 11 (.take 12 .nil)))))) (.one 6 (.take 7 (.take 8 (.take 9 (.one 11 (.take 12 .nil))))))))))))) (fun W=>W.heap[xb]?=some (.cells #[str d.name,str d.comp,Ji d.at_] 93 (0,0))/\W.cell? (Ja wb 0)=some (.slice p0 m0 o0)/\W.cell? (Ja wb 1)=some (.slice p1 m1 o1)/\W.cell? (Ja wb 2)=some (.slice p2 m2 o2)/\W.cell? (Ja wb 3)=some (.slice p3 m3 o3)/\W.cell? (Ja wb 4)=some (.slice p4 m4 o4)) mixedO (by kernel_rfl) rfl (by kernel_rfl) (fun PP ah=>?_)
  iterate 6 (refine tT (v:=?_) (fun w' hw=>?_) ?_;rotate_left;· (obtain⟨aa,bd,be,bf,bg,bh⟩:=hw;obtain⟨ai,aq,ar,zf⟩:=cl3 aa;go_simp<;>rfl))
  refine Qbr rfl rfl (Qa B _ (Below.refl _ j).drew) (fun K a=>?_) (fun K a=>?_)
  ·
   go_simp;refine(Qa au j.drew (Below.refl _ j).drew).mono ?_;rintro en Z⟨v5,q5,e,rfl,⟨T,J,N,U,L,H,V,F,O,X,s,P,Y,M,S,rfl,ae⟩,bK,ad,C,b5⟩;show K _ _;refine a _ _ ?_;clear a K bK;have a7:Below j.heap.size j Z:=(Below.refl _ j).drew.trans b5;have hds:j.drew.heap.size=j.heap.size:=rfl
   iterate 3 (refine tT (v:=?_) (fun w' hw=>?_) ?_;rotate_left;· (obtain⟨aa,bd,be,bf,bg,bh⟩:=hw;obtain⟨ai,aq,ar,zf⟩:=cl3 aa;go_simp<;>rfl))
   refine Qaf rfl (Qa B Z a7) (fun K a=>?_);go_simp;refine a _ _ ?_;clear a K;have b6:Below Z.heap.size Z (Z.alloc (.cells #[Jn,Jn,Jn,Jn,Jn] 28)):=(Below.refl _ Z).alloc (Nat.le_refl _) _;refine Qaf rfl (Qa B _ (a7.trans (b6.mono a7.size))) (fun K a=>?_);go_simp;refine a _ _ ?_;clear a K;obtain⟨W7,aw⟩:=JE (Z.alloc (.cells #[.slice T J N,.slice U L H,.slice V F O,.slice X s P,.slice Y M S] 28));have b7:=bnw aw;have n7:=nnw aw;rw[<- aw];refine tT (v:=?_) (fun w' hw=>?_) ?_;rotate_left;· (obtain⟨aa,bd,be,bf,bg,bh⟩:=hw;obtain⟨ai,aq,ar,zf⟩:=cl3 aa;go_simp<;>rfl)
   refine Qan (Qa B _ (a7.trans (b7.mono a7.size))) (ah _ _ ?_);clear ah PP
   have bt:=hide (show PX W7 Z.heap.size e by
    rw[aW]
    exact⟨q5,T,U,V,X,Y,J,L,F,s,M,N,H,O,P,S,a7.trans (b7.mono a7.size),n7,Qal.same _ Z W7 _ _ ae b7.size (fun q _ I=>b7.block q I),ad,C,a7.size⟩)
   clear ae ad C b5 a7 hds b6 aw b7 n7;go_wp2_with fail;go_meet;exact⟨_,e,rfl,rfl,Qa bt⟩
  go_simp;refine a _ _ ?_;clear a K;obtain⟨aS,am⟩:=JE ((j.alloc (.cells #[Jn,Jn,Jn,Jn,Jn] 28)).drew);have b4:Below j.heap.size j aS:=by rw[am];exact((Below.refl _ _).alloc (Nat.le_refl _) _).drew
  have n4:aS.heap[j.heap.size]?=some (.cells #[Jn,Jn,Jn,Jn,Jn] 28 (0,0)):=by rw[am];exact heap_alloc_new j _
  have df:aS.heap.size=j.heap.size+1:=by rw[am];show(j.alloc (.cells #[Jn,Jn,Jn,Jn,Jn] 28)).heap.size=_;simp
  rw[<- am];clear am;refine Qaf rfl (Qa B aS b4) (fun K a=>?_);go_simp;refine(Qa au aS b4).mono ?_;rintro en Z⟨v5,q5,e,rfl,⟨T,J,N,U,L,H,V,F,O,X,s,P,Y,M,S,rfl,ae⟩,bK,ad,C,b5⟩;show K _ _;refine a _ _ ?_;clear a K bK;have a7:Below j.heap.size j Z:=b4.trans (b5.mono b4.size);have n5:=(b5.block _ (by omega)).trans n4
  iterate 3 (refine tT (v:=?_) (fun w' hw=>?_) ?_;rotate_left;· (obtain⟨aa,bd,be,bf,bg,bh⟩:=hw;obtain⟨ai,aq,ar,zf⟩:=cl3 aa;go_simp<;>rfl))
  obtain⟨W7,aw,sc⟩:=sc5 n5 (.slice T J N) (.slice U L H) (.slice V F O) (.slice X s P) (.slice Y M S);obtain⟨c6,c7,c8,c9,cc,yf⟩:=cl5 n5;refine Qaf rfl (Qa B Z a7) (fun K a=>?_);go_simp;rw[<- aw];refine a _ _ ?_;clear a K;have bA:Below j.heap.size j W7:=sc.below a7 (Nat.le_refl _);refine tT (v:=?_) (fun w' hw=>?_) ?_;rotate_left;· (obtain⟨aa,bd,be,bf,bg,bh⟩:=hw;obtain⟨ai,aq,ar,zf⟩:=cl3 aa;go_simp<;>rfl)
  refine Qan (Qa B _ bA) (ah _ _ ?_);clear ah PP
  have bt:=hide (show PX W7 j.heap.size e by
   rw[aW]
   exact⟨q5,T,U,V,X,Y,J,L,F,s,M,N,H,O,P,S,bA,sc.box,Qal.mono _ _ _ _ _ (Qal.same _ Z W7 _ _ ae (by rw[sc.size];exact Nat.le_refl _) (fun q hq _=>sc.oth q (by have:=(Qa HD).1;have:=(Qa H8).1.fk.size;rcases hq with hq|hq<;>omega))) (fun b _ n=>by rcases n with n|n;exact .inl n;exact .inr (by omega)),ad,C,Nat.le_refl _⟩)
  clear ae ad C b5 a7 b4 n4 df n5 aw sc bA c6 c7 c8 c9 cc yf;go_wp2_with fail;go_meet;exact⟨_,e,rfl,rfl,Qa bt⟩
 obtain⟨bb,e,rfl,rfl,hX⟩:=hcut;rw[aW]at hX;obtain⟨q5,T,U,V,X,Y,J,L,aI,s,M,N,H,O,P,S,r,ax,ae,ad,C,aE⟩:=hX;obtain⟨WX,cY⟩:=JE wc;subst cY;clear aW B au;have k:=(Qa H8).1.later r;have n9:=(r.block _ (Qaa (Qa H8).2.1)).trans (Qa H8).2.1;obtain⟨bi,bj,bk,lf⟩:=cl3 n9;have ag:=hide (show ∀(W:World) (G f9:Int),Kp wb WX W->Fl (fun b=>Rk b/\b<w6.heap.size) wb p0 m0 o0 p1 m1 o1 p2 m2 o2 p3 m3 o3 p4 m4 o4 p tv Bd W A x ac ab G f9 az->G≠0->InA R wb p0 m0 o0 p1 m1 o1 p2 m2 o2 p3 m3 o3 p4 m4 o4 p tv Bd w dv cv y m (.returned (.tuple #[])) W from fun W G f9 K hF cG=>⟨A,x,ac,ab,G,f9,az,rfl,hF.mono (fun b _ hr=>k.sub b hr),k.fk.trans (FK.of_kp K),fun _=>cG,k.ml,k.m97,fun e=>absurd e cG⟩);by_cases he:e=0
 rotate_left
 ·
  have ge:(e != 0)=true:=by simp[he]
  have ak:=Qbt k.fl (why:=e) he d.at_;clear he k n9 r ax ae ad C aE;go_wp2_with fail;refine ak.mono ?_;clear ak;rintro en t⟨rfl,G,f9,k,k9,e9⟩;have HE:=hide (Qa ag t G f9 k9 k e9);clear k k9 e9;go_wp2_with fail
  go_end0
  exact Qa HE
 have ge:(e != 0)=false:=by simp[he]
 have aD:=(Qa HY).fk Qao k.fk;have aP:=Qja aD d.comp;have dl:=hide he;have H9:=hide (Ya k (Ya n9 (Ya aD (Ya r (Ya ax (Ya ae (Ya ad (Ya C aE))))))));clear he k n9 aD r ax ae ad C aE;go_wp2_with fail;refine aP.mono ?_;clear aP;rintro en l⟨⟨bq,rfl⟩,rfl⟩;cases bq
 rotate_left
 ·
  have ak:=Qbt (Qa H9).1.fl (why:=12) (by decide) d.at_;go_wp2_with fail;refine ak.mono ?_;clear ak;rintro en t⟨rfl,G,f9,k,k9,e9⟩;have HE:=hide (Qa ag t G f9 k9 k e9);clear k k9 e9;go_wp2_with fail
  go_end0
  exact Qa HE
 obtain⟨k,n9,aD,r,ax,ae,ad,C,aE⟩:=Qa H9;have d9:=k.fk.size;have cy:=Qaa k.bx;have B:=hide (show ∀W,Below l.heap.size l W->W.heap[xb]?=some (.cells #[str d.name,str d.comp,Ji d.at_] 93 (0,0))/\W.heap[bb]?=some (.cells #[.slice T J N,.slice U L H,.slice V aI O,.slice X s P,.slice Y M S] 28 (0,0)) from fun W r=>⟨(r.block _ (Qaa n9)).trans n9,(r.block _ (Qaa ax)).trans ax⟩);have aO:∀b,(some b=A.ownBlock∨some b=x.ownBlock)->wb<b/\b<j.heap.size:=fun b e=>(Qa H8).1.fl.dlt b e;have aK:∀b,((Bd b/\b<wb)∨j.heap.size<=b)->FS wb A x b:=fun b n=>by
  have cX:=(Qa H8).1.fl.lt;exact⟨by omega,fun e=>by have:=aO b (.inl e);omega,fun e=>by have:=aO b (.inr e);omega⟩
 have bn:=hide (show ∀(W:World) (wv:Value),Below l.heap.size l W->LsAt PSt 1 (FS wb A x) W wv (aT++[d.comp])->Calls Tryz.prog 68 #[.pointer (Js wb),.agg #[.slice T J N,.slice U L H,.slice V aI O,.slice X s P,.slice Y M S],str (pre++(d.name++[46])),.agg #[str d.name,str d.comp,Ji d.at_],wv] W fun en w'=>InA (fun b=>(Rk b/\b<w6.heap.size)∨((Bd b/\b<wb)∨j.heap.size<=b)) wb p0 m0 o0 p1 m1 o1 p2 m2 o2 p3 m3 o3 p4 m4 o4 p tv Bd W A x 0 az en w' from fun W wv bX dd=>by
  have bJ:=(Qa HL).1;have bM:=(Qa HL).2.1;have hD:=(Qa HL).2.2.2;have da:=k.ml;have cx:=k.m0 rfl;have bI:=Qa aU;have h0:=Nat.mul_le_mul_left 65537 da;refine Qa HN _ (fun b=>(Bd b/\b<wb)∨j.heap.size<=b) W A x ac ab 0 0 az q5 T J N U L H V aI O X s P Y M S (pre++(d.name++[46])) d.name d.comp d.at_ wv (aT++[d.comp]) ((k.fl.later bX).mono (fun b _ hr=>.inl hr)) (fun b n=>.inr (.inl n)) cx (by omega) (Qal.same _ l W _ _ ae bX.size (fun q _ I=>bX.block q I)) (fun b n _=>⟨aK b n,.inr n⟩) ad C ?_ dd ?_
  ·
   simp only[List.length_append,List.length_cons,List.length_nil];omega
  simp only[List.length_append,List.length_cons,List.length_nil]
  omega)
 have bm:=hide (show ∀(W8 t:World) (a9 a8:Value) (av:List Dcl) (cs3:List Cls) (y3 s:Int) (mm:Nat),Below l.heap.size l W8->Fl (fun b=>((Rk b/\b<w6.heap.size)∨((Bd b/\b<wb)∨j.heap.size<=b))∨W8.heap.size<=b) wb p0 m0 o0 p1 m1 o1 p2 m2 o2 p3 m3 o3 p4 m4 o4 p tv Bd t a9 a8 av cs3 y3 s mm->FK wb A x a9 a8 W8 t->((0:Int)≠0->y3≠0)->az<=mm->mm<=97->(y3=0->mm<=96)->Hid (∃Rk A x ac ab y2 F mk,InL R wb p0 m0 o0 p1 m1 o1 p2 m2 o2 p3 m3 o3 p4 m4 o4 p tv Bd w dv cv y m b0 a0 c0 b1 a1 c1 b2 a2 c2 (Js gb) a3 c3 b4 a4 c4 t Rk A x ac ab y2 F mk (.slice (Js g) (a5.length+1) c) (a5++[d.name])) from fun W8 t a9 a8 av cs3 y3 s mm bX hF E aC ma mb mc=>by
  have bB:=k.later bX;have cz:∀b,some b=(Value.slice (Js g) (a5.length+1) c).ownBlock->w.heap.size+1<=b/\b<j.heap.size:=fun b e=>(Qa H8).1.row.lt b e;have aA:=k.wl;have cX:w.heap.size<j.heap.size:=Qaa (Qa H8).1.bx;have dp:=bX.size;have dn:=r.size;refine hide ⟨_,a9,a8,av,cs3,y3,s,mm,hF,fun b n=>?_,bB.fk.trans E,fun e=>absurd rfl (k.ye e),Nat.le_trans k.ml ma,mb,mc,(E.block _ (by omega) k.fb).trans bB.bx,bB.row.mv Qao E.size (fun q hq hs=>?_) (fun _ _ hs=>hs),fun b e=>⟨?_,E.fs b (by have:=cz b e;omega) (k.own b e).2⟩,fun b n=>.inl (.inr (.inl n)),E.fs _ (by omega) k.fb,k.wl⟩
  ·
   rcases n with (n|n|n)|n
   ·exact k.sub b n
   ·exact .inl (Qa cR b n)
   ·exact .inr (by omega)
   ·exact .inr (by omega)
  ·
   rcases hs with hs|hs
   ·exact hs.elim
   ·exact E.block q hq (k.own q hs).2
  have:=cz b e;rintro((n|n|n)|n)
  ·exact(k.own b e).1 n
  ·omega
  ·omega
  ·omega)
 have cd:=hide (show ∀(W8 t:World) (a9 a8:Value),Below l.heap.size l W8->FK wb A x a9 a8 W8 t->t.heap[xb]?=some (.cells #[str d.name,str d.comp,Ji d.at_] 93 (0,0))/\t.heap[bb]?=some (.cells #[.slice T J N,.slice U L H,.slice V aI O,.slice X s P,.slice Y M S] 28 (0,0)) from fun W8 t a9 a8 bX E=>by
  obtain⟨co,cp⟩:=Qa B W8 bX;have de:=Qa cU
  exact⟨(E.block _ (Qaa co) de).trans co,(E.block _ (Qaa cp) (aK _ (.inr aE))).trans cp⟩)
 have ay:aT.length<=97:=by have:=(Qa HL).2.1;have:=(Qa HL).2.2.1;omega
 have bD:=aD.later Qao (w':=l.drew) (Below.refl _ l).drew;obtain⟨ua,Ua,ga,ca,Va,cH,cl,cI,cm,cB⟩:=Qrd bD ay d.comp;obtain⟨ub,Ub,cW,cb,Vb,cJ,cn,cK,aB,bo⟩:=Qtj bD ay d.comp;have dW:Below l.heap.size l l.drew:=(Below.refl _ l).drew;have cV:l.drew.heap.size=l.heap.size:=rfl;obtain⟨XA,aX⟩:=JE (Ua.alloc (.cells #[str d.comp] 9));have cj:=bnw aX;have aV:Below l.heap.size l Ua:=dW.trans cl;have bw:Below l.heap.size l Va:=dW.trans cm;obtain⟨XB,aY⟩:=JE (l.drew.alloc (.cells #[str d.comp] 9));have ck:Below l.heap.size l XB:=by rw[aY];exact dW.alloc (Nat.le_refl _) _
 have ci:Below l.heap.size l Ub:=dW.trans cn;have bz:Below l.heap.size l Vb:=dW.trans aB;have dc:j.heap.size<=l.heap.size:=r.size;have aM:=Qa bn Va _ bw (cB.mono Qao (fun b _ n=>aK b (.inr (by have d5:l.heap.size<=b:=n;omega))));have aN:=Qa bn Vb _ bz (bo.mono Qao (fun b _ n=>aK b (.inr (by have d5:l.heap.size<=b:=n;omega))));have bp:(Builtin.append_ #[51,51] 51 #[ua,.slice (Js Ua.heap.size) 1 1]).run Tryz.prog XA = .ok (.slice (Js ga) (aT.length+1) ca) Va:=by rw[aX];exact cI
 have br:(Builtin.append_ #[51,51] 51 #[Jn,yv]).run Tryz.prog XB = .ok ub Ub:=by rw[aY];exact cJ
 have bs:(Builtin.append_ #[51,51] 51 #[ub,.slice (Js l.heap.size) 1 1]).run Tryz.prog Ub = .ok (.slice (Js cW) (aT.length+1) cb) Vb:=cK;have af:=hide (Ya aV (Ya (aV.trans (cj.mono aV.size)) (Ya bw (Ya ck (Ya ci (Ya bz dW))))));have cS:=hide aX;have cT:=hide (show XB=(l.alloc (.cells #[str d.comp] 9)).drew from aY);have zp:(⟨pre.toArray⟩:ByteArray).size<=1000000000:=by
  have h3:=(Qa HL).1;have h4:=(Qa HL).2.2.1;have e:(⟨pre.toArray⟩:ByteArray).size=pre.length:=by simp[ByteArray.size]
  omega
 have zn:(⟨d.name.toArray⟩:ByteArray).size<=1000000000:=by
  have h3:=Qa aU;have e:(⟨d.name.toArray⟩:ByteArray).size=d.name.length:=by simp[ByteArray.size]
  omega
 have zc:(⟨(pre++d.name).toArray⟩:ByteArray).size<=3000000000:=by
  have h1:(⟨(pre++d.name).toArray⟩:ByteArray).size=pre.length+d.name.length:=by simp[ByteArray.size]
  have h2:=Qa aU;have h3:=(Qa HL).1;have h4:=(Qa HL).2.2.1;omega
 have zl:List.length pre+List.length d.name<=3000000000:=by
  have h2:=Qa aU;have h3:=(Qa HL).1;have h4:=(Qa HL).2.2.1;omega
 clear k n9 aD r ax ae ad C aE d9 cy aO aK ay bD cI cJ cK cl cm cB cn aB bo dW cV aX cj aV bw aY ck ci bz dc bi bj bk lf;go_wp2_with fail;refine Qas (tr:=.take 0 (.take 1 (.take 2 (.take 3 (.take 4 (.take 5 (.take 6 (.take 7 (.take 8 (.take 10 (.take 11 (.two 9 12 (.one 12 (.one 13 (.one 14 .nil))) (.one 9 (.one 13 (.one 14 .nil))))))))))))))) (fun W=>W.heap[xb]?=some (.cells #[str d.name,str d.comp,Ji d.at_] 93 (0,0))/\W.heap[bb]?=some (.cells #[.slice T J N,.slice U L H,.slice V aI O,.slice X s P,.slice Y M S] 28 (0,0))) mixedO (by kernel_rfl) rfl (by kernel_rfl) (fun PP ah=>?_)
 iterate 5 (refine tT (v:=?_) (fun w' hw=>?_) ?_;rotate_left;· (obtain⟨aa,bO⟩:=hw;obtain⟨ai,aq,ar,zf⟩:=cl3 aa;obtain⟨c6,c7,c8,c9,cc,yf⟩:=cl5 bO;go_simp<;>rfl))
 refine Qgi (v:=str (pre++d.name)) rfl (by kernel_rfl) (fun w' hw=>?_) ?_;· (unfold str;go_simp;rw[Qhn,if_neg (by omega)])
 refine Qgi (v:=str (pre++(d.name++[46]))) rfl (by kernel_rfl) (fun w' hw=>?_) ?_;· (unfold str;go_simp;rw[show(⟨#[46]⟩:ByteArray)=⟨([46]:Txt).toArray⟩ from rfl,Qhn,if_neg (by omega)];first|rfl|simp[List.append_assoc])
 iterate 4 (refine tT (v:=?_) (fun w' hw=>?_) ?_;rotate_left;· (obtain⟨aa,bO⟩:=hw;obtain⟨ai,aq,ar,zf⟩:=cl3 aa;obtain⟨c6,c7,c8,c9,cc,yf⟩:=cl5 bO;go_simp<;>rfl))
 refine Qbr rfl rfl (Qa B _ (Qa af).2.2.2.2.2.2) (fun K a=>?_) (fun K a=>?_)
 ·
  refine Qai rfl _ _ 51 rfl (Jn) yv (by kernel_rfl) (by kernel_rfl) cH ?_;refine a _ _ ?_;clear a K aN br bs;refine Qaf rfl (Qa B _ (Qa af).1) (fun K a=>?_);go_simp;rw[<- Qa cS];refine a _ _ ?_;clear a K;refine Qaf rfl (Qa B _ (Qa af).2.1) (fun K a=>?_);refine Qai rfl _ _ 51 rfl ua (.slice (Js Ua.heap.size) 1 1) (by kernel_rfl) (by kernel_rfl) bp ?_;refine a _ _ ?_;clear a K;refine Qaf rfl (Qa B _ (Qa af).2.2.1) (fun K a=>?_);go_simp;refine aM.mono ?_;clear aM;rintro en t⟨a9,a8,av,cs3,y3,s,mm,rfl,aJ,E,aC,an,ao,ap⟩;show K _ _;refine a _ _ ?_;clear a K;have SE:=Qa bm Va t a9 a8 av cs3 y3 s mm (Qa af).2.2.1 aJ E aC an ao ap;have aH:=hide (Qa cd Va t a9 a8 (Qa af).2.2.1 E);clear aJ E aC an ao ap;refine Qan (Qa aH) (ah _ _ ?_);clear ah PP aH;go_wp2_with fail;go_roundw
  case rel=>exact⟨_,i2+1,_,_,by rw[Qa a6],by simp,by omega,by rw[Qa a6];exact(Qa H8).2.2.1,by unfold maxLen;have:=(Qa H8).2.2.2;unfold maxLen at this;exact this,by rw[Qa a6];exact SE,hide (by have:=Qa bu;rw[Qa a6];omega)⟩
  case measure=>simp[intOf];omega
 go_simp;rw[<- Qa cT];refine a _ _ ?_;clear a K aM cH bp;refine Qaf rfl (Qa B _ (Qa af).2.2.2.1) (fun K a=>?_);refine Qai rfl _ _ 51 rfl (Jn) yv (by kernel_rfl) (by kernel_rfl) br ?_;refine a _ _ ?_;clear a K;refine Qaf rfl (Qa B _ (Qa af).2.2.2.2.1) (fun K a=>?_);refine Qai rfl _ _ 51 rfl ub (.slice (Js l.heap.size) 1 1) (by kernel_rfl) (by kernel_rfl) bs ?_;refine a _ _ ?_;clear a K;refine Qaf rfl (Qa B _ (Qa af).2.2.2.2.2.1) (fun K a=>?_);go_simp;refine aN.mono ?_;clear aN;rintro en t⟨a9,a8,av,cs3,y3,s,mm,rfl,aJ,E,aC,an,ao,ap⟩;show K _ _;refine a _ _ ?_;clear a K;have SE:=Qa bm Vb t a9 a8 av cs3 y3 s mm (Qa af).2.2.2.2.2.1 aJ E aC an ao ap;have aH:=hide (Qa cd Vb t a9 a8 (Qa af).2.2.2.2.2.1 E);clear aJ E aC an ao ap;refine Qan (Qa aH) (ah _ _ ?_);clear ah PP aH;go_wp2_with fail;go_roundw
 case rel=>exact⟨_,i2+1,_,_,by rw[Qa a6],by simp,by omega,by rw[Qa a6];exact(Qa H8).2.2.1,by unfold maxLen;have:=(Qa H8).2.2.2;unfold maxLen at this;exact this,by rw[Qa a6];exact SE,hide (by have:=Qa bu;rw[Qa a6];omega)⟩
 case measure=>simp[intOf];omega
end
section
variable {wb:Nat}{p0:Option Addr}{m0 o0:Nat}{p1:Option Addr}{m1 o1:Nat}{p2:Option Addr}{m2 o2:Nat}{p3:Option Addr}{m3 o3:Nat}{p4:Option Addr}{m4 o4:Nat}{p:Pg}{tv:Value}{Bd:Nat->Prop}
theorem isC_all(hfp:Few p 97)(hwf:WfZ 65537 p)(D:Nat):IsC wb p0 m0 o0 p1 m1 o1 p2 m2 o2 p3 m3 o3 p4 m4 o4 p tv Bd D:=by
 induction D using Nat.strongRecOn with
 |_ D ih=>exact Qko D (fun a h=>Qlx hfp hwf a (ih a h))
theorem icC_all(hfp:Few p 97)(hwf:WfZ 65537 p)(D:Nat):IcC wb p0 m0 o0 p1 m1 o1 p2 m2 o2 p3 m3 o3 p4 m4 o4 p tv Bd D:=Qlx hfp hwf D (isC_all hfp hwf D)
end
end
end Go.Proofs.YtkhndlnadhggkaaGreat
