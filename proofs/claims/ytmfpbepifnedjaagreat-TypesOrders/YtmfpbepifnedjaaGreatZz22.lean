/- The document's flattener. -/
import Derived.Test.YtmfpbepifnedjaaGreatZz01
import Derived.Test.YtmfpbepifnedjaaGreatZz20
import Derived.Test.YtmfpbepifnedjaaGreatZz21
set_option maxRecDepth 100000
set_option maxHeartbeats 32000000
namespace Go.Proofs.YtmfpbepifnedjaaGreat
section
open Go.RowKit Go.Maps
theorem Qti{S:Nat->Prop}{w:World}{wv:Value}{xs:List Txt}(h:LsAt PSt 1 S w wv xs)(hl:xs.length<=97)(t:Txt):
  ∃u U g c W8,(Builtin.append_ #[51,51] 51 #[Jn,wv]).run Tryz.prog (w.alloc (.cells #[str t] 9)) = .ok u U/\Below w.heap.size w U/\(Builtin.append_ #[51,51] 51 #[u,.slice (Js w.heap.size) 1 1]).run Tryz.prog U = .ok (.slice (Js g) (xs.length+1) c) W8/\Below w.heap.size w W8/\LsAt PSt 1 (fun b=>w.heap.size<=b) W8 (.slice (Js g) (xs.length+1) c) (xs++[t]):=by
 obtain⟨V,F,I,D,C⟩:=infoS
 have H:Tryz.prog.underlying 51=some (.slice 9):=by kernel_rfl
 have b1:Below w.heap.size w (w.alloc (.cells #[str t] 9)):=(Below.refl _ w).alloc (Nat.le_refl _) _
 have E:=heap_alloc_new w (.cells #[str t] 9)
 have i:=h.later Qam b1
 have T:(w.alloc (.cells #[str t] 9)).heap.size=w.heap.size+1:=by simp
 obtain⟨W,K⟩:=JE (w.alloc (.cells #[str t] 9))
 rw[<- K]at b1 E i T ⊢
 obtain⟨u,U,css,N,o1,k,d⟩:=Qei (ys:=xs) (css:=[]) (xs:=([]:List Txt)) (base:=W.heap.size) Qam (fun _ _ _ _ l c n=>by rw[l]at n;simp only[List.mem_singleton]at n;rw[n];simp[Value.oneCell']) H F I D C rfl (by decide) (by decide) (v:=Jn) (World.ownsRow_nil _ _ _ _) ⟨rfl,fun j x cs l=>by simp at l⟩ i (fun b _=>by simp[Value.ownBlock]) (by simp) hl (Nat.le_refl _)
 rw[List.nil_append]at o1 k
 have z:Below W.heap.size W U:=⟨d.os,d.tape,d.output,d.size,fun q o=>d.block q o (by simp[Value.ownBlock])⟩
 have B:Row PSt 1 9 W.heap.size (fun _=>False) U u xs:=⟨css,o1,k.1,fun j x cs i P=>k.2 j x cs i P⟩
 obtain⟨r,W8,G,f,a2,⟨g,c,J⟩,A⟩:=B.app (x:=t) (cs:=[str t]) Qam H F I D C rfl (by decide) (by decide) (fun b s=>s.elim) rfl (by simp[Value.oneCell',str]) rfl z.size (by omega) w.heap.size ((z.block _ (by omega)).trans E)
 subst J
 have a:Below w.heap.size w U:=b1.trans (z.mono (by omega))
 have M:Below w.heap.size w W8:=⟨f.os.trans a.os,f.tape.trans a.tape,f.output.trans a.output,Nat.le_trans a.size f.size,fun q o=>(f.block q (by have:=a.size;omega) (fun e=>by have:=(B.lt q e).1;omega)).trans (a.block q o)⟩
 have Q:xs.length+1=(xs++[t]).length:=by simp
 rw[Q]at A G ⊢
 obtain⟨cs8,O,L⟩:=A
 exact⟨u,U,g,c,W8,N,a,G,M,(Qid Qam O L).mono Qam (fun b _ s=>s.elim (fun e=>e.elim) (fun e=>by omega))⟩
structure InL(R:Nat->Prop)(wb:Nat)(p0:Option Addr)(m0 o0:Nat)(p1:Option Addr)(m1 o1:Nat)(p2:Option Addr)(m2 o2:Nat)(p3:Option Addr)(m3 o3:Nat)(p4:Option Addr)(m4 o4:Nat)(p:Pg)(tv:Value)(Bd:Nat->Prop)(w:World)(dv cv:Value)(y:Int)(m:Nat)(b0:Option Addr)(a0 c0:Nat)(b1:Option Addr)(a1 c1:Nat)(b2:Option Addr)(a2 c2:Nat)(b3:Option Addr)(a3 c3:Nat)(b4:Option Addr)(a4 c4:Nat)(W:World)(Rk:Nat->Prop)(dv' cv':Value)(ds':List Dcl)(cs':List Cls)(y' f':Int)(m':Nat)(sl:Value)(acc:List Txt):Prop where
 fl:Fl Rk wb p0 m0 o0 p1 m1 o1 p2 m2 o2 p3 m3 o3 p4 m4 o4 p tv Bd W dv' cv' ds' cs' y' f' m'
 sub:∀b,Rk b->R b∨w.heap.size<=b
 fk:FK wb dv cv dv' cv' w W
 ye:y≠0->y'≠0
 ml:m<=m'
 m97:m'<=97
 m0:y'=0->m'<=96
 bx:W.heap[w.heap.size]?=some (.cells #[.slice b0 a0 c0,.slice b1 a1 c1,.slice b2 a2 c2,.slice b3 a3 c3,.slice b4 a4 c4] 28 (0,0))
 row:Row PSt 1 9 (w.heap.size+1) (fun _=>False) W sl acc
 own:∀b,some b=sl.ownBlock -> ¬Rk b/\FS wb dv' cv' b
 low:∀b,Bd b/\b<wb->Rk b
 fb:FS wb dv' cv' w.heap.size
 wl:wb<w.heap.size
section
variable {R:Nat->Prop}{wb:Nat}{p0:Option Addr}{m0 o0:Nat}{p1:Option Addr}{m1 o1:Nat}{p2:Option Addr}{m2 o2:Nat}{p3:Option Addr}{m3 o3:Nat}{p4:Option Addr}{m4 o4:Nat}{p:Pg}{tv:Value}{Bd:Nat->Prop}{w W W':World}{dv cv dv' cv':Value}{ds':List Dcl}{cs':List Cls}{y y' f':Int}{m m':Nat}{b0:Option Addr}{a0 c0:Nat}{b1:Option Addr}{a1 c1:Nat}{b2:Option Addr}{a2 c2:Nat}{b3:Option Addr}{a3 c3:Nat}{b4:Option Addr}{a4 c4:Nat}{Rk:Nat->Prop}{sl:Value}{acc:List Txt}
theorem InL.later(h:InL R wb p0 m0 o0 p1 m1 o1 p2 m2 o2 p3 m3 o3 p4 m4 o4 p tv Bd w dv cv y m b0 a0 c0 b1 a1 c1 b2 a2 c2 b3 a3 c3 b4 a4 c4 W Rk dv' cv' ds' cs' y' f' m' sl acc)(b:Below W.heap.size W W'):InL R wb p0 m0 o0 p1 m1 o1 p2 m2 o2 p3 m3 o3 p4 m4 o4 p tv Bd w dv cv y m b0 a0 c0 b1 a1 c1 b2 a2 c2 b3 a3 c3 b4 a4 c4 W' Rk dv' cv' ds' cs' y' f' m' sl acc:=
 ⟨h.fl.later b,h.sub,h.fk.trans (FK.of_below b),h.ye,h.ml,h.m97,h.m0,(b.block _ (Qaa h.bx)).trans h.bx,h.row.mv Qam b.size (fun q c _=>b.block q c) (fun _ _ a=>a),h.own,h.low,h.fb,h.wl⟩
theorem InL.ls(h:InL R wb p0 m0 o0 p1 m1 o1 p2 m2 o2 p3 m3 o3 p4 m4 o4 p tv Bd w dv cv y m b0 a0 c0 b1 a1 c1 b2 a2 c2 b3 a3 c3 b4 a4 c4 W Rk dv' cv' ds' cs' y' f' m' sl acc):LsAt PSt 1 (fun b=>w.heap.size+1<=b) W sl acc:=by
 obtain⟨f,a,c⟩:=h.row
 exact(Qid Qam a c).mono Qam (fun b _ d=>d.elim (fun e=>e.elim) id)
theorem InL.met(h:InL R wb p0 m0 o0 p1 m1 o1 p2 m2 o2 p3 m3 o3 p4 m4 o4 p tv Bd w dv cv y m b0 a0 c0 b1 a1 c1 b2 a2 c2 b3 a3 c3 b4 a4 c4 W Rk dv' cv' ds' cs' y' f' m' sl acc)(hf:acc.length<=65536)(t:Txt):
  ∃g c w8,(Builtin.append_ #[51,51] 51 #[sl,.slice (Js W.heap.size) 1 1]).run Tryz.prog (W.alloc (.cells #[str t] 9)) = .ok (.slice (Js g) (acc.length+1) c) w8/\acc.length+1<=c/\c<=maxLen/\InL R wb p0 m0 o0 p1 m1 o1 p2 m2 o2 p3 m3 o3 p4 m4 o4 p tv Bd w dv cv y m b0 a0 c0 b1 a1 c1 b2 a2 c2 b3 a3 c3 b4 a4 c4 w8 (fun b=>Rk b/\b<W.heap.size) dv' cv' ds' cs' y' f' m' (.slice (Js g) (acc.length+1) c) (acc++[t])/\(∀q,q<W.heap.size->w.heap.size+1<=q->some q≠sl.ownBlock->w8.heap[q]?=W.heap[q]?):=by
 obtain⟨Z,J,O,F,E⟩:=infoS
 have f:Below W.heap.size W (W.alloc (.cells #[str t] 9)):=(Below.refl _ W).alloc (Nat.le_refl _) _
 have C:=heap_alloc_new W (.cells #[str t] 9)
 have P:(W.alloc (.cells #[str t] 9)).heap.size=W.heap.size+1:=by simp
 have D:=h.later f
 have l:∀b,some b=sl.ownBlock->w.heap.size+1<=b/\b<W.heap.size:=fun b e=>h.row.lt b e
 have S:=h.wl
 have V:=Qaa h.bx
 have U:=h.fk.size
 obtain⟨X,H⟩:=JE (W.alloc (.cells #[str t] 9))
 rw[<- H]at f C P D ⊢
 obtain⟨r,w8,d,i,K,⟨g,c,I⟩,z⟩:=D.row.app (x:=t) (cs:=[str t]) Qam (by kernel_rfl:Tryz.prog.underlying 51=some (.slice 9)) J O F E rfl (by decide) (by decide) (fun b j=>j.elim) rfl (by simp[Value.oneCell',str]) rfl (by omega) hf W.heap.size C
 subst I
 have G:=z
 obtain⟨Q,M,_⟩:=G
 have A:acc.length+1<=c/\c<=maxLen:=by
  rcases M.2 with ⟨e,_⟩|⟨g',cap,Y,e,_,_,B,L,_⟩
  ·cases e
  simp only[Value.slice.injEq]at e
  obtain⟨_,_,rfl⟩:=e
  rw[List.length_append]at B
  exact⟨B,L⟩
 have k:∀q,q<W.heap.size->some q≠sl.ownBlock->w8.heap[q]?=W.heap[q]?:=fun q a v=>(i.block q (by omega) v).trans (f.block q a)
 refine⟨g,c,w8,d,A.1,A.2,⟨?_,fun b u=>h.sub b u.1,?_,h.ye,h.ml,h.m97,h.m0,(k _ (by omega) (fun e=>by have:=l _ e;omega)).trans h.bx,z,?_,fun b u=>⟨h.low b u,by omega⟩,h.fb,h.wl⟩,fun q a _ v=>k q a v⟩
 ·
  refine(h.fl.mono (fun b N d=>(⟨d,N⟩:Rk b/\b<W.heap.size))).keep (by have:=i.size;omega) (fun q a j=>k q a (fun e=>?_))
  have n:=h.own q e
  have T:=l q e
  rcases j with s|s|s
  ·exact n.1 s.1
  ·omega
  rcases s with s|s
  ·exact n.2.2.1 s
  ·exact n.2.2.2 s
 ·exact⟨i.os.trans (f.os.trans h.fk.os),i.tape.trans (f.tape.trans h.fk.tape),i.output.trans (f.output.trans h.fk.output),by have:=i.size;omega,fun q a j=>(k q (by omega) (fun e=>by have:=l q e;omega)).trans (h.fk.block q a j),h.fk.fs⟩
 intro b e
 rcases K with o|o
 ·
  rw[o]at e
  exact⟨fun d=>(h.own b e).1 d.1,(h.own b e).2⟩
 rw[o]at e
 simp only[Option.some.injEq]at e
 exact⟨fun d=>by have:=d.2;omega,by omega,fun q=>by have:=h.fl.dlt b (.inl q);omega,fun q=>by have:=h.fl.dlt b (.inr q);omega⟩
end
section
variable {wb:Nat}{p0:Option Addr}{m0 o0:Nat}{p1:Option Addr}{m1 o1:Nat}{p2:Option Addr}{m2 o2:Nat}{p3:Option Addr}{m3 o3:Nat}{p4:Option Addr}{m4 o4:Nat}{p:Pg}{tv:Value}{Bd:Nat->Prop}
theorem Qmb(hfp:Few p 97)(hwf:WfZ 65537 p)(D:Nat)(hN:IsC wb p0 m0 o0 p1 m1 o1 p2 m2 o2 p3 m3 o3 p4 m4 o4 p tv Bd D):IcC wb p0 m0 o0 p1 m1 o1 p2 m2 o2 p3 m3 o3 p4 m4 o4 p tv Bd D:=fun R Q w dv cv ds cs y f m q b0 a0 c0 b1 a1 c1 b2 a2 c2 b3 a3 c3 b4 a4 c4 pre yv aT h bZ hm ce hD hP hQ bJ cn c5 cz bL=>by
 obtain⟨w2,aQ⟩:=JE (w.alloc (.cells #[.slice b0 a0 c0,.slice b1 a1 c1,.slice b2 a2 c2,.slice b3 a3 c3,.slice b4 a4 c4] 28))
 have aE:=bnw aQ
 have n2:=nnw aQ
 have s2:w2.heap.size=w.heap.size+1:=by rw[aQ];simp
 have aA:=h.lt
 obtain⟨d0,d1,d2,d3,d4,ee,d7,aZ,cW,bf,d9⟩:=PgS.cells hP
 obtain⟨-,e1,-,e3,-⟩:=list5 ee
 subst e1
 subst e3
 have cI:q.decls.length=a1:=by obtain⟨_,_,e⟩:=aZ.sl;cases e;rfl
 have cj:q.inits.length=a3:=by obtain⟨_,_,e⟩:=bf.sl;cases e;rfl
 have du:=aZ.cap rfl
 have dm:=bf.cap rfl
 have dl:a1<=97/\a3<=97:=by unfold Few at bJ;omega
 have cR:=hide (show ∀W,Below w.heap.size w W->LsAt PDc 5 (fun b=>Q b/\b<w.heap.size) W (.slice b1 a1 c1) q.decls from fun W r=>(aZ.mono Qau (S':=fun b=>Q b/\b<w.heap.size) (fun b I hq=>⟨hq,I⟩)).same Qau r.size (fun b hq I=>r.block b I))
 have cS:=hide (show ∀W dv' cv',FK wb dv cv dv' cv' w W->LsAt PIn 3 (fun b=>Q b/\b<w.heap.size) W (.slice b3 a3 c3) q.inits from fun W dv' cv' kW=>(bf.mono Qbi (S':=fun b=>Q b/\b<w.heap.size) (fun b I hq=>⟨hq,I⟩)).same Qbi kW.size (fun b hq I=>kW.block b I (hQ b hq.1 hq.2)))
 have aG:∀b,(some b=dv.ownBlock∨some b=cv.ownBlock)->b<w.heap.size:=fun b e=>(h.dlt b e).2
 have HA:=hide (Ya cI cj)
 have cA:=hide (show ∀(W:World) (sl:Value) (acc:List Txt),OwL (w.heap.size+1) w2 W sl acc->InL R wb p0 m0 o0 p1 m1 o1 p2 m2 o2 p3 m3 o3 p4 m4 o4 p tv Bd w dv cv y m b0 a0 c0 b1 a1 c1 b2 a2 c2 b3 a3 c3 b4 a4 c4 W (fun b=>R b/\b<w.heap.size) dv cv ds cs y f m sl acc from fun W sl acc o=>by
  have r:Below w.heap.size w W:=aE.trans (o.b.mono (by omega))
  refine⟨(h.mono (fun b I hr=>⟨hr,I⟩)).later r,fun b n=>.inl n.1,FK.of_below r,fun e=>e,Nat.le_refl _,hm,ce,(o.b.block _ (by omega)).trans n2,o.row,fun b e=>?_,fun b n=>⟨bZ b n,by omega⟩,⟨by omega,fun e=>by have:=aG _ (.inl e);omega,fun e=>by have:=aG _ (.inr e);omega⟩,aA⟩
  have:=o.row.lt b e
  exact⟨fun hr=>by have:=hr.2;omega,by omega,fun e=>by have:=aG b (.inl e);omega,fun e=>by have:=aG b (.inr e);omega⟩)
 have S0:Hid (OwL (w.heap.size+1) w2 w2 (Jn) []):=hide (OwL.nil (by omega))
 have HW:=hide aQ
 have H2:=hide (Ya aE (Ya n2 s2))
 have HF:=hide (Ya bJ cn)
 have HP:=hide (Ya hfp hwf)
 have HY:=hide cz
 have HN:=hide hN
 have cV:=hide bZ
 have HL:=hide (Ya c5 (Ya bL (Ya hm hD)))
 have HD:=hide (Ya aA aG)
 clear aQ aE n2 s2 aA aG ee d7 aZ cW bf d9 cI cj h bZ ce hD hP hQ bJ cn c5 cz bL hN hfp hwf
 go_enter Tryz.func27,Tryz.ntmps27
 go_upto_region 1 with fail
 rw[<- Qa HW]
 clear HW
 go_wp2_with fail
 go_loopw [8,9] (fun lv iv wr=>∃(acc:List Txt) (i:Nat) (sa:Option Addr) (sc:Nat),lv = .slice sa acc.length sc/\iv = Ji (i:Int)/\i<=a1/\acc.length<=sc/\sc<=maxLen/\Hid (OwL (w.heap.size+1) w2 wr (.slice sa acc.length sc) acc)/\Hid (acc.length=i)) (fun _ iv _=>a1 - (intOf iv).toNat)
 case atStart=>exact⟨[],0,none,0,rfl,rfl,Nat.zero_le _,Nat.le_refl _,by unfold maxLen;omega,S0,hide rfl⟩
 obtain⟨acc,i,sa,sc,rfl,rfl,hi,cd,bE,HI,HS⟩:=hrel
 unfold maxLen at bE
 clear S0
 obtain⟨bP,bO,bV,bH,cc,xf⟩:=cl5 (((Qa HI).b.block _ (by omega)).trans (Qa H2).2.1)
 by_cases aY:i<a1
 ·
  obtain⟨d,aB⟩:∃d,q.decls[i]?=some d:=⟨q.decls[i]'(by rw[(Qa HA).1];exact aY),List.getElem?_eq_getElem _⟩
  obtain⟨gb,cap,qs,e1,bG,bF,c8,⟨xa,xn,xc,rfl,hX⟩,aL⟩:=(Qa cR wr ((Qa H2).1.trans ((Qa HI).b.mono (by omega)))).elem aB
  simp only[Value.slice.injEq]at e1
  obtain⟨rfl,-,rfl⟩:=e1
  have ah:wr.cell? (Ja gb (i*5))=some (str d.name):=aL 0 _ rfl
  obtain⟨g,c,j,al,be,b9,cl⟩:=(Qa HI).more (by have:=Qa HS;omega) d.name
  have ao:=hide al
  have df:=hide cl
  have a6:=hide (show(acc++[d.name]).length=i+1 by rw[List.length_append,Qa HS];rfl)
  clear aB bG bF c8 hX aL al cl
  go_wp2_with (at_builtin;refine Qai _ rfl _ _ 51 rfl _ _ rfl rfl _ _ (Qa ao) ?_;clear ao)
  go_roundw
  case rel=>exact⟨_,i+1,_,_,by rw[Qa a6,<- Qa HS],by simp,by omega,by rw[Qa a6,<- Qa HS];exact be,b9,by rw[Qa a6,<- Qa HS];exact df,a6⟩
  case measure=>simp[intOf];omega
 have S1:Hid (∃Rk x A ab ac y2 F mk,InL R wb p0 m0 o0 p1 m1 o1 p2 m2 o2 p3 m3 o3 p4 m4 o4 p tv Bd w dv cv y m b0 a0 c0 b1 a1 c1 b2 a2 c2 b3 a3 c3 b4 a4 c4 wr Rk x A ab ac y2 F mk (.slice sa acc.length sc) acc):=hide ⟨_,_,_,_,_,_,_,_,Qa cA wr _ _ (Qa HI)⟩
 have cx:=hide (show acc.length<=97 by have:=Qa HS;omega)
 have bN:=hide (Ya cd bE)
 clear cA H2
 go_wp2_with fail
 clear bP bO bV bH cc xf HS aY hi cd bE
 go_loopw [8,10] (fun lv iv wr=>∃(a5:List Txt) (i2:Nat) (bd:Option Addr) (sc2:Nat),lv = .slice bd a5.length sc2/\iv = Ji (i2:Int)/\i2<=a3/\a5.length<=sc2/\sc2<=maxLen/\Hid (∃Rk x A ab ac y2 F mk,InL R wb p0 m0 o0 p1 m1 o1 p2 m2 o2 p3 m3 o3 p4 m4 o4 p tv Bd w dv cv y m b0 a0 c0 b1 a1 c1 b2 a2 c2 b3 a3 c3 b4 a4 c4 wr Rk x A ab ac y2 F mk (.slice bd a5.length sc2) a5)/\Hid (a5.length<=97+i2)) (fun _ iv _=>a3 - (intOf iv).toNat)
 case atStart=>exact⟨acc,0,sa,sc,rfl,rfl,Nat.zero_le _,(Qa bN).1,by unfold maxLen;exact(Qa bN).2,S1,cx⟩
 clear S1 cx bN HI
 obtain⟨a5,i2,bd,sc2,rfl,rfl,dp,dr,cY,ci,c6⟩:=hrel
 unfold maxLen at cY
 obtain⟨Rk,x,A,ab,ac,y2,F,ax,h5⟩:=Qa ci
 clear ci
 obtain⟨bP,bO,bV,bH,cc,xf⟩:=cl5 h5.bx
 have hz:=h5.fl.z
 obtain⟨bA,bt,bz,bw,bv,dd,dc,cX,de,dj,cJ,co,cF,vf⟩:=cl13 h5.fl.box
 have af:=hide (show ∀(W:World) (G f9:Int) (K:Kp wb wr W) ,Fl Rk wb p0 m0 o0 p1 m1 o1 p2 m2 o2 p3 m3 o3 p4 m4 o4 p tv Bd W x A ab ac G f9 ax->(y2≠0->G≠0)->(G=0->y2=0)->InA R wb p0 m0 o0 p1 m1 o1 p2 m2 o2 p3 m3 o3 p4 m4 o4 p tv Bd w dv cv y m (.returned (.tuple #[])) W from fun W G f9 K hF e1 e2=>⟨x,A,ab,ac,G,f9,ax,rfl,hF.mono (fun b _ hr=>h5.sub b hr),h5.fk.trans (FK.of_kp K),fun e=>e1 (h5.ye e),h5.ml,h5.m97,fun e=>h5.m0 (e2 e)⟩)
 have H5:=hide h5
 clear h5 dd dc cX de dj cF
 by_cases aY:i2<a3
 ·
  by_cases hy:y2=0
  ·
   have hf:=hz hy
   subst hy
   subst hf
   clear hz
   obtain⟨d,aB⟩:∃d,q.inits[i2]?=some d:=⟨q.inits[i2]'(by rw[(Qa HA).2];exact aY),List.getElem?_eq_getElem _⟩
   obtain⟨gb,cap,qs,e1,bG,bF,c8,hX,aL⟩:=(Qa cS wr x A (Qa H5).fk).elem aB
   simp only[Value.slice.injEq]at e1
   obtain⟨rfl,-,rfl⟩:=e1
   have cZ:qs=[str d.name,str d.comp,Ji d.at_]:=hX
   subst cZ
   obtain⟨ah,an,am⟩:=cs3 aL
   have bu:d.name.length<=65536:=by cases (Qa HF).2 with|mk ts ab ac is ls hT hC hL hDD hI hBB=>exact hI _ (List.mem_of_getElem? aB)
   obtain⟨N,E⟩:=JE (wr.alloc (.cells #[str d.name,str d.comp,Ji d.at_] 93))
   have b5:=bnw E
   have n5:=nnw E
   obtain⟨xb,aN⟩:=JF wr.heap.size
   rw[aN]at n5
   have h6:=(Qa H5).later b5
   have aJ:=Qji h6.ls d.name
   obtain⟨bc,aW,b8,lf⟩:=cl3 n5
   have bg:=hide bu
   have H6:=hide (Ya h6 (Ya b5 (Ya n5 aN)))
   have cu:=hide E
   clear aB bG bF c8 hX aL bu E b5 n5 aN h6
   go_upto_region 10 with fail
   rw[<- Qa cu,(Qa H6).2.2.2]
   clear cu ah an am
   go_wp2_with fail
   refine aJ.mono ?_
   clear aJ
   rintro en w6⟨⟨bq,rfl⟩,rfl⟩
   cases bq
   ·
    obtain⟨h6,b5,n5,aN⟩:=Qa H6
    obtain⟨g,c,j,al,be,b9,h8,cD⟩:=h6.met (by have:=Qa c6;omega) d.name
    have cf:some xb≠(Value.slice bd a5.length sc2).ownBlock:=fun e=>by have:=((Qa H5).row.lt xb e).2;omega
    have cE:=Qaa n5
    have bB:w.heap.size+1<=xb:=by have:=(Qa H5).fk.size;have:=Qaa (Qa H5).bx;omega
    have n8:=(cD xb cE bB cf).trans n5
    have ao:=hide al
    have H8:=hide (Ya h8 (Ya n8 (Ya be b9)))
    have dw:=hide bB
    have cQ:=hide (show FS wb x A xb from ⟨by have:=(Qa HD).1;omega,fun e=>by have:=(Qa H5).fl.dlt xb (.inl e);omega,fun e=>by have:=(Qa H5).fl.dlt xb (.inr e);omega⟩)
    obtain⟨bc,aW,b8,lf⟩:=cl3 n5
    have a6:=hide (show(a5++[d.name]).length=a5.length+1 by rw[List.length_append];rfl)
    obtain⟨PX,ba⟩:∃PX:World->Nat->Int->Prop,PX=fun W bb e=>∃(q5:Pg) (Y M S U X:Option Addr) (J T F s O Z H V P L:Nat),Below j.heap.size j W/\W.heap[bb]?=some (.cells #[.slice Y J Z,.slice M T H,.slice S F V,.slice U s P,.slice X O L] 28 (0,0))/\PgS (fun b=>(Bd b/\b<wb)∨j.heap.size<=b) W [.slice Y J Z,.slice M T H,.slice S F V,.slice U s P,.slice X O L] q5/\Few q5 97/\WfZ 65537 q5/\j.heap.size<=bb:=⟨_,rfl⟩
    have B:=hide (show ∀W,Below j.heap.size j W->W.heap[xb]?=some (.cells #[str d.name,str d.comp,Ji d.at_] 93 (0,0))/\W.cell? (Ja wb 0)=some (.slice p0 m0 o0)/\W.cell? (Ja wb 1)=some (.slice p1 m1 o1)/\W.cell? (Ja wb 2)=some (.slice p2 m2 o2)/\W.cell? (Ja wb 3)=some (.slice p3 m3 o3)/\W.cell? (Ja wb 4)=some (.slice p4 m4 o4) from fun W r=>by
     have I:=h8.later r
     obtain⟨bA,bt,bz,bw,bv,_⟩:=cl13 I.fl.box
     exact⟨(r.block _ (Qaa n8)).trans n8,bA,bt,bz,bw,bv⟩)
    have ay:=hide (show ∀W,Below j.heap.size j W->Calls Tryz.prog 67 #[.agg #[.slice p0 m0 o0,.slice p1 m1 o1,.slice p2 m2 o2,.slice p3 m3 o3,.slice p4 m4 o4],str d.comp] W fun en w'=>∃v q e,en = .returned (.tuple #[v,Ji e])/\VPg (fun b=>(Bd b/\b<wb)∨W.heap.size<=b) w' v q/\(e≠0->q = .none)/\Few q 97/\WfZ 65537 q/\Below W.heap.size W w' from fun W r=>Qof (Qa HP).1 (Qa HP).2 (h8.later r).fl.hp (by have:=(h8.later r).fl.lt;omega) d.comp)
    clear h6 b5 n5 aN al be b9 h8 cD cf cE bB n8 af
    go_upto_region 12 with fail
    go_wp2_with (at_builtin;refine Qai _ rfl _ _ 51 rfl _ _ rfl rfl _ _ (Qa ao) ?_;clear ao)
    clear bc aW b8 lf bP bO bV bH cc xf bA bt bz bw bv cJ co vf
    go_cut [12,13] from 30 to 102 (fun u v wc=>∃(bb:Nat) (e:Int),u = .pointer (Js bb)/\v = Ji e/\PX wc bb e)
    case first=>
     go_wp2_with fail
     refine Qav (tr:=.take 0 (.take 1 (.take 2 (.take 3 (.take 4 (.take 5 (.two 6 10 (.take 7 (.take 8 (.take 9 (.one 10 (.one 11 (.take 12 .nil)))))) (.one 6 (.take 7 (.take 8 (.take 9 (.one 11 (.take 12 .nil))))))))))))) (fun W=>W.heap[xb]?=some (.cells #[str d.name,str d.comp,Ji d.at_] 93 (0,0))/\W.cell? (Ja wb 0)=some (.slice p0 m0 o0)/\W.cell? (Ja wb 1)=some (.slice p1 m1 o1)/\W.cell? (Ja wb 2)=some (.slice p2 m2 o2)/\W.cell? (Ja wb 3)=some (.slice p3 m3 o3)/\W.cell? (Ja wb 4)=some (.slice p4 m4 o4)) mixedO (by kernel_rfl) rfl (by kernel_rfl) (fun PP ai=>?_)
     iterate 6 (refine tT (v:=?_) (fun w' hw=>?_) ?_;rotate_left;· (obtain⟨a7,bl,aU,aV,bj,bh⟩:=hw;obtain⟨ah,an,am,zf⟩:=cl3 a7;go_simp<;>rfl))
     refine Qbu rfl rfl (Qa B _ (Below.refl _ j).drew) (fun K a=>?_) (fun K a=>?_)
     ·
      go_simp
      refine(Qa ay j.drew (Below.refl _ j).drew).mono ?_
      rintro en N⟨v5,q5,e,rfl,⟨Y,J,Z,M,T,H,S,F,V,U,s,P,X,O,L,rfl,ad⟩,bU,ae,E,b5⟩
      show K _ _
      refine a _ _ ?_
      clear a K bU
      have a9:Below j.heap.size j N:=(Below.refl _ j).drew.trans b5
      have hds:j.drew.heap.size=j.heap.size:=rfl
      iterate 3 (refine tT (v:=?_) (fun w' hw=>?_) ?_;rotate_left;· (obtain⟨a7,bl,aU,aV,bj,bh⟩:=hw;obtain⟨ah,an,am,zf⟩:=cl3 a7;go_simp<;>rfl))
      refine Qag rfl (Qa B N a9) (fun K a=>?_)
      go_simp
      refine a _ _ ?_
      clear a K
      have b6:Below N.heap.size N (N.alloc (.cells #[Jn,Jn,Jn,Jn,Jn] 28)):=(Below.refl _ N).alloc (Nat.le_refl _) _
      refine Qag rfl (Qa B _ (a9.trans (b6.mono a9.size))) (fun K a=>?_)
      go_simp
      refine a _ _ ?_
      clear a K
      obtain⟨W7,az⟩:=JE (N.alloc (.cells #[.slice Y J Z,.slice M T H,.slice S F V,.slice U s P,.slice X O L] 28))
      have b7:=bnw az
      have n7:=nnw az
      rw[<- az]
      refine tT (v:=?_) (fun w' hw=>?_) ?_;rotate_left;· (obtain⟨a7,bl,aU,aV,bj,bh⟩:=hw;obtain⟨ah,an,am,zf⟩:=cl3 a7;go_simp<;>rfl)
      refine Qap (Qa B _ (a9.trans (b7.mono a9.size))) (ai _ _ ?_)
      clear ai PP
      have c9:=hide (show PX W7 N.heap.size e by
       rw[ba]
       exact⟨q5,Y,M,S,U,X,J,T,F,s,O,Z,H,V,P,L,a9.trans (b7.mono a9.size),n7,Qak.same _ N W7 _ _ ad b7.size (fun q _ I=>b7.block q I),ae,E,a9.size⟩)
      clear ad ae E b5 a9 hds b6 az b7 n7
      go_wp2_with fail
      go_meet
      exact⟨_,e,rfl,rfl,Qa c9⟩
     go_simp
     refine a _ _ ?_
     clear a K
     obtain⟨aH,aj⟩:=JE ((j.alloc (.cells #[Jn,Jn,Jn,Jn,Jn] 28)).drew)
     have b4:Below j.heap.size j aH:=by rw[aj];exact((Below.refl _ _).alloc (Nat.le_refl _) _).drew
     have n4:aH.heap[j.heap.size]?=some (.cells #[Jn,Jn,Jn,Jn,Jn] 28 (0,0)):=by rw[aj];exact heap_alloc_new j _
     have da:aH.heap.size=j.heap.size+1:=by rw[aj];show(j.alloc (.cells #[Jn,Jn,Jn,Jn,Jn] 28)).heap.size=_;simp
     rw[<- aj]
     clear aj
     refine Qag rfl (Qa B aH b4) (fun K a=>?_)
     go_simp
     refine(Qa ay aH b4).mono ?_
     rintro en N⟨v5,q5,e,rfl,⟨Y,J,Z,M,T,H,S,F,V,U,s,P,X,O,L,rfl,ad⟩,bU,ae,E,b5⟩
     show K _ _
     refine a _ _ ?_
     clear a K bU
     have a9:Below j.heap.size j N:=b4.trans (b5.mono b4.size)
     have n5:=(b5.block _ (by omega)).trans n4
     iterate 3 (refine tT (v:=?_) (fun w' hw=>?_) ?_;rotate_left;· (obtain⟨a7,bl,aU,aV,bj,bh⟩:=hw;obtain⟨ah,an,am,zf⟩:=cl3 a7;go_simp<;>rfl))
     obtain⟨W7,az,sc⟩:=sc5 n5 (.slice Y J Z) (.slice M T H) (.slice S F V) (.slice U s P) (.slice X O L)
     obtain⟨bD,bR,bQ,bI,bM,yf⟩:=cl5 n5
     refine Qag rfl (Qa B N a9) (fun K a=>?_)
     go_simp
     rw[<- az]
     refine a _ _ ?_
     clear a K
     have bY:Below j.heap.size j W7:=sc.below a9 (Nat.le_refl _)
     refine tT (v:=?_) (fun w' hw=>?_) ?_;rotate_left;· (obtain⟨a7,bl,aU,aV,bj,bh⟩:=hw;obtain⟨ah,an,am,zf⟩:=cl3 a7;go_simp<;>rfl)
     refine Qap (Qa B _ bY) (ai _ _ ?_)
     clear ai PP
     have c9:=hide (show PX W7 j.heap.size e by
      rw[ba]
      exact⟨q5,Y,M,S,U,X,J,T,F,s,O,Z,H,V,P,L,bY,sc.box,Qak.mono _ _ _ _ _ (Qak.same _ N W7 _ _ ad (by rw[sc.size];exact Nat.le_refl _) (fun q hq _=>sc.oth q (by have:=(Qa HD).1;have:=(Qa H8).1.fk.size;rcases hq with hq|hq<;>omega))) (fun b _ n=>by rcases n with n|n;exact .inl n;exact .inr (by omega)),ae,E,Nat.le_refl _⟩)
     clear ad ae E b5 a9 b4 n4 da n5 az sc bY bD bR bQ bI bM yf
     go_wp2_with fail
     go_meet
     exact⟨_,e,rfl,rfl,Qa c9⟩
    obtain⟨bb,e,rfl,rfl,hX⟩:=hcut
    rw[ba]at hX
    obtain⟨q5,Y,M,S,U,X,J,T,aO,s,O,Z,H,V,P,L,r,au,ad,ae,E,aC⟩:=hX
    obtain⟨WX,d8⟩:=JE wc
    subst d8
    clear ba B ay
    have k:=(Qa H8).1.later r
    have n9:=(r.block _ (Qaa (Qa H8).2.1)).trans (Qa H8).2.1
    obtain⟨bc,aW,b8,lf⟩:=cl3 n9
    have af:=hide (show ∀(W:World) (G f9:Int),Kp wb WX W->Fl (fun b=>Rk b/\b<w6.heap.size) wb p0 m0 o0 p1 m1 o1 p2 m2 o2 p3 m3 o3 p4 m4 o4 p tv Bd W x A ab ac G f9 ax->G≠0->InA R wb p0 m0 o0 p1 m1 o1 p2 m2 o2 p3 m3 o3 p4 m4 o4 p tv Bd w dv cv y m (.returned (.tuple #[])) W from fun W G f9 K hF cK=>⟨x,A,ab,ac,G,f9,ax,rfl,hF.mono (fun b _ hr=>k.sub b hr),k.fk.trans (FK.of_kp K),fun _=>cK,k.ml,k.m97,fun e=>absurd e cK⟩)
    by_cases he:e=0
    have ge:(e != 0)=false:=by simp[he]
    have aF:=(Qa HY).fk Qam k.fk
    have aJ:=Qji aF d.comp
    have dt:=hide he
    have H9:=hide (Ya k (Ya n9 (Ya aF (Ya r (Ya au (Ya ad (Ya ae (Ya E aC))))))))
    clear he k n9 aF r au ad ae E aC
    go_wp2_with fail
    refine aJ.mono ?_
    clear aJ
    rintro en l⟨⟨bq,rfl⟩,rfl⟩
    cases bq
    ·
     obtain⟨k,n9,aF,r,au,ad,ae,E,aC⟩:=Qa H9
     have cT:=k.fk.size
     have cy:=Qaa k.bx
     have B:=hide (show ∀W,Below l.heap.size l W->W.heap[xb]?=some (.cells #[str d.name,str d.comp,Ji d.at_] 93 (0,0))/\W.heap[bb]?=some (.cells #[.slice Y J Z,.slice M T H,.slice S aO V,.slice U s P,.slice X O L] 28 (0,0)) from fun W r=>⟨(r.block _ (Qaa n9)).trans n9,(r.block _ (Qaa au)).trans au⟩)
     have aS:∀b,(some b=x.ownBlock∨some b=A.ownBlock)->wb<b/\b<j.heap.size:=fun b e=>(Qa H8).1.fl.dlt b e
     have aI:∀b,((Bd b/\b<wb)∨j.heap.size<=b)->FS wb x A b:=fun b n=>by
      have dh:=(Qa H8).1.fl.lt
      exact⟨by omega,fun e=>by have:=aS b (.inl e);omega,fun e=>by have:=aS b (.inr e);omega⟩
     have bs:=hide (show ∀(W:World) (wv:Value),Below l.heap.size l W->LsAt PSt 1 (FS wb x A) W wv (aT++[d.comp])->Calls Tryz.prog 68 #[.pointer (Js wb),.agg #[.slice Y J Z,.slice M T H,.slice S aO V,.slice U s P,.slice X O L],str (pre++(d.name++[46])),.agg #[str d.name,str d.comp,Ji d.at_],wv] W fun en w'=>InA (fun b=>(Rk b/\b<w6.heap.size)∨((Bd b/\b<wb)∨j.heap.size<=b)) wb p0 m0 o0 p1 m1 o1 p2 m2 o2 p3 m3 o3 p4 m4 o4 p tv Bd W x A 0 ax en w' from fun W wv bX cP=>by
      have c5:=(Qa HL).1
      have bL:=(Qa HL).2.1
      have hD:=(Qa HL).2.2.2
      have dk:=k.ml
      have ck:=k.m0 rfl
      have bu:=Qa bg
      have h0:=Nat.mul_le_mul_left 65537 dk
      refine Qa HN _ (fun b=>(Bd b/\b<wb)∨j.heap.size<=b) W x A ab ac 0 0 ax q5 Y J Z M T H S aO V U s P X O L (pre++(d.name++[46])) d.name d.comp d.at_ wv (aT++[d.comp]) ((k.fl.later bX).mono (fun b _ hr=>.inl hr)) (fun b n=>.inr (.inl n)) ck (by omega) (Qak.same _ l W _ _ ad bX.size (fun q _ I=>bX.block q I)) (fun b n _=>⟨aI b n,.inr n⟩) ae E ?_ cP ?_
      ·
       simp only[List.length_append,List.length_cons,List.length_nil]
       omega
      simp only[List.length_append,List.length_cons,List.length_nil]
      omega)
     have bn:=hide (show ∀(W8 t:World) (aa a8:Value) (aw:List Dcl) (cs3:List Cls) (y3 s:Int) (mm:Nat),Below l.heap.size l W8->Fl (fun b=>((Rk b/\b<w6.heap.size)∨((Bd b/\b<wb)∨j.heap.size<=b))∨W8.heap.size<=b) wb p0 m0 o0 p1 m1 o1 p2 m2 o2 p3 m3 o3 p4 m4 o4 p tv Bd t aa a8 aw cs3 y3 s mm->FK wb x A aa a8 W8 t->((0:Int)≠0->y3≠0)->ax<=mm->mm<=97->(y3=0->mm<=96)->Hid (∃Rk x A ab ac y2 F mk,InL R wb p0 m0 o0 p1 m1 o1 p2 m2 o2 p3 m3 o3 p4 m4 o4 p tv Bd w dv cv y m b0 a0 c0 b1 a1 c1 b2 a2 c2 (Js gb) a3 c3 b4 a4 c4 t Rk x A ab ac y2 F mk (.slice (Js g) (a5.length+1) c) (a5++[d.name])) from fun W8 t aa a8 aw cs3 y3 s mm bX hF C aD ma mb mc=>by
      have bT:=k.later bX
      have cm:∀b,some b=(Value.slice (Js g) (a5.length+1) c).ownBlock->w.heap.size+1<=b/\b<j.heap.size:=fun b e=>(Qa H8).1.row.lt b e
      have aA:=k.wl
      have dh:w.heap.size<j.heap.size:=Qaa (Qa H8).1.bx
      have dn:=bX.size
      have dq:=r.size
      refine hide ⟨_,aa,a8,aw,cs3,y3,s,mm,hF,fun b n=>?_,bT.fk.trans C,fun e=>absurd rfl (k.ye e),Nat.le_trans k.ml ma,mb,mc,(C.block _ (by omega) k.fb).trans bT.bx,bT.row.mv Qam C.size (fun q hq hs=>?_) (fun _ _ hs=>hs),fun b e=>⟨?_,C.fs b (by have:=cm b e;omega) (k.own b e).2⟩,fun b n=>.inl (.inr (.inl n)),C.fs _ (by omega) k.fb,k.wl⟩
      ·
       rcases n with (n|n|n)|n
       ·exact k.sub b n
       ·exact .inl (Qa cV b n)
       ·exact .inr (by omega)
       ·exact .inr (by omega)
      ·
       rcases hs with hs|hs
       ·exact hs.elim
       ·exact C.block q hq (k.own q hs).2
      have:=cm b e
      rintro((n|n|n)|n)
      ·exact(k.own b e).1 n
      ·omega
      ·omega
      ·omega)
     have cH:=hide (show ∀(W8 t:World) (aa a8:Value),Below l.heap.size l W8->FK wb x A aa a8 W8 t->t.heap[xb]?=some (.cells #[str d.name,str d.comp,Ji d.at_] 93 (0,0))/\t.heap[bb]?=some (.cells #[.slice Y J Z,.slice M T H,.slice S aO V,.slice U s P,.slice X O L] 28 (0,0)) from fun W8 t aa a8 bX C=>by
      obtain⟨cL,cr⟩:=Qa B W8 bX
      have dg:=Qa cQ
      exact⟨(C.block _ (Qaa cL) dg).trans cL,(C.block _ (Qaa cr) (aI _ (.inr aC))).trans cr⟩)
     have av:aT.length<=97:=by have:=(Qa HL).2.1;have:=(Qa HL).2.2.1;omega
     have c7:=aF.later Qam (w':=l.drew) (Below.refl _ l).drew
     obtain⟨ua,Ua,ga,ca,Va,cG,cw,cN,cp,ct⟩:=Qre c7 av d.comp
     obtain⟨ub,Ub,di,cb,Vb,cM,cq,cg,aE,bo⟩:=Qti c7 av d.comp
     have dW:Below l.heap.size l l.drew:=(Below.refl _ l).drew
     have cO:l.drew.heap.size=l.heap.size:=rfl
     obtain⟨XA,bk⟩:=JE (Ua.alloc (.cells #[str d.comp] 9))
     have cC:=bnw bk
     have aX:Below l.heap.size l Ua:=dW.trans cw
     have bK:Below l.heap.size l Va:=dW.trans cp
     obtain⟨XB,bi⟩:=JE (l.drew.alloc (.cells #[str d.comp] 9))
     have ch:Below l.heap.size l XB:=by rw[bi];exact dW.alloc (Nat.le_refl _) _
     have cB:Below l.heap.size l Ub:=dW.trans cq
     have bS:Below l.heap.size l Vb:=dW.trans aE
     have d5:j.heap.size<=l.heap.size:=r.size
     have aP:=Qa bs Va _ bK (ct.mono Qam (fun b _ n=>aI b (.inr (by have cU:l.heap.size<=b:=n;omega))))
     have aK:=Qa bs Vb _ bS (bo.mono Qam (fun b _ n=>aI b (.inr (by have cU:l.heap.size<=b:=n;omega))))
     have br:(Builtin.append_ #[51,51] 51 #[ua,.slice (Js Ua.heap.size) 1 1]).run Tryz.prog XA = .ok (.slice (Js ga) (aT.length+1) ca) Va:=by rw[bk];exact cN
     have bm:(Builtin.append_ #[51,51] 51 #[Jn,yv]).run Tryz.prog XB = .ok ub Ub:=by rw[bi];exact cM
     have bp:(Builtin.append_ #[51,51] 51 #[ub,.slice (Js l.heap.size) 1 1]).run Tryz.prog Ub = .ok (.slice (Js di) (aT.length+1) cb) Vb:=cg
     have ag:=hide (Ya aX (Ya (aX.trans (cC.mono aX.size)) (Ya bK (Ya ch (Ya cB (Ya bS dW))))))
     have d6:=hide bk
     have db:=hide (show XB=(l.alloc (.cells #[str d.comp] 9)).drew from bi)
     have zp:(⟨pre.toArray⟩:ByteArray).size<=1000000000:=by
      have h3:=(Qa HL).1
      have h4:=(Qa HL).2.2.1
      have e:(⟨pre.toArray⟩:ByteArray).size=pre.length:=by simp[ByteArray.size]
      omega
     have zn:(⟨d.name.toArray⟩:ByteArray).size<=1000000000:=by
      have h3:=Qa bg
      have e:(⟨d.name.toArray⟩:ByteArray).size=d.name.length:=by simp[ByteArray.size]
      omega
     have zc:(⟨(pre++d.name).toArray⟩:ByteArray).size<=3000000000:=by
      have h1:(⟨(pre++d.name).toArray⟩:ByteArray).size=pre.length+d.name.length:=by simp[ByteArray.size]
      have h2:=Qa bg
      have h3:=(Qa HL).1
      have h4:=(Qa HL).2.2.1
      omega
     have zl:List.length pre+List.length d.name<=3000000000:=by
      have h2:=Qa bg
      have h3:=(Qa HL).1
      have h4:=(Qa HL).2.2.1
      omega
     clear k n9 aF r au ad ae E aC cT cy aS aI av c7 cN cM cg cw cp ct cq aE bo dW cO bk cC aX bK bi ch cB bS d5 bc aW b8 lf
     go_wp2_with fail
     refine Qav (tr:=.take 0 (.take 1 (.take 2 (.take 3 (.take 4 (.take 5 (.take 6 (.take 7 (.take 8 (.take 10 (.take 11 (.two 9 12 (.one 12 (.one 13 (.one 14 .nil))) (.one 9 (.one 13 (.one 14 .nil))))))))))))))) (fun W=>W.heap[xb]?=some (.cells #[str d.name,str d.comp,Ji d.at_] 93 (0,0))/\W.heap[bb]?=some (.cells #[.slice Y J Z,.slice M T H,.slice S aO V,.slice U s P,.slice X O L] 28 (0,0))) mixedO (by kernel_rfl) rfl (by kernel_rfl) (fun PP ai=>?_)
     iterate 5 (refine tT (v:=?_) (fun w' hw=>?_) ?_;rotate_left;· (obtain⟨a7,bC⟩:=hw;obtain⟨ah,an,am,zf⟩:=cl3 a7;obtain⟨bD,bR,bQ,bI,bM,yf⟩:=cl5 bC;go_simp<;>rfl))
     refine Qgm (v:=str (pre++d.name)) rfl (by kernel_rfl) (fun w' hw=>?_) ?_;· (unfold str;go_simp;rw[Qht,if_neg (by omega)])
     refine Qgm (v:=str (pre++(d.name++[46]))) rfl (by kernel_rfl) (fun w' hw=>?_) ?_;· (unfold str;go_simp;rw[show(⟨#[46]⟩:ByteArray)=⟨([46]:Txt).toArray⟩ from rfl,Qht,if_neg (by omega)];first|rfl|simp[List.append_assoc])
     iterate 4 (refine tT (v:=?_) (fun w' hw=>?_) ?_;rotate_left;· (obtain⟨a7,bC⟩:=hw;obtain⟨ah,an,am,zf⟩:=cl3 a7;obtain⟨bD,bR,bQ,bI,bM,yf⟩:=cl5 bC;go_simp<;>rfl))
     refine Qbu rfl rfl (Qa B _ (Qa ag).2.2.2.2.2.2) (fun K a=>?_) (fun K a=>?_)
     ·
      refine Qaj rfl _ _ 51 rfl (Jn) yv (by kernel_rfl) (by kernel_rfl) cG ?_
      refine a _ _ ?_
      clear a K aK bm bp
      refine Qag rfl (Qa B _ (Qa ag).1) (fun K a=>?_)
      go_simp
      rw[<- Qa d6]
      refine a _ _ ?_
      clear a K
      refine Qag rfl (Qa B _ (Qa ag).2.1) (fun K a=>?_)
      refine Qaj rfl _ _ 51 rfl ua (.slice (Js Ua.heap.size) 1 1) (by kernel_rfl) (by kernel_rfl) br ?_
      refine a _ _ ?_
      clear a K
      refine Qag rfl (Qa B _ (Qa ag).2.2.1) (fun K a=>?_)
      go_simp
      refine aP.mono ?_
      clear aP
      rintro en t⟨aa,a8,aw,cs3,y3,s,mm,rfl,aM,C,aD,aq,ap,ak⟩
      show K _ _
      refine a _ _ ?_
      clear a K
      have SE:=Qa bn Va t aa a8 aw cs3 y3 s mm (Qa ag).2.2.1 aM C aD aq ap ak
      have aR:=hide (Qa cH Va t aa a8 (Qa ag).2.2.1 C)
      clear aM C aD aq ap ak
      refine Qap (Qa aR) (ai _ _ ?_)
      clear ai PP aR
      go_wp2_with fail
      go_roundw
      case rel=>exact⟨_,i2+1,_,_,by rw[Qa a6],by simp,by omega,by rw[Qa a6];exact(Qa H8).2.2.1,by unfold maxLen;have:=(Qa H8).2.2.2;unfold maxLen at this;exact this,by rw[Qa a6];exact SE,hide (by have:=Qa c6;rw[Qa a6];omega)⟩
      case measure=>simp[intOf];omega
     go_simp
     rw[<- Qa db]
     refine a _ _ ?_
     clear a K aP cG br
     refine Qag rfl (Qa B _ (Qa ag).2.2.2.1) (fun K a=>?_)
     refine Qaj rfl _ _ 51 rfl (Jn) yv (by kernel_rfl) (by kernel_rfl) bm ?_
     refine a _ _ ?_
     clear a K
     refine Qag rfl (Qa B _ (Qa ag).2.2.2.2.1) (fun K a=>?_)
     refine Qaj rfl _ _ 51 rfl ub (.slice (Js l.heap.size) 1 1) (by kernel_rfl) (by kernel_rfl) bp ?_
     refine a _ _ ?_
     clear a K
     refine Qag rfl (Qa B _ (Qa ag).2.2.2.2.2.1) (fun K a=>?_)
     go_simp
     refine aK.mono ?_
     clear aK
     rintro en t⟨aa,a8,aw,cs3,y3,s,mm,rfl,aM,C,aD,aq,ap,ak⟩
     show K _ _
     refine a _ _ ?_
     clear a K
     have SE:=Qa bn Vb t aa a8 aw cs3 y3 s mm (Qa ag).2.2.2.2.2.1 aM C aD aq ap ak
     have aR:=hide (Qa cH Vb t aa a8 (Qa ag).2.2.2.2.2.1 C)
     clear aM C aD aq ap ak
     refine Qap (Qa aR) (ai _ _ ?_)
     clear ai PP aR
     go_wp2_with fail
     go_roundw
     case rel=>exact⟨_,i2+1,_,_,by rw[Qa a6],by simp,by omega,by rw[Qa a6];exact(Qa H8).2.2.1,by unfold maxLen;have:=(Qa H8).2.2.2;unfold maxLen at this;exact this,by rw[Qa a6];exact SE,hide (by have:=Qa c6;rw[Qa a6];omega)⟩
     case measure=>simp[intOf];omega
    have ar:=Qbs (Qa H9).1.fl (why:=12) (by decide) d.at_
    rotate_left
    have ge:(e != 0)=true:=by simp[he]
    have ar:=Qbs k.fl (why:=e) he d.at_
    clear he k n9 r au ad ae E aC
    all_goals
     go_wp2_with fail
     refine ar.mono ?_
     clear ar
     rintro en t⟨rfl,G,f9,k,k9,e9⟩
     have HE:=hide (Qa af t G f9 k9 k e9)
     clear k k9 e9
     go_wp2_with fail
     go_end0
     exact Qa HE
   have ar:=Qbs (Qa H6).1.fl (why:=11) (by decide) d.at_
   go_wp2_with fail
   refine ar.mono ?_
   clear ar
   rintro en t⟨rfl,G,f9,k,k9,e9⟩
   have HE:=hide (Qa af t G f9 ((Kp.of_below (Qa H6).2.1).trans k9) k (fun _=>e9) (fun e=>absurd e e9))
   clear k k9 e9
   go_wp2_with fail
   go_end0
   exact Qa HE
  have H:(y2==0)=false:=beq_eq_false_iff_ne.2 hy
  have HE:=hide (Qa af wr y2 F (Kp.refl _ _) (Qa H5).fl (fun e=>e) (fun e=>e))
  clear hz hy
  go_wp2_with fail
  go_end0
  exact Qa HE
 have HE:=hide (Qa af wr y2 F (Kp.refl _ _) (Qa H5).fl (fun e=>e) (fun e=>e))
 clear hz
 go_wp2_with fail
 go_end0
 exact Qa HE
end
section
variable {wb:Nat}{p0:Option Addr}{m0 o0:Nat}{p1:Option Addr}{m1 o1:Nat}{p2:Option Addr}{m2 o2:Nat}{p3:Option Addr}{m3 o3:Nat}{p4:Option Addr}{m4 o4:Nat}{p:Pg}{tv:Value}{Bd:Nat->Prop}
theorem isC_all(hfp:Few p 97)(hwf:WfZ 65537 p)(D:Nat):IsC wb p0 m0 o0 p1 m1 o1 p2 m2 o2 p3 m3 o3 p4 m4 o4 p tv Bd D:=by
 induction D using Nat.strongRecOn with
 |_ D ih=>exact Qkt D (fun a h=>Qmb hfp hwf a (ih a h))
theorem icC_all(hfp:Few p 97)(hwf:WfZ 65537 p)(D:Nat):IcC wb p0 m0 o0 p1 m1 o1 p2 m2 o2 p3 m3 o3 p4 m4 o4 p tv Bd D:=Qmb hfp hwf D (isC_all hfp hwf D)
end
end
end Go.Proofs.YtmfpbepifnedjaaGreat
