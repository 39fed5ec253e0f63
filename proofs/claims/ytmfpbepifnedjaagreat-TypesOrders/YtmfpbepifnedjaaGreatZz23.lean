/- The document's Flatten. -/
import Derived.Test.YtmfpbepifnedjaaGreatZz01
import Derived.Test.YtmfpbepifnedjaaGreatZz20
import Derived.Test.YtmfpbepifnedjaaGreatZz22
set_option maxRecDepth 100000
set_option maxHeartbeats 32000000
namespace Go.Proofs.YtmfpbepifnedjaaGreat
section
open Go.RowKit Go.Maps
section
variable {wb:Nat}{Bd:Nat->Prop}{p0:Option Addr}{m0 o0:Nat}{p1:Option Addr}{m1 o1:Nat}{p2:Option Addr}{m2 o2:Nat}{p3:Option Addr}{m3 o3:Nat}{p4:Option Addr}{m4 o4:Nat}{p:Pg}{w4 W W':World}{sl:Value}{acc:List Txt}
def Ft0(wb:Nat)(p0:Option Addr)(m0 o0:Nat)(p1:Option Addr)(m1 o1:Nat)(p2:Option Addr)(m2 o2:Nat)(p3:Option Addr)(m3 o3:Nat)(p4:Option Addr)(m4 o4:Nat)(p:Pg)(Bd:Nat->Prop)(w4 W:World):Prop:=∃y f,Fl (fun b=>Bd b/\b<wb) wb p0 m0 o0 p1 m1 o1 p2 m2 o2 p3 m3 o3 p4 m4 o4 p (.slice none 0 0) Bd W (.slice none 0 0) (.slice none 0 0) [] [] y f 0/\Kp wb w4 W
theorem Ft0.next(h:Ft0 wb p0 m0 o0 p1 m1 o1 p2 m2 o2 p3 m3 o3 p4 m4 o4 p Bd w4 W)(k:Kp wb W W'){y f:Int}(hf:Fl (fun b=>Bd b/\b<wb) wb p0 m0 o0 p1 m1 o1 p2 m2 o2 p3 m3 o3 p4 m4 o4 p (Jn) Bd W' (Jn) (Jn) [] [] y f 0):Ft0 wb p0 m0 o0 p1 m1 o1 p2 m2 o2 p3 m3 o3 p4 m4 o4 p Bd w4 W':=by
 obtain⟨_,_,_,a⟩:=h
 exact⟨y,f,hf,a.trans k⟩
theorem Ft0.later(h:Ft0 wb p0 m0 o0 p1 m1 o1 p2 m2 o2 p3 m3 o3 p4 m4 o4 p Bd w4 W)(b:Below W.heap.size W W'):Ft0 wb p0 m0 o0 p1 m1 o1 p2 m2 o2 p3 m3 o3 p4 m4 o4 p Bd w4 W':=by
 obtain⟨y,f,c,a⟩:=h
 exact⟨y,f,c.later b,a.trans (Kp.of_below b)⟩
structure FtW(wb:Nat)(p0:Option Addr)(m0 o0:Nat)(p1:Option Addr)(m1 o1:Nat)(p2:Option Addr)(m2 o2:Nat)(p3:Option Addr)(m3 o3:Nat)(p4:Option Addr)(m4 o4:Nat)(p:Pg)(Bd:Nat->Prop)(w4 W:World)(sl:Value)(acc:List Txt):Prop where
 st:Ft0 wb p0 m0 o0 p1 m1 o1 p2 m2 o2 p3 m3 o3 p4 m4 o4 p Bd w4 W
 row:Row PSt 1 9 w4.heap.size (fun _=>False) W sl acc
 wl:wb<w4.heap.size
theorem FtW.next(h:FtW wb p0 m0 o0 p1 m1 o1 p2 m2 o2 p3 m3 o3 p4 m4 o4 p Bd w4 W sl acc)(k:Kp wb W W'){y f:Int}(hf:Fl (fun b=>Bd b/\b<wb) wb p0 m0 o0 p1 m1 o1 p2 m2 o2 p3 m3 o3 p4 m4 o4 p (Jn) Bd W' (Jn) (Jn) [] [] y f 0):FtW wb p0 m0 o0 p1 m1 o1 p2 m2 o2 p3 m3 o3 p4 m4 o4 p Bd w4 W' sl acc:=
 ⟨h.st.next k hf,h.row.mv Qam k.size (fun q d c=>k.block q d (by rcases c with e|e;exact e.elim;have:=(h.row.lt q e).1;have:=h.wl;omega)) (fun _ _ a=>a),h.wl⟩
theorem FtW.more(h:FtW wb p0 m0 o0 p1 m1 o1 p2 m2 o2 p3 m3 o3 p4 m4 o4 p Bd w4 W sl acc)(hf:acc.length<=1000000)(t:Txt):
  ∃g c w8,(Builtin.append_ #[51,51] 51 #[sl,.slice (Js W.heap.size) 1 1]).run Tryz.prog (W.alloc (.cells #[str t] 9)) = .ok (.slice (Js g) (acc.length+1) c) w8/\acc.length+1<=c/\c<=maxLen/\FtW wb p0 m0 o0 p1 m1 o1 p2 m2 o2 p3 m3 o3 p4 m4 o4 p Bd w4 w8 (.slice (Js g) (acc.length+1) c) (acc++[t]):=by
 obtain⟨B,o,u,l,k⟩:=infoS
 obtain⟨y,f,n,i⟩:=h.st
 obtain⟨g,c,w8,v,d,z,a,j⟩:=h.row.more (x:=t) (cs:=[str t]) Qam (by kernel_rfl:Tryz.prog.underlying 51=some (.slice 9)) o u l k rfl (by decide) (by decide) (fun b w=>w.elim) rfl (by simp[Value.oneCell',str]) rfl i.size hf
 refine⟨g,c,w8,v,z,a,⟨y,f,n.keep d.size (fun q s r=>d.block q s (fun e=>?_)),i.grow d (fun b e=>(h.row.lt b e).1)⟩,j,h.wl⟩
 have A:=(h.row.lt q e).1
 have C:=h.wl
 rcases r with a|a|a|a
 ·have:=a.2;omega
 ·omega
 ·simp[Value.ownBlock]at a
 ·simp[Value.ownBlock]at a
theorem FtW.ls(h:FtW wb p0 m0 o0 p1 m1 o1 p2 m2 o2 p3 m3 o3 p4 m4 o4 p Bd w4 W sl acc):LsAt PSt 1 (fun b=>w4.heap.size<=b) W sl acc:=by
 obtain⟨g,a,c⟩:=h.row
 exact(Qid Qam a c).mono Qam (fun b _ d=>d.elim (fun e=>e.elim) id)
end
section
variable {R:Nat->Prop}{wb:Nat}{Bd:Nat->Prop}{p0:Option Addr}{m0 o0:Nat}{p1:Option Addr}{m1 o1:Nat}{p2:Option Addr}{m2 o2:Nat}{p3:Option Addr}{m3 o3:Nat}{p4:Option Addr}{m4 o4:Nat}{p:Pg}{W:World}{dv cv:Value}{ds:List Dcl}{cs:List Cls}{y f:Int}{m:Nat}
theorem Fl.pg(h:Fl R wb p0 m0 o0 p1 m1 o1 p2 m2 o2 p3 m3 o3 p4 m4 o4 p (.slice p0 m0 o0) Bd W dv cv ds cs y f m)(hR:∀b,R b->Bd b∨wb<b):∃u0 v0 u1 v1,dv = .slice u0 ds.length v0/\cv = .slice u1 cs.length v1/\PgS (fun b=>Bd b∨wb<b) W [.slice p0 m0 o0,dv,Jn,Jn,cv] (.mk p.types ds [] [] cs):=by
 obtain⟨_,_,_,_,_,l,o,_,_,_,_⟩:=PgS.cells h.hp
 obtain⟨rfl,-,-,-,-⟩:=list5 l
 obtain⟨r,j,n⟩:=h.rd
 obtain⟨s,g,i⟩:=h.rc
 have d:=(Qid Qau j n).mono Qau (S':=fun b=>Bd b∨wb<b) (fun b _ a=>by rcases a with e|e;exact hR b e.1;exact .inr e)
 have c:=(Qid Qay g i).mono Qay (S':=fun b=>Bd b∨wb<b) (fun b _ a=>by rcases a with e|e;exact hR b e.1;exact .inr e)
 obtain⟨u0,v0,k⟩:=d.sl
 obtain⟨u1,v1,q⟩:=c.sl
 exact⟨u0,v0,u1,v1,k,q,Qjr (o.mono Qbg (fun b _ a=>.inl a.1)) d (LsAt.nil _ _) (LsAt.nil _ _) c⟩
end
def FtA(S0:Nat->Prop)(n0:Nat)(p:Pg)(w:World)(en:Ending)(w':World):Prop:=∃v q y f,en = .returned (.tuple #[v,.agg #[.int .i64 y,.int .i64 f]])/\VPg (fun b=>(S0 b/\b<n0)∨w.heap.size<=b) w' v q/\Below w.heap.size w w'/\q.comps=[]/\q.inits=[]/\Few q 97/\(∀x∈q.clauses,ltBs x.body<=131074)/\(y≠0->q = .none)/\(y=0->f=0/\q.types=p.types)
def FtO(wb:Nat)(p0:Option Addr)(m0 o0:Nat)(p1:Option Addr)(m1 o1:Nat)(p2:Option Addr)(m2 o2:Nat)(p3:Option Addr)(m3 o3:Nat)(p4:Option Addr)(m4 o4:Nat)(p:Pg)(Bd:Nat->Prop)(w4 W:World):Prop:=∃u v y f,Fl (fun b=>Bd b/\b<wb) wb p0 m0 o0 p1 m1 o1 p2 m2 o2 p3 m3 o3 p4 m4 o4 p (.slice p0 m0 o0) Bd W u v p.decls p.clauses y f 0/\Kp wb w4 W
def FtN(wb:Nat)(p0:Option Addr)(m0 o0:Nat)(p1:Option Addr)(m1 o1:Nat)(p2:Option Addr)(m2 o2:Nat)(p3:Option Addr)(m3 o3:Nat)(p4:Option Addr)(m4 o4:Nat)(p:Pg)(Bd:Nat->Prop)(w4 W:World):Prop:=∃u v ds cs y f m,Fl (fun b=>Bd b∨wb<b) wb p0 m0 o0 p1 m1 o1 p2 m2 o2 p3 m3 o3 p4 m4 o4 p (.slice p0 m0 o0) Bd W u v ds cs y f m/\Below wb w4 W
theorem Qkq{S0:Nat->Prop}{n0:Nat}{p0:Option Addr}{m0 o0:Nat}{p1:Option Addr}{m1 o1:Nat}{p2:Option Addr}{m2 o2:Nat}{p3:Option Addr}{m3 o3:Nat}{p4:Option Addr}{m4 o4:Nat}{p:Pg}{w:World}(hfp:Few p 97)(hwf:WfZ 65537 p)(hP:PgS (fun b=>S0 b/\b<n0) w [.slice p0 m0 o0,.slice p1 m1 o1,.slice p2 m2 o2,.slice p3 m3 o3,.slice p4 m4 o4] p)(hn0:n0<=w.heap.size):
  Calls Tryz.prog 9 #[.agg #[.slice p0 m0 o0,.slice p1 m1 o1,.slice p2 m2 o2,.slice p3 m3 o3,.slice p4 m4 o4]] w fun en w'=>FtA S0 n0 p w en w':=by
 obtain⟨Bd,bj⟩:∃Bd:Nat->Prop,∀b,Bd b↔(S0 b/\b<n0):=⟨_,fun _=>Iff.rfl⟩
 have bx:=hide bj
 obtain⟨w2,cc,b2,nx,Z,s2⟩:=new2 w #[.slice p0 m0 o0,.slice p1 m1 o1,.slice p2 m2 o2,.slice p3 m3 o3,.slice p4 m4 o4] #[Jn,Jn,Jn,Jn,Jn] 28 28
 obtain⟨w3,ao⟩:=JE (w2.alloc (.cells #[Ji 0,Ji 0] 31))
 have b3:=bnw ao
 have n3:=nnw ao
 have s3:w3.heap.size=w.heap.size+3:=by rw[ao];simp;omega
 obtain⟨w4,aD⟩:=JE (w3.alloc (.cells #[.slice p0 m0 o0,.slice p1 m1 o1,.slice p2 m2 o2,.slice p3 m3 o3,.slice p4 m4 o4,Jn,Jn,Jn,Jn,Jn,Ji 0,Ji 0,Ji 0] 80))
 have b4:=bnw aD
 have n4:=nnw aD
 obtain⟨wb,bu⟩:=JF w3.heap.size
 rw[bu]at n4
 have s4:w4.heap.size=w.heap.size+4:=by rw[aD];simp;omega
 have ba:Below w.heap.size w w3:=b2.trans (b3.mono b2.size)
 have aP:Below w.heap.size w w4:=ba.trans (b4.mono ba.size)
 have bP:=(b4.block _ (by omega)).trans ((b3.block _ (by omega)).trans nx)
 have bZ:=(b4.block _ (by omega)).trans ((b3.block _ (by omega)).trans Z)
 rw[s2]at n3
 have bY:=(b4.block _ (by omega)).trans n3
 have c1:=Qak.same _ w w4 _ _ hP aP.size (fun q _ hl=>aP.block q hl)
 have bi:=(Qmh hP).2.2.1
 have aH:Fl (fun b=>Bd b/\b<wb) wb p0 m0 o0 p1 m1 o1 p2 m2 o2 p3 m3 o3 p4 m4 o4 p (Jn) Bd w4 (Jn) (Jn) [] [] 0 0 0:=⟨n4,Qak.mono _ _ _ _ _ c1 (fun b _ s=>⟨(bj b).2 s,by have d7:b<n0:=s.2;omega⟩),Row.nil _ _,Row.nil _ _,fun b e=>by simp[Value.ownBlock]at e,fun _=>rfl,by simp,by simp,by simp⟩
 have S0:Hid (FtW wb p0 m0 o0 p1 m1 o1 p2 m2 o2 p3 m3 o3 p4 m4 o4 p Bd w4 w4 (Jn) []):=hide ⟨⟨0,0,aH,Kp.refl _ _⟩,Row.nil _ _,by omega⟩
 have aa:=hide (show ∀W,Kp wb w4 W->W.heap[w.heap.size]?=some (.cells #[.slice p0 m0 o0,.slice p1 m1 o1,.slice p2 m2 o2,.slice p3 m3 o3,.slice p4 m4 o4] 28 (0,0))/\True from fun W k=>⟨k.keep bP (by omega),trivial⟩)
 have bM:=hide (Ya bZ (show w4.heap[w.heap.size+1+1]?=_ from bY))
 have cM:=hide aP
 have bt:=hide (show wb=w.heap.size+3/\w4.heap.size=w.heap.size+4 by omega)
 have HM:=hide bi
 have c3:=hide (show m2<=97 by rw[<- bi];exact hfp.2.2.1)
 have cV:=hide (show ∀x∈p.clauses,ltBs x.body<=131074 by cases hwf with|mk ts ds2 cs2 is ls P hC hL hDD hI hBB=>exact fun x hx=>Nat.le_trans (Qkw _) ((hL x hx).2))
 have HP:=hide (Ya hfp hwf)
 have bS:=hide hn0
 have ca:=hide cc
 have bU:=hide ao
 have bs:=hide (Ya aD bu)
 obtain⟨H,G,Q,F,J,T⟩:=cl5 (((b3.block _ (by omega)).trans nx:w3.heap[w.heap.size]?=_))
 clear bj cc b2 nx Z s2 ao b3 n3 s3 aD b4 n4 bu s4 ba aP bP bZ bY c1 bi aH hfp hwf hP hn0
 go_enter Tryz.func9,Tryz.ntmps9
 go_upto_region 1 with fail
 rw[<- Qa ca,<- Qa bU]
 go_upto_region 2 with fail
 rw[<- (Qa bs).1,(Qa bs).2]
 clear ca bU bs H G Q F J T
 have d5:=Qa c3
 go_wp2_with fail
 go_loopw [5,6] (fun lv iv wr=>∃(acc:List Txt) (i:Nat) (sa:Option Addr) (sc:Nat),lv = .slice sa acc.length sc/\iv = Ji (i:Int)/\i<=m2/\acc.length<=sc/\sc<=maxLen/\Hid (FtW wb p0 m0 o0 p1 m1 o1 p2 m2 o2 p3 m3 o3 p4 m4 o4 p Bd w4 wr (.slice sa acc.length sc) acc)/\Hid (acc.length=i)) (fun _ iv _=>m2 - (intOf iv).toNat)
 case atStart=>exact⟨[],0,none,0,rfl,rfl,Nat.zero_le _,Nat.le_refl _,by unfold maxLen;omega,S0,hide rfl⟩
 obtain⟨acc,i,sa,sc,rfl,rfl,hi,cl,bT,O,HS⟩:=hrel
 unfold maxLen at bT
 clear S0
 by_cases c0:i<m2
 ·
  obtain⟨y0,cD,L,d⟩:=(Qa O).st
  obtain⟨_,_,_,_,_,ee,_,_,hC,_,_⟩:=PgS.cells L.hp
  obtain⟨-,-,e3,-,-⟩:=list5 ee
  subst e3
  obtain⟨c,hc⟩:∃c,p.comps[i]?=some c:=⟨p.comps[i]'(by have:=Qa HM;omega),List.getElem?_eq_getElem _⟩
  obtain⟨r,cap,qs,l,aL,aK,b0,⟨vb,bd,rfl,h,bC,aE⟩,U⟩:=hC.elem hc
  obtain⟨d0,d1,d2,d3,d4,rfl,ay,X,V,aR,aO⟩:=PgS.cells aE
  simp only[Value.slice.injEq]at l
  obtain⟨rfl,-,rfl⟩:=l
  have bR:wr.cell? (Ja r (i*8))=some (str c.1):=U 0 _ rfl
  have cN:wr.cell? (Ja r (i*8+7))=some (Ji c.2.2.2):=U 7 _ rfl
  obtain⟨H,G,Q,F,J,T⟩:=cl5 (Qa aa wr d).1
  have bV:=Qji (Qa O).ls c.1
  have b6:=hide L
  have HK:=hide d
  have cU:=hide (show ∀W,Kp wb wr W->W.cell? (Ja r (i*8))=some (str c.1) from fun W k=>by
   have ct:r≠wb:=by have:=aK.2;omega
   have e:=k.block r aL ct
   rw[<- bR]
   simp only[World.cell?,e])
  clear L d ee hC hc aL aK b0 h bC aE U ay X V aR aO H G F J
  go_wp2_with fail
  refine bV.mono ?_
  clear bV
  rintro en w6⟨⟨bq,rfl⟩,rfl⟩
  go_upto_if 25 with fail
  go_cut [] from 11 to 41 (fun j=>Hid (Kp wb w6 j/\FtW wb p0 m0 o0 p1 m1 o1 (Js r) m2 o2 p3 m3 o3 p4 m4 o4 p Bd w4 j (.slice sa acc.length sc) acc))
  case first=>
   cases bq
   ·
    have o:=hide (Ya (Kp.refl wb w6) (Qa O))
    go_wp2_with fail
    go_meet
    exact o
   have a6:=Qbs (Qa b6) (why:=11) (by decide) c.2.2.2
   go_wp2_with fail
   refine a6.mono ?_
   clear a6
   rintro en w9⟨rfl,y9,f9,S,n,e9⟩
   have o:=hide (show Kp wb w6 w9/\FtW wb p0 m0 o0 p1 m1 o1 (Js r) m2 o2 p3 m3 o3 p4 m4 o4 p Bd w4 w9 (.slice sa acc.length sc) acc from ⟨n,(Qa O).next n S⟩)
   clear S n e9
   go_wp2_with fail
   go_meet
   exact o
  obtain⟨j,az⟩:=JE wc
  subst az
  have hX:=Qa hcut
  clear hcut
  obtain⟨g,c8,w8,aY,cO,cJ,bL⟩:=hX.2.more (by have:=Qa HS;have:=Qa c3;omega) c.1
  have bR:=Qa cU j hX.1
  obtain⟨H,G,Q,F,J,T⟩:=cl5 (Qa aa j ((Qa HK).trans hX.1)).1
  have aZ:=hide aY
  have cQ:=hide bL
  have aI:=hide (show(acc++[c.1]).length=i+1 by rw[List.length_append,Qa HS];rfl)
  clear hX aY bL cN H G F J
  go_wp2_with (at_builtin;refine Qai _ rfl _ _ 51 rfl _ _ rfl rfl _ _ (Qa aZ) ?_;clear aZ)
  go_roundw
  case rel=>exact⟨_,i+1,_,_,by rw[Qa aI,<- Qa HS],by simp,by omega,by rw[Qa aI,<- Qa HS];exact cO,cJ,by rw[Qa aI,<- Qa HS];exact cQ,aI⟩
  case measure=>simp[intOf];omega
 have S1:Hid (Ft0 wb p0 m0 o0 p1 m1 o1 p2 m2 o2 p3 m3 o3 p4 m4 o4 p Bd w4 wr):=hide (Qa O).st
 clear O HS
 obtain⟨H,G,Q,F,J,T⟩:=cl5 (Qa aa wr (Qa S1).choose_spec.choose_spec.2).1
 go_wp2_with fail
 clear H G Q F J T c0 hi cl bT
 go_loopw [7] (fun iv wr=>∃(i:Nat),iv = Ji (i:Int)/\i<=m2/\Hid (Ft0 wb p0 m0 o0 p1 m1 o1 p2 m2 o2 p3 m3 o3 p4 m4 o4 p Bd w4 wr)) (fun iv _=>m2 - (intOf iv).toNat)
 case atStart=>exact⟨0,rfl,Nat.zero_le _,S1⟩
 obtain⟨i,rfl,hi,O⟩:=hrel
 clear S1
 by_cases c0:i<m2
 ·
  obtain⟨y0,cD,L,d⟩:=Qa O
  obtain⟨_,_,_,_,_,ee,_,_,hC,_,_⟩:=PgS.cells L.hp
  obtain⟨-,-,e3,-,-⟩:=list5 ee
  subst e3
  obtain⟨c,hc⟩:∃c,p.comps[i]?=some c:=⟨p.comps[i]'(by have:=Qa HM;omega),List.getElem?_eq_getElem _⟩
  obtain⟨r,cap,qs,l,aL,aK,b0,⟨vb,bd,rfl,h,bC,aE⟩,U⟩:=hC.elem hc
  obtain⟨d0,d1,d2,d3,d4,rfl,ay,X,V,aR,aO⟩:=PgS.cells aE
  simp only[Value.slice.injEq]at l
  obtain⟨rfl,-,rfl⟩:=l
  obtain⟨e0,f0,rfl⟩:=ay.sl
  obtain⟨l,f1,rfl⟩:=X.sl
  obtain⟨e2,f2,rfl⟩:=V.sl
  obtain⟨e3,f3,rfl⟩:=aR.sl
  obtain⟨e4,f4,rfl⟩:=aO.sl
  have an:wr.cell? (Ja r (i*8+2))=some (.slice e0 c.2.2.1.types.length f0):=U 2 _ rfl
  have au:wr.cell? (Ja r (i*8+2+1))=some (.slice l c.2.2.1.decls.length f1):=U 3 _ rfl
  have ar:wr.cell? (Ja r (i*8+2+2))=some (.slice e2 c.2.2.1.comps.length f2):=U 4 _ rfl
  have am:wr.cell? (Ja r (i*8+2+3))=some (.slice e3 c.2.2.1.inits.length f3):=U 5 _ rfl
  have ap:wr.cell? (Ja r (i*8+2+4))=some (.slice e4 c.2.2.1.clauses.length f4):=U 6 _ rfl
  obtain⟨H,G,Q,F,J,T⟩:=cl5 (Qa aa wr d).1
  obtain⟨w5,aT⟩:=JE (wr.alloc (.cells #[.slice e0 c.2.2.1.types.length f0,.slice l c.2.2.1.decls.length f1,.slice e2 c.2.2.1.comps.length f2,.slice e3 c.2.2.1.inits.length f3,.slice e4 c.2.2.1.clauses.length f4] 28))
  have b5:=bnw aT
  have n5:=nnw aT
  obtain⟨xb,bn⟩:=JF wr.heap.size
  rw[bn]at n5
  have H5:=hide (show Ft0 wb p0 m0 o0 p1 m1 o1 (Js r) m2 o2 p3 m3 o3 p4 m4 o4 p Bd w4 w5 from (Qa O).later b5)
  have bp:=hide (show ∀W,Kp wb w5 W->LsAt PTy 4 (fun b=>Bd b/\b<wb) W (.slice e0 c.2.2.1.types.length f0) c.2.2.1.types/\LsAt PCo 8 (fun b=>Bd b/\b<wb) W (.slice e2 c.2.2.1.comps.length f2) c.2.2.1.comps/\W.heap[xb]?=some (.cells #[.slice e0 c.2.2.1.types.length f0,.slice l c.2.2.1.decls.length f1,.slice e2 c.2.2.1.comps.length f2,.slice e3 c.2.2.1.inits.length f3,.slice e4 c.2.2.1.clauses.length f4] 28 (0,0)) from fun W k=>⟨(ay.later Qbg b5).same Qbg k.size (fun q A hl=>k.block q hl (by have:=A.2;omega)),(V.later Qbm b5).same Qbm k.size (fun q A hl=>k.block q hl (by have:=A.2;omega)),k.keep n5 (by have:=L.lt;omega)⟩)
  have bX:=hide aT
  have cP:=hide bn
  clear L d ee hC hc aL aK b0 h bC aE U ay X V aR aO aT b5 n5 bn H G F J
  go_upto_region 13 with fail
  rw[<- Qa bX,Qa cP]
  clear bX an au ar am ap Q T
  go_cut [58] from 42 to 74 (fun cv wc=>∃b:Bool,cv = .bool b/\(b=true->0<c.2.2.1.types.length)/\wc=w5)
  case first=>
   obtain⟨P,-,hB⟩:=Qa bp w5 (Kp.refl _ _)
   obtain⟨aj,af,ag,ai,ak,lf⟩:=cl5 hB
   have ah:=P.cap rfl
   obtain⟨n1,a9⟩:=JF c.2.2.1.types.length
   rw[a9]at ah aj
   have cZ:=hide a9
   clear a9 P hB af ag ai ak
   by_cases hn:0<n1
   ·
    go_wp2_with fail
    go_meet
    exact⟨true,rfl,fun _=>by rw[Qa cZ];exact hn,rfl⟩
   have M:n1=0:=by omega
   subst M
   go_wp2_with fail
   go_meet
   exact⟨false,rfl,(fun e=>by cases e),rfl⟩
  case rest=>
  obtain⟨b,rfl,bo,ew⟩:=hcut
  rw[ew]
  clear ew
  go_upto_if 58 with fail
  go_cut [] from 42 to 74 (fun j=>Hid (Kp wb w5 j/\Ft0 wb p0 m0 o0 p1 m1 o1 (Js r) m2 o2 p3 m3 o3 p4 m4 o4 p Bd w4 j))
  case first=>
   cases b
   ·
    have o:=hide (Ya (Kp.refl wb w5) (Qa H5))
    go_wp2_with fail
    go_meet
    exact o
   have hn:=bo rfl
   obtain⟨P,-,hB⟩:=Qa bp w5 (Kp.refl _ _)
   obtain⟨aj,af,ag,ai,ak,lf⟩:=cl5 hB
   have ah:=P.cap rfl
   obtain⟨t,ht⟩:∃t,c.2.2.1.types[0]?=some t:=⟨c.2.2.1.types[0]'hn,List.getElem?_eq_getElem _⟩
   obtain⟨tb,cap,ts,l,-,-,-,⟨xa,xn,xc,rfl,-⟩,hte⟩:=P.elem ht
   simp only[Value.slice.injEq]at l
   obtain⟨rfl,-,rfl⟩:=l
   have d8:w5.cell? (Ja tb 3)=some (Ji t.at_):=hte 3 _ rfl
   obtain⟨yb,fb,L,d⟩:=Qa H5
   have b6:=hide L
   obtain⟨n1,a9⟩:=JF c.2.2.1.types.length
   rw[a9]at hn ah aj
   clear P hB hte ht L d bo af ag ai ak
   have a6:=Qbs (Qa b6) (why:=1) (by decide) t.at_
   go_wp2_with fail
   refine a6.mono ?_
   clear a6
   rintro en w9⟨rfl,y9,f9,S,n,e9⟩
   have o:=hide (show Kp wb w5 w9/\Ft0 wb p0 m0 o0 p1 m1 o1 (Js r) m2 o2 p3 m3 o3 p4 m4 o4 p Bd w4 w9 from ⟨n,(Qa H5).next n S⟩)
   clear S n e9
   go_wp2_with fail
   go_meet
   exact o
  obtain⟨j,az⟩:=JE wc
  subst az
  obtain⟨kX,hX⟩:=Qa hcut
  clear hcut
  obtain⟨-,P,hB⟩:=Qa bp j kX
  obtain⟨aj,af,ag,ai,ak,lf⟩:=cl5 hB
  have ah:=P.cap rfl
  have HX:=hide hX
  clear kX hB bo
  by_cases hn:0<c.2.2.1.comps.length
  ·
   obtain⟨t,ht⟩:∃t,c.2.2.1.comps[0]?=some t:=⟨c.2.2.1.comps[0]'hn,List.getElem?_eq_getElem _⟩
   obtain⟨tb,cap,ts,l,-,-,-,⟨vb2,bd2,rfl,-,-,hbd2⟩,hte⟩:=P.elem ht
   obtain⟨u0,u1,u2,u3,u4,rfl,-,-,-,-,-⟩:=PgS.cells hbd2
   simp only[Value.slice.injEq]at l
   obtain⟨rfl,-,rfl⟩:=l
   have d6:j.cell? (Ja tb 7)=some (Ji t.2.2.2):=hte 7 _ rfl
   obtain⟨yb,fb,L,d⟩:=hX
   have a6:=Qbs L (why:=1) (by decide) t.2.2.2
   obtain⟨n1,a9⟩:=JF c.2.2.1.comps.length
   rw[a9]at hn ah ag
   clear P hte ht L d hbd2 aj af ai ak
   go_wp2_with fail
   refine a6.mono ?_
   clear a6
   rintro en w9⟨rfl,y9,f9,S,n,e9⟩
   have o:=hide ((Qa HX).next n S)
   clear S n e9
   go_wp2_with fail
   go_roundw
   case rel=>exact⟨i+1,by simp,by omega,o⟩
   case measure=>simp[intOf];omega
  have M:c.2.2.1.comps.length=0:=by omega
  rw[M]at ah ag
  clear P hX hn M aj af ai ak
  go_wp2_with fail
  go_roundw
  case rel=>exact⟨i+1,by simp,by omega,HX⟩
  case measure=>simp[intOf];omega
 obtain⟨H,G,Q,F,J,T⟩:=cl5 (Qa aa wr (Qa O).choose_spec.choose_spec.2).1
 go_upto_region 17 with fail
 go_cut [] from 9 (fun j=>Hid (FtO wb p0 m0 o0 p1 m1 o1 p2 m2 o2 p3 m3 o3 p4 m4 o4 p Bd w4 j))
 case first=>
  obtain⟨y,f,aH,ch⟩:=Qa O
  obtain⟨N,a7⟩:=JE wr.drew
  have bD:Below wr.heap.size wr N:=by rw[a7];exact(Below.refl _ wr).drew
  have a:=aH.later bD
  have be:=ch.trans (Kp.of_below (rb:=wb) bD)
  obtain⟨_,_,_,_,_,ee,_,hD,_,_,hL⟩:=PgS.cells a.hp
  obtain⟨-,e2,-,-,e5⟩:=list5 ee
  subst e2
  subst e5
  have cj:wb<N.heap.size:=a.lt
  have aN:=Qa bt
  have aC:=(Qa aa N be).1
  obtain⟨iu,c7,bQ,c2,cg⟩:=info51
  obtain⟨iv,c5,c4,bO,bI⟩:=info54
  obtain⟨uA,UA,ce,a0,al,av⟩:=Qml (wb:=wb) (ST:=23) Qau Qqg (by kernel_rfl) c7 bQ c2 cg rfl (by decide) (by decide) hD (Qa HP).1.2.1 cj
  obtain⟨vA,VA,cd,ab,bE,aB⟩:=Qml (wb:=wb) (ST:=26) (w:=UA) Qay Qqe (by kernel_rfl) c5 c4 bO bI rfl (by decide) (by decide) (hL.later Qay a0) (Qa HP).1.2.2.2.2 (by have:=a0.size;omega)
  obtain⟨bF,b8,rfl⟩:=al.slice
  obtain⟨vaA,bG,rfl⟩:=bE.slice
  have aG:Below N.heap.size N VA:=a0.trans (ab.mono a0.size)
  have al:=al.mv Qau ab.size (fun q hl _=>ab.block q hl) (fun _ _ hs=>hs)
  have c9:Apt (.slice bF p.decls.length b8) (.slice vaA p.clauses.length bG):=fun b l e2=>by
   have h1:=av b l
   have h2:=aB b e2
   omega
  have aF:=(aG.block wb (by omega)).trans a.box
  have bA:=(aG.block _ (by omega)).trans aC
  obtain⟨WA,Y⟩:=JE ((((((VA.setCell (Ja wb 5) (.slice p0 m0 o0)).setCell (Ja wb 6) (.slice bF p.decls.length b8)).setCell (Ja wb 7) (Jn)).setCell (Ja wb 8) (Jn)).setCell (Ja wb 9) (.slice vaA p.clauses.length bG)))
  have cf:WA.heap[wb]?=some (.cells #[.slice p0 m0 o0,.slice p1 m1 o1,.slice p2 m2 o2,.slice p3 m3 o3,.slice p4 m4 o4,.slice p0 m0 o0,(.slice bF p.decls.length b8),Jn,Jn,(.slice vaA p.clauses.length bG),Ji y,Ji f,Ji ((0:Nat):Int)] 80 (0,0)):=by rw[Y];exact(Qah (Qah (Qah (Qah (Qah aF 5 _) 6 _) 7 _) 8 _) 9 _).trans rfl
  have aQ:∀q,q≠wb->WA.heap[q]?=VA.heap[q]?:=fun q A=>by rw[Y,hpS A,hpS A,hpS A,hpS A,hpS A]
  have cF:=hide (show FtO wb p0 m0 o0 p1 m1 o1 p2 m2 o2 p3 m3 o3 p4 m4 o4 p Bd w4 WA from ⟨_,_,_,_,fl_put a aG al bE c9 (Qa HP).1 (Qa cV) (by rw[Y];simp) aQ cf,(be.trans (Kp.of_below aG)).trans (Kp.cell (wb:=wb) (by rw[Y];simp) aQ (by rw[Y];rfl) (by rw[Y];rfl) (by rw[Y];rfl))⟩)
  have cA:=hide Y
  have cy:=hide ce
  have cC:=hide cd
  have bB:=hide (show(∀W,W=UA->W.heap[w.heap.size]?=some (.cells #[.slice p0 m0 o0,.slice p1 m1 o1,.slice p2 m2 o2,.slice p3 m3 o3,.slice p4 m4 o4] 28 (0,0))/\True)/\(∀W,W=VA->W.heap[w.heap.size]?=some (.cells #[.slice p0 m0 o0,.slice p1 m1 o1,.slice p2 m2 o2,.slice p3 m3 o3,.slice p4 m4 o4] 28 (0,0))/\True)/\(∀W,W=UA->wb<W.heap.size) /\ ∀W,W=WA->W.heap[w.heap.size]?=some (.cells #[.slice p0 m0 o0,.slice p1 m1 o1,.slice p2 m2 o2,.slice p3 m3 o3,.slice p4 m4 o4] 28 (0,0))/\True from ⟨fun W e=>by rw[e];exact⟨(a0.block _ (by omega)).trans aC,trivial⟩,fun W e=>by rw[e];exact⟨bA,trivial⟩,fun W e=>by rw[e];have:=a0.size;omega,fun W e=>by rw[e];exact⟨(aQ _ (by omega)).trans bA,trivial⟩⟩)
  have cE:=hide aF
  have co:=hide aC
  obtain⟨H,G,Q,F,J,T⟩:=cl5 aC
  have bc:=hide a7
  clear aH ch bD a be ee hD hL cj aN aC ce a0 al av cd ab bE aB aG c9 aF bA Y cf aQ c7 bQ c2 cg c5 c4 bO bI a7 H G Q F J T
  obtain⟨cz,cn,cG,cr,cI,cu,ck,cw,cX,cK,bN,bJ,c6,bf⟩:=cl13 (Qa cE)
  refine Qav (tr:=.take 0 (.take 1 (.take 2 (.take 3 (.take 5 (.take 6 (.one 4 (.one 7 (.take 8 (.take 9 (.one 10 .nil))))))))))) (fun W=>W.heap[w.heap.size]?=some (.cells #[.slice p0 m0 o0,.slice p1 m1 o1,.slice p2 m2 o2,.slice p3 m3 o3,.slice p4 m4 o4] 28 (0,0))/\True) mixedO (by kernel_rfl) rfl (by kernel_rfl) (fun PP aq=>?_)
  rw[<- Qa bc]
  iterate 6 (refine tT (v:=?_) (fun w' hw=>?_) ?_;rotate_left;· (obtain⟨bg,cx⟩:=hw;obtain⟨aX,aJ,cB,cY,cT,kf⟩:=cl5 bg;go_simp<;>rfl))
  refine Qag rfl ⟨Qa co,trivial⟩ (fun K C=>?_)
  refine Qaj rfl _ _ 23 rfl (Jn) (.slice p1 m1 o1) (by kernel_rfl) (by kernel_rfl) (Qa cy) ?_
  refine C _ _ ?_
  clear C K
  refine Qag rfl ((Qa bB).1 _ rfl) (fun K C=>?_)
  refine Qaj rfl _ _ 26 rfl (Jn) (.slice p4 m4 o4) (by kernel_rfl) (by kernel_rfl) (Qa cC) ?_
  refine C _ _ ?_
  clear C K
  iterate 2 (refine tT (v:=?_) (fun w' hw=>?_) ?_;rotate_left;· (obtain⟨bg,cx⟩:=hw;obtain⟨aX,aJ,cB,cY,cT,kf⟩:=cl5 bg;go_simp<;>rfl))
  refine Qag rfl ((Qa bB).2.1 _ rfl) (fun K C=>?_)
  go_simp
  rw[<- Qa cA]
  refine C _ _ ?_
  clear C K cz cn cG cr cI cu ck cw cX cK bN bJ c6 bf
  refine Qap ((Qa bB).2.2.2 _ rfl) (aq _ _ ?_)
  clear aq PP
  go_wp2_with fail
  go_meet
  exact cF
 obtain⟨j,az⟩:=JE wc
 subst az
 have HO:=hcut
 clear hcut O
 obtain⟨u,v,y,f,a,d⟩:=Qa HO
 have M:=a.z
 have HF:=hide a
 have HK:=hide d
 have HZ:=hide M
 obtain⟨a5,a1,a4,a3,a2,aU,aS,aM,aV,aW,ae,ac,ad,vf⟩:=cl13 a.box
 clear a5 a1 a4 a3 a2 aU aS aM aV aW ad
 go_upto_region 18 with fail
 go_cut [88] from 9 (fun cv wc=>∃b:Bool,cv = .bool b/\(b=true->y=0)/\(b=false->y≠0)/\wc=j)
 case first=>
  clear a d
  by_cases E:y=0
  ·
   have hf:=M E
   subst E
   subst hf
   go_wp2_with fail
   go_meet
   exact⟨true,rfl,fun _=>trivial,(fun e=>by cases e),rfl⟩
  have g1:(y==0)=false:=beq_eq_false_iff_ne.2 E
  have HY:=hide E
  clear M E
  go_wp2_with fail
  go_meet
  exact⟨false,rfl,(fun e=>by cases e),fun _=>Qa HY,rfl⟩
 case rest=>
 clear a d M ae ac vf
 obtain⟨b,rfl,X,V,ew⟩:=hcut
 rw[ew]
 clear ew
 go_upto_if 88 with fail
 go_cut [] from 9 (fun WZ=>Hid (FtN wb p0 m0 o0 p1 m1 o1 p2 m2 o2 p3 m3 o3 p4 m4 o4 p Bd w4 WZ))
 case first=>
  have a:=Qa HF
  have d:=Qa HK
  have h:=d.bel (B:=wb) (Nat.le_refl _) (by have:=Qa bt;omega)
  cases b
  ·
   have o:=hide (show FtN wb p0 m0 o0 p1 m1 o1 p2 m2 o2 p3 m3 o3 p4 m4 o4 p Bd w4 j from ⟨u,v,_,_,y,f,0,a.mono (fun b _ s=>.inl s.1),h⟩)
   clear a d h X V
   go_wp2_with fail
   go_meet
   exact o
  have E:=X rfl
  have hf:=Qa HZ E
  clear X V HF HK HZ HO
  subst E
  subst hf
  have bv:=icC_all (Qa HP).1 (Qa HP).2 97 (fun b=>Bd b/\b<wb) (fun b=>Bd b/\b<wb) j u v p.decls p.clauses 0 0 0 p p0 m0 o0 p1 m1 o1 p2 m2 o2 p3 m3 o3 p4 m4 o4 [] (Jn) [] a (fun b s=>s) (by omega) (fun _=>by omega) (by omega) a.hp (fun b s hl=>⟨by have:=s.2;omega,fun e=>by have:=(a.dlt b (.inl e)).1;have:=s.2;omega,fun e=>by have:=(a.dlt b (.inr e)).1;have:=s.2;omega⟩) (Qa HP).1 (Qa HP).2 (by simp) (LsAt.nil _ _) (by simp)
  have es:str ([]:Txt) = Je:=rfl
  rw[es]at bv
  obtain⟨H,G,Q,F,J,T⟩:=cl5 (Qa aa j d).1
  have HF:=hide (Ya a (Ya d h))
  clear a d h es
  go_wp2_with fail
  refine bv.mono ?_
  clear bv
  rintro en w9⟨cW,cH,cL,cS,y',f',m',rfl,S,n,-,-,-,-⟩
  have o:=hide (show FtN wb p0 m0 o0 p1 m1 o1 p2 m2 o2 p3 m3 o3 p4 m4 o4 p Bd w4 w9 by
   obtain⟨a,d,h⟩:=Qa HF
   have d9:=a.lt
   refine⟨cW,cH,cL,cS,y',f',m',S.mono (fun b _ s=>by rcases s with e|e;exact .inl e.1;exact .inr (by omega)),⟨n.os.trans h.os,n.tape.trans h.tape,n.output.trans h.output,Nat.le_trans h.size n.size,fun q A=>(n.block q (by omega) ⟨by omega,fun e=>by have:=(a.dlt q (.inl e)).1;omega,fun e=>by have:=(a.dlt q (.inr e)).1;omega⟩).trans (h.block q A)⟩⟩)
  clear S n
  go_wp2_with fail
  go_meet
  exact o
 case rest=>
 clear HF HK HZ X V
 obtain⟨WZ,cp⟩:=JE wc
 subst cp
 obtain⟨u,v,ds,cs,y,f,m,a,h⟩:=Qa hcut
 clear hcut HO
 have M:=a.z
 have aN:=Qa bt
 obtain⟨a5,a1,a4,a3,a2,aU,aS,aM,aV,aW,ae,ac,ad,vf⟩:=cl13 a.box
 have aA:Below w.heap.size w WZ:=(Qa cM).trans (h.mono (by omega))
 have Z:=(h.block (w.heap.size+1) (by omega)).trans (Qa bM).1
 have nf:=(h.block (w.heap.size+1+1) (by omega)).trans (Qa bM).2
 by_cases E:y=0
 ·
  have hf:=M E
  subst E
  subst hf
  obtain⟨u0,i0,u1,i1,rfl,rfl,bH⟩:=a.pg (fun b s=>s)
  obtain⟨W8,aw,D⟩:=sc5 Z (.slice p0 m0 o0) (.slice u0 ds.length i0) (Jn) (Jn) (.slice u1 cs.length i1)
  have a8:=(D.oth _ (by omega)).trans nf
  obtain⟨W9,ax,I⟩:=sc2 a8 (Ji 0) (Ji 0)
  have o:=hide (show FtA S0 n0 p w (.returned (.tuple #[.agg #[.slice p0 m0 o0,.slice u0 ds.length i0,Jn,Jn,.slice u1 cs.length i1],.agg #[Ji 0,Ji 0]])) W9 from ⟨_,.mk p.types ds [] [] cs,0,0,rfl,⟨_,_,_,_,_,_,_,_,_,_,_,_,_,_,_,rfl,Qak.mono _ _ _ _ _ (Qak.same _ W8 W9 _ _ (Qak.same _ WZ W8 _ _ bH (by rw[D.size];exact Nat.le_refl _) (fun q A _=>D.oth q (by have:=Qa bS;rcases A with e|e;have:=((Qa bx q).1 e).2;omega;omega))) (by rw[I.size];exact Nat.le_refl _) (fun q A _=>I.oth q (by have:=Qa bS;rcases A with e|e;have:=((Qa bx q).1 e).2;omega;omega))) (fun b _ s=>by rcases s with e|e;exact .inl ((Qa bx b).1 e);exact .inr (by omega))⟩,I.below (D.below aA (by omega)) (by omega),rfl,rfl,⟨(Qa HP).1.1,a.nd,by simp[Pg.comps],by simp[Pg.inits],a.nc⟩,a.sz,fun e=>absurd rfl e,fun _=>⟨rfl,rfl⟩⟩)
  have b7:=hide ((I.oth _ (by omega)).trans D.box)
  have bb:=hide I.box
  have bl:=hide aw
  have bm:=hide ax
  obtain⟨an,au,ar,am,ap,zf⟩:=cl5 Z
  obtain⟨b9,bh,sf⟩:=cl2 a8
  clear a h M aN aA Z nf bH aw D a8 ax I a5 a1 a4 a3 a2 ad
  go_upto_region 22 with fail
  iterate 14 (first|go_values|go_skip|go_guarded|go_step|go_upon|go_back)
  rw[<- Qa bl]
  clear an au ar am ap zf aU aS aM aV aW ae ac vf
  iterate 4 (first|go_values|go_skip|go_guarded|go_step|go_upon|go_back)
  rw[<- Qa bm]
  clear b9 bh sf
  iterate 2 (first|go_values|go_skip|go_guarded|go_step|go_upon|go_back)
  obtain⟨a5,a1,a4,a3,a2,vf⟩:=cl5 (Qa b7)
  obtain⟨bw,b1,uf⟩:=cl2 (Qa bb)
  show bodyPost _ _ _ _ _ _
  refine bodyPost_ret (v:=.tuple #[.agg #[.slice p0 m0 o0,.slice u0 ds.length i0,Jn,Jn,.slice u1 cs.length i1],.agg #[Ji 0,Ji 0]]) (by simp[results,Tryz.results9,go_sem,a5,a1,a4,a3,a2,bw,b1]) rfl ?_
  exact Qa o
 have g1:(y==0)=false:=beq_eq_false_iff_ne.2 E
 obtain⟨N,a7⟩:=JE WZ.drew
 have bD:Below WZ.heap.size WZ N:=by rw[a7];exact(Below.refl _ WZ).drew
 have br:=(bD.block _ a.lt).trans a.box
 have bz:=(bD.block _ (Qaa Z)).trans Z
 have bK:=(bD.block _ (Qaa nf)).trans nf
 have ci:Below w.heap.size w N:=aA.trans (bD.mono aA.size)
 obtain⟨W8,aw,D⟩:=sc5 bz (Jn) (Jn) (Jn) (Jn) (Jn)
 have a8:=(D.oth _ (by omega)).trans bK
 have bW:=(D.oth wb (by omega)).trans br
 obtain⟨W9,ax,I⟩:=sc2 a8 (Ji y) (Ji f)
 have cm:=(I.oth wb (by omega)).trans bW
 have o:=hide (show FtA S0 n0 p w (.returned (.tuple #[.agg #[Jn,Jn,Jn,Jn,Jn],.agg #[Ji y,Ji f]])) W9 from ⟨_,.none,y,f,rfl,⟨_,_,_,_,_,_,_,_,_,_,_,_,_,_,_,rfl,Qcs _ _⟩,I.below (D.below ci (by omega)) (by omega),rfl,rfl,Qc _,(fun x hx=>by cases hx),fun _=>rfl,fun e=>absurd e E⟩)
 have b7:=hide ((I.oth _ (by omega)).trans D.box)
 have bb:=hide I.box
 have bl:=hide aw
 have bm:=hide ax
 have bc:=hide a7
 have bk:=hide (show ∀W:World,W.heap[wb]?=N.heap[wb]?->W.cell? (Ja wb 10)=some (Ji y)/\W.cell? (Ja wb 11)=some (Ji f) from fun W e=>by
  obtain⟨_,_,_,_,_,_,_,_,_,_,aX,aJ,_,_⟩:=cl13 (e.trans br)
  exact⟨aX,aJ⟩)
 have cq:=hide (show W8.heap[wb]?=N.heap[wb]? from D.oth wb (by omega))
 have cR:=hide (show W9.heap[wb]?=N.heap[wb]? from (I.oth wb (by omega)).trans (D.oth wb (by omega)))
 obtain⟨an,au,ar,am,ap,zf⟩:=cl5 bz
 obtain⟨b9,bh,sf⟩:=cl2 a8
 clear a h M aN aA Z nf a7 bD br bz bK ci aw D a8 bW ax I cm E a5 a1 a4 a3 a2 aU aS aM aV aW ad
 go_upto_region 21 with fail
 clear ae ac vf g1
 refine Qav (tr:=.take 0 (.take 1 (.take 2 (.one 3 (.one 4 .nil))))) (fun W=>W.cell? (Ja wb 10)=some (Ji y)/\W.cell? (Ja wb 11)=some (Ji f)) mixedO (by kernel_rfl) rfl (by kernel_rfl) (fun PP aq=>?_)
 rw[<- Qa bc]
 iterate 3 (refine tT (v:=?_) (fun w' hw=>?_) ?_;rotate_left;· (obtain⟨aX,aJ⟩:=hw;go_simp<;>rfl))
 refine Qag rfl (Qa bk N rfl) (fun K C=>?_)
 go_simp
 rw[<- Qa bl]
 refine C _ _ ?_
 clear C K an au ar am ap zf
 refine Qag rfl (Qa bk W8 (Qa cq)) (fun K C=>?_)
 go_simp
 rw[<- Qa bm]
 refine C _ _ ?_
 clear C K b9 bh sf
 refine Qap (Qa bk W9 (Qa cR)) (aq _ _ ?_)
 clear aq PP
 iterate 4 (first|go_values|go_skip|go_guarded|go_step|go_upon|go_back)
 obtain⟨a5,a1,a4,a3,a2,vf⟩:=cl5 (Qa b7)
 obtain⟨bw,b1,uf⟩:=cl2 (Qa bb)
 show bodyPost _ _ _ _ _ _
 refine bodyPost_ret (v:=.tuple #[.agg #[Jn,Jn,Jn,Jn,Jn],.agg #[Ji y,Ji f]]) (by simp[results,Tryz.results9,go_sem,a5,a1,a4,a3,a2,bw,b1]) rfl ?_
 exact Qa o
end
end Go.Proofs.YtmfpbepifnedjaaGreat
