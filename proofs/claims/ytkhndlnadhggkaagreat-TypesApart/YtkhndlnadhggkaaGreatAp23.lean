/- The document's Flatten. -/
import Derived.Test.YtkhndlnadhggkaaGreatAp01
import Derived.Test.YtkhndlnadhggkaaGreatAp20
import Derived.Test.YtkhndlnadhggkaaGreatAp22
set_option maxRecDepth 100000
set_option maxHeartbeats 32000000
namespace Go.Proofs.YtkhndlnadhggkaaGreat
section
open Go.RowKit Go.Maps
section
variable {wb:Nat}{Bd:Nat->Prop}{p0:Option Addr}{m0 o0:Nat}{p1:Option Addr}{m1 o1:Nat}{p2:Option Addr}{m2 o2:Nat}{p3:Option Addr}{m3 o3:Nat}{p4:Option Addr}{m4 o4:Nat}{p:Pg}{w4 W W':World}{sl:Value}{acc:List Txt}
def Ft0(wb:Nat)(p0:Option Addr)(m0 o0:Nat)(p1:Option Addr)(m1 o1:Nat)(p2:Option Addr)(m2 o2:Nat)(p3:Option Addr)(m3 o3:Nat)(p4:Option Addr)(m4 o4:Nat)(p:Pg)(Bd:Nat->Prop)(w4 W:World):Prop:=∃y f,Fl (fun b=>Bd b/\b<wb) wb p0 m0 o0 p1 m1 o1 p2 m2 o2 p3 m3 o3 p4 m4 o4 p (.slice none 0 0) Bd W (.slice none 0 0) (.slice none 0 0) [] [] y f 0/\Kp wb w4 W
theorem Ft0.next(h:Ft0 wb p0 m0 o0 p1 m1 o1 p2 m2 o2 p3 m3 o3 p4 m4 o4 p Bd w4 W)(k:Kp wb W W'){y f:Int}(hf:Fl (fun b=>Bd b/\b<wb) wb p0 m0 o0 p1 m1 o1 p2 m2 o2 p3 m3 o3 p4 m4 o4 p (Jn) Bd W' (Jn) (Jn) [] [] y f 0):Ft0 wb p0 m0 o0 p1 m1 o1 p2 m2 o2 p3 m3 o3 p4 m4 o4 p Bd w4 W':=by
 obtain⟨_,_,_,a⟩:=h;exact⟨y,f,hf,a.trans k⟩
theorem Ft0.later(h:Ft0 wb p0 m0 o0 p1 m1 o1 p2 m2 o2 p3 m3 o3 p4 m4 o4 p Bd w4 W)(b:Below W.heap.size W W'):Ft0 wb p0 m0 o0 p1 m1 o1 p2 m2 o2 p3 m3 o3 p4 m4 o4 p Bd w4 W':=by
 obtain⟨y,f,a,c⟩:=h;exact⟨y,f,a.later b,c.trans (Kp.of_below b)⟩
structure FtW(wb:Nat)(p0:Option Addr)(m0 o0:Nat)(p1:Option Addr)(m1 o1:Nat)(p2:Option Addr)(m2 o2:Nat)(p3:Option Addr)(m3 o3:Nat)(p4:Option Addr)(m4 o4:Nat)(p:Pg)(Bd:Nat->Prop)(w4 W:World)(sl:Value)(acc:List Txt):Prop where
 st:Ft0 wb p0 m0 o0 p1 m1 o1 p2 m2 o2 p3 m3 o3 p4 m4 o4 p Bd w4 W
 row:Row PSt 1 9 w4.heap.size (fun _=>False) W sl acc
 wl:wb<w4.heap.size
theorem FtW.next(h:FtW wb p0 m0 o0 p1 m1 o1 p2 m2 o2 p3 m3 o3 p4 m4 o4 p Bd w4 W sl acc)(k:Kp wb W W'){y f:Int}(hf:Fl (fun b=>Bd b/\b<wb) wb p0 m0 o0 p1 m1 o1 p2 m2 o2 p3 m3 o3 p4 m4 o4 p (Jn) Bd W' (Jn) (Jn) [] [] y f 0):FtW wb p0 m0 o0 p1 m1 o1 p2 m2 o2 p3 m3 o3 p4 m4 o4 p Bd w4 W' sl acc:=
 ⟨h.st.next k hf,h.row.mv Qao k.size (fun q a c=>k.block q a (by rcases c with e|e;exact e.elim;have:=(h.row.lt q e).1;have:=h.wl;omega)) (fun _ _ d=>d),h.wl⟩
theorem FtW.more(h:FtW wb p0 m0 o0 p1 m1 o1 p2 m2 o2 p3 m3 o3 p4 m4 o4 p Bd w4 W sl acc)(hf:acc.length<=1000000)(t:Txt):
  ∃g c w8,(Builtin.append_ #[51,51] 51 #[sl,.slice (Js W.heap.size) 1 1]).run Tryz.prog (W.alloc (.cells #[str t] 9)) = .ok (.slice (Js g) (acc.length+1) c) w8/\acc.length+1<=c/\c<=maxLen/\FtW wb p0 m0 o0 p1 m1 o1 p2 m2 o2 p3 m3 o3 p4 m4 o4 p Bd w4 w8 (.slice (Js g) (acc.length+1) c) (acc++[t]):=by
 obtain⟨C,r,z,n,k⟩:=infoS;obtain⟨y,f,l,i⟩:=h.st;obtain⟨g,c,w8,v,d,o,a,j⟩:=h.row.more (x:=t) (cs:=[str t]) Qao (by kernel_rfl:Tryz.prog.underlying 51=some (.slice 9)) r z n k rfl (by decide) (by decide) (fun b w=>w.elim) rfl (by simp[Value.oneCell',str]) rfl i.size hf;refine⟨g,c,w8,v,o,a,⟨y,f,l.keep d.size (fun q s u=>d.block q s (fun e=>?_)),i.grow d (fun b e=>(h.row.lt b e).1)⟩,j,h.wl⟩;have A:=(h.row.lt q e).1;have B:=h.wl;rcases u with a|a|a|a
 ·have:=a.2;omega
 ·omega
 ·simp[Value.ownBlock]at a
 ·simp[Value.ownBlock]at a
theorem FtW.ls(h:FtW wb p0 m0 o0 p1 m1 o1 p2 m2 o2 p3 m3 o3 p4 m4 o4 p Bd w4 W sl acc):LsAt PSt 1 (fun b=>w4.heap.size<=b) W sl acc:=by
 obtain⟨g,c,a⟩:=h.row;exact(Qhy Qao c a).mono Qao (fun b _ d=>d.elim (fun e=>e.elim) id)
end
section
variable {R:Nat->Prop}{wb:Nat}{Bd:Nat->Prop}{p0:Option Addr}{m0 o0:Nat}{p1:Option Addr}{m1 o1:Nat}{p2:Option Addr}{m2 o2:Nat}{p3:Option Addr}{m3 o3:Nat}{p4:Option Addr}{m4 o4:Nat}{p:Pg}{W:World}{dv cv:Value}{ds:List Dcl}{cs:List Cls}{y f:Int}{m:Nat}
theorem Fl.pg(h:Fl R wb p0 m0 o0 p1 m1 o1 p2 m2 o2 p3 m3 o3 p4 m4 o4 p (.slice p0 m0 o0) Bd W dv cv ds cs y f m)(hR:∀b,R b->Bd b∨wb<b):∃u0 v0 u1 v1,dv = .slice u0 ds.length v0/\cv = .slice u1 cs.length v1/\PgS (fun b=>Bd b∨wb<b) W [.slice p0 m0 o0,dv,Jn,Jn,cv] (.mk p.types ds [] [] cs):=by
 obtain⟨_,_,_,_,_,l,n,_,_,_,_⟩:=PgS.cells h.hp;obtain⟨rfl,-,-,-,-⟩:=list5 l;obtain⟨r,q,o⟩:=h.rd;obtain⟨s,i,g⟩:=h.rc;have c:=(Qhy Qav q o).mono Qav (S':=fun b=>Bd b∨wb<b) (fun b _ a=>by rcases a with e|e;exact hR b e.1;exact .inr e);have d:=(Qhy Qaw i g).mono Qaw (S':=fun b=>Bd b∨wb<b) (fun b _ a=>by rcases a with e|e;exact hR b e.1;exact .inr e);obtain⟨u0,v0,j⟩:=c.sl;obtain⟨u1,v1,k⟩:=d.sl;exact⟨u0,v0,u1,v1,j,k,Qji (n.mono Qbe (fun b _ a=>.inl a.1)) c (LsAt.nil _ _) (LsAt.nil _ _) d⟩
end
def FtA(S0:Nat->Prop)(n0:Nat)(p:Pg)(w:World)(en:Ending)(w':World):Prop:=∃v q y f,en = .returned (.tuple #[v,.agg #[.int .i64 y,.int .i64 f]])/\VPg (fun b=>(S0 b/\b<n0)∨w.heap.size<=b) w' v q/\Below w.heap.size w w'/\q.comps=[]/\q.inits=[]/\Few q 97/\(∀x∈q.clauses,ltBs x.body<=131074)/\(y≠0->q = .none)/\(y=0->f=0/\q.types=p.types)
def FtO(wb:Nat)(p0:Option Addr)(m0 o0:Nat)(p1:Option Addr)(m1 o1:Nat)(p2:Option Addr)(m2 o2:Nat)(p3:Option Addr)(m3 o3:Nat)(p4:Option Addr)(m4 o4:Nat)(p:Pg)(Bd:Nat->Prop)(w4 W:World):Prop:=∃u v y f,Fl (fun b=>Bd b/\b<wb) wb p0 m0 o0 p1 m1 o1 p2 m2 o2 p3 m3 o3 p4 m4 o4 p (.slice p0 m0 o0) Bd W u v p.decls p.clauses y f 0/\Kp wb w4 W
def FtN(wb:Nat)(p0:Option Addr)(m0 o0:Nat)(p1:Option Addr)(m1 o1:Nat)(p2:Option Addr)(m2 o2:Nat)(p3:Option Addr)(m3 o3:Nat)(p4:Option Addr)(m4 o4:Nat)(p:Pg)(Bd:Nat->Prop)(w4 W:World):Prop:=∃u v ds cs y f m,Fl (fun b=>Bd b∨wb<b) wb p0 m0 o0 p1 m1 o1 p2 m2 o2 p3 m3 o3 p4 m4 o4 p (.slice p0 m0 o0) Bd W u v ds cs y f m/\Below wb w4 W
theorem Qkl{S0:Nat->Prop}{n0:Nat}{p0:Option Addr}{m0 o0:Nat}{p1:Option Addr}{m1 o1:Nat}{p2:Option Addr}{m2 o2:Nat}{p3:Option Addr}{m3 o3:Nat}{p4:Option Addr}{m4 o4:Nat}{p:Pg}{w:World}(hfp:Few p 97)(hwf:WfZ 65537 p)(hP:PgS (fun b=>S0 b/\b<n0) w [.slice p0 m0 o0,.slice p1 m1 o1,.slice p2 m2 o2,.slice p3 m3 o3,.slice p4 m4 o4] p)(hn0:n0<=w.heap.size):
  Calls Tryz.prog 9 #[.agg #[.slice p0 m0 o0,.slice p1 m1 o1,.slice p2 m2 o2,.slice p3 m3 o3,.slice p4 m4 o4]] w fun en w'=>FtA S0 n0 p w en w':=by
 obtain⟨Bd,bl⟩:∃Bd:Nat->Prop,∀b,Bd b↔(S0 b/\b<n0):=⟨_,fun _=>Iff.rfl⟩;have b6:=hide bl;obtain⟨w2,c1,b2,nx,nz,s2⟩:=new2 w #[.slice p0 m0 o0,.slice p1 m1 o1,.slice p2 m2 o2,.slice p3 m3 o3,.slice p4 m4 o4] #[Jn,Jn,Jn,Jn,Jn] 28 28;obtain⟨w3,ax⟩:=JE (w2.alloc (.cells #[Ji 0,Ji 0] 31));have b3:=bnw ax;have n3:=nnw ax;have s3:w3.heap.size=w.heap.size+3:=by rw[ax];simp;omega
 obtain⟨w4,ay⟩:=JE (w3.alloc (.cells #[.slice p0 m0 o0,.slice p1 m1 o1,.slice p2 m2 o2,.slice p3 m3 o3,.slice p4 m4 o4,Jn,Jn,Jn,Jn,Jn,Ji 0,Ji 0,Ji 0] 80));have b4:=bnw ay;have n4:=nnw ay;obtain⟨wb,bt⟩:=JF w3.heap.size;rw[bt]at n4;have s4:w4.heap.size=w.heap.size+4:=by rw[ay];simp;omega
 have bi:Below w.heap.size w w3:=b2.trans (b3.mono b2.size);have aJ:Below w.heap.size w w4:=bi.trans (b4.mono bi.size);have cf:=(b4.block _ (by omega)).trans ((b3.block _ (by omega)).trans nx);have cg:=(b4.block _ (by omega)).trans ((b3.block _ (by omega)).trans nz);rw[s2]at n3;have cd:=(b4.block _ (by omega)).trans n3;have bU:=Qal.same _ w w4 _ _ hP aJ.size (fun q _ hl=>aJ.block q hl);have br:=(Qmc hP).2.2.1;have an:Fl (fun b=>Bd b/\b<wb) wb p0 m0 o0 p1 m1 o1 p2 m2 o2 p3 m3 o3 p4 m4 o4 p (Jn) Bd w4 (Jn) (Jn) [] [] 0 0 0:=⟨n4,Qal.mono _ _ _ _ _ bU (fun b _ s=>⟨(bl b).2 s,by have d5:b<n0:=s.2;omega⟩),Row.nil _ _,Row.nil _ _,fun b e=>by simp[Value.ownBlock]at e,fun _=>rfl,by simp,by simp,by simp⟩;have S0:Hid (FtW wb p0 m0 o0 p1 m1 o1 p2 m2 o2 p3 m3 o3 p4 m4 o4 p Bd w4 w4 (Jn) []):=hide ⟨⟨0,0,an,Kp.refl _ _⟩,Row.nil _ _,by omega⟩;have a7:=hide (show ∀W,Kp wb w4 W->W.heap[w.heap.size]?=some (.cells #[.slice p0 m0 o0,.slice p1 m1 o1,.slice p2 m2 o2,.slice p3 m3 o3,.slice p4 m4 o4] 28 (0,0))/\True from fun W k=>⟨k.keep cf (by omega),trivial⟩);have bM:=hide (Ya cg (show w4.heap[w.heap.size+1+1]?=_ from cd));have ck:=hide aJ;have ba:=hide (show wb=w.heap.size+3/\w4.heap.size=w.heap.size+4 by omega);have HM:=hide br;have bH:=hide (show m2<=97 by rw[<- br];exact hfp.2.2.1);have cr:=hide (show ∀x∈p.clauses,ltBs x.body<=131074 by cases hwf with|mk ts ds2 cs2 is ls P hC hL hDD hI hBB=>exact fun x hx=>Nat.le_trans (Qkr _) ((hL x hx).2));have HP:=hide (Ya hfp hwf);have bI:=hide hn0;have bJ:=hide c1;have bK:=hide ax;have bc:=hide (Ya ay bt);obtain⟨H,I,Q,J,L,T⟩:=cl5 (((b3.block _ (by omega)).trans nx:w3.heap[w.heap.size]?=_));clear bl c1 b2 nx nz s2 ax b3 n3 s3 ay b4 n4 bt s4 bi aJ cf cg cd bU br an hfp hwf hP hn0;go_enter Tryz.func9,Tryz.ntmps9;go_upto_region 1 with fail
 rw[<- Qa bJ,<- Qa bK];go_upto_region 2 with fail;rw[<- (Qa bc).1,(Qa bc).2];clear bJ bK bc H I Q J L T;have d6:=Qa bH;go_wp2_with fail;go_loopw [5,6] (fun lv iv wr=>∃(acc:List Txt) (i:Nat) (sa:Option Addr) (sc:Nat),lv = .slice sa acc.length sc/\iv = Ji (i:Int)/\i<=m2/\acc.length<=sc/\sc<=maxLen/\Hid (FtW wb p0 m0 o0 p1 m1 o1 p2 m2 o2 p3 m3 o3 p4 m4 o4 p Bd w4 wr (.slice sa acc.length sc) acc)/\Hid (acc.length=i)) (fun _ iv _=>m2 - (intOf iv).toNat)
 case atStart=>exact⟨[],0,none,0,rfl,rfl,Nat.zero_le _,Nat.le_refl _,by unfold maxLen;omega,S0,hide rfl⟩
 obtain⟨acc,i,sa,sc,rfl,rfl,hi,cU,c0,N,HS⟩:=hrel;unfold maxLen at c0;clear S0;by_cases bY:i<m2
 ·
  obtain⟨y0,cP,F,d⟩:=(Qa N).st;obtain⟨_,_,_,_,_,ee,_,_,hC,_,_⟩:=PgS.cells F.hp;obtain⟨-,-,e3,-,-⟩:=list5 ee;subst e3;obtain⟨c,hc⟩:∃c,p.comps[i]?=some c:=⟨p.comps[i]'(by have:=Qa HM;omega),List.getElem?_eq_getElem _⟩;obtain⟨r,cap,qs,n,aO,aN,bp,⟨vb,bd,rfl,h,bs,aw⟩,U⟩:=hC.elem hc;obtain⟨d0,d1,d2,d3,d4,rfl,au,X,Y,aL,aM⟩:=PgS.cells aw;simp only[Value.slice.injEq]at n;obtain⟨rfl,-,rfl⟩:=n;have cj:wr.cell? (Ja r (i*8))=some (str c.1):=U 0 _ rfl;have cZ:wr.cell? (Ja r (i*8+7))=some (Ji c.2.2.2):=U 7 _ rfl;obtain⟨H,I,Q,J,L,T⟩:=cl5 (Qa a7 wr d).1;have bW:=Qja (Qa N).ls c.1;have b9:=hide F;have HK:=hide d
  have co:=hide (show ∀W,Kp wb wr W->W.cell? (Ja r (i*8))=some (str c.1) from fun W k=>by
   have cR:r≠wb:=by have:=aN.2;omega
   have e:=k.block r aO cR;rw[<- cj]
   simp only[World.cell?,e])
  clear F d ee hC hc aO aN bp h bs aw U au X Y aL aM H I J L;go_wp2_with fail;refine bW.mono ?_;clear bW;rintro en w6⟨⟨bq,rfl⟩,rfl⟩
  go_upto_if 25 with fail
  go_cut [] from 11 to 41 (fun j=>Hid (Kp wb w6 j/\FtW wb p0 m0 o0 p1 m1 o1 (Js r) m2 o2 p3 m3 o3 p4 m4 o4 p Bd w4 j (.slice sa acc.length sc) acc))
  case first=>
   cases bq
   ·
    have l:=hide (Ya (Kp.refl wb w6) (Qa N));go_wp2_with fail;go_meet;exact l
   have a1:=Qbt (Qa b9) (why:=11) (by decide) c.2.2.2;go_wp2_with fail;refine a1.mono ?_;clear a1;rintro en w9⟨rfl,y9,f9,S,o,e9⟩;have l:=hide (show Kp wb w6 w9/\FtW wb p0 m0 o0 p1 m1 o1 (Js r) m2 o2 p3 m3 o3 p4 m4 o4 p Bd w4 w9 (.slice sa acc.length sc) acc from ⟨o,(Qa N).next o S⟩);clear S o e9;go_wp2_with fail;go_meet;exact l
  obtain⟨j,ar⟩:=JE wc;subst ar;have hX:=Qa hcut;clear hcut;obtain⟨g,c8,w8,aZ,cS,cT,bT⟩:=hX.2.more (by have:=Qa HS;have:=Qa bH;omega) c.1;have cj:=Qa co j hX.1;obtain⟨H,I,Q,J,L,T⟩:=cl5 (Qa a7 j ((Qa HK).trans hX.1)).1;have aY:=hide aZ;have cq:=hide bT;have aI:=hide (show(acc++[c.1]).length=i+1 by rw[List.length_append,Qa HS];rfl);clear hX aZ bT cZ H I J L;go_wp2_with (at_builtin;refine Qaj _ rfl _ _ 51 rfl _ _ rfl rfl _ _ (Qa aY) ?_;clear aY);go_roundw
  case rel=>exact⟨_,i+1,_,_,by rw[Qa aI,<- Qa HS],by simp,by omega,by rw[Qa aI,<- Qa HS];exact cS,cT,by rw[Qa aI,<- Qa HS];exact cq,aI⟩
  case measure=>simp[intOf];omega
 have S1:Hid (Ft0 wb p0 m0 o0 p1 m1 o1 p2 m2 o2 p3 m3 o3 p4 m4 o4 p Bd w4 wr):=hide (Qa N).st;clear N HS;obtain⟨H,I,Q,J,L,T⟩:=cl5 (Qa a7 wr (Qa S1).choose_spec.choose_spec.2).1;go_wp2_with fail;clear H I Q J L T bY hi cU c0;go_loopw [7] (fun iv wr=>∃(i:Nat),iv = Ji (i:Int)/\i<=m2/\Hid (Ft0 wb p0 m0 o0 p1 m1 o1 p2 m2 o2 p3 m3 o3 p4 m4 o4 p Bd w4 wr)) (fun iv _=>m2 - (intOf iv).toNat)
 case atStart=>exact⟨0,rfl,Nat.zero_le _,S1⟩
 obtain⟨i,rfl,hi,N⟩:=hrel;clear S1;by_cases bY:i<m2
 ·
  obtain⟨y0,cP,F,d⟩:=Qa N;obtain⟨_,_,_,_,_,ee,_,_,hC,_,_⟩:=PgS.cells F.hp;obtain⟨-,-,e3,-,-⟩:=list5 ee;subst e3;obtain⟨c,hc⟩:∃c,p.comps[i]?=some c:=⟨p.comps[i]'(by have:=Qa HM;omega),List.getElem?_eq_getElem _⟩;obtain⟨r,cap,qs,n,aO,aN,bp,⟨vb,bd,rfl,h,bs,aw⟩,U⟩:=hC.elem hc;obtain⟨d0,d1,d2,d3,d4,rfl,au,X,Y,aL,aM⟩:=PgS.cells aw;simp only[Value.slice.injEq]at n;obtain⟨rfl,-,rfl⟩:=n;obtain⟨e0,f0,rfl⟩:=au.sl;obtain⟨n,f1,rfl⟩:=X.sl;obtain⟨e2,f2,rfl⟩:=Y.sl;obtain⟨e3,f3,rfl⟩:=aL.sl;obtain⟨e4,f4,rfl⟩:=aM.sl;have aD:wr.cell? (Ja r (i*8+2))=some (.slice e0 c.2.2.1.types.length f0):=U 2 _ rfl;have aE:wr.cell? (Ja r (i*8+2+1))=some (.slice n c.2.2.1.decls.length f1):=U 3 _ rfl;have aF:wr.cell? (Ja r (i*8+2+2))=some (.slice e2 c.2.2.1.comps.length f2):=U 4 _ rfl;have aG:wr.cell? (Ja r (i*8+2+3))=some (.slice e3 c.2.2.1.inits.length f3):=U 5 _ rfl;have aH:wr.cell? (Ja r (i*8+2+4))=some (.slice e4 c.2.2.1.clauses.length f4):=U 6 _ rfl;obtain⟨H,I,Q,J,L,T⟩:=cl5 (Qa a7 wr d).1;obtain⟨w5,aQ⟩:=JE (wr.alloc (.cells #[.slice e0 c.2.2.1.types.length f0,.slice n c.2.2.1.decls.length f1,.slice e2 c.2.2.1.comps.length f2,.slice e3 c.2.2.1.inits.length f3,.slice e4 c.2.2.1.clauses.length f4] 28));have b5:=bnw aQ;have n5:=nnw aQ;obtain⟨xb,bu⟩:=JF wr.heap.size;rw[bu]at n5;have H5:=hide (show Ft0 wb p0 m0 o0 p1 m1 o1 (Js r) m2 o2 p3 m3 o3 p4 m4 o4 p Bd w4 w5 from (Qa N).later b5)
  have bb:=hide (show ∀W,Kp wb w5 W->LsAt PTy 4 (fun b=>Bd b/\b<wb) W (.slice e0 c.2.2.1.types.length f0) c.2.2.1.types/\LsAt PCo 8 (fun b=>Bd b/\b<wb) W (.slice e2 c.2.2.1.comps.length f2) c.2.2.1.comps/\W.heap[xb]?=some (.cells #[.slice e0 c.2.2.1.types.length f0,.slice n c.2.2.1.decls.length f1,.slice e2 c.2.2.1.comps.length f2,.slice e3 c.2.2.1.inits.length f3,.slice e4 c.2.2.1.clauses.length f4] 28 (0,0)) from fun W k=>⟨(au.later Qbe b5).same Qbe k.size (fun q A hl=>k.block q hl (by have:=A.2;omega)),(Y.later Qbj b5).same Qbj k.size (fun q A hl=>k.block q hl (by have:=A.2;omega)),k.keep n5 (by have:=F.lt;omega)⟩);have bL:=hide aQ;have cw:=hide bu;clear F d ee hC hc aO aN bp h bs aw U au X Y aL aM aQ b5 n5 bu H I J L;go_upto_region 13 with fail;rw[<- Qa bL,Qa cw];clear bL aD aE aF aG aH Q T;go_cut [58] from 42 to 74 (fun cv wc=>∃b:Bool,cv = .bool b/\(b=true->0<c.2.2.1.types.length)/\wc=w5)
  case first=>
   obtain⟨P,-,hB⟩:=Qa bb w5 (Kp.refl _ _);obtain⟨ag,ah,ai,aj,ak,lf⟩:=cl5 hB;have af:=P.cap rfl;obtain⟨n1,a9⟩:=JF c.2.2.1.types.length;rw[a9]at af ag;have cp:=hide a9;clear a9 P hB ah ai aj ak;by_cases hn:0<n1
   ·
    go_wp2_with fail;go_meet;exact⟨true,rfl,fun _=>by rw[Qa cp];exact hn,rfl⟩
   have M:n1=0:=by omega
   subst M;go_wp2_with fail;go_meet;exact⟨false,rfl,(fun e=>by cases e),rfl⟩
  case rest=>
  obtain⟨b,rfl,bm,ew⟩:=hcut;rw[ew];clear ew
  go_upto_if 58 with fail
  go_cut [] from 42 to 74 (fun j=>Hid (Kp wb w5 j/\Ft0 wb p0 m0 o0 p1 m1 o1 (Js r) m2 o2 p3 m3 o3 p4 m4 o4 p Bd w4 j))
  case first=>
   cases b
   ·
    have l:=hide (Ya (Kp.refl wb w5) (Qa H5));go_wp2_with fail;go_meet;exact l
   have hn:=bm rfl;obtain⟨P,-,hB⟩:=Qa bb w5 (Kp.refl _ _);obtain⟨ag,ah,ai,aj,ak,lf⟩:=cl5 hB;have af:=P.cap rfl;obtain⟨t,ht⟩:∃t,c.2.2.1.types[0]?=some t:=⟨c.2.2.1.types[0]'hn,List.getElem?_eq_getElem _⟩;obtain⟨tb,cap,ts,n,-,-,-,⟨xa,xn,xc,rfl,-⟩,hte⟩:=P.elem ht;simp only[Value.slice.injEq]at n;obtain⟨rfl,-,rfl⟩:=n;have d8:w5.cell? (Ja tb 3)=some (Ji t.at_):=hte 3 _ rfl;obtain⟨yb,fb,F,d⟩:=Qa H5;have b9:=hide F;obtain⟨n1,a9⟩:=JF c.2.2.1.types.length;rw[a9]at hn af ag;clear P hB hte ht F d bm ah ai aj ak;have a1:=Qbt (Qa b9) (why:=1) (by decide) t.at_;go_wp2_with fail;refine a1.mono ?_;clear a1;rintro en w9⟨rfl,y9,f9,S,o,e9⟩;have l:=hide (show Kp wb w5 w9/\Ft0 wb p0 m0 o0 p1 m1 o1 (Js r) m2 o2 p3 m3 o3 p4 m4 o4 p Bd w4 w9 from ⟨o,(Qa H5).next o S⟩);clear S o e9;go_wp2_with fail;go_meet;exact l
  obtain⟨j,ar⟩:=JE wc;subst ar;obtain⟨kX,hX⟩:=Qa hcut;clear hcut;obtain⟨-,P,hB⟩:=Qa bb j kX;obtain⟨ag,ah,ai,aj,ak,lf⟩:=cl5 hB;have af:=P.cap rfl;have HX:=hide hX;clear kX hB bm;by_cases hn:0<c.2.2.1.comps.length
  ·
   obtain⟨t,ht⟩:∃t,c.2.2.1.comps[0]?=some t:=⟨c.2.2.1.comps[0]'hn,List.getElem?_eq_getElem _⟩;obtain⟨tb,cap,ts,n,-,-,-,⟨vb2,bd2,rfl,-,-,hbd2⟩,hte⟩:=P.elem ht;obtain⟨u0,u1,u2,u3,u4,rfl,-,-,-,-,-⟩:=PgS.cells hbd2;simp only[Value.slice.injEq]at n;obtain⟨rfl,-,rfl⟩:=n;have d9:j.cell? (Ja tb 7)=some (Ji t.2.2.2):=hte 7 _ rfl;obtain⟨yb,fb,F,d⟩:=hX;have a1:=Qbt F (why:=1) (by decide) t.2.2.2;obtain⟨n1,a9⟩:=JF c.2.2.1.comps.length;rw[a9]at hn af ai;clear P hte ht F d hbd2 ag ah aj ak;go_wp2_with fail;refine a1.mono ?_;clear a1;rintro en w9⟨rfl,y9,f9,S,o,e9⟩;have l:=hide ((Qa HX).next o S);clear S o e9;go_wp2_with fail;go_roundw
   case rel=>exact⟨i+1,by simp,by omega,l⟩
   case measure=>simp[intOf];omega
  have M:c.2.2.1.comps.length=0:=by omega
  rw[M]at af ai;clear P hX hn M ag ah aj ak;go_wp2_with fail;go_roundw
  case rel=>exact⟨i+1,by simp,by omega,HX⟩
  case measure=>simp[intOf];omega
 obtain⟨H,I,Q,J,L,T⟩:=cl5 (Qa a7 wr (Qa N).choose_spec.choose_spec.2).1;go_upto_region 17 with fail;go_cut [] from 9 (fun j=>Hid (FtO wb p0 m0 o0 p1 m1 o1 p2 m2 o2 p3 m3 o3 p4 m4 o4 p Bd w4 j))
 case first=>
  obtain⟨y,f,an,bX⟩:=Qa N;obtain⟨O,a8⟩:=JE wr.drew;have Z:Below wr.heap.size wr O:=by rw[a8];exact(Below.refl _ wr).drew
  have a:=an.later Z;have bo:=bX.trans (Kp.of_below (rb:=wb) Z);obtain⟨_,_,_,_,_,ee,_,hD,_,_,hL⟩:=PgS.cells a.hp;obtain⟨-,e2,-,-,e5⟩:=list5 ee;subst e2;subst e5;have c2:wb<O.heap.size:=a.lt;have aK:=Qa ba;have az:=(Qa a7 O bo).1;obtain⟨iu,c5,ca,c7,c3⟩:=info51;obtain⟨iv,c6,cc,c9,c4⟩:=info54;obtain⟨uA,UA,ch,a0,aC,aA⟩:=Qmg (wb:=wb) (ST:=23) Qav Qqh (by kernel_rfl) c5 ca c7 c3 rfl (by decide) (by decide) hD (Qa HP).1.2.1 c2;obtain⟨vA,VA,ci,ab,bx,aB⟩:=Qmg (wb:=wb) (ST:=26) (w:=UA) Qaw Qqf (by kernel_rfl) c6 cc c9 c4 rfl (by decide) (by decide) (hL.later Qaw a0) (Qa HP).1.2.2.2.2 (by have:=a0.size;omega);obtain⟨bE,bF,rfl⟩:=aC.slice;obtain⟨vaA,bG,rfl⟩:=bx.slice;have al:Below O.heap.size O VA:=a0.trans (ab.mono a0.size);have aC:=aC.mv Qav ab.size (fun q hl _=>ab.block q hl) (fun _ _ hs=>hs);have bN:Apt (.slice bE p.decls.length bF) (.slice vaA p.clauses.length bG):=fun b n e2=>by
   have h1:=aA b n;have h2:=aB b e2;omega
  have am:=(al.block wb (by omega)).trans a.box;have bk:=(al.block _ (by omega)).trans az;obtain⟨WA,V⟩:=JE ((((((VA.setCell (Ja wb 5) (.slice p0 m0 o0)).setCell (Ja wb 6) (.slice bE p.decls.length bF)).setCell (Ja wb 7) (Jn)).setCell (Ja wb 8) (Jn)).setCell (Ja wb 9) (.slice vaA p.clauses.length bG)));have bS:WA.heap[wb]?=some (.cells #[.slice p0 m0 o0,.slice p1 m1 o1,.slice p2 m2 o2,.slice p3 m3 o3,.slice p4 m4 o4,.slice p0 m0 o0,(.slice bE p.decls.length bF),Jn,Jn,(.slice vaA p.clauses.length bG),Ji y,Ji f,Ji ((0:Nat):Int)] 80 (0,0)):=by rw[V];exact(Qah (Qah (Qah (Qah (Qah am 5 _) 6 _) 7 _) 8 _) 9 _).trans rfl
  have aP:∀q,q≠wb->WA.heap[q]?=VA.heap[q]?:=fun q A=>by rw[V,hpS A,hpS A,hpS A,hpS A,hpS A]
  have cu:=hide (show FtO wb p0 m0 o0 p1 m1 o1 p2 m2 o2 p3 m3 o3 p4 m4 o4 p Bd w4 WA from ⟨_,_,_,_,fl_put a al aC bx bN (Qa HP).1 (Qa cr) (by rw[V];simp) aP bS,(bo.trans (Kp.of_below al)).trans (Kp.cell (wb:=wb) (by rw[V];simp) aP (by rw[V];rfl) (by rw[V];rfl) (by rw[V];rfl))⟩);have ct:=hide V;have cy:=hide ch;have cz:=hide ci;have b7:=hide (show(∀W,W=UA->W.heap[w.heap.size]?=some (.cells #[.slice p0 m0 o0,.slice p1 m1 o1,.slice p2 m2 o2,.slice p3 m3 o3,.slice p4 m4 o4] 28 (0,0))/\True)/\(∀W,W=VA->W.heap[w.heap.size]?=some (.cells #[.slice p0 m0 o0,.slice p1 m1 o1,.slice p2 m2 o2,.slice p3 m3 o3,.slice p4 m4 o4] 28 (0,0))/\True)/\(∀W,W=UA->wb<W.heap.size) /\ ∀W,W=WA->W.heap[w.heap.size]?=some (.cells #[.slice p0 m0 o0,.slice p1 m1 o1,.slice p2 m2 o2,.slice p3 m3 o3,.slice p4 m4 o4] 28 (0,0))/\True from ⟨fun W e=>by rw[e];exact⟨(a0.block _ (by omega)).trans az,trivial⟩,fun W e=>by rw[e];exact⟨bk,trivial⟩,fun W e=>by rw[e];have:=a0.size;omega,fun W e=>by rw[e];exact⟨(aP _ (by omega)).trans bk,trivial⟩⟩);have cl:=hide am;have cx:=hide az;obtain⟨H,I,Q,J,L,T⟩:=cl5 az;have bh:=hide a8;clear an bX Z a bo ee hD hL c2 aK az ch a0 aC aA ci ab bx aB al bN am bk V bS aP c5 ca c7 c3 c6 cc c9 c4 a8 H I Q J L T;obtain⟨cA,cB,cC,cD,cE,cF,cG,cH,cI,cJ,bO,bP,bQ,bf⟩:=cl13 (Qa cl);refine Qas (tr:=.take 0 (.take 1 (.take 2 (.take 3 (.take 5 (.take 6 (.one 4 (.one 7 (.take 8 (.take 9 (.one 10 .nil))))))))))) (fun W=>W.heap[w.heap.size]?=some (.cells #[.slice p0 m0 o0,.slice p1 m1 o1,.slice p2 m2 o2,.slice p3 m3 o3,.slice p4 m4 o4] 28 (0,0))/\True) mixedO (by kernel_rfl) rfl (by kernel_rfl) (fun PP ao=>?_);rw[<- Qa bh]
  iterate 6 (refine tT (v:=?_) (fun w' hw=>?_) ?_;rotate_left;· (obtain⟨bv,cY⟩:=hw;obtain⟨aR,aS,cV,cW,cX,kf⟩:=cl5 bv;go_simp<;>rfl))
  refine Qaf rfl ⟨Qa cx,trivial⟩ (fun K C=>?_);refine Qai rfl _ _ 23 rfl (Jn) (.slice p1 m1 o1) (by kernel_rfl) (by kernel_rfl) (Qa cy) ?_;refine C _ _ ?_;clear C K;refine Qaf rfl ((Qa b7).1 _ rfl) (fun K C=>?_);refine Qai rfl _ _ 26 rfl (Jn) (.slice p4 m4 o4) (by kernel_rfl) (by kernel_rfl) (Qa cz) ?_;refine C _ _ ?_;clear C K
  iterate 2 (refine tT (v:=?_) (fun w' hw=>?_) ?_;rotate_left;· (obtain⟨bv,cY⟩:=hw;obtain⟨aR,aS,cV,cW,cX,kf⟩:=cl5 bv;go_simp<;>rfl))
  refine Qaf rfl ((Qa b7).2.1 _ rfl) (fun K C=>?_);go_simp;rw[<- Qa ct];refine C _ _ ?_;clear C K cA cB cC cD cE cF cG cH cI cJ bO bP bQ bf;refine Qan ((Qa b7).2.2.2 _ rfl) (ao _ _ ?_);clear ao PP;go_wp2_with fail;go_meet;exact cu
 obtain⟨j,ar⟩:=JE wc;subst ar;have HO:=hcut;clear hcut N;obtain⟨u,v,y,f,a,d⟩:=Qa HO;have M:=a.z;have HF:=hide a;have HK:=hide d;have HZ:=hide M;obtain⟨a2,a3,a4,a5,a6,aT,aU,aV,aW,aX,ac,ad,ae,vf⟩:=cl13 a.box;clear a2 a3 a4 a5 a6 aT aU aV aW aX ae;go_upto_region 18 with fail;go_cut [88] from 9 (fun cv wc=>∃b:Bool,cv = .bool b/\(b=true->y=0)/\(b=false->y≠0)/\wc=j)
 case first=>
  clear a d;by_cases E:y=0
  ·
   have hf:=M E;subst E;subst hf;go_wp2_with fail;go_meet;exact⟨true,rfl,fun _=>trivial,(fun e=>by cases e),rfl⟩
  have g1:(y==0)=false:=beq_eq_false_iff_ne.2 E;have HY:=hide E;clear M E;go_wp2_with fail;go_meet;exact⟨false,rfl,(fun e=>by cases e),fun _=>Qa HY,rfl⟩
 case rest=>
 clear a d M ac ad vf;obtain⟨b,rfl,X,Y,ew⟩:=hcut;rw[ew];clear ew
 go_upto_if 88 with fail
 go_cut [] from 9 (fun WZ=>Hid (FtN wb p0 m0 o0 p1 m1 o1 p2 m2 o2 p3 m3 o3 p4 m4 o4 p Bd w4 WZ))
 case first=>
  have a:=Qa HF;have d:=Qa HK;have h:=d.bel (B:=wb) (Nat.le_refl _) (by have:=Qa ba;omega);cases b
  ·
   have l:=hide (show FtN wb p0 m0 o0 p1 m1 o1 p2 m2 o2 p3 m3 o3 p4 m4 o4 p Bd w4 j from ⟨u,v,_,_,y,f,0,a.mono (fun b _ s=>.inl s.1),h⟩);clear a d h X Y;go_wp2_with fail;go_meet;exact l
  have E:=X rfl;have hf:=Qa HZ E;clear X Y HF HK HZ HO;subst E;subst hf;have bn:=icC_all (Qa HP).1 (Qa HP).2 97 (fun b=>Bd b/\b<wb) (fun b=>Bd b/\b<wb) j u v p.decls p.clauses 0 0 0 p p0 m0 o0 p1 m1 o1 p2 m2 o2 p3 m3 o3 p4 m4 o4 [] (Jn) [] a (fun b s=>s) (by omega) (fun _=>by omega) (by omega) a.hp (fun b s hl=>⟨by have:=s.2;omega,fun e=>by have:=(a.dlt b (.inl e)).1;have:=s.2;omega,fun e=>by have:=(a.dlt b (.inr e)).1;have:=s.2;omega⟩) (Qa HP).1 (Qa HP).2 (by simp) (LsAt.nil _ _) (by simp);have es:str ([]:Txt) = Je:=rfl;rw[es]at bn;obtain⟨H,I,Q,J,L,T⟩:=cl5 (Qa a7 j d).1;have HF:=hide (Ya a (Ya d h));clear a d h es;go_wp2_with fail;refine bn.mono ?_;clear bn;rintro en w9⟨cO,cM,cN,cL,y',f',m',rfl,S,o,-,-,-,-⟩
  have l:=hide (show FtN wb p0 m0 o0 p1 m1 o1 p2 m2 o2 p3 m3 o3 p4 m4 o4 p Bd w4 w9 by
   obtain⟨a,d,h⟩:=Qa HF;have d7:=a.lt
   refine⟨cO,cM,cN,cL,y',f',m',S.mono (fun b _ s=>by rcases s with e|e;exact .inl e.1;exact .inr (by omega)),⟨o.os.trans h.os,o.tape.trans h.tape,o.output.trans h.output,Nat.le_trans h.size o.size,fun q A=>(o.block q (by omega) ⟨by omega,fun e=>by have:=(a.dlt q (.inl e)).1;omega,fun e=>by have:=(a.dlt q (.inr e)).1;omega⟩).trans (h.block q A)⟩⟩)
  clear S o;go_wp2_with fail;go_meet;exact l
 case rest=>
 clear HF HK HZ X Y;obtain⟨WZ,cQ⟩:=JE wc;subst cQ;obtain⟨u,v,ds,cs,y,f,m,a,h⟩:=Qa hcut;clear hcut HO;have M:=a.z;have aK:=Qa ba;obtain⟨a2,a3,a4,a5,a6,aT,aU,aV,aW,aX,ac,ad,ae,vf⟩:=cl13 a.box;have av:Below w.heap.size w WZ:=(Qa ck).trans (h.mono (by omega));have nz:=(h.block (w.heap.size+1) (by omega)).trans (Qa bM).1;have nf:=(h.block (w.heap.size+1+1) (by omega)).trans (Qa bM).2;by_cases E:y=0
 ·
  have hf:=M E;subst E;subst hf;obtain⟨u0,i0,u1,i1,rfl,rfl,bZ⟩:=a.pg (fun b s=>s);obtain⟨W8,ap,D⟩:=sc5 nz (.slice p0 m0 o0) (.slice u0 ds.length i0) (Jn) (Jn) (.slice u1 cs.length i1);have aa:=(D.oth _ (by omega)).trans nf;obtain⟨W9,aq,G⟩:=sc2 aa (Ji 0) (Ji 0);have l:=hide (show FtA S0 n0 p w (.returned (.tuple #[.agg #[.slice p0 m0 o0,.slice u0 ds.length i0,Jn,Jn,.slice u1 cs.length i1],.agg #[Ji 0,Ji 0]])) W9 from ⟨_,.mk p.types ds [] [] cs,0,0,rfl,⟨_,_,_,_,_,_,_,_,_,_,_,_,_,_,_,rfl,Qal.mono _ _ _ _ _ (Qal.same _ W8 W9 _ _ (Qal.same _ WZ W8 _ _ bZ (by rw[D.size];exact Nat.le_refl _) (fun q A _=>D.oth q (by have:=Qa bI;rcases A with e|e;have:=((Qa b6 q).1 e).2;omega;omega))) (by rw[G.size];exact Nat.le_refl _) (fun q A _=>G.oth q (by have:=Qa bI;rcases A with e|e;have:=((Qa b6 q).1 e).2;omega;omega))) (fun b _ s=>by rcases s with e|e;exact .inl ((Qa b6 b).1 e);exact .inr (by omega))⟩,G.below (D.below av (by omega)) (by omega),rfl,rfl,⟨(Qa HP).1.1,a.nd,by simp[Pg.comps],by simp[Pg.inits],a.nc⟩,a.sz,fun e=>absurd rfl e,fun _=>⟨rfl,rfl⟩⟩);have b0:=hide ((G.oth _ (by omega)).trans D.box);have b1:=hide G.box;have be:=hide ap;have bg:=hide aq;obtain⟨aD,aE,aF,aG,aH,zf⟩:=cl5 nz;obtain⟨bz,bA,sf⟩:=cl2 aa;clear a h M aK av nz nf bZ ap D aa aq G a2 a3 a4 a5 a6 ae;go_upto_region 22 with fail
  iterate 14 (first|go_values|go_skip|go_guarded|go_step|go_upon|go_back)
  rw[<- Qa be];clear aD aE aF aG aH zf aT aU aV aW aX ac ad vf
  iterate 4 (first|go_values|go_skip|go_guarded|go_step|go_upon|go_back)
  rw[<- Qa bg];clear bz bA sf
  iterate 2 (first|go_values|go_skip|go_guarded|go_step|go_upon|go_back)
  obtain⟨a2,a3,a4,a5,a6,vf⟩:=cl5 (Qa b0);obtain⟨bB,bC,uf⟩:=cl2 (Qa b1);show bodyPost _ _ _ _ _ _;refine bodyPost_ret (v:=.tuple #[.agg #[.slice p0 m0 o0,.slice u0 ds.length i0,Jn,Jn,.slice u1 cs.length i1],.agg #[Ji 0,Ji 0]]) (by simp[results,Tryz.results9,go_sem,a2,a3,a4,a5,a6,bB,bC]) rfl ?_;exact Qa l
 have g1:(y==0)=false:=beq_eq_false_iff_ne.2 E;obtain⟨O,a8⟩:=JE WZ.drew;have Z:Below WZ.heap.size WZ O:=by rw[a8];exact(Below.refl _ WZ).drew
 have bj:=(Z.block _ a.lt).trans a.box;have bw:=(Z.block _ (Qaa nz)).trans nz;have ce:=(Z.block _ (Qaa nf)).trans nf;have bV:Below w.heap.size w O:=av.trans (Z.mono av.size);obtain⟨W8,ap,D⟩:=sc5 bw (Jn) (Jn) (Jn) (Jn) (Jn);have aa:=(D.oth _ (by omega)).trans ce;have bR:=(D.oth wb (by omega)).trans bj;obtain⟨W9,aq,G⟩:=sc2 aa (Ji y) (Ji f);have cK:=(G.oth wb (by omega)).trans bR;have l:=hide (show FtA S0 n0 p w (.returned (.tuple #[.agg #[Jn,Jn,Jn,Jn,Jn],.agg #[Ji y,Ji f]])) W9 from ⟨_,.none,y,f,rfl,⟨_,_,_,_,_,_,_,_,_,_,_,_,_,_,_,rfl,Qcq _ _⟩,G.below (D.below bV (by omega)) (by omega),rfl,rfl,Qbz _,(fun x hx=>by cases hx),fun _=>rfl,fun e=>absurd e E⟩);have b0:=hide ((G.oth _ (by omega)).trans D.box);have b1:=hide G.box;have be:=hide ap;have bg:=hide aq;have bh:=hide a8
 have b8:=hide (show ∀W:World,W.heap[wb]?=O.heap[wb]?->W.cell? (Ja wb 10)=some (Ji y)/\W.cell? (Ja wb 11)=some (Ji f) from fun W e=>by
  obtain⟨_,_,_,_,_,_,_,_,_,_,aR,aS,_,_⟩:=cl13 (e.trans bj)
  exact⟨aR,aS⟩)
 have cm:=hide (show W8.heap[wb]?=O.heap[wb]? from D.oth wb (by omega));have cn:=hide (show W9.heap[wb]?=O.heap[wb]? from (G.oth wb (by omega)).trans (D.oth wb (by omega)));obtain⟨aD,aE,aF,aG,aH,zf⟩:=cl5 bw;obtain⟨bz,bA,sf⟩:=cl2 aa;clear a h M aK av nz nf a8 Z bj bw ce bV ap D aa bR aq G cK E a2 a3 a4 a5 a6 aT aU aV aW aX ae;go_upto_region 21 with fail;clear ac ad vf g1;refine Qas (tr:=.take 0 (.take 1 (.take 2 (.one 3 (.one 4 .nil))))) (fun W=>W.cell? (Ja wb 10)=some (Ji y)/\W.cell? (Ja wb 11)=some (Ji f)) mixedO (by kernel_rfl) rfl (by kernel_rfl) (fun PP ao=>?_);rw[<- Qa bh]
 iterate 3 (refine tT (v:=?_) (fun w' hw=>?_) ?_;rotate_left;· (obtain⟨aR,aS⟩:=hw;go_simp<;>rfl))
 refine Qaf rfl (Qa b8 O rfl) (fun K C=>?_);go_simp;rw[<- Qa be];refine C _ _ ?_;clear C K aD aE aF aG aH zf;refine Qaf rfl (Qa b8 W8 (Qa cm)) (fun K C=>?_);go_simp;rw[<- Qa bg];refine C _ _ ?_;clear C K bz bA sf;refine Qan (Qa b8 W9 (Qa cn)) (ao _ _ ?_);clear ao PP
 iterate 4 (first|go_values|go_skip|go_guarded|go_step|go_upon|go_back)
 obtain⟨a2,a3,a4,a5,a6,vf⟩:=cl5 (Qa b0);obtain⟨bB,bC,uf⟩:=cl2 (Qa b1);show bodyPost _ _ _ _ _ _;refine bodyPost_ret (v:=.tuple #[.agg #[Jn,Jn,Jn,Jn,Jn],.agg #[Ji y,Ji f]]) (by simp[results,Tryz.results9,go_sem,a2,a3,a4,a5,a6,bB,bC]) rfl ?_;exact Qa l
end
end Go.Proofs.YtkhndlnadhggkaaGreat
