/- The document's flattener. -/
import Derived.Test.YtmfpbepifnedjaaGreatZz01
import Derived.Test.YtmfpbepifnedjaaGreatZz20
set_option maxRecDepth 100000
set_option maxHeartbeats 32000000
namespace Go.Proofs.YtmfpbepifnedjaaGreat
section
open Go.RowKit Go.Maps
theorem Qic:∀xs:List Lt,xs.length<=ltQs xs
 | []=>Nat.zero_le _
 |y :: xs=>by
  rw[ltQs,ltQ]
  have:=Qic xs
  simp only[List.length_cons]
  omega
theorem Qkv:∀{xs:List Lt} {y:Lt},y∈xs->y.atom.rel.length<=ltQs xs+65536
 |x :: xs,y,h=>by
  rw[ltQs,ltQ]
  rcases List.mem_cons.1 h with rfl|h
  ·unfold lngQ;omega
  ·have:=Qkv h;omega
section
variable {wb:Nat}{p0:Option Addr}{m0 o0:Nat}{p1:Option Addr}{m1 o1:Nat}{p2:Option Addr}{m2 o2:Nat}{p3:Option Addr}{m3 o3:Nat}{p4:Option Addr}{m4 o4:Nat}{p:Pg}{tv:Value}{Bd:Nat->Prop}
theorem Qkt(D:Nat)(hN:∀D',D'<D->IcC wb p0 m0 o0 p1 m1 o1 p2 m2 o2 p3 m3 o3 p4 m4 o4 p tv Bd D'):IsC wb p0 m0 o0 p1 m1 o1 p2 m2 o2 p3 m3 o3 p4 m4 o4 p tv Bd D:=fun R Q w dv cv ds cs y f m q b0 a0 c0 b1 F c1 b2 a2 c2 b3 a3 c3 b4 a4 c4 pre nm co at_ yv dC h dn hm hD hP hQ d5 cQ aM dd aK=>by
 obtain⟨w2,dp,cp,nx,nz,s2⟩:=new2 w #[.slice b0 a0 c0,.slice b1 F c1,.slice b2 a2 c2,.slice b3 a3 c3,.slice b4 a4 c4] #[str nm,str co,Ji at_] 28 93
 have b8:=h.lt
 have bH:∀b,(some b=dv.ownBlock∨some b=cv.ownBlock)->b<w.heap.size:=fun b e=>(h.dlt b e).2
 have h2:Fl (fun b=>R b/\b<w.heap.size) wb p0 m0 o0 p1 m1 o1 p2 m2 o2 p3 m3 o3 p4 m4 o4 p tv Bd w2 dv cv ds cs y f m:=(h.mono (fun b n hr=>⟨hr,n⟩)).later cp
 obtain⟨w3,be⟩:=JE (w2.setCell (Ja wb 12) (Ji ((m:Int)+1)))
 have bR:∀q,q≠wb->w3.heap[q]?=w2.heap[q]?:=fun q l=>by rw[be,hpS l]
 have s3:w3.heap.size=w2.heap.size:=by rw[be];simp
 have h3:Fl (fun b=>R b/\b<w.heap.size) wb p0 m0 o0 p1 m1 o1 p2 m2 o2 p3 m3 o3 p4 m4 o4 p tv Bd w3 dv cv ds cs y f (m+1):=h2.cell s3 bR (by rw[be];exact(Qah h2.box 12 _).trans (by simp)) h2.z
 have k3:Kp wb w w3:=by rw[be];exact(Kp.of_below cp).trans (Kp.set _ _ _ _)
 have au:=(bR _ (by omega)).trans nx
 have aq:=(bR _ (by omega)).trans nz
 obtain⟨N,M,O,L,P,dQ,dD,e2,e0,ea,dw,cW,dB,T⟩:=cl13 h2.box
 obtain⟨cg,cy,cx,cl,ct,cA,bo,cw,cF,bM,bE,bx,bL,yf⟩:=cl13 h3.box
 have HW:=hide (Ya dp be)
 have H3:=hide (Ya h3 (Ya k3 (Ya au (Ya aq (show w3.heap.size=w.heap.size+2 by omega)))))
 have HP:=hide hP
 have HQ:=hide hQ
 have HF:=hide (Ya d5 cQ)
 have HY:=hide dd
 have HN:=hide hN
 have HL:=hide (Ya aM (Ya aK (Ya hm hD)))
 have Y:=hide (Ya b8 bH)
 have dO:=hide dn
 clear dp cp nx nz s2 b8 bH h2 be bR s3 h3 k3 au aq h dn hD hP hQ d5 cQ aM dd aK hN N M O L P dQ dD e2 e0 ea dw cW cg cy cx cl ct cA bo cw cF bM bE bx
 go_enter Tryz.func68,Tryz.ntmps68
 go_upto_region 1 with fail
 rw[<- (Qa HW).1]
 by_cases dx:96<=m
 ·
  have gm:(96:Int)<(m:Int)+1:=by omega
  have bG:=Qbs (Qa H3).1 (why:=3) (by decide) at_
  obtain⟨cC,c9,ch,uf⟩:=cl3 (Qa H3).2.2.2.1
  clear dx
  go_upto_region 3 with fail
  rw[<- (Qa HW).2]
  go_wp2_with fail
  refine bG.mono ?_
  clear bG cC c9 ch uf
  rintro en w9⟨rfl,y9,f9,h9,k9,e9⟩
  have HE:=hide (show InA R wb p0 m0 o0 p1 m1 o1 p2 m2 o2 p3 m3 o3 p4 m4 o4 p tv Bd w dv cv y m (.returned (.tuple #[])) w9 from ⟨dv,cv,ds,cs,y9,f9,m+1,rfl,h9.mono (fun b _ hr=>.inl hr.1),FK.of_kp ((Qa H3).2.1.trans k9),fun _=>e9,by omega,by omega,fun e=>absurd e e9⟩)
  clear h9 k9 e9
  go_wp2_with fail
  go_end0
  exact Qa HE
 have gm:¬(96:Int)<(m:Int)+1:=by omega
 have ej:m<96:=by omega
 clear dx
 obtain⟨d0,d1,d2,d3,d4,ee,dW,bU,dP,bX,bW⟩:=PgS.cells (Qa HP)
 obtain⟨-,e1,-,e3,e4⟩:=list5 ee
 subst e1
 subst e3
 subst e4
 have dz:q.decls.length=F:=by obtain⟨_,_,e⟩:=bU.sl;cases e;rfl
 have cN:q.inits.length=a3:=by obtain⟨_,_,e⟩:=bX.sl;cases e;rfl
 have cL:q.clauses.length=a4:=by obtain⟨_,_,e⟩:=bW.sl;cases e;rfl
 have el:=bU.cap rfl
 have eg:=bX.cap rfl
 have ek:=bW.cap rfl
 have ef:F<=97/\a3<=97/\a4<=97:=by have:=(Qa HF).1;unfold Few at this;omega
 obtain⟨k3,au,aq,s3⟩:=(Qa H3).2
 have bS:∀b,Q b->b<w.heap.size->b≠wb:=fun b B n=>(Qa HQ b B n).1.1
 have cd:=hide (show ∀W,Kp wb w W->LsAt PDc 5 (fun b=>Q b/\b<w.heap.size) W (.slice b1 F c1) q.decls from fun W J=>(bU.mono Qau (S':=fun b=>Q b/\b<w.heap.size) (fun b n l=>⟨l,n⟩)).same Qau J.size (fun b l n=>J.block b n (bS b l.1 l.2)))
 have dL:=hide (show ∀W,Kp wb w W->LsAt PIn 3 (fun b=>Q b/\b<w.heap.size) W (.slice b3 a3 c3) q.inits from fun W J=>(bX.mono Qbi (S':=fun b=>Q b/\b<w.heap.size) (fun b n l=>⟨l,n⟩)).same Qbi J.size (fun b l n=>J.block b n (bS b l.1 l.2)))
 have di:=hide (show ∀W,Kp wb w W->LsAt PCl 5 (fun b=>Q b/\b<w.heap.size) W (.slice b4 a4 c4) q.clauses from fun W J=>(bW.mono Qay (S':=fun b=>Q b/\b<w.heap.size) (fun b n l=>⟨l,n⟩)).same Qay J.size (fun b l n=>J.block b n (bS b l.1 l.2)))
 have HA:=hide (Ya dz (Ya cN cL))
 have S0:Hid (OwL (w.heap.size+2) w3 w3 (Jn) []):=hide (OwL.nil (by omega))
 clear ee dW bU dP bX bW dz cN cL k3 au aq s3 bS
 go_upto_region 4 with fail
 rw[<- (Qa HW).2]
 clear HW dB T bL yf
 go_wp2_with fail
 go_loopw [10,11] (fun lv I wr=>∃(aC:List Txt) (i:Nat) (sa:Option Addr) (sc:Nat),lv = .slice sa aC.length sc/\I = Ji (i:Int)/\i<=F/\aC.length<=sc/\sc<=maxLen/\Hid (OwL (w.heap.size+2) w3 wr (.slice sa aC.length sc) aC)/\Hid (aC.length=i)) (fun _ I _=>F - (intOf I).toNat)
 case atStart=>exact⟨[],0,none,0,rfl,rfl,Nat.zero_le _,Nat.le_refl _,by unfold maxLen;omega,S0,hide rfl⟩
 obtain⟨aC,i,sa,sc,rfl,rfl,hi,cK,cT,HI,HS⟩:=hrel
 unfold maxLen at cT
 clear S0
 obtain⟨N,M,O,L,P,T⟩:=cl5 (((Qa HI).b.block _ (by omega)).trans (Qa H3).2.2.1)
 by_cases a8:i<F
 ·
  obtain⟨d,aj⟩:∃d,q.decls[i]?=some d:=⟨q.decls[i]'(by rw[(Qa HA).1];exact a8),List.getElem?_eq_getElem _⟩
  have ao:=(Qa HI).b
  obtain⟨k3,au,aq,s3⟩:=(Qa H3).2
  have J:Kp wb w wr:=k3.trans (Kp.of_below (by have:=ao;rw[<- s3]at this;exact this))
  obtain⟨A,cap,qs,e1,ak,ad,aA,⟨xa,xn,xc,rfl,hX⟩,X⟩:=(Qa cd wr J).elem aj
  simp only[Value.slice.injEq]at e1
  obtain⟨rfl,-,rfl⟩:=e1
  have ah:wr.cell? (Ja A (i*5))=some (str d.name):=X 0 _ rfl
  obtain⟨g,c,Z,a7,cB,cr,bp⟩:=(Qa HI).more (by have:=Qa HS;omega) d.name
  have aQ:=hide a7
  have cG:=hide bp
  have bd:=hide (show(aC++[d.name]).length=i+1 by rw[List.length_append,Qa HS];rfl)
  clear aj ao k3 au aq s3 J ak ad aA hX X a7 bp
  go_wp2_with (at_builtin;refine Qai _ rfl _ _ 51 rfl _ _ rfl rfl _ _ (Qa aQ) ?_;clear aQ)
  go_roundw
  case rel=>exact⟨_,i+1,_,_,by rw[Qa bd,<- Qa HS],by simp,by omega,by rw[Qa bd,<- Qa HS];exact cB,cr,by rw[Qa bd,<- Qa HS];exact cG,bd⟩
  case measure=>simp[intOf];omega
 have dY:i=F:=by omega
 clear hi a8
 have d6:=hide (show aC.length<=97 by have:=Qa HS;omega)
 have dX:=hide cK
 go_wp2_with fail
 clear N M O L P T HS dY
 clear cK
 have c7:aC.length<=sc:=Qa dX
 go_loopw [10,12] (fun lv I wq=>∃(a6:List Txt) (i2:Nat) (bI:Option Addr) (sc2:Nat),lv = .slice bI a6.length sc2/\I = Ji (i2:Int)/\i2<=a3/\a6.length<=sc2/\sc2<=maxLen/\Hid (OwL (w.heap.size+2) w3 wq (.slice bI a6.length sc2) a6)/\Hid (a6.length<=97+i2)) (fun _ I _=>a3 - (intOf I).toNat)
 case atStart=>exact⟨aC,0,sa,sc,rfl,rfl,Nat.zero_le _,c7,by unfold maxLen;omega,HI,d6⟩
 clear c7 cT HI d6
 obtain⟨a6,i2,bI,sc2,rfl,rfl,dT,dV,cZ,bf,dq⟩:=hrel
 unfold maxLen at cZ
 obtain⟨N,M,O,L,P,T⟩:=cl5 (((Qa bf).b.block _ (by omega)).trans (Qa H3).2.2.1)
 by_cases a8:i2<a3
 ·
  obtain⟨d,aj⟩:∃d,q.inits[i2]?=some d:=⟨q.inits[i2]'(by rw[(Qa HA).2.1];exact a8),List.getElem?_eq_getElem _⟩
  have ao:=(Qa bf).b
  obtain⟨k3,au,aq,s3⟩:=(Qa H3).2
  have J:Kp wb w wr:=k3.trans (Kp.of_below (by have:=ao;rw[<- s3]at this;exact this))
  obtain⟨A,cap,qs,e1,ak,ad,aA,hX,X⟩:=(Qa dL wr J).elem aj
  simp only[Value.slice.injEq]at e1
  obtain⟨rfl,-,rfl⟩:=e1
  have dR:qs=[str d.name,str d.comp,Ji d.at_]:=hX
  subst dR
  have ah:wr.cell? (Ja A (i2*3))=some (str d.name):=X 0 _ rfl
  obtain⟨g,c,Z,a7,cB,cr,bp⟩:=(Qa bf).more (by have:=Qa dq;omega) d.name
  have aQ:=hide a7
  have cG:=hide bp
  have eL:(a6++[d.name]).length=a6.length+1:=by rw[List.length_append];rfl
  have bd:=hide (show(a6++[d.name]).length<=97+(i2+1) by have:=Qa dq;omega)
  have ci:=hide eL
  clear aj ao k3 au aq s3 J ak ad aA hX X a7 bp eL
  go_wp2_with (at_builtin;refine Qai _ rfl _ _ 51 rfl _ _ rfl rfl _ _ (Qa aQ) ?_;clear aQ)
  go_roundw
  case rel=>exact⟨_,i2+1,_,_,by rw[Qa ci],by simp,by omega,by rw[Qa ci];exact cB,cr,by rw[Qa ci];exact cG,bd⟩
  case measure=>simp[intOf];omega
 clear dV cZ
 have ao:=(Qa bf).b
 obtain⟨h3,k3,au,aq,s3⟩:=Qa H3
 obtain⟨b8,bH⟩:=Qa Y
 have u:Fl (fun b=>R b/\b<w.heap.size) wb p0 m0 o0 p1 m1 o1 p2 m2 o2 p3 m3 o3 p4 m4 o4 p tv Bd wr dv cv ds cs y f (m+1):=h3.keep ao.size (fun b n B=>ao.block b (by rcases B with e|e|e;have:=e.2;omega;omega;have:=bH b e;omega))
 have kq:Kp wb w wr:=k3.trans (Kp.of_below (by have:=ao;rw[<- s3]at this;exact this))
 have G:=(ao.block _ (by omega)).trans au
 have aJ:=(ao.block _ (by omega)).trans aq
 obtain⟨da,dc,dr⟩:=u.rd.slice
 obtain⟨ca,cc,cS⟩:=u.rc.slice
 obtain⟨cg,cy,cx,cl,ct,cA,bo,cw,cF,bM,bE,bx,bL,yf⟩:=cl13 u.box
 rw[dr]at bo
 rw[cS]at bM
 obtain⟨ld,am⟩:=JF ds.length
 obtain⟨lc,ai⟩:=JF cs.length
 have ei:ld<=97/\lc<=97:=by have:=u.nd;have:=u.nc;omega
 rw[am]at bo
 rw[ai]at bM
 have HO:=hide (show LsAt PSt 1 (fun b=>w.heap.size+2<=b) wr (.slice bI a6.length sc2) a6 from (Qa bf).ls)
 have H5:=hide (Ya u (Ya kq (Ya G (Ya aJ (Ya am ai)))))
 clear ao h3 k3 au aq s3 b8 bH u kq G aJ dr cS am ai cg cy cx cl ct cA cw cF bE bx bL bf
 go_upto_region 13 with fail
 clear dT a8
 go_wp2_with fail
 go_region
 clear yf bo bM N M O L P T
 obtain⟨V,hV⟩:=JE wr.drew
 rw[<- hV]
 have bV:Below wr.heap.size wr V:=by rw[hV];exact(Below.refl _ wr).drew
 obtain⟨u,kq,G,aJ,am,ai⟩:=Qa H5
 have H6:=hide (Ya (u.later bV) (Ya (kq.trans (Kp.of_below (rb:=wb) bV)) (Ya ((bV.block _ (Qaa G)).trans G) (Ya ((bV.block _ (Qaa aJ)).trans aJ) (Ya ((Qa HO).later Qam bV) (Ya am ai))))))
 clear hV bV u kq G aJ am ai H5 HO
 have dt:=hide (show ∀(W:World) (y' f':Int),Fl (fun b=>R b/\b<w.heap.size) wb p0 m0 o0 p1 m1 o1 p2 m2 o2 p3 m3 o3 p4 m4 o4 p tv Bd W dv cv ds cs y' f' (m+1)->Kp wb V W -> ∀s:Txt,s.length<=200000 -> ∀a:Int,Calls Tryz.prog 96 #[.pointer (Js wb),str s,str pre,.slice bI a6.length sc2,Ji a] W fun en w'=>∃r:Txt,en = .returned (str r)/\FlF (fun b=>R b/\b<w.heap.size) wb p0 m0 o0 p1 m1 o1 p2 m2 o2 p3 m3 o3 p4 m4 o4 p tv Bd W dv cv ds cs y' (m+1) w' from fun W y' f' hW J s hs a=>by
  obtain⟨-,k6,-,-,al,-,-⟩:=Qa H6
  have h1:=(Qa Y).1
  have h2:=(Qa HL).1
  exact Qdt hW (al.same Qam J.size (fun q l n=>J.block q n (by have cJ:w.heap.size+2<=q:=l;omega))) (by omega) a)
 obtain⟨ob,cH⟩:∃ob,decide ((96:Int)<(ld:Int)+(lc:Int)+(F:Int)+(a4:Int))=ob:=⟨_,rfl⟩
 rw[cH]
 have cX:=hide cH
 clear cH
 cases ob
 case true=>
  have S6:Hid (FlF (fun b=>R b/\b<w.heap.size) wb p0 m0 o0 p1 m1 o1 p2 m2 o2 p3 m3 o3 p4 m4 o4 p tv Bd V dv cv ds cs y (m+1) V):=hide ⟨y,f,(Qa H6).1,Kp.refl _ _,fun e=>e⟩
  obtain⟨N,M,O,L,P,T⟩:=cl5 (Qa H6).2.2.1
  go_wp2_with fail
  clear N M O L P T
  go_loopw [13] (fun I wr=>∃(j:Nat),I = Ji (j:Int)/\j<=F/\Hid (FlF (fun b=>R b/\b<w.heap.size) wb p0 m0 o0 p1 m1 o1 p2 m2 o2 p3 m3 o3 p4 m4 o4 p tv Bd V dv cv ds cs y (m+1) wr)) (fun I _=>F - (intOf I).toNat)
  case atStart=>exact⟨0,rfl,Nat.zero_le _,S6⟩
  obtain⟨j,rfl,hj,aZ⟩:=hrel
  clear S6
  obtain⟨y5,f5,u,k,E⟩:=Qa aZ
  obtain⟨-,U,ab,-,-,-,-⟩:=Qa H6
  have G:=k.keep ab (by have:=(Qa Y).1;omega)
  obtain⟨N,M,O,L,P,T⟩:=cl5 G
  by_cases a8:j<F
  ·
   obtain⟨d,aj⟩:∃d,q.decls[j]?=some d:=⟨q.decls[j]'(by rw[(Qa HA).1];exact a8),List.getElem?_eq_getElem _⟩
   obtain⟨A,cap,qs,e1,ak,ad,aA,⟨xa,xn,xc,rfl,hX⟩,X⟩:=(Qa cd wr (U.trans k)).elem aj
   simp only[Value.slice.injEq]at e1
   obtain⟨rfl,-,rfl⟩:=e1
   have df:A≠wb:=((Qa HQ) A ad.1 ad.2).1.1
   have a9:d.name.length<=65536:=by cases (Qa HF).2 with|mk ts ae ay is ls hT hC hL hDD hI hBB=>exact hDD _ (List.mem_of_getElem? aj)
   have aS:=hide (show ∀W,Kp wb wr W->W.heap[w.heap.size]?=some (.cells #[.slice b0 a0 c0,.slice (Js A) F c1,.slice b2 a2 c2,.slice b3 a3 c3,.slice b4 a4 c4] 28 (0,0))/\W.cell? (Ja A (j*5))=some (str d.name)/\W.cell? (Ja A (j*5+4))=some (Ji d.at_) from fun W J=>by
    have hc:∀o,W.cell? (Ja A o)=wr.cell? (Ja A o):=fun o=>World.cell?_of_block (J.block A ak df)
    exact⟨J.keep G (by have:=(Qa Y).1;omega),by rw[hc];exact X 0 _ rfl,by rw[hc];exact X 4 _ rfl⟩)
   have az:=Qa dt wr.drew y5 f5 (u.later (Below.refl _ wr).drew) (k.trans (Kp.of_below (Below.refl _ wr).drew)) d.name (by omega) d.at_
   have aL:=hide (Ya k E)
   have ah:wr.cell? (Ja A (j*5))=some (str d.name):=X 0 _ rfl
   have ap:wr.cell? (Ja A (j*5+4))=some (Ji d.at_):=X 4 _ rfl
   clear u k E U ab G aj ak ad aA hX X df a9
   go_upto_region 17 with fail
   clear N M O L P T ah ap
   go_wp2_with fail
   refine Qav (tr:=.take 0 (.take 1 (.take 2 (.take 3 (.take 4 (.take 5 (.take 6 (.take 7 (.take 8 (.take 9 (.take 10 (.take 11 (.take 12 (.take 13 (.take 14 (.one 15 .nil)))))))))))))))) (fun W=>W.heap[w.heap.size]?=some (.cells #[.slice b0 a0 c0,.slice (Js A) F c1,.slice b2 a2 c2,.slice b3 a3 c3,.slice b4 a4 c4] 28 (0,0))/\W.cell? (Ja A (j*5))=some (str d.name)/\W.cell? (Ja A (j*5+4))=some (Ji d.at_)) mixedO (by kernel_rfl) rfl (by kernel_rfl) (fun PP aO=>?_)
   iterate 15 (refine tT (v:=?_) (fun w' hw=>?_) ?_;rotate_left;· (obtain⟨bz,dG,dM⟩:=hw;obtain⟨ah,aG,aF,aE,ap,zf⟩:=cl5 bz;go_simp<;>rfl))
   refine Qag rfl (Qa aS _ (Kp.of_below (Below.refl _ wr).drew)) (fun K cO=>?_)
   go_simp
   refine az.mono ?_
   clear az
   rintro en Z⟨r8,rfl,y8,f8,h8,k8,e8⟩
   show K _ _
   refine cO _ _ ?_
   clear cO K
   have cf:Kp wb wr Z:=(Kp.of_below (Below.refl _ wr).drew).trans k8
   refine Qap (Qa aS _ cf) (aO _ _ ?_)
   clear aO PP
   have S8:Hid (FlF (fun b=>R b/\b<w.heap.size) wb p0 m0 o0 p1 m1 o1 p2 m2 o2 p3 m3 o3 p4 m4 o4 p tv Bd V dv cv ds cs y (m+1) Z):=hide ⟨y8,f8,h8,(Qa aL).1.trans cf,fun e=>e8 ((Qa aL).2 e)⟩
   clear h8 k8 e8 cf aS
   go_wp2_with fail
   go_roundw
   case rel=>exact⟨j+1,by simp,by omega,S8⟩
   case measure=>simp[intOf];omega
  go_wp2_with fail
  clear N M O L P T u k E U ab G a8 hj
  obtain⟨N,M,O,L,P,T⟩:=cl5 ((Qa aZ).choose_spec.choose_spec.2.1.keep (Qa H6).2.2.1 (by have:=(Qa Y).1;omega))
  clear N M O L P T
  go_loopw [14] (fun I wr=>∃(j:Nat),I = Ji (j:Int)/\j<=a4/\Hid (FlF (fun b=>R b/\b<w.heap.size) wb p0 m0 o0 p1 m1 o1 p2 m2 o2 p3 m3 o3 p4 m4 o4 p tv Bd V dv cv ds cs y (m+1) wr)) (fun I _=>a4 - (intOf I).toNat)
  case atStart=>exact⟨0,rfl,Nat.zero_le _,aZ⟩
  clear aZ
  obtain⟨j4,rfl,hj,c5⟩:=hrel
  obtain⟨y5,f5,u,k,E⟩:=Qa c5
  obtain⟨-,U,ab,av,al,-,-⟩:=Qa H6
  have G:=k.keep ab (by have:=(Qa Y).1;omega)
  obtain⟨N,M,O,L,P,T⟩:=cl5 G
  by_cases a8:j4<a4
  ·
   obtain⟨x,aW⟩:∃x,q.clauses[j4]?=some x:=⟨q.clauses[j4]'(by rw[(Qa HA).2.2];exact a8),List.getElem?_eq_getElem _⟩
   obtain⟨A,cap,qs,e1,ak,ad,aA,⟨aa,an,ac,ba,bn,bc,rfl,br,bB⟩,X⟩:=(Qa di wr (U.trans k)).elem aW
   simp only[Value.slice.injEq]at e1
   obtain⟨rfl,-,rfl⟩:=e1
   have bT:x.head.rel.length<=65536/\ltQs x.body<=2*65537:=by cases (Qa HF).2 with|mk ts ae ay is ls hT hC hL hDD hI hBB=>exact hL _ (List.mem_of_getElem? aW)
   have aV:=(Qa Y).1
   have aM:=(Qa HL).1
   have az:=Qfu (Q:=fun b=>Q b/\b<w.heap.size) u x br bB (fun b B=>((Qa HQ) b B.1 B.2).1.1) (pre:=pre) ((al.same Qam k.size (fun q l n=>k.block q n (by have cJ:w.heap.size+2<=q:=l;omega))).mono Qam (fun b _ B=>by have dN:w.heap.size+2<=b:=B;omega)) (by omega) (fun t ht=>by have:=Qkv ht;omega) (by have:=Qic x.body;omega)
   obtain⟨ah,aG,aF,aE,ap⟩:=cs5 X
   have aL:=hide (Ya k E)
   clear u k E U ab av al G aW ak ad aA br bB X bT aV aM
   go_wp2_with fail
   refine az.mono ?_
   clear az N M O L P T ah aG aF aE ap
   rintro en Z⟨v8,x8,rfl,-,-,y8,f8,h8,k8,e8⟩
   have S8:Hid (FlF (fun b=>R b/\b<w.heap.size) wb p0 m0 o0 p1 m1 o1 p2 m2 o2 p3 m3 o3 p4 m4 o4 p tv Bd V dv cv ds cs y (m+1) Z):=hide ⟨y8,f8,h8,(Qa aL).1.trans k8,fun e=>e8 ((Qa aL).2 e)⟩
   clear h8 k8 e8
   go_wp2_with fail
   go_roundw
   case rel=>exact⟨j4+1,by simp,by omega,S8⟩
   case measure=>simp[intOf];omega
  have aJ:=k.keep av (by have:=(Qa Y).1;omega)
  have bG:=Qbs u (why:=3) (by decide) at_
  obtain⟨cC,c9,ch,uf⟩:=cl3 aJ
  have aL:=hide (Ya (U.trans k) E)
  clear u k E U ab av al G aJ hj
  go_upto_region 22 with fail
  clear N M O L P T a8
  go_wp2_with fail
  refine bG.mono ?_
  clear bG cC c9 ch uf
  rintro en w9⟨rfl,y9,f9,h9,k9,e9⟩
  have HE:=hide (show InA R wb p0 m0 o0 p1 m1 o1 p2 m2 o2 p3 m3 o3 p4 m4 o4 p tv Bd w dv cv y m (.returned (.tuple #[])) w9 from ⟨dv,cv,ds,cs,y9,f9,m+1,rfl,h9.mono (fun b _ hr=>.inl hr.1),FK.of_kp ((Qa aL).1.trans k9),fun _=>e9,by omega,by omega,fun e=>absurd e e9⟩)
  clear h9 k9 e9
  go_wp2_with fail
  go_end0
  exact Qa HE
 case false=>
  have ed:ld+lc+F+a4<=96:=by have:=Qa cX;simp only[decide_eq_false_iff_not]at this;omega
  have S6:Hid (∃C H y' f',Fl (fun b=>R b∨w.heap.size<=b) wb p0 m0 o0 p1 m1 o1 p2 m2 o2 p3 m3 o3 p4 m4 o4 p tv Bd V C cv H cs y' f' (m+1)/\FK wb dv cv C cv V V/\(y≠0->y'≠0)/\H.length=ld+0):=hide ⟨dv,ds,y,f,(Qa H6).1.mono (fun b _ hr=>.inl hr.1),FK.of_below (Below.refl _ _),fun e=>e,(Qa H6).2.2.2.2.2.1⟩
  obtain⟨N,M,O,L,P,T⟩:=cl5 (Qa H6).2.2.1
  clear cX dt
  go_wp2_with fail
  clear N M O L P T
  go_loopw [15] (fun I wr=>∃(j:Nat),I = Ji (j:Int)/\j<=F/\Hid (∃C H y' f',Fl (fun b=>R b∨w.heap.size<=b) wb p0 m0 o0 p1 m1 o1 p2 m2 o2 p3 m3 o3 p4 m4 o4 p tv Bd wr C cv H cs y' f' (m+1)/\FK wb dv cv C cv V wr/\(y≠0->y'≠0)/\H.length=ld+j)) (fun I _=>F - (intOf I).toNat)
  case atStart=>exact⟨0,rfl,Nat.zero_le _,S6⟩
  obtain⟨j,rfl,hj,aZ⟩:=hrel
  clear S6
  obtain⟨C,H,y5,f5,u,k,E,a9⟩:=Qa aZ
  obtain⟨h6,U,ab,av,al,am,ai⟩:=Qa H6
  have aw:w.heap.size+2<=V.heap.size:=by have:=Qaa av;omega
  have aH:∀b,w.heap.size<=b->FS wb dv cv b:=fun b B=>⟨by have:=(Qa Y).1;omega,fun e=>by have:=(Qa Y).2 b (.inl e);omega,fun e=>by have:=(Qa Y).2 b (.inr e);omega⟩
  have G:=(k.block _ (by omega) (aH _ (Nat.le_refl _))).trans ab
  obtain⟨N,M,O,L,P,T⟩:=cl5 G
  by_cases a8:j<F
  ·
   obtain⟨d,aj⟩:∃d,q.decls[j]?=some d:=⟨q.decls[j]'(by rw[(Qa HA).1];exact a8),List.getElem?_eq_getElem _⟩
   have aV:=(Qa cd V U).same Qau k.size (fun b l n=>k.block b n ((Qa HQ) b l.1 l.2).1)
   obtain⟨A,cap,qs,e1,ak,ad,aA,⟨xa,xn,xc,rfl,hX⟩,X⟩:=aV.elem aj
   simp only[Value.slice.injEq]at e1
   obtain⟨rfl,-,rfl⟩:=e1
   obtain⟨ah,aG,aF,aE,ap⟩:=cs5 X
   have dK:d.name.length<=65536:=by cases (Qa HF).2 with|mk ts ae ay is ls hT hC hL hDD hI hBB=>exact hDD _ (List.mem_of_getElem? aj)
   obtain⟨w5,bZ⟩:=JE (wr.alloc (.cells #[str d.name,.slice xa xn xc,.bool d.input,.bool d.output,Ji d.at_] 63))
   have b5:=bnw bZ
   have n5:=nnw bZ
   obtain⟨db,bv⟩:=JF wr.heap.size
   rw[bv]at n5
   have dk:Fl (fun b=>(fun b=>R b∨w.heap.size<=b) b/\b<wr.heap.size) wb p0 m0 o0 p1 m1 o1 p2 m2 o2 p3 m3 o3 p4 m4 o4 p tv Bd w5 C cv H cs y5 f5 (m+1):=(u.mono (fun b n hr=>⟨hr,n⟩)).later b5
   have bk:=(al.same Qam k.size (fun b l n=>k.block b n (aH b (by have cJ:w.heap.size+2<=b:=l;omega)))).later Qam b5
   have az:=Qdt dk (s:=d.name) (pre:=pre) bk (by have:=(Qa HL).1;omega) d.at_
   have bm:∀W,Kp wb wr W->LsAt PF 2 (fun b=>Q b/\b<w.heap.size) W (.slice xa xn xc) d.cols:=fun W J=>hX.same Qbb J.size (fun b l n=>J.block b n ((Qa HQ) b l.1 l.2).1.1)
   have a5:∀b,(some b=C.ownBlock∨some b=cv.ownBlock)->b<wr.heap.size:=fun b e=>(u.dlt b e).2
   have H7:=hide (Ya bm (Ya a5 (Ya bv (Ya E (Ya k (Ya a9 (Ya b5 (Ya (u.lt) aw))))))))
   have bl:=k.size
   have HZ:=hide (show w.heap.size+2<=db by omega)
   obtain⟨cz,cj,cn,cu,cI,lf⟩:=cl5 n5
   have dJ:=hide n5
   have cY:=hide bZ
   clear u k E a9 h6 U ab av al am ai aw aH G aj aV ak ad aA hX X dK bZ b5 n5 dk bk bm a5 bl bv
   go_upto_region 27 with fail
   rw[<- Qa cY,(Qa H7).2.2.1]
   clear cY N M O L P T ah aG aF aE ap
   go_wp2_with fail
   refine az.mono ?_
   clear az cz cj cn cu cI lf
   rintro en w6⟨r6,rfl,y6,f6,h6,k6,e6⟩
   obtain⟨bm,a5,bv,E,k,a9,b5,aK,aw⟩:=Qa H7
   have n6:=k6.keep (Qa dJ) (by have:=Qa HZ;have:=(Qa Y).1;omega)
   obtain⟨S,bh⟩:=JE (w6.setCell (Ja db 0) (str r6))
   have d7:∀q,q≠db->S.heap[q]?=w6.heap[q]?:=fun q l=>by rw[bh,hpS l]
   have s7:S.heap.size=w6.heap.size:=by rw[bh];simp
   have n7:S.heap[db]?=some (.cells #[str r6,.slice xa xn xc,.bool d.input,.bool d.output,Ji d.at_] 63 (0,0)):=by rw[bh];exact(Qah n6 0 _).trans rfl
   have h7:Fl (fun b=>(fun b=>R b∨w.heap.size<=b) b/\b<wr.heap.size) wb p0 m0 o0 p1 m1 o1 p2 m2 o2 p3 m3 o3 p4 m4 o4 p tv Bd S C cv H cs y6 f6 (m+1):=h6.keep (by omega) (fun q n l=>d7 q (by rcases l with e|e|e;have:=e.2;omega;omega;have:=a5 q e;omega))
   have ck:Kp wb wr S:=by rw[bh];exact((Kp.of_below b5).trans k6).set2 (by omega)
   have h8:=h7.later (w':=S.drew) (Below.refl _ S).drew
   have aU:∀c∈([str r6,.slice xa xn xc,.bool d.input,.bool d.output,Ji d.at_]:List Value),c.oneCell'=true:=by simp[Value.oneCell',str]
   have dj:PDc (fun b=>((fun b=>R b∨w.heap.size<=b) b/\b<wr.heap.size)/\FS wb C cv b) S.drew [str r6,.slice xa xn xc,.bool d.input,.bool d.output,Ji d.at_] ⟨r6,d.cols,d.input,d.output,d.at_⟩:=⟨xa,xn,xc,rfl,((bm S ck).later Qbb (Below.refl _ S).drew).mono Qbb (fun b _ l=>⟨⟨.inl ((Qa HQ) b l.1 l.2).2,by have:=l.2;have:=k.size;omega⟩,k.fs b (by have:=l.2;omega) ((Qa HQ) b l.1 l.2).1⟩)⟩
   obtain⟨g,c,Z,a7,aX,h9,k9⟩:=h8.addD rfl aU dj (by omega)
   obtain⟨bC,bF,b9⟩:=h7.rd.slice
   have ec:S.drew.heap.size=S.heap.size:=rfl
   have bY:=hide (show S.cell? (Ja wb 6)=some (.slice bC H.length bF)/\S.heap[db]?=some (.cells #[str r6,.slice xa xn xc,.bool d.input,.bool d.output,Ji d.at_] 63 (0,0)) from ⟨by rw[<- b9];exact(Qad h7.box 6).trans rfl,n7⟩)
   have cm:db<S.heap.size:=Qaa n7
   have bJ:FS wb C cv db:=⟨by have:=Qa HZ;have:=(Qa Y).1;omega,fun e=>by have:=a5 db (.inl e);omega,fun e=>by have:=a5 db (.inr e);omega⟩
   have n8:Z.heap[db]?=some (.cells #[str r6,.slice xa xn xc,.bool d.input,.bool d.output,Ji d.at_] 63 (0,0)):=by
    have:=k9.block db cm bJ
    rw[hpS bJ.1]at this
    exact this.trans n7
   have SE:Hid (∃aB ae y2 f2,Fl (fun b=>R b∨w.heap.size<=b) wb p0 m0 o0 p1 m1 o1 p2 m2 o2 p3 m3 o3 p4 m4 o4 p tv Bd (Z.setCell (Ja wb 6) (.slice (Js g) (H.length+1) c)) aB cv ae cs y2 f2 (m+1)/\FK wb dv cv aB cv V (Z.setCell (Ja wb 6) (.slice (Js g) (H.length+1) c))/\(y≠0->y2≠0)/\ae.length=ld+(j+1)):=by
    have kk:FK wb C cv C cv wr S.drew:=FK.of_kp (ck.trans (Kp.of_below (Below.refl _ S).drew))
    exact hide ⟨_,_,y6,f6,h9.mono (fun b _ hr=>hr.1),(k.trans kk).trans k9,fun e=>e6 (E e),by rw[List.length_append,a9];rfl⟩
   obtain⟨WA,aN⟩:=JE (S.drew.alloc (.cells #[str r6,.slice xa xn xc,.bool d.input,.bool d.output,Ji d.at_] 63))
   have aP:Below S.drew.heap.size S.drew WA:=by rw[aN];exact(Below.refl _ _).alloc (Nat.le_refl _) _
   have ar:(Builtin.append_ #[23,23] 23 #[.slice bC H.length bF,.slice (Js S.heap.size) 1 1]).run Tryz.prog WA = .ok (.slice (Js g) (H.length+1) c) Z:=by rw[aN,<- b9];exact a7
   have cE:=hide (show WA.cell? (Ja wb 6)=some (.slice bC H.length bF)/\WA.heap[db]?=some (.cells #[str r6,.slice xa xn xc,.bool d.input,.bool d.output,Ji d.at_] 63 (0,0)) from ⟨by rw[World.cell?_of_block (aP.block wb (by have:=Qaa h7.box;exact this))];exact(Qa bY).1,(aP.block db cm).trans n7⟩)
   have cb:=hide (show Z.cell? (Ja wb 6)=some (.slice bC H.length bF)/\Z.heap[db]?=some (.cells #[str r6,.slice xa xn xc,.bool d.input,.bool d.output,Ji d.at_] 63 (0,0)) from ⟨by rw[<- b9];exact(Qad aX 6).trans rfl,n8⟩)
   obtain⟨bu,bj,bt,bs,bq,bN,bK,bD,bO,bP,bb,b7,aT,vf⟩:=cl13 aX
   obtain⟨cz,cj,cn,cu,cI,lf⟩:=cl5 n6
   have bw:=hide (show WA=(S.alloc (.cells #[str r6,.slice xa xn xc,.bool d.input,.bool d.output,Ji d.at_] 63)).drew from aN)
   have dh:=hide bh
   clear bm a5 bv E k a9 b5 aK aw n6 bh d7 s7 n7 h7 ck h8 aU dj a7 aX h9 k9 b9 ec cm bJ n8 aN aP h6 k6 e6 bu bj bt bs bq bN bD bO bP bb b7 aT cj cn cu cI
   go_upto_region 28 with fail
   rw[<- Qa dh]
   clear dh cz lf
   go_wp2_with fail
   refine Qaq (m:=12) (ml:=[(0,1),(1,1),(2,1),(3,1),(4,1),(5,2),(6,2),(7,0),(8,0),(9,1),(10,1),(11,1),(12,0)]) (fun ff W=>ff=false->W.cell? (Ja wb 6)=some (.slice bC H.length bF)/\W.heap[db]?=some (.cells #[str r6,.slice xa xn xc,.bool d.input,.bool d.output,Ji d.at_] 63 (0,0))) mixedO (by kernel_rfl) rfl (by rfl) (by kernel_rfl) (fun PP aO=>?_)
   iterate 5 (refine mF (v:=?_) (fun f w' hw=>?_) ?_;rotate_left;· (go_simp<;>rfl))
   iterate 2 (refine Qax (v:=?_) rfl (by kernel_rfl) (fun w' hw=>?_) ?_;rotate_left;· (obtain⟨em,bz⟩:=hw rfl;obtain⟨ah,aG,aF,aE,ap,zf⟩:=cl5 bz;go_simp<;>rfl))
   refine Qab rfl (fun _=>Qa bY) (fun K hK=>?_)
   go_simp
   rw[<- Qa bw]
   clear bw
   refine hK _ _ ?_
   clear hK K
   refine Qab rfl (fun _=>Qa cE) (fun K hK=>Qaj rfl _ _ 23 rfl _ _ rfl rfl ar (hK _ _ ?_))
   clear hK K ar
   iterate 3 (refine mF (v:=?_) (fun f w' hw=>?_) ?_;rotate_left;· (go_simp<;>rfl))
   refine Qab rfl (fun _=>Qa cb) (fun K hK=>?_)
   go_simp
   refine hK _ _ ?_
   clear hK K
   refine Qat (fun h=>by cases h) (aO _ _ ?_)
   clear aO PP bK vf
   go_wp2_with fail
   go_roundw
   case rel=>exact⟨j+1,by simp,by omega,SE⟩
   case measure=>simp[intOf];omega
  have dA:j=F:=by omega
  have S6:Hid (∃aB b6 ae ay y2 f2,Fl (fun b=>R b∨w.heap.size<=b) wb p0 m0 o0 p1 m1 o1 p2 m2 o2 p3 m3 o3 p4 m4 o4 p tv Bd wr aB b6 ae ay y2 f2 (m+1)/\FK wb dv cv aB b6 V wr/\(y≠0->y2≠0)/\ae.length=ld+F/\ay.length=lc+0):=hide ⟨C,cv,H,cs,y5,f5,u,k,E,by rw[a9,dA],by rw[ai];rfl⟩
  clear u k E a9 h6 U ab av al am ai aw aH G dA aZ
  go_wp2_with fail
  clear N M O L P T a8 hj
  go_loopw [17] (fun I wr=>∃(j:Nat),I = Ji (j:Int)/\j<=a4/\Hid (∃C ax H ag y' f',Fl (fun b=>R b∨w.heap.size<=b) wb p0 m0 o0 p1 m1 o1 p2 m2 o2 p3 m3 o3 p4 m4 o4 p tv Bd wr C ax H ag y' f' (m+1)/\FK wb dv cv C ax V wr/\(y≠0->y'≠0)/\H.length=ld+F/\ag.length=lc+j)) (fun I _=>a4 - (intOf I).toNat)
  case atStart=>exact⟨0,rfl,Nat.zero_le _,S6⟩
  clear S6 C H y5 f5
  obtain⟨j6,rfl,hj,c5⟩:=hrel
  obtain⟨C,ax,H,ag,y5,f5,u,k,E,a9,bg⟩:=Qa c5
  obtain⟨h6,U,ab,av,al,am,ai⟩:=Qa H6
  have aw:w.heap.size+2<=V.heap.size:=by have:=Qaa av;omega
  have aH:∀b,w.heap.size<=b->FS wb dv cv b:=fun b B=>⟨by have:=(Qa Y).1;omega,fun e=>by have:=(Qa Y).2 b (.inl e);omega,fun e=>by have:=(Qa Y).2 b (.inr e);omega⟩
  have G:=(k.block _ (by omega) (aH _ (Nat.le_refl _))).trans ab
  obtain⟨N,M,O,L,P,T⟩:=cl5 G
  by_cases a8:j6<a4
  ·
   obtain⟨x,aW⟩:∃x,q.clauses[j6]?=some x:=⟨q.clauses[j6]'(by rw[(Qa HA).2.2];exact a8),List.getElem?_eq_getElem _⟩
   have aV:=(Qa di V U).same Qay k.size (fun b l n=>k.block b n ((Qa HQ) b l.1 l.2).1)
   obtain⟨A,cap,qs,e1,ak,ad,aA,⟨aa,an,ac,ba,bn,bc,rfl,br,bB⟩,X⟩:=aV.elem aW
   simp only[Value.slice.injEq]at e1
   obtain⟨rfl,-,rfl⟩:=e1
   obtain⟨ah,aG,aF,aE,ap⟩:=cs5 X
   have bT:x.head.rel.length<=65536/\ltQs x.body<=2*65537:=by cases (Qa HF).2 with|mk ts ae ay is ls hT hC hL hDD hI hBB=>exact hL _ (List.mem_of_getElem? aW)
   have dm:=(Qa Y).1
   have aM:=(Qa HL).1
   have aY:∀b,(Q b/\b<w.heap.size)->FS wb C ax b/\R b:=fun b B=>⟨k.fs b (by have:=B.2;omega) ((Qa HQ) b B.1 B.2).1,((Qa HQ) b B.1 B.2).2⟩
   have bk:=(al.same Qam k.size (fun b l n=>k.block b n (aH b (by have cJ:w.heap.size+2<=b:=l;omega)))).later Qam (Below.refl _ wr).drew
   have dg:=u.later (w':=wr.drew) (Below.refl _ wr).drew
   have az:=Qfu (Q:=fun b=>Q b/\b<w.heap.size) dg x (br.later Qaf (Below.refl _ wr).drew) (bB.later Qba (Below.refl _ wr).drew) (fun b B=>(aY b B).1.1) (pre:=pre) (bk.mono Qam (fun b _ B=>by have dN:w.heap.size+2<=b:=B;omega)) (by omega) (fun t ht=>by have:=Qkv ht;omega) (by have:=Qic x.body;omega)
   obtain⟨bQ,bA,af⟩:=u.rc.slice
   have a5:∀b,(some b=C.ownBlock∨some b=ax.ownBlock)->b<wr.heap.size:=fun b e=>(u.dlt b e).2
   have de:=hide aY
   have aS:=hide (show ∀W:World,W.heap[w.heap.size]?=wr.heap[w.heap.size]?->W.heap[A]?=wr.heap[A]?->W.cell? (Ja wb 9)=some (.slice bQ ag.length bA)->W.cell? (Ja wb 9)=some (.slice bQ ag.length bA)/\W.heap[w.heap.size]?=some (.cells #[.slice b0 a0 c0,.slice b1 F c1,.slice b2 a2 c2,.slice b3 a3 c3,.slice (Js A) a4 c4] 28 (0,0))/\W.cell? (Ja A (j6*5))=some (str x.head.rel)/\W.cell? (Ja A (j6*5+1))=some (.slice aa an ac)/\W.cell? (Ja A (j6*5+2))=some (Ji x.head.at_)/\W.cell? (Ja A (j6*5+3))=some (.slice ba bn bc)/\W.cell? (Ja A (j6*5+4))=some (Ji x.at_) from fun W kx kg h9=>by
    have hc:∀o,W.cell? (Ja A o)=wr.cell? (Ja A o):=fun o=>World.cell?_of_block kg
    exact⟨h9,kx.trans G,by rw[hc];exact ah,by rw[hc];exact aG,by rw[hc];exact aF,by rw[hc];exact aE,by rw[hc];exact ap⟩)
   have eb:=hide bT.2
   have c8:wr.cell? (Ja wb 9)=some (.slice bQ ag.length bA):=by rw[<- af];exact(Qad u.box 9).trans rfl
   have bY:=hide (Qa aS wr.drew rfl rfl c8)
   have dF:=hide (show A<wr.heap.size/\FS wb C ax A from ⟨ak,(aY A ad).1⟩)
   have aL:=hide (Ya k (Ya E (Ya a9 (Ya bg (Ya a5 (Ya af (Ya aw u.lt)))))))
   have bl:=k.size
   have bi:=hide (show w.heap.size+2<=wr.heap.size by omega)
   clear u k E a9 bg h6 U ab av al am ai aw aH G aW aV ak ad aA br bB X bT dm aM aY bk dg af a5 c8 bl
   go_upto_region 32 with fail
   clear N M O L P T ah aG aF aE ap
   go_wp2_with fail
   refine Qaq (m:=20) (ml:=[(0,1),(1,1),(2,1),(3,1),(4,1),(5,2),(6,1),(7,1),(8,2),(9,1),(10,2),(11,2),(12,1),(13,1),(14,0),(15,0),(16,0),(17,1),(18,1),(19,1),(20,0)]) (fun ff W=>ff=false->W.cell? (Ja wb 9)=some (.slice bQ ag.length bA)/\W.heap[w.heap.size]?=some (.cells #[.slice b0 a0 c0,.slice b1 F c1,.slice b2 a2 c2,.slice b3 a3 c3,.slice (Js A) a4 c4] 28 (0,0))/\W.cell? (Ja A (j6*5))=some (str x.head.rel)/\W.cell? (Ja A (j6*5+1))=some (.slice aa an ac)/\W.cell? (Ja A (j6*5+2))=some (Ji x.head.at_)/\W.cell? (Ja A (j6*5+3))=some (.slice ba bn bc)/\W.cell? (Ja A (j6*5+4))=some (Ji x.at_)) mixedO (by kernel_rfl) rfl (by rfl) (by kernel_rfl) (fun PP aO=>?_)
   iterate 14 (first|(refine mF (v:=?_) (fun f w' hw=>?_) ?_;rotate_left;· (go_simp<;>rfl))|(refine Qax (v:=?_) rfl (by kernel_rfl) (fun w' hw=>?_) ?_;rotate_left;· (obtain⟨eh,bz,eq,dG,dM,ep,eo⟩:=hw rfl;obtain⟨ah,aG,aF,aE,ap,zf⟩:=cl5 bz;go_simp<;>rfl)))
   refine Qab rfl (fun _=>Qa bY) (fun K hK=>?_)
   go_simp
   refine az.mono ?_
   clear az
   rintro en w6⟨v6,x6,rfl,⟨ua,un,uc,va,vn,vc,rfl,cR,d9⟩,cP,y6,f6,h6,k6,e6⟩
   show K _ _
   refine hK _ _ ?_
   clear hK K
   obtain⟨k,E,a9,bg,a5,af,aw,aK⟩:=Qa aL
   have dE:wr.drew.heap.size=wr.heap.size:=rfl
   have aR:Kp wb wr w6:=(Kp.of_below (Below.refl _ wr).drew).trans k6
   have aU:∀c∈([str x6.head.rel,.slice ua un uc,Ji x6.head.at_,.slice va vn vc,Ji x6.at_]:List Value),c.oneCell'=true:=by simp[Value.oneCell',str]
   have cD:∀b,(Q b/\b<w.heap.size)∨wr.drew.heap.size<=b->(fun b=>R b∨w.heap.size<=b) b/\FS wb C ax b:=fun b B=>by
    rcases B with e|e
    ·exact⟨.inl (Qa de b e).2,(Qa de b e).1⟩
    have:=Qa bi
    exact⟨.inr (by omega),by omega,fun q=>by have:=a5 b (.inl q);omega,fun q=>by have:=a5 b (.inr q);omega⟩
   obtain⟨g,c,Z,a7,aX,h9,k9⟩:=h6.addC (x:=x6) rfl aU ⟨ua,un,uc,va,vn,vc,rfl,cR.mono Qaf (fun b _ B=>cD b B),d9.mono Qba (fun b _ B=>cD b B)⟩ (by omega) (by have:=Qkw x.body;have:=Qa eb;omega)
   have ce:∀b,b≠wb->Z.heap[b]?=(Z.setCell (Ja wb 9) (.slice (Js g) (ag.length+1) c)).heap[b]?:=fun b B=>(hpS B).symm
   have aI:=Qa dF
   have aD:FS wb C ax w.heap.size:=k.fs _ (by omega) ⟨by have:=(Qa Y).1;omega,fun e=>by have:=(Qa Y).2 _ (.inl e);omega,fun e=>by have:=(Qa Y).2 _ (.inr e);omega⟩
   have e7:=k6.size
   have dI:=hide (Qa aS w6 (aR.block _ (by have:=Qa bi;omega) aD.1) (aR.block _ aI.1 aI.2.1) (by rw[<- af];exact(Qad h6.box 9).trans rfl))
   obtain⟨WA,aN⟩:=JE (w6.alloc (.cells #[str x6.head.rel,.slice ua un uc,Ji x6.head.at_,.slice va vn vc,Ji x6.at_] 45))
   have aP:=bnw aN
   have c6:=h6.lt
   have cE:=hide (Qa aS WA ((aP.block _ (by have:=Qa bi;omega)).trans (aR.block _ (by have:=Qa bi;omega) aD.1)) ((aP.block _ (by omega)).trans (aR.block _ aI.1 aI.2.1)) (by rw[World.cell?_of_block (aP.block wb c6),<- af];exact(Qad h6.box 9).trans rfl))
   have cb:=hide (Qa aS Z (((ce _ aD.1).trans (k9.block _ (by have:=Qa bi;omega) aD)).trans (aR.block _ (by have:=Qa bi;omega) aD.1)) (((ce _ aI.2.1).trans (k9.block _ (by omega) aI.2)).trans (aR.block _ aI.1 aI.2.1)) (by rw[<- af];exact(Qad aX 9).trans rfl))
   have ar:(Builtin.append_ #[26,26] 26 #[.slice bQ ag.length bA,.slice (Js w6.heap.size) 1 1]).run Tryz.prog WA = .ok (.slice (Js g) (ag.length+1) c) Z:=by rw[aN,<- af];exact a7
   have SE:Hid (∃aB b6 ae ay y2 f2,Fl (fun b=>R b∨w.heap.size<=b) wb p0 m0 o0 p1 m1 o1 p2 m2 o2 p3 m3 o3 p4 m4 o4 p tv Bd (Z.setCell (Ja wb 9) (.slice (Js g) (ag.length+1) c)) aB b6 ae ay y2 f2 (m+1)/\FK wb dv cv aB b6 V (Z.setCell (Ja wb 9) (.slice (Js g) (ag.length+1) c))/\(y≠0->y2≠0)/\ae.length=ld+F/\ay.length=lc+(j6+1)):=
    hide ⟨_,_,_,_,y6,f6,h9,(k.trans (FK.of_kp aR)).trans k9,fun e=>e6 (E e),a9,by rw[List.length_append,bg];rfl⟩
   obtain⟨bu,bj,bt,bs,bq,bN,bK,bD,bO,bP,bb,b7,aT,vf⟩:=cl13 aX
   have bw:=hide aN
   clear k E a9 bg a5 af aw aK dE aR aU cD a7 aX h9 k9 ce aI aD e7 aN aP c6 cR d9 cP h6 k6 e6 bu bj bt bs bq bN bK bD bO bb b7 aT
   refine Qab rfl (fun _=>Qa dI) (fun K hK=>?_)
   go_simp
   rw[<- Qa bw]
   clear bw
   refine hK _ _ ?_
   clear hK K
   refine Qab rfl (fun _=>Qa cE) (fun K hK=>Qaj rfl _ _ 26 rfl _ _ rfl rfl ar (hK _ _ ?_))
   clear hK K ar
   iterate 3 (refine mF (v:=?_) (fun f w' hw=>?_) ?_;rotate_left;· (go_simp<;>rfl))
   refine Qab rfl (fun _=>Qa cb) (fun K hK=>?_)
   go_simp
   refine hK _ _ ?_
   clear hK K
   refine Qat (fun h=>by cases h) (aO _ _ ?_)
   clear aO PP bP vf
   go_wp2_with fail
   go_roundw
   case rel=>exact⟨j6+1,by simp,by omega,SE⟩
   case measure=>simp[intOf];omega
  have cU:PgS (fun b=>Q b/\b<w.heap.size) w [.slice b0 a0 c0,.slice b1 F c1,.slice b2 a2 c2,.slice b3 a3 c3,.slice b4 a4 c4] q:=Qak.mono _ _ _ _ _ (Qa HP) (fun b n B=>⟨B,n⟩)
  have d8:=Qak.same _ w V _ _ cU U.size (fun b l n=>U.block b n ((Qa HQ) b l.1 l.2).1.1)
  have dl:=Qak.same _ V wr _ _ d8 k.size (fun b l n=>k.block b n ((Qa HQ) b l.1 l.2).1)
  have du:LsAt PSt 1 (FS wb dv cv) V yv dC:=(Qa HY).same Qam U.size (fun b B n=>U.block b n B.1)
  have aY:∀b,(Q b/\b<w.heap.size)->b<wr.heap.size->FS wb C ax b:=fun b B _=>k.fs b (by have:=B.2;omega) ((Qa HQ) b B.1 B.2).1
  obtain⟨aM,aK,dH,dU⟩:=Qa HL
  have cq:=Qa HN (97 - (m+1)) (by omega) (fun b=>R b∨w.heap.size<=b) (fun b=>Q b/\b<w.heap.size) wr C ax H ag y5 f5 (m+1) q b0 a0 c0 b1 F c1 b2 a2 c2 b3 a3 c3 b4 a4 c4 pre yv dC u (fun b B=>.inl (Qa dO b B)) (by omega) (fun _=>by omega) (Nat.le_refl _) dl aY (Qa HF).1 (Qa HF).2 aM (du.fk Qam k) aK
  have hz:=u.z
  obtain⟨bu,bj,bt,bs,bq,bN,bK,bD,bO,bP,bb,b7,aT,vf⟩:=cl13 u.box
  have HK:=hide (Ya ((FK.of_kp (dv:=dv) (cv:=cv) U).trans k) (Ya E (Ya (show w.heap.size<=wr.heap.size by have:=k.size;omega) u)))
  clear cU d8 dl du aY aM aK dH dU u k E a9 bg h6 U ab av al am ai aw aH G hj c5 bu bj bt bs bq bN bK bD bO bP aT
  by_cases hy:y5=0
  ·
   have hf:=hz hy
   subst hy
   subst hf
   clear hz
   go_wp2_with fail
   refine cq.mono ?_
   clear cq
   rintro en w9⟨aB,b6,ae,ay,y2,f2,mm,rfl,h9,k9,e9,dZ,cV,dy⟩
   have HE:=hide (show InA R wb p0 m0 o0 p1 m1 o1 p2 m2 o2 p3 m3 o3 p4 m4 o4 p tv Bd w dv cv y m (.returned (.tuple #[])) w9 from by
    obtain⟨kk,E,dS,_⟩:=Qa HK
    exact⟨aB,b6,ae,ay,y2,f2,mm,rfl,h9.mono (fun b _ hr=>by rcases hr with (hr|hr)|hr;exact .inl hr;exact .inr hr;exact .inr (by omega)),kk.trans k9,fun e=>absurd rfl (E e),by omega,cV,dy⟩)
   clear h9 k9 e9 dZ cV dy
   go_wp2_with fail
   go_end0
   exact Qa HE
  have g1:(y5==0)=false:=beq_eq_false_iff_ne.2 hy
  have cM:=hide hy
  clear hz cq hy
  go_wp2_with fail
  go_end0
  obtain⟨kk,E,dS,u⟩:=Qa HK
  exact⟨C,ax,H,ag,y5,f5,m+1,rfl,u,kk,fun _=>Qa cM,by omega,by omega,fun e=>absurd e (Qa cM)⟩
end
end
end Go.Proofs.YtmfpbepifnedjaaGreat
