/- types. -/
import Derived.Test.YtkhndlnadhggkaaGreatAp01
import Derived.Test.YtkhndlnadhggkaaGreatAp35
set_option maxRecDepth 100000
set_option maxHeartbeats 32000000
namespace Go.Proofs.YtkhndlnadhggkaaGreat
section
open Go.RowKit Go.Maps
theorem sc3{w:World}{b:Nat}{T:TypeId}{u0 u1 u2:Value}(n:w.heap[b]?=some (.cells #[u0,u1,u2] T (0,0)))(v0 v1 v2:Value):∃W,W=(((w.setCell (Ja b 0) v0).setCell (Ja b 1) v1).setCell (Ja b 2) v2)/\Sc b T #[v0,v1,v2] w W:=
 ⟨_,rfl,(Qah (Qah (Qah n 0 _) 1 _) 2 _).trans (by simp),by simp,fun q a=>by rw[hpS a,hpS a,hpS a],rfl,rfl,rfl⟩
theorem Qjf{w W:World}{b0 k n:Nat}{T:TypeId}{sl:Value}{xs:List Value}(h:w.ownsRow b0 T k sl n xs)(b:∀q,some q=sl.ownBlock->W.heap[q]?=w.heap[q]?):W.ownsRow b0 T k sl n xs:=by
 refine⟨h.1,?_⟩;rcases h.2 with e|⟨g,cap,d,a,f,i,j⟩
 ·exact .inl e
 ·exact .inr ⟨g,cap,d,a,f,(b g (by rw[a];rfl)).trans i,j⟩
theorem k_own{p:Pg}{j:Nat}{x:Typ}(h:p.types[j]?=some x):kName p (3+j)=x.name/\kSub p (3+j)=tyNo p x.sub/\kInit p (3+j)=if x.sub=[] then ((3+j:Nat):Int) else -1:=by
 have e:3+j - 3=j:=by omega
 refine⟨?_,?_,?_⟩
 ·
  unfold kName;rw[if_neg (by omega),if_neg (by omega),if_neg (by omega),e,h];rfl
 ·
  unfold kSub;rw[if_neg (by omega),e,h];rfl
 unfold kInit;rw[if_neg (by omega),e,h]
section
variable {n0 n1:Nat}{p:Pg}{c:CatP}{kv:Value}{rt rd:List (Txt×Nat)}{rc:List (Txt×(Nat×Nat))}{w w':World}
theorem Nc.look(h:Nc n0 n1 p c kv (tyRow p.types) rd rc w)(t:Txt):(Instr.lookup 125 (.map (some c.mt)) (str t) false).run Tryz.prog w = .ok (Ji (tyNo p t:Int)) w:=by
 obtain⟨d,a,b⟩:=h.mt;rw[Qdx uS mI zI w c.mt d t a false,b t];unfold tyNo;cases asc (tyRow p.types) t<;>rfl
theorem Nc.three(h:Nc n0 n1 p c kv rt rd rc w):∃W,W=(w.alloc (.cells #[Je,Ji 0,Ji 0,.string ⟨#[110,117,109,98,101,114]⟩,Ji 0,Ji 1,.string ⟨#[115,121,109,98,111,108]⟩,Ji 0,Ji 2] 137)).setCell (Ja c.cb 5) (.slice (Js w.heap.size) 3 3) /\
  Nc n0 n1 p c (.slice (Js w.heap.size) 3 3) rt rd rc W/\W.ownsRow (n1+1) 137 3 (.slice (Js w.heap.size) 3 3) (3+0) (kdC p (3+0))/\Below n1 w W:=by
 obtain⟨f,d⟩:=JE (w.alloc (.cells #[Je,Ji 0,Ji 0,.string ⟨#[110,117,109,98,101,114]⟩,Ji 0,Ji 1,.string ⟨#[115,121,109,98,111,108]⟩,Ji 0,Ji 2] 137));have b:=bnw d;have g:=nnw d;have a:=h.later b;have j:=h.l0;have i:=Qaa h.box;have o:∀q,q≠c.cb->(f.setCell (Ja c.cb 5) (.slice (Js w.heap.size) 3 3)).heap[q]?=f.heap[q]?:=fun q e=>hpS e;refine⟨_,rfl,?_,?_,?_⟩
 ·
  rw[<- d];exact⟨(Qah a.box 5 _).trans rfl,(o _ (by omega)).trans a.par,Qcj.same _ _ _ _ _ a.prg (by simp) (fun q e _=>o q (by have k:q<n0:=e;have:=h.n01;omega)),a.mt.keep (o _ (Ne.symm (a.mt.cells_ne a.box))),a.md.keep (o _ (Ne.symm (a.md.cells_ne a.box))),a.mc.keep (o _ (Ne.symm (a.mc.cells_ne a.box))),h.l0,h.n01,h.ne⟩
 ·
  rw[<- d];exact⟨rfl,.inr ⟨w.heap.size,3,_,rfl,by omega,(o _ (by omega)).trans g,Nat.le_refl _,by unfold maxLen;decide,rfl,rfl⟩⟩
 rw[<- d];exact⟨b.os,b.tape,b.output,by simp;exact b.size,fun q e=>(o q (by omega)).trans (b.block q (by omega))⟩
end
theorem KRow.congr{w:World}{kb n cap:Nat}{nm:Nat->Txt}{sb:Nat->Nat}{bs bs':Nat->Int}(h:KRow w kb n cap nm sb bs)(e:∀k,k<n->bs k=bs' k):KRow w kb n cap nm sb bs':=by
 obtain⟨b,d,f⟩:=h.ex;exact⟨h.le,h.cm,b,d,fun j a=>by rw[<- e j a];exact f j a⟩
theorem Qtg(p:Pg):StB p [] (kInit p):=fun k _=>by
 by_cases h:kInit p k = -1
 ·exact .inr (.inl ⟨h,h,by simp⟩)
 ·exact .inl (Qna h).symm
theorem Nc.ct{n0 n1:Nat}{p:Pg}{c:CatP}{w:World}{sl:Value}(h:Nc n0 n1 p c sl (tyRow p.types) (dcRow p.decls) (ctRow p.types) w)(row:w.ownsRow (n1+1) 137 3 sl (3+p.types.length) (kdC p (3+p.types.length))):∃kb kc,sl = .slice (Js kb) (3+p.types.length) kc/\Ct n0 p { c with kb:=kb,kc:=kc } (kInit p) w/\n1<kb:=by
 obtain⟨kb,kc,rfl,d,b⟩:=KRow.of_own (by omega) row;have:=h.l0;have:=h.n01;refine⟨kb,kc,rfl,⟨?_,h.prg,?_,h.mt,h.md,h.mc,?_⟩,d⟩
 ·
  have a:=h.box;rw[Nat.add_comm 3]at a;exact a
 ·
  rw[Nat.add_comm 3]at b;exact b
 show n0<=c.cb/\n0<=kb/\n0<=c.mt/\n0<=c.md/\n0<=c.mc;omega
theorem Qir{n0 n1:Nat}{p:Pg}(hts:p.types.length<=1000000000):AkA n0 n1 p:=by
 intro c w h;obtain⟨a0,k0,c0,au⟩:∃a n d,c.v0 = .slice a n d:=by
  obtain⟨_,_,e⟩:=h.types.sl;exact⟨_,_,_,e⟩
 have bx:k0=p.types.length:=by
  obtain⟨_,_,e⟩:=h.types.sl;rw[au]at e;cases e
  rfl
 have cl:=h.types.cap au;have cp:k0<=1000000000:=by omega
 obtain⟨W1,bt,aD,ay,b1⟩:=h.three;obtain⟨aE,be,bf,bg,bh,aF,bi,bj,bk,xf⟩:=cl9 h.box;obtain⟨c5,c6,c7,c8,c9,ca,cc,cd,ce,vf⟩:=cl9 (h.later ((Below.refl w.heap.size w).alloc (Nat.le_refl _) (.cells #[Je,Ji 0,Ji 0,.string ⟨#[110,117,109,98,101,114]⟩,Ji 0,Ji 1,.string ⟨#[115,121,109,98,111,108]⟩,Ji 0,Ji 2] 137))).box;obtain⟨aG,bl,bm,cf,cg,ch,ci,cj,ck,zf⟩:=cl9 aD.box;rw[au]at aE aG;have bp:=hide bt;have W:=hide (Ya au bx);have H1:=hide (Ya aD (Ya ay b1));obtain⟨s1,bS⟩:=JF (Value.slice (Js w.heap.size) 3 3);have bF:=hide (show ∃sl,Nc n0 n1 p c sl (tyRow p.types) (dcRow p.decls) (ctRow p.types) W1/\W1.ownsRow (n1+1) 137 3 sl (3+0) (kdC p (3+0))/\Below n1 w W1 from ⟨_,aD,ay,b1⟩);clear hts h au bx bt aD ay b1 bS bl bm cf cg ch ci cj ck aE be bf bg bh bi bj bk c5 c6 c7 c8 c9 cc cd ce H1;go_enter Tryz.func71,Tryz.ntmps71;go_upto_region 1 with fail
 first|rw[<- Qa bp]|rw[<- show W1=_ from Qa bp]
 go_wp2_with fail;clear aF xf aG zf ca vf;go_loopw [19] (fun v wr=>∃j:Nat,v = Ji (j:Int)/\j<=k0/\Hid (∃sl,Nc n0 n1 p c sl (tyRow p.types) (dcRow p.decls) (ctRow p.types) wr/\wr.ownsRow (n1+1) 137 3 sl (3+j) (kdC p (3+j))/\Below n1 w wr)) (fun v _=>k0 - (intOf v).toNat)
 case atStart=>exact⟨0,rfl,Nat.zero_le _,bF⟩
 obtain⟨j,rfl,hj,HI⟩:=hrel;by_cases cq:j<k0
 rotate_left
 ·
  have bR:j=k0:=by omega
  subst bR;obtain⟨sl,O,row,bw⟩:=Qa HI;rw[(Qa W).2]at row;obtain⟨kb,kc,rfl,s,aA⟩:=O.ct row;obtain⟨aE,be,bf,bg,bh,aF,bi,bj,bk,xf⟩:=cl9 O.box;rw[<- (Qa W).2]at aF;have bN:=s.row.cm;have bM:=s.row.le;unfold maxLen at bN;rw[<- (Qa W).2]at bM;have H5:=hide (show ∃u,Ct n0 p { c with kb:=kb,kc:=kc } u wr/\StB p [] u/\(∀k,k<0->u k ≠ -1)/\Below n1 w wr from ⟨_,s,Qtg p,fun k hk=>absurd hk (Nat.not_lt_zero _),bw⟩);have M:=Nat.le_of_lt (Qaa O.par);have HK:=hide (Ya aA M);clear O row bw s aA M aE be bf bg bh bi bj bk;go_wp2_with fail;clear aF xf;go_loopw [56] (fun v wq=>∃i:Nat,v = Ji (i:Int)/\i<=3+j/\Hid (∃u,Ct n0 p { c with kb:=kb,kc:=kc } u wq/\StB p [] u/\(∀k,k<i->u k ≠ -1)/\Below n1 w wq)) (fun v _=>3+j - (intOf v).toNat)
  case atStart=>exact⟨0,rfl,Nat.zero_le _,H5⟩
  obtain⟨i,rfl,hi,HJ⟩:=hrel;by_cases cn:i<3+j
  ·
   obtain⟨u,s,aB,V,Z⟩:=Qa HJ;have bv:=(Qa W).2;have a8:=Qnn (p.types.length+3) (List.range (p.types.length+3)) [] u wr i (by simp) (fun k hk _=>List.mem_range.2 hk) s aB (fun v hv=>by cases hv) (by omega)
   dsimp only at a8
   obtain⟨kv,aL⟩:=JF (kBase p i);have ap:kv ≠ -1:=by rw[<- aL];exact Qfc p i
   rw[aL]at a8;have HB:=hide (Ya V (Ya Z (Ya ap (Nat.le_trans (Nat.le_of_lt (Qa HK).1) (Nat.le_of_lt s.row.lt)))));clear s aB V Z bv aL ap;go_wp2_with fail;refine a8.mono ?_;clear a8;rintro en r⟨rfl,bE,bI,aH,aI,bu,bB⟩;obtain⟨V,Z,ap,bC⟩:=Qa HB
   have H6:=hide (show ∃u,Ct n0 p { c with kb:=kb,kc:=kc } u r/\StB p [] u/\(∀k,k<i+1->u k ≠ -1)/\Below n1 w r from by
    refine⟨bI,aH,aI,fun k hk e=>?_,Z.trans (Kp.below bE bC (Nat.le_of_lt (Qa HK).1))⟩;by_cases e2:k=i
    ·
     rw[e2,bu]at e;exact ap e
    ·exact V k (by omega) (bB k e))
   clear bE aH aI bu bB V Z ap bC;go_wp2_with fail;go_roundw
   case rel=>exact⟨i+1,by congr 1,by omega,H6⟩
   case measure=>simp[intOf];omega
  have bQ:i=3+j:=by omega
  subst bQ
  have HE:=hide (show ∃kb kc,Below n1 w wr/\Cs n0 p { c with kb:=kb,kc:=kc } wr from by
   obtain⟨u,s,aB,V,Z⟩:=Qa HJ;refine⟨kb,kc,Z,s.box,s.prg,s.row.congr (fun k hk=>?_),s.mt,s.md,s.mc,s.l0⟩;have bv:=(Qa W).2;rcases aB k hk with e|⟨e,_⟩|⟨_,e⟩
   ·exact e
   ·exact absurd e (V k (by omega))
   ·cases e)
  go_wp2_with fail
  go_end0
  obtain⟨bT,bU,h1,h2⟩:=Qa HE;exact⟨rfl,h1,bT,bU,h2⟩
 obtain⟨sl,O,row,bw⟩:=Qa HI;obtain⟨x,aj⟩:∃x,p.types[j]?=some x:=⟨p.types[j]'(by have:=(Qa W).2;omega),List.getElem?_eq_getElem _⟩;obtain⟨gb,cap,co,e1,bP,hS,_,bO,hc⟩:=O.types.elem aj;obtain⟨xa,xn,xc,rfl,hX⟩:=bO;rw[(Qa W).1]at e1;simp only[Value.slice.injEq]at e1;obtain⟨rfl,-,-⟩:=e1;have y0:wr.cell? (Ja gb (j*4))=some (str x.name):=hc 0 _ rfl;have y1:wr.cell? (Ja gb (j*4+1))=some (str x.sub):=hc 1 _ rfl;have y2:wr.cell? (Ja gb (j*4+2))=some (.slice xa xn xc):=hc 2 _ rfl;have y3:wr.cell? (Ja gb (j*4+3))=some (Ji x.at_):=hc 3 _ rfl;obtain⟨o,av⟩:=JE (wr.alloc (.cells #[str x.name,str x.sub,.slice xa xn xc,Ji x.at_] 54));have b3:=bnw av;have B:=nnw av;obtain⟨tb,aM⟩:=JF wr.heap.size;rw[aM]at B;have M:n1<=wr.heap.size:=Nat.le_of_lt (Qaa O.par);have I:=O.later b3;have G:o.ownsRow (n1+1) 137 3 sl (3+j) (kdC p (3+j)):=by rw[av];exact World.ownsRow.alloc row _
 have bn:=hide (show ∀Y,Below o.heap.size o Y->Y.cell? (Ja c.cb 6)=some (.map (some c.mt))/\Y.cell? (Ja tb 0)=some (str x.name)/\Y.cell? (Ja tb 1)=some (str x.sub)/\(Instr.lookup 125 (.map (some c.mt)) (str x.sub) false).run Tryz.prog Y = .ok (Ji (tyNo p x.sub:Int)) Y from fun Y bW=>⟨(cl9 (I.later bW).box).2.2.2.2.2.2.1,(cl4 ((bW.block _ (Qaa B)).trans B)).1,(cl4 ((bW.block _ (Qaa B)).trans B)).2.1,(I.later bW).look x.sub⟩);have H3:=hide (Ya (bw.trans (b3.mono M)) (Ya I (Ya G (Ya B (Ya aj (Ya M b3.size))))));have br:=hide (Ya av aM);obtain⟨l,aN⟩:∃l:Int,(tyNo p x.sub:Int)=l:=⟨_,rfl⟩;rw[aN]at bn;have bo:=hide aN;clear O row bw aj bP hS hc hX av b3 B aM M I G aN;go_upto_region 4 with fail;rw[<- (Qa br).1,(Qa br).2];clear y0 y1 y2 y3;refine Qaz (md:=[(0,true),(1,true),(2,true),(3,true),(4,true),(5,true),(6,true),(7,true),(8,true),(9,true),(10,false),(11,false)]) (Below o.heap.size o) mixedO (by kernel_rfl) rfl (by kernel_rfl) (fun PP Q=>?_)
 iterate 10 refine Qac rfl (by kernel_rfl) (fun w' hw=>by obtain⟨cr,cs,cu,cv⟩:=Qa bn w' hw;go_simp<;>rfl) ?_
 have bd:=(Below.refl o.heap.size o).drew;refine Qak rfl bd (fun K b=>?_);go_simp;refine b _ _ ?_;clear b K;obtain⟨wz,aC⟩:=JE ((o.alloc (.cells #[Je,Ji 0,Ji 0] 137)).drew);have bz:Below o.heap.size o wz:=by rw[aC];exact((Below.refl _ o).alloc (Nat.le_refl _) _).drew
 have nz:wz.heap[o.heap.size]?=some (.cells #[Je,Ji 0,Ji 0] 137 (0,0)):=by rw[aC];exact heap_alloc_new o _
 rw[<- aC];obtain⟨g,aq⟩:=JF o.heap.size;rw[aq]at nz bz ⊢;obtain⟨t,bD,sc⟩:=sc3 nz (str x.name) (Ji l) (Ji (-1));obtain⟨aG,bl,bm,zf⟩:=cl3 nz;have T:=sc.below bz (Nat.le_refl _);have U:=sc.box;have H4:=hide (Ya T (Ya U aq));have bG:=hide bD;clear aC nz bD sc bd aq U;refine Qak rfl bz (fun K b=>?_);clear bz T;go_simp;refine b _ _ ?_;clear b K aG bl bm zf;rw[<- Qa bG];refine Qbc (Qa H4).1 (Q _ _ ?_);clear Q PP;obtain⟨T,U,aq⟩:=Qa H4;obtain⟨az,I,G,B,aj,M,s3⟩:=Qa H3;have aR:=(T.block tb (by have:=Qaa B;omega)).trans B;obtain⟨cw,cx,cy,cz,tf⟩:=cl4 aR;have H:Below o.heap.size o t:=T.mono (Nat.le_of_eq aq);have aS:=I.later H;have ai:t.ownsRow (n1+1) 137 3 sl (3+j) (kdC p (3+j)):=Qjf G (fun q e=>H.block q (World.ownsRow.lt G q e.symm).2);have bA:g≠c.cb:=by have:=Qaa I.box;omega
 have ag:∀q,some q=sl.ownBlock->q<g:=fun q e=>by
  have:=(World.ownsRow.lt G q e.symm).2;omega
 have aJ:=az.trans (H.mono (by omega));have ar:n1<=t.heap.size:=by have:=T.size;omega
 by_cases ah:x.sub=[]
 ·
  have g5:List.isEmpty x.sub=true:=by rw[ah];rfl
  obtain⟨r,R⟩:=JE (t.setCell (Ja g 2) (Ji (3+(j:Int))));have bH:=hide R;have am:Below o.heap.size o r:=by
   refine⟨by rw[R];exact H.os,by rw[R];exact H.tape,by rw[R];exact H.output,by rw[R];simp;exact H.size,fun q hq=>?_⟩;rw[R];exact(hpS (show q≠g by omega)).trans (H.block q hq)
  obtain⟨bJ,bK,bL,ff⟩:=cl3 U;have z:r.heap[g]?=some (.cells #[str x.name,Ji l,Ji (3+(j:Int))] 137 (0,0)):=by rw[R];exact(Qah U 2 _).trans rfl
  have N:=I.later am;have a7:r.ownsRow (n1+1) 137 3 sl (3+j) (kdC p (3+j)):=Qjf G (fun q e=>am.block q (World.ownsRow.lt G q e.symm).2);have an:=az.trans (am.mono (by omega));have ad:n1<=r.heap.size:=by have:=am.size;omega
  have a5:r.drew.ownsRow (n1+1) 137 3 sl (3+j) (kdC p (3+j)):=a7;have ao:∀q,some q=sl.ownBlock->q<g:=ag;clear T U az I G B aj M s3 aR H aS ai aJ ar ag R am;obtain⟨kb,kc,rfl,aA,aK⟩:=KRow.of_own (by omega) a7;obtain⟨aa,ab,ac⟩:=k_own (Qa H3).2.2.2.2.1;obtain⟨E,F,D,A,ae,a9,a6,aw,af,b7⟩:=(N.later (Below.refl _ r).drew).more (n:=3+j) a5 (by omega) aa ((congrArg Nat.cast ab).trans (Qa bo)) (show kInit p (3+j)=3+(j:Int) from by rw[ac,if_pos ah];omega);obtain⟨aT,aU,aV,aW,aX,ax,aY,aZ,b0,qf⟩:=cl9 N.box;obtain⟨b2,b5,b6,b8,b9,C,ba,bb,bc,P⟩:=cl9 a9
  have y:A.heap[g]?=some (.cells #[str x.name,Ji l,Ji (3+(j:Int))] 137 (0,0)):=(a6 g (Qaa z) (fun e=>by
   have:g=kb:=Option.some.inj e;have:=ao kb rfl
   omega)).trans z
  have al:=hide (show(r.drew.cell? (Ja c.cb 5)=some (.slice (Js kb) (3+j) kc))/\r.drew.heap[g]?=some (.cells #[str x.name,Ji l,Ji (3+(j:Int))] 137 (0,0)) from ⟨ax,z⟩)
  have ak:=hide (show((r.alloc (.cells #[str x.name,Ji l,Ji (3+(j:Int))] 137)).drew.cell? (Ja c.cb 5)=some (.slice (Js kb) (3+j) kc))/\(r.alloc (.cells #[str x.name,Ji l,Ji (3+(j:Int))] 137)).drew.heap[g]?=some (.cells #[str x.name,Ji l,Ji (3+(j:Int))] 137 (0,0)) from
   ⟨(cl9 (N.later (((Below.refl _ r).alloc (Nat.le_refl _) _).drew)).box).2.2.2.2.2.1,(Below.heap_alloc _ _ _ (Qaa z)).trans z⟩)
  have J:(Builtin.append_ #[127,127] 127 #[.slice (Js kb) (3+j) kc,.slice (Js r.heap.size) 1 1]).run Tryz.prog (r.alloc (.cells #[str x.name,Ji l,Ji (3+(j:Int))] 137)).drew = .ok (.slice E F D) A:=ae;have L:(A.setCell (Ja c.cb 5) (.slice E F D)).heap[g]?=some (.cells #[str x.name,Ji l,Ji (3+(j:Int))] 137 (0,0)):=(hpS bA).trans y;have HE:=hide (show ∃sl,Nc n0 n1 p c sl (tyRow p.types) (dcRow p.decls) (ctRow p.types) (A.setCell (Ja c.cb 5) (.slice E F D))/\(A.setCell (Ja c.cb 5) (.slice E F D)).ownsRow (n1+1) 137 3 sl (3+(j+1)) (kdC p (3+(j+1)))/\Below n1 w (A.setCell (Ja c.cb 5) (.slice E F D)) from ⟨_,aw,af,an.trans ((((Below.refl _ r).drew).mono ad).trans b7)⟩);have X:=hide (Ya J (Ya y (Ya L (Ya C P))));obtain⟨aO,aP,aQ,mf⟩:=cl3 z;clear aT aU aV aW aX aY aZ b0 b2 b5 b6 b8 b9 C ba bb bc P ae J a9 a6 aw af b7 aa ab ac aK a7 a5 N an ad y L;go_wp2_with fail;rw[<- Qa bH];clear bJ bK bL ff;refine Qaq (m:=10) (ml:=[(0,1),(1,1),(2,1),(3,1),(4,2),(5,1),(6,0),(7,0),(8,1),(9,1),(10,0)]) (fun f w'=>(f=false->w'.cell? (Ja c.cb 5)=some (.slice (Js kb) (3+j) kc))/\w'.heap[g]?=some (.cells #[str x.name,Ji l,Ji (3+(j:Int))] 137 (0,0))) mixedO (by kernel_rfl) rfl (by rfl) (by kernel_rfl) (fun PP Q=>?_);clear aO aP aQ mf ax qf
  iterate 4 (refine mF (v:=?_) (fun f w' hw=>?_) ?_;rotate_left;· (go_simp<;>rfl))
  refine Qay (v:=?_) rfl (by kernel_rfl) (fun w' hw=>?_) ?_;rotate_left
  ·(have bZ:=hw.1 rfl;go_simp<;>rfl)
  iterate 1 (refine mF (v:=?_) (fun f w' hw=>?_) ?_;rotate_left;· (obtain⟨bV,bX,bY,lf⟩:=cl3 hw.2;go_simp<;>rfl))
  refine Qab rfl ⟨fun _=>(Qa al).1,(Qa al).2⟩ (fun K b=>?_);go_simp;refine b _ _ ?_;clear b K;refine Qab rfl ⟨fun _=>(Qa ak).1,(Qa ak).2⟩ (fun K b=>?_);refine Qai rfl _ _ 127 rfl (.slice (Js kb) (3+j) kc) (.slice (Js r.heap.size) 1 1) (by kernel_rfl) (by kernel_rfl) (Qa X).1 ?_;refine b _ _ ?_;clear b K
  iterate 2 (refine mF (v:=?_) (fun f w' hw=>?_) ?_;rotate_left;· (go_simp<;>rfl))
  obtain⟨J,y,L,C,P⟩:=Qa X;refine Qab rfl ⟨fun _=>C,y⟩ (fun K b=>?_);clear J y L;go_simp;refine b _ _ ?_;clear b K;refine Qau ⟨fun e=>(by cases e),(Qa X).2.2.1⟩ (Q _ _ ?_);clear Q PP C P;go_wp2_with fail;go_roundw
  case rel=>exact⟨j+1,by congr 1,by omega,HE⟩
  case measure=>simp[intOf];omega
 have g5:List.isEmpty x.sub=false:=by
  cases hq:x.sub with
  |nil=>exact absurd hq ah
  |cons _ _=>rfl
 have z:=U;have N:=aS;have a7:=ai;have an:=aJ;have ad:=ar;have a5:t.drew.ownsRow (n1+1) 137 3 sl (3+j) (kdC p (3+j)):=ai;have ao:∀q,some q=sl.ownBlock->q<g:=ag;clear T U az I G B aj M s3 aR H aS ai aJ ar ag;obtain⟨kb,kc,rfl,aA,aK⟩:=KRow.of_own (by omega) a7;obtain⟨aa,ab,ac⟩:=k_own (Qa H3).2.2.2.2.1;obtain⟨E,F,D,A,ae,a9,a6,aw,af,b7⟩:=(N.later (Below.refl _ t).drew).more (n:=3+j) a5 (by omega) aa ((congrArg Nat.cast ab).trans (Qa bo)) (show kInit p (3+j) = -1 from by rw[ac];rw[if_neg ah]);obtain⟨aT,aU,aV,aW,aX,ax,aY,aZ,b0,qf⟩:=cl9 N.box;obtain⟨b2,b5,b6,b8,b9,C,ba,bb,bc,P⟩:=cl9 a9
 have y:A.heap[g]?=some (.cells #[str x.name,Ji l,Ji (-1)] 137 (0,0)):=(a6 g (Qaa z) (fun e=>by
  have:g=kb:=Option.some.inj e;have:=ao kb rfl
  omega)).trans z
 have al:=hide (show(t.drew.cell? (Ja c.cb 5)=some (.slice (Js kb) (3+j) kc))/\t.drew.heap[g]?=some (.cells #[str x.name,Ji l,Ji (-1)] 137 (0,0)) from ⟨ax,z⟩)
 have ak:=hide (show((t.alloc (.cells #[str x.name,Ji l,Ji (-1)] 137)).drew.cell? (Ja c.cb 5)=some (.slice (Js kb) (3+j) kc))/\(t.alloc (.cells #[str x.name,Ji l,Ji (-1)] 137)).drew.heap[g]?=some (.cells #[str x.name,Ji l,Ji (-1)] 137 (0,0)) from
  ⟨(cl9 (N.later (((Below.refl _ t).alloc (Nat.le_refl _) _).drew)).box).2.2.2.2.2.1,(Below.heap_alloc _ _ _ (Qaa z)).trans z⟩)
 have J:(Builtin.append_ #[127,127] 127 #[.slice (Js kb) (3+j) kc,.slice (Js t.heap.size) 1 1]).run Tryz.prog (t.alloc (.cells #[str x.name,Ji l,Ji (-1)] 137)).drew = .ok (.slice E F D) A:=ae;have L:(A.setCell (Ja c.cb 5) (.slice E F D)).heap[g]?=some (.cells #[str x.name,Ji l,Ji (-1)] 137 (0,0)):=(hpS bA).trans y;have HE:=hide (show ∃sl,Nc n0 n1 p c sl (tyRow p.types) (dcRow p.decls) (ctRow p.types) (A.setCell (Ja c.cb 5) (.slice E F D))/\(A.setCell (Ja c.cb 5) (.slice E F D)).ownsRow (n1+1) 137 3 sl (3+(j+1)) (kdC p (3+(j+1)))/\Below n1 w (A.setCell (Ja c.cb 5) (.slice E F D)) from ⟨_,aw,af,an.trans ((((Below.refl _ t).drew).mono ad).trans b7)⟩);have X:=hide (Ya J (Ya y (Ya L (Ya C P))));obtain⟨aO,aP,aQ,mf⟩:=cl3 z;clear aT aU aV aW aX aY aZ b0 b2 b5 b6 b8 b9 C ba bb bc P ae J a9 a6 aw af b7 aa ab ac aK a7 a5 N an ad y L;go_wp2_with fail;refine Qaq (m:=10) (ml:=[(0,1),(1,1),(2,1),(3,1),(4,2),(5,1),(6,0),(7,0),(8,1),(9,1),(10,0)]) (fun f w'=>(f=false->w'.cell? (Ja c.cb 5)=some (.slice (Js kb) (3+j) kc))/\w'.heap[g]?=some (.cells #[str x.name,Ji l,Ji (-1)] 137 (0,0))) mixedO (by kernel_rfl) rfl (by rfl) (by kernel_rfl) (fun PP Q=>?_);clear aO aP aQ mf ax qf
 iterate 4 (refine mF (v:=?_) (fun f w' hw=>?_) ?_;rotate_left;· (go_simp<;>rfl))
 refine Qay (v:=?_) rfl (by kernel_rfl) (fun w' hw=>?_) ?_;rotate_left
 ·(have bZ:=hw.1 rfl;go_simp<;>rfl)
 iterate 1 (refine mF (v:=?_) (fun f w' hw=>?_) ?_;rotate_left;· (obtain⟨bV,bX,bY,lf⟩:=cl3 hw.2;go_simp<;>rfl))
 refine Qab rfl ⟨fun _=>(Qa al).1,(Qa al).2⟩ (fun K b=>?_);go_simp;refine b _ _ ?_;clear b K;refine Qab rfl ⟨fun _=>(Qa ak).1,(Qa ak).2⟩ (fun K b=>?_);refine Qai rfl _ _ 127 rfl (.slice (Js kb) (3+j) kc) (.slice (Js t.heap.size) 1 1) (by kernel_rfl) (by kernel_rfl) (Qa X).1 ?_;refine b _ _ ?_;clear b K
 iterate 2 (refine mF (v:=?_) (fun f w' hw=>?_) ?_;rotate_left;· (go_simp<;>rfl))
 obtain⟨J,y,L,C,P⟩:=Qa X;refine Qab rfl ⟨fun _=>C,y⟩ (fun K b=>?_);clear J y L;go_simp;refine b _ _ ?_;clear b K;refine Qau ⟨fun e=>(by cases e),(Qa X).2.2.1⟩ (Q _ _ ?_);clear Q PP C P;go_wp2_with fail;go_roundw
 case rel=>exact⟨j+1,by congr 1,by omega,HE⟩
 case measure=>simp[intOf];omega
section
variable {n0:Nat}{p:Pg}{w:World}{a0 a1 a2 a3 a4:Option Addr}{k0 k1 k2 k3 k4 c0 c1 c2 c3 c4:Nat}
theorem Qkf(hn0:n0<=w.heap.size)(hP:PgO (fun b=>b<n0) w [.slice a0 k0 c0,.slice a1 k1 c1,.slice a2 k2 c2,.slice a3 k3 c3,.slice a4 k4 c4] p)(hts:p.types.length<=1000000000):
  Calls Tryz.prog 30 #[.agg #[.slice a0 k0 c0,.slice a1 k1 c1,.slice a2 k2 c2,.slice a3 k3 c3,.slice a4 k4 c4]] w fun en w'=>∃c,en = .returned (.pointer (Js c.cb))/\Cs n0 p c w'/\Below w.heap.size w w':=
 Qnj hn0 hP hts (Qir hts)
theorem Qnv(hn0:n0<=w.heap.size)(hP:PgS (fun b=>b<n0) w [.slice a0 k0 c0,.slice a1 k1 c1,.slice a2 k2 c2,.slice a3 k3 c3,.slice a4 k4 c4] p)(hts:p.types.length<=1000000000)(s t:Txt):
  Calls Tryz.prog 18 #[.agg #[.slice a0 k0 c0,.slice a1 k1 c1,.slice a2 k2 c2,.slice a3 k3 c3,.slice a4 k4 c4],str s,str t] w fun en w'=>en = .returned (.bool (belowP p s t))/\Below w.heap.size w w':=by
 obtain⟨C,d⟩:=JE (w.alloc (.cells #[.slice a0 k0 c0,.slice a1 k1 c1,.slice a2 k2 c2,.slice a3 k3 c3,.slice a4 k4 c4] 28));have a:=bnw d;have m:=nnw d;have g:=Qkf (n0:=n0) (by have:=a.size;omega) (PgS.toO (Qal.same _ _ _ _ _ hP a.size (fun q _ A=>a.block q A))) hts;obtain⟨r,u,v,x,y,B⟩:=cl5 m;have o:=hide d;have i:=hide a;obtain⟨bv,e⟩:=JF (belowP p s t);rw[e];have n:=hide e;clear d a m hP hts hn0 e;go_enter Tryz.func18,Tryz.ntmps18;go_upto_region 1 with fail;rw[<- Qa o];go_wp2_with fail;refine g.mono ?_;clear g r u v x y B;rintro en D⟨c,rfl,l,j⟩;have f:=Qef l s t;rw[Qa n]at f;have h:=hide ((Qa i).trans (j.mono (Qa i).size));clear l j;go_wp2_with fail;refine f.mono ?_;clear f;rintro en E⟨rfl,k⟩;have z:=hide ((Qa h).trans (k.mono (Qa h).size));clear k;go_wp2_with fail;go_ret;exact⟨rfl,Qa z⟩
end
theorem Qez{α : Type}{f:α -> Bool}{xs:List α}{i:Nat}{x:α}(h:xs[i]?=some x)(h0:(xs.take i).any f=false):(xs.take (i+1)).any f=f x:=by
 rw[List.take_add_one,h,List.any_append,h0];simp
section
variable {n0:Nat}{p:Pg}{c:CatP}{w:World}
theorem Qgz(h:Cs n0 p c w)(fs:List Fld){a:Option Addr}{n cp:Nat}(hL:LsAt PF 2 (fun b=>b<n0) w (.slice a n cp) fs):
  Calls Tryz.prog 76 #[.pointer (Js c.cb),.slice a n cp] w fun en w'=>en = .returned (.bool (noneP p fs))/\Below w.heap.size w w':=by
 have M:=hL.cap rfl;have k:n=fs.length:=by obtain⟨_,_,e⟩:=hL.sl;cases e;rfl
 have A:=hide (Ya h (Ya hL k));clear h hL k;go_enter Tryz.func76,Tryz.ntmps76;go_wp2_with fail;go_loopw [9] (fun v wr=>∃i:Nat,v = Ji (i:Int)/\i<=n/\Hid (Below w.heap.size w wr/\((fs.take i).any fun f=>decide (tyNo p f.type=0))=false)) (fun v _=>n - (intOf v).toNat)
 case atStart=>exact⟨0,rfl,Nat.zero_le _,hide ⟨Below.refl _ _,rfl⟩⟩
 obtain⟨i,rfl,Q,B⟩:=hrel;by_cases N:i<n
 rotate_left
 ·
  have I:i=n:=by omega
  subst I;go_wp2_with fail;go_ret;obtain⟨g,l⟩:=Qa B;rw[(Qa A).2.2,List.take_length]at l;refine⟨?_,g⟩;unfold noneP;rw[l];rfl
 obtain⟨h,hL,k⟩:=Qa A;obtain⟨g,l⟩:=Qa B;obtain⟨f,j⟩:∃f,fs[i]?=some f:=⟨fs[i]'(by omega),List.getElem?_eq_getElem _⟩;obtain⟨E,cap,J,D,H,K,_,G,x⟩:=(hL.later Qbb g).elem j;have F:J=[str f.name,str f.type]:=G;subst F;simp only[Value.slice.injEq]at D;obtain⟨rfl,-,-⟩:=D;have U:wr.cell? (Ja E (i*2))=some (str f.name):=x 0 _ rfl;have V:wr.cell? (Ja E (i*2+1))=some (str f.type):=x 1 _ rfl;obtain⟨T,q⟩:=JE (wr.alloc (.cells #[str f.name,str f.type] 67));have C:=bnw q;have z:=nnw q;obtain⟨R,t⟩:=JF wr.heap.size;rw[t]at z;have m:=g.trans (C.mono g.size);have d:=Qjr (Ct.later h m) f.type;obtain⟨O,P,W⟩:=cl2 z;have s:=Qez j l;have o:=hide (Ya q t);have u:=hide (Ya m (Ya s (Ya j k)));clear h hL k g l j H K x q C z t m s;by_cases r:tyNo p f.type=0
 ·
  have y:decide (tyNo p f.type≠0)=false:=by simp[r]
  rw[y]at d;go_upto_region 4 with fail;rw[<- (Qa o).1,(Qa o).2];go_wp2_with fail;refine d.mono ?_;clear d;rintro en L⟨rfl,rfl⟩;go_wp2_with fail;go_ret;obtain⟨m,s,j,k⟩:=Qa u;refine⟨?_,m⟩;have:noneP p fs=true:=by
   unfold noneP;rw[List.any_eq_true];exact⟨f,List.mem_of_getElem? j,by simp[r]⟩
  rw[this];rfl
 have y:decide (tyNo p f.type≠0)=true:=by simp[r]
 rw[y]at d;go_upto_region 4 with fail;rw[<- (Qa o).1,(Qa o).2];go_wp2_with fail;refine d.mono ?_;clear d;rintro en L⟨rfl,rfl⟩;go_wp2_with fail;go_roundw
 case rel=>exact⟨i+1,by congr 1,by omega,hide ⟨(Qa u).1,(Qa u).2.1.trans (by simp[r])⟩⟩
 case measure=>simp[intOf];omega
theorem Qgp(h:Cs n0 p c w)(xs:List Ctr){a:Option Addr}{n cp:Nat}(hL:LsAt PC 2 (fun b=>b<n0) w (.slice a n cp) xs):
  Calls Tryz.prog 74 #[.pointer (Js c.cb),.slice a n cp] w fun en w'=>en = .returned (.bool (xs.any fun c=>noneP p c.fields))/\Below w.heap.size w w':=by
 have Q:=hL.cap rfl;have l:n=xs.length:=by obtain⟨_,_,e⟩:=hL.sl;cases e;rfl
 have D:=hide (Ya h (Ya hL l));clear h hL l;go_enter Tryz.func74,Tryz.ntmps74;go_wp2_with fail;go_loopw [9] (fun v wr=>∃i:Nat,v = Ji (i:Int)/\i<=n/\Hid (Below w.heap.size w wr/\((xs.take i).any fun c=>noneP p c.fields)=false)) (fun v _=>n - (intOf v).toNat)
 case atStart=>exact⟨0,rfl,Nat.zero_le _,hide ⟨Below.refl _ _,rfl⟩⟩
 obtain⟨i,rfl,W,E⟩:=hrel;by_cases R:i<n
 rotate_left
 ·
  have N:i=n:=by omega
  subst N;go_wp2_with fail;go_ret;obtain⟨j,m⟩:=Qa E;rw[(Qa D).2.2,List.take_length]at m;refine⟨?_,j⟩;rw[m];rfl
 obtain⟨h,hL,l⟩:=Qa D;obtain⟨j,m⟩:=Qa E;obtain⟨f,k⟩:∃f,xs[i]?=some f:=⟨xs[i]'(by omega),List.getElem?_eq_getElem _⟩;obtain⟨G,cap,V,F,M,O,_,L,z⟩:=(hL.later Qcg j).elem k;obtain⟨I,K,J,rfl,H⟩:=L;simp only[Value.slice.injEq]at F;obtain⟨rfl,-,-⟩:=F;have Z:wr.cell? (Ja G (i*2))=some (str f.name):=z 0 _ rfl;have y1:wr.cell? (Ja G (i*2+1))=some (.slice I K J):=z 1 _ rfl;obtain⟨Y,r⟩:=JE (wr.alloc (.cells #[str f.name,.slice I K J] 97));have y:=bnw r;have B:=nnw r;obtain⟨X,u⟩:=JF wr.heap.size;rw[u]at B;have d:=j.trans (y.mono j.size);have g:=Qgz (Ct.later h d) f.fields (H.later Qbb y);obtain⟨T,U,zf⟩:=cl2 B;have t:=Qez k m;have q:=hide (Ya r u);have s:=hide (Ya d (Ya t (Ya k l)));clear h hL l j m k M O z H r y B u d t;by_cases A:noneP p f.fields=true
 ·
  rw[A]at g;go_upto_region 4 with fail;rw[<- (Qa q).1,(Qa q).2];go_wp2_with fail;refine g.mono ?_;clear g;rintro en P⟨rfl,o⟩;have x:=hide o;clear o;go_wp2_with fail;go_ret;obtain⟨d,t,k,l⟩:=Qa s;refine⟨?_,d.trans ((Qa x).mono d.size)⟩;have:(xs.any fun c=>noneP p c.fields)=true:=by
   rw[List.any_eq_true];exact⟨f,List.mem_of_getElem? k,A⟩
  rw[this];rfl
 have C:noneP p f.fields=false:=by simpa using A
 rw[C]at g;go_upto_region 4 with fail;rw[<- (Qa q).1,(Qa q).2];go_wp2_with fail;refine g.mono ?_;clear g;rintro en P⟨rfl,o⟩;have x:=hide o;clear o;go_wp2_with fail;go_roundw
 case rel=>exact⟨i+1,by congr 1,by omega,hide ⟨(Qa s).1.trans ((Qa x).mono (Qa s).1.size),(Qa s).2.1.trans C⟩⟩
 case measure=>simp[intOf];omega
end
theorem Qkh{α : Type}{xs:List α}{i:Nat}{x:α}(h:xs[i]?=some x):xs.drop i=x :: xs.drop (i+1):=by
 obtain⟨a,e⟩:=List.getElem?_eq_some_iff.1 h;rw[List.drop_eq_getElem_cons a,e]
section
variable {S:Nat->Prop}{w:World}
theorem Qjs(fs:List Fld){a:Option Addr}{n cp:Nat}(hL:LsAt PF 2 S w (.slice a n cp) fs):
  Calls Tryz.prog 75 #[.slice a n cp] w fun en w'=>en = .returned (.bool (twiceP fs []))/\Below w.heap.size w w':=by
 have a9:=hL.cap rfl;have x:n=fs.length:=by obtain⟨_,_,e⟩:=hL.sl;cases e;rfl
 have L:=Qkt mI w (n:Int);obtain⟨N,E⟩:=JE (w.alloc (.map #[] 0));have Y:=bnw E;have M:MpS N w.heap.size []:=by rw[E];exact MpS.new w
 obtain⟨y,m⟩:=JF w.heap.size;rw[m]at M L;rw[<- E]at L;have a6:=hide m;have H1:=hide (show ∃b met,MpS N y b/\(∀t,(asc b t).isSome=decide (t∈met))/\twiceP fs []=twiceP (fs.drop 0) met/\Below w.heap.size w N from ⟨[],[],M,fun t=>by simp[asc_nil],rfl,Y⟩);have W:=hide (Ya hL x);clear hL x E Y M m;go_enter Tryz.func75,Tryz.ntmps75;go_wp2_with fail;clear L;go_loopw [13] (fun v wr=>∃i:Nat,v = Ji (i:Int)/\i<=n/\Hid (∃b met,MpS wr y b/\(∀t,(asc b t).isSome=decide (t∈met))/\twiceP fs []=twiceP (fs.drop i) met/\Below w.heap.size w wr)) (fun v _=>n - (intOf v).toNat)
 case atStart=>exact⟨0,rfl,Nat.zero_le _,H1⟩
 obtain⟨i,rfl,hi,X⟩:=hrel;by_cases aa:i<n
 rotate_left
 ·
  have a8:i=n:=by omega
  subst a8;go_wp2_with fail;go_ret;obtain⟨b,met,l,o,h,j⟩:=Qa X;rw[(Qa W).2,List.drop_length]at h;refine⟨?_,j⟩;rw[h];rfl
 obtain⟨hL,x⟩:=Qa W;obtain⟨b,met,l,o,h,j⟩:=Qa X;obtain⟨f,I⟩:∃f,fs[i]?=some f:=⟨fs[i]'(by omega),List.getElem?_eq_getElem _⟩;obtain⟨gb,cap,cs,Z,P,hS,_,a7,H⟩:=(hL.later Qbb j).elem I;have a5:cs=[str f.name,str f.type]:=a7;subst a5;simp only[Value.slice.injEq]at Z;obtain⟨rfl,-,-⟩:=Z;have y0:wr.cell? (Ja gb (i*2))=some (str f.name):=H 0 _ rfl;have y1:wr.cell? (Ja gb (i*2+1))=some (str f.type):=H 1 _ rfl;obtain⟨O,r⟩:=JE (wr.alloc (.cells #[str f.name,str f.type] 67));have G:=bnw r;have z:=nnw r;obtain⟨tb,D⟩:=JF wr.heap.size;rw[D]at z;have d:=j.trans (G.mono j.size);have B:=l.keep (G.block _ l.lt);have s:=Qdx uS mI zI O y b f.name B true;rw[if_pos rfl]at s;obtain⟨ad,ae,zf⟩:=cl2 z;have g:=o f.name;rw[Qkh I,twiceP]at h;have A:=hide (Ya r D)
 cases k:asc b f.name with
 |some u=>
  rw[k]at s g;simp only[Option.getD_some,Option.isSome_some]at s g;have F:=hide (show twiceP fs []=true/\Below w.heap.size w O from ⟨by rw[h,<- g];rfl,d⟩);clear hL x l o h j I P hS H r G z D d B g k;go_upto_region 5 with fail;rw[<- (Qa A).1,(Qa A).2];go_wp2_with fail;go_ret;refine⟨?_,(Qa F).2⟩;rw[(Qa F).1];rfl
 |none=>
  rw[k]at s g;simp only[Option.getD_none,Option.isSome_none]at s g;obtain⟨w4,hr,Q,T,R,U,V,K⟩:=Qqw uS mI O y b f.name (Ji (i:Int)) B k;have m:=Qa a6;obtain⟨ab,ac,kf⟩:=cl2 ((K tb (fun e=>by have:=l.lt;omega)).trans z)
  have F:=hide (show ∃b met,MpS w4 y b/\(∀t,(asc b t).isSome=decide (t∈met))/\twiceP fs []=twiceP (fs.drop (i+1)) met/\Below w.heap.size w w4 from by
   refine⟨_,f.name :: met,Q,fun t=>?_,?_,⟨R.trans d.os,U.trans d.tape,V.trans d.output,by rw[T];exact d.size,fun q J=>(K q (by omega)).trans (d.block q J)⟩⟩
   ·
    rw[Qcl,Qeq];have C:=o t;by_cases e:f.name=t
    ·
     subst e;rw[k];simp
    cases J:asc b t with
    |some u=>
     rw[J]at C;have:t∈met:=by simpa using C.symm
     simp[this]
    |none=>
     rw[J]at C;have:t∉met:=by simpa using C.symm
     simp[this,e,Ne.symm e]
   rw[h,<- g]
   rfl)
  clear hL x l o h j I P hS H r G z D d B g k Q T R U V K m;go_upto_region 5 with fail;rw[<- (Qa A).1,(Qa A).2];go_wp2_with fail;go_roundw
  case rel=>exact⟨i+1,by congr 1,by omega,F⟩
  case measure=>simp[intOf];omega
end
end
end Go.Proofs.YtkhndlnadhggkaaGreat
