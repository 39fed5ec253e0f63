/- types. -/
import Derived.Test.YtkhndlnadhggkaaGreatAp01
import Derived.Test.YtkhndlnadhggkaaGreatAp34
set_option maxRecDepth 100000
set_option maxHeartbeats 32000000
namespace Go.Proofs.YtkhndlnadhggkaaGreat
section
open Go.RowKit Go.Maps
section
variable {n0 n1:Nat}{p:Pg}{c:CatP}{kv:Value}{rt rd:List (Txt×Nat)}{rc:List (Txt×(Nat×Nat))}{w:World}
theorem Nc.types(h:Nc n0 n1 p c kv rt rd rc w):LsAt PTy 4 (fun b=>b<n0) w c.v0 p.types:=by
 obtain⟨m,k,j,l,vl,a,d,f,e,g,i⟩:=h.prg.cells;simp only[List.cons.injEq,and_true]at a;rw[a.1];exact d
theorem Nc.decls(h:Nc n0 n1 p c kv rt rd rc w):LsAt PDc 5 (fun b=>b<n0) w c.v1 p.decls:=by
 obtain⟨m,k,j,l,vl,a,i,d,e,f,g⟩:=h.prg.cells;simp only[List.cons.injEq,and_true]at a;rw[a.2.1];exact d
end
theorem Qlh(j:Nat)(h:j<=1000000000):IntKind.i64.wrap (3+(j:Int))=3+(j:Int):=by
 have a:(2:Int) ^ IntKind.i64.bits=18446744073709551616:=by decide
 have b:(2:Int) ^ (IntKind.i64.bits - 1)=9223372036854775808:=by decide
 have d:(3+(j:Int)) % 18446744073709551616=3+(j:Int):=by omega
 unfold IntKind.wrap;simp only[a,b,d];rw[if_neg (by simp;intro _;omega)]
def AkA(n0 n1:Nat)(p:Pg):Prop:=∀(c:CatP) (w2:World),Nc n0 n1 p c (.slice none 0 0) (tyRow p.types) (dcRow p.decls) (ctRow p.types) w2 ->
 Calls Tryz.prog 71 #[.pointer (some ⟨c.cb,0,none⟩)] w2 fun en w3=>en = .returned (.tuple #[])/\Below n1 w2 w3 /\ ∃kb kc,Cs n0 p { c with kb:=kb,kc:=kc } w3
theorem Qnj{n0:Nat}{p:Pg}{w:World}{a0 a1 a2 a3 a4:Option Addr}{k0 k1 k2 k3 k4 c0 c1 c2 c3 c4:Nat}(hn0:n0<=w.heap.size)(hP:PgO (fun b=>b<n0) w [.slice a0 k0 c0,.slice a1 k1 c1,.slice a2 k2 c2,.slice a3 k3 c3,.slice a4 k4 c4] p)(hts:p.types.length<=1000000000)(hK:AkA n0 w.heap.size p):
  Calls Tryz.prog 30 #[.agg #[.slice a0 k0 c0,.slice a1 k1 c1,.slice a2 k2 c2,.slice a3 k3 c3,.slice a4 k4 c4]] w fun en w'=>∃c,en = .returned (.pointer (Js c.cb))/\Cs n0 p c w'/\Below w.heap.size w w':=by
 obtain⟨Z,ag⟩:=JE (w.alloc (.cells #[.slice a0 k0 c0,.slice a1 k1 c1,.slice a2 k2 c2,.slice a3 k3 c3,.slice a4 k4 c4] 28));have F:=bnw ag;have nx:=nnw ag;obtain⟨n1,f⟩:=JF w.heap.size;rw[f]at nx F hn0 hK ⊢;have HC:=hide (show ∀W',Below Z.heap.size Z W'->W'.heap[n1]?=some (.cells #[.slice a0 k0 c0,.slice a1 k1 c1,.slice a2 k2 c2,.slice a3 k3 c3,.slice a4 k4 c4] 28 (0,0)) from fun W' b=>(b.block _ (Qaa nx)).trans nx);have aA:=hide f;have aN:=hide ag;have H0:=hide (Ya hn0 (Ya hP (Ya hK (Ya F (Qaa nx)))));clear ag f F nx hn0 hP hK;go_enter Tryz.func30,Tryz.ntmps30;go_upto_region 1 with fail;rw[<- Qa aN,Qa aA];refine Qqp [0,5,6,7,9,10,11] 9 (Below Z.heap.size Z) mixedO (by kernel_rfl) rfl (by kernel_rfl) (fun X z=>?_)
 iterate 7 (refine Qrr (v:=?_) rfl (by kernel_rfl) (fun W' hw=>?_) ?_;rotate_left;· (obtain⟨aj,ak,al,am,an,xf⟩:=cl5 (Qa HC W' hw);go_simp<;>rfl))
 show wpAnyC Tryz.prog .any _ _ _ 9 (Lf false false false false false false) _ _;refine cat_fin (by kernel_rfl) (Nat.lt_of_lt_of_eq (by decide:20<80) (by kernel_rfl)) rfl rfl (by kernel_rfl) rfl rfl rfl rfl rfl rfl (fun x y=>by cases x<;>cases y<;>kernel_rfl) (fun x y=>by cases x<;>cases y<;>kernel_rfl) (fun x y=>by cases x<;>cases y<;>kernel_rfl) (fun x y=>by cases x<;>cases y<;>kernel_rfl) (fun x y=>?_) (fun x y=>by cases x<;>cases y<;>exact⟨by kernel_rfl,by kernel_rfl⟩) (Below.refl _ Z).drew (fun B C D ms W r aG=>?_)
 ·
  cases x
  ·
   intro _;cases y<;>kernel_rfl
  cases y
  ·
   intro _
   kernel_rfl
  intro h;cases h
 obtain⟨W2,ad⟩:=JE (W.alloc (.cells #[.slice a0 k0 c0,.slice a1 k1 c1,.slice a2 k2 c2,.slice a3 k3 c3,.slice a4 k4 c4,(Jn),.map (some B),.map (some C),.map (some D)] 129));have ap:=bnw ad;have ay:=nnw ad;have aP:=hide ad;obtain⟨cb,au⟩:=JF W.heap.size;have aM:=hide au;have a5:Below Z.heap.size Z W2:=r.bel.trans (ap.mono r.bel.size)
 have ac:=hide (show Nc n0 n1 p ⟨cb,0,0,B,C,D,.slice a0 k0 c0,.slice a1 k1 c1,.slice a2 k2 c2,.slice a3 k3 c3,.slice a4 k4 c4⟩ (Jn) (tyRow (p.types.take 0)) (dcRow (p.decls.take 0)) (ctRow (p.types.take 0)) W2/\Below n1 w W2 from by
  obtain⟨hn0,hP,hK,F,f⟩:=Qa H0;have aq:=r.later ap;have e:=Qa aA;refine⟨⟨by rw[au]at ay;exact ay,Qa HC _ a5,Qcj.same _ _ _ _ _ hP (by have:=a5.size;have:=F.size;omega) (fun q hq hl=>(a5.block q (by have:=F.size;omega)).trans (F.block q (by omega))),⟨ms,(aq.m1 _ rfl).2,aG⟩,⟨[],(aq.m2 _ rfl).2,fun t=>rfl⟩,⟨[],(aq.m3 _ rfl).2,fun t=>rfl⟩,⟨?_,?_,?_,?_⟩,hn0,r.n12 _ rfl _ rfl,r.n13 _ rfl _ rfl,r.n23 _ rfl _ rfl⟩,?_⟩
  ·
   show n1<cb;have:=r.bel.size;omega
  ·
   have:=(r.m1 _ rfl).1;show n1<B;exact Nat.lt_of_lt_of_le f this
  ·
   have:=(r.m2 _ rfl).1;show n1<C;exact Nat.lt_of_lt_of_le f this
  ·
   have:=(r.m3 _ rfl).1;show n1<D;exact Nat.lt_of_lt_of_le f this
  ·exact F.trans (a5.mono (Nat.le_of_lt f)))
 have HM:=hide (Ya r.bel a5);clear ad ap ay au a5 r aG;refine Qcc (by kernel_rfl) (by rintro⟨_,_,h⟩;exact h) (fun _ _ _ _ _ h=>h) (.one 13 (.one 14 (.one 15 .nil))) _ _ _ (by kernel_rfl) ?_;unfold AC;refine Qaf rfl (Qa HM).1 (fun K hK=>?_);go_simp;refine hK _ _ ?_;clear hK K;refine Qaf rfl (Qa HM).1 (fun K hK=>?_);go_simp;refine hK _ _ ?_;clear hK K;rw[<- Qa aP,Qa aM];refine Qaf rfl (Qa HM).2 (fun K hK=>?_);go_simp;refine hK _ _ ?_;clear hK K;refine Qan (Qa HM).2 (z _ _ ?_);clear z X;have aa:k0=p.types.length/\k0<=c0/\c0<=9223372036854775807:=by
  have h:=(Qa ac).1.types;have L:=h.cap (a:=a0) (n:=k0) (c:=c0) rfl;obtain⟨_,_,e⟩:=h.sl;cases e
  exact⟨rfl,L⟩
 have aZ:k0<=1000000000:=by have:=aa.1;omega
 clear hts;have af:k1=p.decls.length/\k1<=c1/\c1<=9223372036854775807:=by
  have h:=(Qa ac).1.decls;have L:=h.cap (a:=a1) (n:=k1) (c:=c1) rfl;obtain⟨_,_,e⟩:=h.sl;cases e
  exact⟨rfl,L⟩
 obtain⟨aj,ak,al,am,an,xf⟩:=cl5 (Qa ac).1.par;have HQ:=hide (Ya aa.1 af.1);have aV:=aa.2.1;have aT:=aa.2.2;have aW:=af.2.1;have aU:=af.2.2;clear aa af;go_wp2_with fail;clear aj ak al am an xf;go_loopw [26] (fun v wr=>∃j:Nat,v = Ji (j:Int)/\j<=k0/\Hid (Nc n0 n1 p ⟨cb,0,0,B,C,D,.slice a0 k0 c0,.slice a1 k1 c1,.slice a2 k2 c2,.slice a3 k3 c3,.slice a4 k4 c4⟩ (Jn) (tyRow (p.types.take j)) (dcRow (p.decls.take 0)) (ctRow (p.types.take j)) wr/\Below n1 w wr)) (fun v _=>k0 - (intOf v).toNat)
 case atStart=>exact⟨0,rfl,Nat.zero_le _,ac⟩
 obtain⟨j,rfl,hj,HI⟩:=hrel;by_cases b0:j<k0
 rotate_left
 ·
  have aS:j=k0:=by omega
  subst aS;obtain⟨aj,ak,al,am,an,xf⟩:=cl5 (Qa HI).1.par;go_wp2_with fail;clear aj ak al am an xf;go_loopw [63] (fun v wq=>∃i:Nat,v = Ji (i:Int)/\i<=k1/\Hid (Nc n0 n1 p ⟨cb,0,0,B,C,D,.slice a0 j c0,.slice a1 k1 c1,.slice a2 k2 c2,.slice a3 k3 c3,.slice a4 k4 c4⟩ (Jn) (tyRow p.types) (dcRow (p.decls.take i)) (ctRow p.types) wq/\Below n1 w wq)) (fun v _=>k1 - (intOf v).toNat)
  case atStart=>
   refine⟨0,rfl,Nat.zero_le _,hide ⟨?_,(Qa HI).2⟩⟩;have h:=(Qa HI).1;rw[(Qa HQ).1,List.take_length]at h;rw[(Qa HQ).1];exact h
  obtain⟨i,rfl,hi,HJ⟩:=hrel;by_cases aF:i<k1
  rotate_left
  ·
   have aw:i=k1:=by omega
   subst aw;obtain⟨hn0,hP,hK,F,f⟩:=Qa H0;obtain⟨l,I⟩:=Qa HJ;rw[(Qa HQ).2,List.take_length,<- (Qa HQ).2]at l;have a6:=hK _ _ l
   dsimp only at a6
   have HB:=hide (Ya I (Nat.le_of_lt (Qaa l.par)));clear hn0 hP hK F f l I;go_wp2_with fail;refine a6.mono ?_;clear a6;rintro en w7⟨rfl,b7,kb,kc,ae⟩;have HE:=hide (Ya ae b7);clear ae b7;go_wp2_with fail;go_ret;exact⟨_,rfl,(Qa HE).1,(Qa HB).1.trans (Qa HE).2⟩
  obtain⟨l,I⟩:=Qa HJ;obtain⟨y,m⟩:∃y,p.decls[i]?=some y:=⟨p.decls[i]'(by have:=(Qa HQ).2;omega),List.getElem?_eq_getElem _⟩;obtain⟨s,aD,aO,e2,av,ar,_,a9,E⟩:=l.decls.elem m;obtain⟨ya,yn,yc,rfl,hY⟩:=a9;simp only[Value.slice.injEq]at e2;obtain⟨rfl,-,-⟩:=e2;have y0:wr.cell? (Ja s (i*5))=some (str y.name):=E 0 _ rfl;have y1:wr.cell? (Ja s (i*5+1))=some (.slice ya yn yc):=E 1 _ rfl;have y2:wr.cell? (Ja s (i*5+2))=some (.bool y.input):=E 2 _ rfl;have y3:wr.cell? (Ja s (i*5+3))=some (.bool y.output):=E 3 _ rfl;have y4:wr.cell? (Ja s (i*5+4))=some (Ji y.at_):=E 4 _ rfl;obtain⟨u,G⟩:=JE (wr.alloc (.cells #[str y.name,.slice ya yn yc,.bool y.input,.bool y.output,Ji y.at_] 63));have k:=bnw G;have d:=nnw G;obtain⟨O,U⟩:=JF wr.heap.size;rw[U]at d;have g:=l.later k;have A:n1<=wr.heap.size:=Nat.le_of_lt (Qaa l.par);have ao:=hide (show u.cell? (Ja cb 7)=some (.map (some C))/\u.cell? (Ja O 0)=some (str y.name) from ⟨(cl9 g.box).2.2.2.2.2.2.2.1,(cl5 d).1⟩);have o:=(g.later (Below.refl _ u).drew).putD y.name i
  dsimp only at o
  have H5:=hide (Ya (I.trans (k.mono A)) (Ya g (Ya d (Ya k.size (Ya m A)))));have a7:=hide (Ya G U);clear l I m av ar E hY G k d U g A;go_upto_region 15 with fail;rw[<- (Qa a7).1,(Qa a7).2];clear y0 y1 y2 y3 y4;refine Qaz (md:=[(0,true),(1,true),(2,true),(3,true),(4,true),(5,true),(6,true),(7,false)]) (fun w'=>w'.cell? (Ja cb 7)=some (.map (some C))/\w'.cell? (Ja O 0)=some (str y.name)) mixedO (by kernel_rfl) rfl (by kernel_rfl) (fun X z=>?_)
  iterate 7 refine Qac rfl (by kernel_rfl) (fun w' hw=>by obtain⟨aJ,aK⟩:=hw;go_simp<;>rfl) ?_
  refine Qak rfl (Qa ao) (fun K hK=>?_);go_simp;refine o.mono ?_;clear o;rintro en N⟨rfl,V,P⟩;show K _ _;refine hK _ _ ?_;clear hK K;obtain⟨k,g,d,s5,m,A⟩:=Qa H5;have n6:N.heap[O]?=_:=(P.block O (Qaa d) (g.md.cells_ne d)).trans d;refine Qbc ⟨(cl9 V.box).2.2.2.2.2.2.2.1,(cl5 n6).1⟩ (z _ _ ?_);clear z X
  have H6:=hide (show Nc n0 n1 p ⟨cb,0,0,B,C,D,.slice a0 j c0,.slice (Js s) k1 c1,.slice a2 k2 c2,.slice a3 k3 c3,.slice a4 k4 c4⟩ (Jn) (tyRow p.types) (dcRow (p.decls.take (i+1))) (ctRow p.types) N/\Below n1 w N from by
   refine⟨?_,k.trans ((Below.refl _ u).drew.mono (by omega) |>.trans (Kp.below P (by show n1<=u.heap.size;omega) (Nat.le_of_lt g.l0.2.2.1)))⟩;rw[Qmx m]
   exact V)
  clear k g d s5 m A n6 V P;go_wp2_with fail;go_roundw
  case rel=>exact⟨i+1,by congr 1,by omega,H6⟩
  case measure=>simp[intOf];omega
 obtain⟨nc,R⟩:=Qa HI;obtain⟨x,H⟩:∃x,p.types[j]?=some x:=⟨p.types[j]'(by have:=(Qa HQ).1;omega),List.getElem?_eq_getElem _⟩;obtain⟨Y,cap,aY,e1,aR,hS,_,ae,L⟩:=nc.types.elem H;obtain⟨xa,S,xc,rfl,J⟩:=ae;have b6:=J.cap (a:=xa) (n:=S) (c:=xc) rfl;have T:S=x.ctors.length:=by obtain⟨_,_,e⟩:=J.sl;cases e;rfl
 simp only[Value.slice.injEq]at e1;obtain⟨rfl,-,-⟩:=e1;have y0:wr.cell? (Ja Y (j*4))=some (str x.name):=L 0 _ rfl;have y1:wr.cell? (Ja Y (j*4+1))=some (str x.sub):=L 1 _ rfl;have y2:wr.cell? (Ja Y (j*4+2))=some (.slice xa S xc):=L 2 _ rfl;have y3:wr.cell? (Ja Y (j*4+3))=some (Ji x.at_):=L 3 _ rfl;obtain⟨w3,ah⟩:=JE (wr.alloc (.cells #[str x.name,str x.sub,.slice xa S xc,Ji x.at_] 54));have b3:=bnw ah;have M:=nnw ah;obtain⟨tb,ax⟩:=JF wr.heap.size;rw[ax]at M;have f:n1<=wr.heap.size:=Nat.le_of_lt (Qaa nc.par);have a8:=R.trans (b3.mono f);have Q:=nc.later b3;have aL:=hide (show w3.cell? (Ja cb 6)=some (.map (some B))/\w3.cell? (Ja tb 0)=some (str x.name) from ⟨(cl9 Q.box).2.2.2.2.2.2.1,(cl4 M).1⟩);have o:=(Q.later (Below.refl _ w3).drew).putT x.name (3+j);rw[show((3+j:Nat):Int)=(3:Int)+(j:Int) from by omega,<- Qlh j (by omega)]at o
 dsimp only at o
 have HX:=hide (Ya H (Ya J (Ya T (Ya f R))));have H3:=hide (Ya a8 (Ya Q (Ya M b3.size)));have aC:=hide (Ya ah ax);clear nc R H aR hS L J T ah b3 M ax f a8 Q;go_upto_region 5 with fail;rw[<- (Qa aC).1,(Qa aC).2];clear y0 y1 y2 y3;refine Qaz (md:=[(0,true),(1,true),(2,true),(3,true),(4,true),(5,true),(6,true),(7,true),(8,false)]) (fun w'=>w'.cell? (Ja cb 6)=some (.map (some B))/\w'.cell? (Ja tb 0)=some (str x.name)) mixedO (by kernel_rfl) rfl (by kernel_rfl) (fun X z=>?_)
 iterate 8 refine Qac rfl (by kernel_rfl) (fun w' hw=>by obtain⟨aJ,aK⟩:=hw;go_simp<;>rfl) ?_
 refine Qak rfl (Qa aL) (fun K hK=>?_);go_simp;refine o.mono ?_;clear o;rintro en w4⟨rfl,az,ai⟩;show K _ _;refine hK _ _ ?_;clear hK K;obtain⟨a8,Q,M,s3⟩:=Qa H3;have n4:w4.heap[tb]?=_:=(ai.block tb (Qaa M) (Q.mt.cells_ne M)).trans M;refine Qbc ⟨(cl9 az.box).2.2.2.2.2.2.1,(cl4 n4).1⟩ (z _ _ ?_);clear z X;obtain⟨z0,z1,z2,z3,zf⟩:=cl4 n4;obtain⟨so,aI⟩:=JF wr.heap.size;have aB:=hide aI;clear aI
 have H4:=hide (show Nc n0 n1 p ⟨cb,0,0,B,C,D,.slice (Js Y) k0 c0,.slice a1 k1 c1,.slice a2 k2 c2,.slice a3 k3 c3,.slice a4 k4 c4⟩ (Jn) (tyRow (p.types.take (j+1))) (dcRow (p.decls.take 0)) (ctRow (p.types.take j)++coRow j (x.ctors.take 0)) w4/\Below n1 w w4/\so<=w4.heap.size from by
  obtain⟨H,J,T,f,R⟩:=Qa HX;have b2:w3.heap.size<=w4.heap.size:=ai.size;have aX:=Qa aB;refine⟨?_,a8.trans ((Below.refl _ w3).drew.mono (by omega) |>.trans (Kp.below ai (by show n1<=w3.heap.size;omega) (Nat.le_of_lt Q.l0.2.1))),by omega⟩;rw[Qnw H]
  simpa[coRow] using az)
 clear a8 Q M s3 n4 az ai;go_wp2_with fail;clear z0 z1 z2 z3 zf;go_loopw [43] (fun v wq=>∃i:Nat,v = Ji (i:Int)/\i<=S/\Hid (Nc n0 n1 p ⟨cb,0,0,B,C,D,.slice (Js Y) k0 c0,.slice a1 k1 c1,.slice a2 k2 c2,.slice a3 k3 c3,.slice a4 k4 c4⟩ (Jn) (tyRow (p.types.take (j+1))) (dcRow (p.decls.take 0)) (ctRow (p.types.take j)++coRow j (x.ctors.take i)) wq/\Below n1 w wq/\so<=wq.heap.size)) (fun v _=>S - (intOf v).toNat)
 case atStart=>exact⟨0,rfl,Nat.zero_le _,H4⟩
 obtain⟨i,rfl,hi,HJ⟩:=hrel;by_cases aF:i<S
 rotate_left
 ·
  have aw:i=S:=by omega
  subst aw;go_wp2_with fail;go_roundw
  case rel=>
   refine⟨j+1,by congr 1,by omega,hide ⟨?_,(Qa HJ).2.1⟩⟩;obtain⟨H,J,T,f,R⟩:=Qa HX;have h:=(Qa HJ).1;rw[T,List.take_length,<- Qmw H]at h;exact h
  case measure=>simp[intOf];omega
 obtain⟨l,I,ab⟩:=Qa HJ;obtain⟨H,J,T,f,R⟩:=Qa HX;have aH:=l.n01;have aE:=J.same Qcg (by rw[Qa aB];exact ab) (fun b s _=>(I.block b (by have aQ:b<n0:=s;omega)).trans (R.block b (by have aQ:b<n0:=s;omega)).symm);obtain⟨y,m⟩:∃y,x.ctors[i]?=some y:=⟨x.ctors[i]'(by omega),List.getElem?_eq_getElem _⟩;obtain⟨s,aD,aO,e2,av,ar,_,a9,E⟩:=aE.elem m;obtain⟨ya,yn,yc,rfl,hY⟩:=a9;simp only[Value.slice.injEq]at e2;obtain⟨rfl,-,-⟩:=e2;have y0:wr.cell? (Ja s (i*2))=some (str y.name):=E 0 _ rfl;have y1:wr.cell? (Ja s (i*2+1))=some (.slice ya yn yc):=E 1 _ rfl;obtain⟨u,G⟩:=JE (wr.alloc (.cells #[str y.name,.slice ya yn yc] 97));have k:=bnw G;have d:=nnw G;obtain⟨O,U⟩:=JF wr.heap.size;rw[U]at d;have g:=l.later k;have A:n1<=wr.heap.size:=Nat.le_of_lt (Qaa l.par);have ao:=hide (show u.cell? (Ja cb 8)=some (.map (some D))/\u.cell? (Ja O 0)=some (str y.name) from ⟨(cl9 g.box).2.2.2.2.2.2.2.2.1,(cl2 d).1⟩);have o:=(g.later (Below.refl _ u).drew).putC y.name j i
 dsimp only at o
 have H5:=hide (Ya (I.trans (k.mono A)) (Ya g (Ya d (Ya k.size (Ya m (Ya ab A))))));have a7:=hide (Ya G U);clear l I ab H J T f R aH aE m av ar E hY G k d U g A;go_upto_region 9 with fail;rw[<- (Qa a7).1,(Qa a7).2];clear y0 y1;refine Qaz (md:=[(0,true),(1,true),(2,true),(3,true),(4,true),(5,true),(6,true),(7,true),(8,true),(9,false)]) (fun w'=>w'.cell? (Ja cb 8)=some (.map (some D))/\w'.cell? (Ja O 0)=some (str y.name)) mixedO (by kernel_rfl) rfl (by kernel_rfl) (fun X z=>?_)
 iterate 9 refine Qac rfl (by kernel_rfl) (fun w' hw=>by obtain⟨aJ,aK⟩:=hw;go_simp<;>rfl) ?_
 refine Qak rfl (Qa ao) (fun K hK=>?_);go_simp;refine o.mono ?_;clear o;rintro en N⟨rfl,V,P⟩;show K _ _;refine hK _ _ ?_;clear hK K;obtain⟨k,g,d,s5,m,ab,A⟩:=Qa H5;have n6:N.heap[O]?=_:=(P.block O (Qaa d) (g.mc.cells_ne d)).trans d;refine Qbc ⟨(cl9 V.box).2.2.2.2.2.2.2.2.1,(cl2 n6).1⟩ (z _ _ ?_);clear z X
 have H6:=hide (show Nc n0 n1 p ⟨cb,0,0,B,C,D,.slice (Js Y) k0 c0,.slice a1 k1 c1,.slice a2 k2 c2,.slice a3 k3 c3,.slice a4 k4 c4⟩ (Jn) (tyRow (p.types.take (j+1))) (dcRow (p.decls.take 0)) (ctRow (p.types.take j)++coRow j (x.ctors.take (i+1))) N/\Below n1 w N/\so<=N.heap.size from by
  have b4:u.heap.size<=N.heap.size:=P.size;refine⟨?_,k.trans ((Below.refl _ u).drew.mono (by omega) |>.trans (Kp.below P (by show n1<=u.heap.size;omega) (Nat.le_of_lt g.l0.2.2.2))),by omega⟩;rw[Qmv j m,<- List.append_assoc]
  exact V)
 clear k g d s5 m ab A n6 V P;go_wp2_with fail;go_roundw
 case rel=>exact⟨i+1,by congr 1,by omega,H6⟩
 case measure=>simp[intOf];omega
def kdC(p:Pg):Nat->List Value
 | 0=>[]
 |n+1=>kdC p n++[str (kName p n),.int .i64 (kSub p n:Int),.int .i64 (kInit p n)]
theorem Qpk(p:Pg):∀n,(kdC p n).length=n*3
 | 0=>rfl
 |n+1=>by rw[kdC,List.length_append,Qpk p n];simp;omega
theorem Qua(p:Pg):∀(n j:Nat),j<n->(kdC p n)[j*3]?=some (str (kName p j))/\(kdC p n)[j*3+1]?=some (Ji (kSub p j:Int))/\(kdC p n)[j*3+2]?=some (Ji (kInit p j))
 | 0,j,h=>by omega
 |n+1,j,h=>by
  have hl:=Qpk p n;rw[kdC];by_cases e:j<n
  ·
   obtain⟨b,d,f⟩:=Qua p n j e;refine⟨?_,?_,?_⟩
   ·rw[List.getElem?_append_left (by omega)];exact b
   ·rw[List.getElem?_append_left (by omega)];exact d
   ·rw[List.getElem?_append_left (by omega)];exact f
  have a:j=n:=by omega
  subst a;refine⟨?_,?_,?_⟩
  ·rw[List.getElem?_append_right (by omega),hl];simp
  ·rw[List.getElem?_append_right (by omega),hl,show j*3+1 - j*3=1 by omega];rfl
  ·rw[List.getElem?_append_right (by omega),hl,show j*3+2 - j*3=2 by omega];rfl
theorem KRow.of_own{p:Pg}{w:World}{b0 n:Nat}{sl:Value}(hn:0<n)(h:w.ownsRow b0 137 3 sl n (kdC p n)):∃kb kc,sl = .slice (Js kb) n kc/\b0<=kb/\KRow w kb n kc (kName p) (kSub p) (kInit p):=by
 rcases h.2 with ⟨_,e⟩|⟨g,cap,f,i,k,l,m,o,s,q⟩
 ·omega
 refine⟨g,cap,i,k,m,o,f,l,fun j r=>?_⟩;obtain⟨a,b,d⟩:=Qua p n j r;rw[<- q,List.getElem?_take_of_lt (by omega)]at a b d;exact⟨by simpa using a,by simpa using b,by simpa using d⟩
theorem infoK:∃i0:TypeInfo,Tryz.prog.info? 137=some i0/\i0.zero=some (.agg #[Je,Ji 0,Ji 0])/\i0.size=3/\i0.bytes=32:=by
 have h:(Tryz.prog.info? 137).map (fun i=>(i.zero,i.size,i.bytes))=some (some (.agg #[Je,Ji 0,Ji 0]),3,32):=by kernel_rfl
 obtain⟨i0,b,a⟩:=Option.map_eq_some_iff.1 h;simp only[Prod.mk.injEq]at a;exact⟨i0,b,a⟩
section
variable {n0 n1:Nat}{p:Pg}{c:CatP}{sl:Value}{rt rd:List (Txt×Nat)}{rc:List (Txt×(Nat×Nat))}{w:World}
theorem Nc.box_ne(h:Nc n0 n1 p c sl rt rd rc w){b0 n:Nat}{xs:List Value}(row:w.ownsRow b0 137 3 sl n xs):some c.cb≠sl.ownBlock/\some c.mt≠sl.ownBlock/\some c.md≠sl.ownBlock/\some c.mc≠sl.ownBlock/\some n1≠sl.ownBlock:=by
 rcases row.2 with ⟨b,_⟩|⟨g,cap,d,b,_,a,_⟩
 ·rw[b];exact⟨by simp[Value.ownBlock],by simp[Value.ownBlock],by simp[Value.ownBlock],by simp[Value.ownBlock],by simp[Value.ownBlock]⟩
 rw[b];refine⟨fun e=>?_,fun e=>?_,fun e=>?_,fun e=>?_,fun e=>?_⟩
 ·
  cases e
  have:=h.box;rw[a]at this;simp at this
 ·cases e;exact h.mt.cells_ne a rfl
 ·cases e;exact h.md.cells_ne a rfl
 ·cases e;exact h.mc.cells_ne a rfl
 cases e
 have:=h.par;rw[a]at this;simp at this
theorem Nc.more(h:Nc n0 n1 p c sl rt rd rc w){n:Nat}(row:w.ownsRow (n1+1) 137 3 sl n (kdC p n))(hn:n<=1000000010){s:Txt}{k b:Int}(e1:kName p n=s)(e2:(kSub p n:Int)=k)(e3:kInit p n=b):
  ∃ra rn rc' w3,(Builtin.append_ #[127,127] 127 #[sl,.slice (Js w.heap.size) 1 1]).run Tryz.prog (w.alloc (.cells #[str s,Ji k,Ji b] 137)) = .ok (.slice ra rn rc') w3/\w3.heap[c.cb]?=some (.cells #[c.v0,c.v1,c.v2,c.v3,c.v4,sl,.map (some c.mt),.map (some c.md),.map (some c.mc)] 129 (0,0))/\(∀q,q<w.heap.size->some q≠sl.ownBlock->w3.heap[q]?=w.heap[q]?) /\
   Nc n0 n1 p c (.slice ra rn rc') rt rd rc (w3.setCell (Ja c.cb 5) (.slice ra rn rc'))/\(w3.setCell (Ja c.cb 5) (.slice ra rn rc')).ownsRow (n1+1) 137 3 (.slice ra rn rc') (n+1) (kdC p (n+1))/\Below n1 w (w3.setCell (Ja c.cb 5) (.slice ra rn rc')):=by
 obtain⟨y,f⟩:=JE (w.alloc (.cells #[str s,Ji k,Ji b] 137));obtain⟨X,U,W,J,F⟩:=infoK;have G:=Qaa h.box;have Y:=h.l0;have D:n1+1<=y.heap.size:=by rw[f];simp;omega
 obtain⟨r,w3,E,v,i,_,M⟩:=run_append_own_at (P:=Tryz.prog) y (n1+1) 127 127 137 X _ 3 32 (by kernel_rfl) U W J F rfl (by decide) sl n (kdC p n) (by rw[f];exact World.ownsRow.alloc row _) (Ja w.heap.size 0) 1 1 [str s,Ji k,Ji b] rfl (fun j u V=>by
  have e1:((Ja w.heap.size 0):Addr).add j=(Ja w.heap.size j):=by cases j<;>simp[Addr.add]
  rw[e1,f,Qad (heap_alloc_new w _)]
  simpa using V) (fun c C=>by simp only[List.mem_cons,List.not_mem_nil,or_false]at C;rcases C with rfl|rfl|rfl<;>rfl) (by unfold maxLen;omega) (by omega) D
 have L:∃ra rn rc,r = .slice ra rn rc:=by
  rcases v.2 with ⟨e,_⟩|⟨g,cap,o,e,_⟩
  ·exact⟨_,_,_,e⟩
  ·exact⟨_,_,_,e⟩
 obtain⟨ra,rn,rc',rfl⟩:=L;obtain⟨B,N,O,Q,f5⟩:=h.box_ne row;have s2:y.heap.size=w.heap.size+1:=by rw[f];simp
 have same:∀q,q<w.heap.size->some q≠sl.ownBlock->w3.heap[q]?=w.heap[q]?:=fun q d H=>by
  rw[i.block q (by omega) H,f,Below.heap_alloc _ _ _ d]
 have z:=(same _ G B).trans h.box;obtain⟨l,a⟩:=JE (w3.setCell (Ja c.cb 5) (.slice ra rn rc'));have x:∀q,q≠c.cb->l.heap[q]?=w3.heap[q]?:=fun q d=>by rw[a];exact hpS d
 have I:∀q,some q=sl.ownBlock->n1+1<=q:=fun q e=>by
  rcases row.2 with ⟨e2,_⟩|⟨g,cap,o,e2,t,_⟩
  ·rw[e2]at e;cases e
  ·rw[e2]at e;cases e;exact t
 have low:∀q,q<=n1->l.heap[q]?=w.heap[q]?:=fun q d=>by
  rw[x q (by omega)];exact same q (by omega) (fun e=>by have:=I q e;omega)
 have A:w.heap.size<=l.heap.size:=by have:=i.size;rw[a];simp;omega
 have K:∀q,some q=(Value.slice ra rn rc').ownBlock->q≠c.cb:=fun q e e2=>by
  subst e2;rcases M with e3|e3
  ·exact B (e.trans e3)
  rw[e3]at e;have:=Option.some.inj e;omega
 have m:∀q,q<w.heap.size->q≠c.cb->some q≠sl.ownBlock->l.heap[q]?=w.heap[q]?:=fun q R S T=>(x q S).trans (same q R T);subst f;refine⟨ra,rn,rc',w3,E,z,same,?_,?_,?_⟩
 ·
  rw[<- a];exact⟨by rw[a];exact(Qah z 5 _).trans rfl,(low n1 (Nat.le_refl _)).trans h.par,Qcj.same _ _ _ _ _ h.prg A (fun q d _=>low q (by have Z:q<n0:=d;have:=h.n01;omega)),h.mt.keep (m _ h.mt.lt (Ne.symm (h.mt.cells_ne h.box)) N),h.md.keep (m _ h.md.lt (Ne.symm (h.md.cells_ne h.box)) O),h.mc.keep (m _ h.mc.lt (Ne.symm (h.mc.cells_ne h.box)) Q),h.l0,h.n01,h.ne⟩
 ·
  rw[<- a,kdC,e1,e2,e3];refine⟨v.1,?_⟩;rcases v.2 with e|⟨g,cap,o,e1,e2,e3,t⟩
  ·exact .inl e
  ·exact .inr ⟨g,cap,o,e1,e2,(x g (K g (by rw[e1];rfl))).trans e3,t⟩
 rw[<- a];refine⟨?_,?_,?_,A,fun q d=>low q (Nat.le_of_lt d)⟩
 ·rw[a];exact i.os
 ·rw[a];exact i.tape
 ·rw[a];exact i.output
end
end
end Go.Proofs.YtkhndlnadhggkaaGreat
