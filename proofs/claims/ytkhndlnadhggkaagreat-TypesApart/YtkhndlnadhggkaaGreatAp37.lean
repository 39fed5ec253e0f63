/- types. -/
import Derived.Test.YtkhndlnadhggkaaGreatAp01
import Derived.Test.YtkhndlnadhggkaaGreatAp36
set_option maxRecDepth 100000
set_option maxHeartbeats 32000000
namespace Go.Proofs.YtkhndlnadhggkaaGreat
section
open Go.RowKit Go.Maps
theorem Qgu{α : Type}{l:List (Txt × α)}{t:Txt}{v:α}(h:(t,v)∈l):∃u,asc l t=some u:=by
 unfold asc
 cases e:l.find? fun q=>decide (q.1=t) with
 |some q=>exact⟨q.2,rfl⟩
 |none=>
  rw[List.find?_eq_none]at e;exact absurd (decide_eq_true (rfl:t=t)) (e _ h)
theorem ct_mem{ts:List Typ}{i k:Nat}{t:Typ}{x:Ctr}(h1:ts[i]?=some t)(h2:t.ctors[k]?=some x):(x.name,(i,k))∈ctRow ts:=by
 unfold ctRow;rw[List.mem_flatMap];refine⟨(t,i),?_,?_⟩
 ·rw[List.mk_mem_zipIdx_iff_getElem?];exact h1
 rw[List.mem_map];exact⟨(x,k),by rw[List.mk_mem_zipIdx_iff_getElem?];exact h2,rfl⟩
def ctP(p:Pg)(i:Nat)(c:Ctr×Nat):Bool:=decide (asc (ctRow p.types) c.1.name≠some (i,c.2)) || twiceP c.1.fields []
section
variable {n0:Nat}{p:Pg}{c:CatP}{w:World}
theorem Cs.ct(h:Cs n0 p c w){t:Txt}{q:Nat×Nat}(e:asc (ctRow p.types) t=some q):(Instr.lookup 126 (.map (some c.mc)) (str t) false).run Tryz.prog w = .ok (.agg #[Ji (q.1:Int),Ji (q.2:Int)]) w:=by
 obtain⟨d,a,b⟩:=h.mc;rw[Qdx uS mP zP w c.mc d t a false,b t,e];rfl
theorem Qho(h:Cs n0 p c w){i:Nat}{t:Typ}(ht:p.types[i]?=some t)(hts:p.types.length<=1000000000):
  Calls Tryz.prog 72 #[.pointer (Js c.cb),Ji (i:Int)] w fun en w'=>en = .returned (.bool (t.ctors.zipIdx.any (ctP p i)))/\Below w.heap.size w w':=by
 obtain⟨vt,vd,vc,vi,vl,Z,s,qd,qc,qi,ql⟩:=h.prg.cells;simp only[List.cons.injEq,and_true]at Z;rw[<- Z.1]at s;obtain⟨a0,k0,c0,X⟩:∃a n d,c.v0 = .slice a n d:=by
  obtain⟨_,_,e⟩:=s.sl;exact⟨_,_,_,e⟩
 rw[X]at s;have a3:k0=p.types.length:=by obtain⟨_,_,e⟩:=s.sl;cases e;rfl
 have ag:=s.cap rfl;have ai:i<k0:=by rw[a3];exact(List.getElem?_eq_some_iff.1 ht).1
 have aj:k0<=1000000000:=by omega
 obtain⟨gb,cap,ah,j,U,hS,_,T,z⟩:=s.elem ht;obtain⟨xa,u,xc,rfl,r⟩:=T;simp only[Value.slice.injEq]at j;obtain⟨rfl,-,-⟩:=j;have y2:w.cell? (Ja gb (i*4+2))=some (.slice xa u xc):=z 2 _ rfl;have al:=r.cap (a:=xa) (n:=u) (c:=xc) rfl;have J:u=t.ctors.length:=by obtain⟨_,_,e⟩:=r.sl;cases e;rfl
 obtain⟨a5,a7,a8,a9,aa,ab,ac,ad,ae,xf⟩:=cl9 h.box;rw[X]at a5;have H0:=hide (Ya h (Ya ht (Ya r J)));clear h ht r J hts Z s qd qc qi ql X a3 U hS z a7 a8 a9 aa ab ac ad ae;go_enter Tryz.func72,Tryz.ntmps72;go_wp2_with fail;clear a5 xf y2;go_loopw [17] (fun v wr=>∃k:Nat,v = Ji (k:Int)/\k<=u/\Hid (Below w.heap.size w wr/\(t.ctors.zipIdx.take k).any (ctP p i)=false)) (fun v _=>u - (intOf v).toNat)
 case atStart=>exact⟨0,rfl,Nat.zero_le _,hide ⟨Below.refl _ _,rfl⟩⟩
 obtain⟨k,rfl,hk,HI⟩:=hrel;by_cases ak:k<u
 rotate_left
 ·
  have a6:k=u:=by omega
  subst a6;go_wp2_with fail;go_ret;obtain⟨y,D⟩:=Qa HI;rw[(Qa H0).2.2.2,List.take_of_length_le (by simp)]at D;refine⟨?_,y⟩;rw[D];rfl
 obtain⟨h,ht,r,J⟩:=Qa H0;obtain⟨y,D⟩:=Qa HI;obtain⟨f,R⟩:∃f,t.ctors[k]?=some f:=⟨t.ctors[k]'(by omega),List.getElem?_eq_getElem _⟩;have l:t.ctors.zipIdx[k]?=some (f,k):=by rw[List.getElem?_zipIdx,R];simp
 obtain⟨q,A⟩:=Qgu (ct_mem ht R);obtain⟨hb,af,cs,j,U,hS,_,T,z⟩:=(r.later Qcg y).elem R;obtain⟨ya,yn,yc,rfl,hY⟩:=T;simp only[Value.slice.injEq]at j;obtain⟨rfl,-,-⟩:=j;have y0:wr.cell? (Ja hb (k*2))=some (str f.name):=z 0 _ rfl;have y1:wr.cell? (Ja hb (k*2+1))=some (.slice ya yn yc):=z 1 _ rfl;obtain⟨b,I⟩:=JE (wr.alloc (.cells #[str f.name,.slice ya yn yc] 97));have Y:=bnw I;have B:=nnw I;obtain⟨tb,V⟩:=JF wr.heap.size;rw[V]at B;have g:=y.trans (Y.mono y.size);have h3:Cs n0 p c b:=Ct.later h g;have E:=hide (show ∀m,Below b.heap.size b m->m.cell? (Ja c.cb 8)=some (.map (some c.mc))/\m.cell? (Ja tb 0)=some (str f.name)/\m.cell? (Ja tb 1)=some (.slice ya yn yc)/\(Instr.lookup 126 (.map (some c.mc)) (str f.name) false).run Tryz.prog m = .ok (.agg #[Ji (q.1:Int),Ji (q.2:Int)]) m from fun m Q=>⟨(cl9 (Ct.later h3 Q).box).2.2.2.2.2.2.2.2.1,(cl2 ((Q.block _ (Qaa B)).trans B)).1,(cl2 ((Q.block _ (Qaa B)).trans B)).2.1,Cs.ct (Ct.later h3 Q) A⟩);have W:=Qjs f.fields ((hY.later Qbb Y).later Qbb (Below.refl _ b).drew);have H:=Qez l D;have x:=hide (Ya g (Ya H (Ya l A)));have a1:=hide (Ya I V);clear h ht r J y D R l U hS z hY I Y B V g h3 H A;go_upto_region 4 with fail;rw[<- (Qa a1).1,(Qa a1).2];clear y0 y1;refine Qaz (md:=[(0,true),(1,true),(2,true),(3,true),(4,true),(5,true),(6,true),(7,true),(8,true),(9,true),(10,true),(11,true),(12,true),(13,true),(14,false),(15,true)]) (Below b.heap.size b) mixedO (by kernel_rfl) rfl (by kernel_rfl) (fun PP G=>?_)
 iterate 10 refine Qac rfl (by kernel_rfl) (fun w' hw=>by obtain⟨L,M,N,O⟩:=Qa E w' hw;go_simp<;>rfl) ?_
 have o:=(Below.refl b.heap.size b).drew;by_cases C:q=(i,k)
 ·
  have j:(q.1:Int)=(i:Int):=by rw[C]
  have e2:(q.2:Int)=(k:Int):=by rw[C]
  refine mT (v:=.bool false) (fun w' hw=>?_) ?_
  ·go_simp
  iterate 3 refine Qac rfl (by kernel_rfl) (fun w' hw=>by obtain⟨L,M,N,O⟩:=Qa E w' hw;go_simp<;>rfl) ?_
  refine Qak rfl o (fun K F=>?_);clear j e2;go_simp;refine W.mono ?_;clear W;rintro en w4⟨rfl,b4⟩;show K _ _;refine F _ _ ?_;clear F K;have S:Below b.heap.size b w4:=o.trans b4;refine mT (v:=?_) (fun w' hw=>?_) ?_;rotate_left;· (obtain⟨L,M,N,O⟩:=Qa E w' hw;go_simp<;>rfl)
  refine Qbc S (G _ _ ?_);clear G PP;have P:=hide S;clear S o b4;have a2:ctP p i (f,k)=twiceP f.fields []:=by
   unfold ctP;rw[(Qa x).2.2.2,C];simp
  by_cases hz:twiceP f.fields []=true
  ·
   rw[hz];go_wp2_with fail;go_ret;obtain⟨g,H,l,A⟩:=Qa x;refine⟨?_,g.trans ((Qa P).mono g.size)⟩;have:t.ctors.zipIdx.any (ctP p i)=true:=by
    rw[List.any_eq_true];exact⟨(f,k),List.mem_of_getElem? l,a2.trans hz⟩
   rw[this];rfl
  have a4:twiceP f.fields []=false:=by simpa using hz
  rw[a4];go_wp2_with fail;go_roundw
  case rel=>exact⟨k+1,by congr 1,by omega,hide ⟨(Qa x).1.trans ((Qa P).mono (Qa x).1.size),(Qa x).2.1.trans (a2.trans a4)⟩⟩
  case measure=>simp[intOf];omega
 refine mT (v:=.bool true) (fun w' hw=>?_) ?_
 ·
  go_simp;exact fun j e2=>C (Prod.ext (by omega) (by omega))
 refine mT (v:=?_) (fun w' hw=>?_) ?_;rotate_left;· (obtain⟨L,M,N,O⟩:=Qa E w' hw;go_simp<;>rfl)
 iterate 2 refine Qdv rfl (by kernel_rfl) ?_
 refine Qak rfl o (fun K F=>?_);clear W;go_simp;refine F _ _ ?_;clear F K;refine mT (v:=?_) (fun w' hw=>?_) ?_;rotate_left;· (obtain⟨L,M,N,O⟩:=Qa E w' hw;go_simp<;>rfl)
 refine Qbc o (G _ _ ?_);clear G PP;have P:=hide o;clear o;go_wp2_with fail;go_ret;obtain⟨g,H,l,A⟩:=Qa x;refine⟨?_,g.trans ((Qa P).mono g.size)⟩;have:t.ctors.zipIdx.any (ctP p i)=true:=by
  rw[List.any_eq_true];refine⟨(f,k),List.mem_of_getElem? l,?_⟩;unfold ctP;rw[A];simp[C]
 rw[this];rfl
end
theorem dc_mem{ds:List Dcl}{i:Nat}{d:Dcl}(h:ds[i]?=some d):(d.name,i)∈dcRow ds:=by
 unfold dcRow;rw[List.mem_map];exact⟨(d,i),by rw[List.mk_mem_zipIdx_iff_getElem?];exact h,rfl⟩
theorem Qiq{α : Type}{xs:List α}{i:Nat}{x:α}(h:xs[i]?=some x):xs.zipIdx.drop i=(x,i) :: xs.zipIdx.drop (i+1):=Qkh (by rw[List.getElem?_zipIdx,h];simp)
section
variable {n0:Nat}{p:Pg}{c:CatP}{w:World}
theorem Cs.dcf(h:Cs n0 p c w){t:Txt}{q:Nat}(e:asc (dcRow p.decls) t=some q):(Instr.lookup 125 (.map (some c.md)) (str t) false).run Tryz.prog w = .ok (Ji (q:Int)) w:=by
 obtain⟨d,a,b⟩:=h.md;rw[Qdx uS mI zI w c.md d t a false,b t,e];rfl
theorem Qil(h:Cs n0 p c w):
  Calls Tryz.prog 33 #[.pointer (Js c.cb)] w fun en w'=>en = .returned (ftV (wDeclP p p.decls.zipIdx))/\Below w.heap.size w w':=by
 obtain⟨vt,vd,vc,vi,vl,ev,qt,F,qc,qi,ql⟩:=h.prg.cells;simp only[List.cons.injEq,and_true]at ev;rw[<- ev.2.1]at F;obtain⟨a1,P,c1,a9⟩:∃a n d,c.v1 = .slice a n d:=by
  obtain⟨_,_,e⟩:=F.sl;exact⟨_,_,_,e⟩
 rw[a9]at F;have af:P=p.decls.length:=by obtain⟨_,_,e⟩:=F.sl;cases e;rfl
 have ay:=F.cap rfl;obtain⟨w1,T⟩:=JE (w.alloc (.cells #[Ji 0,Ji 0] 31));have b1:=bnw T;have n1:=nnw T;obtain⟨rb,S⟩:=JF w.heap.size;rw[S]at n1;have Q:=hide S;obtain⟨ao,aj,ap,aq,ar,au,av,aw,ax,xf⟩:=cl9 (Ct.later h b1).box;rw[a9]at aj;have ad:=hide (Ya T S);have H0:=hide (Ya h (Ya F af));have H1:=hide (Ya b1 n1);clear h ev qt F qc qi ql a9 af T b1 n1 S ao ap aq ar au av aw ax;go_enter Tryz.func33,Tryz.ntmps33;go_upto_region 1 with fail;rw[<- (Qa ad).1,(Qa ad).2];go_wp2_with fail;clear aj xf;go_loopw [11] (fun v wr=>∃i:Nat,v = Ji (i:Int)/\i<=P/\Hid (Below w.heap.size w wr/\wr.heap[rb]?=some (.cells #[Ji 0,Ji 0] 31 (0,0))/\wDeclP p p.decls.zipIdx=wDeclP p (p.decls.zipIdx.drop i))) (fun v _=>P - (intOf v).toNat)
 case atStart=>exact⟨0,rfl,Nat.zero_le _,hide ⟨(Qa H1).1,(Qa H1).2,rfl⟩⟩
 obtain⟨i,rfl,hi,HI⟩:=hrel;by_cases az:i<P
 rotate_left
 ·
  have an:i=P:=by omega
  subst an;obtain⟨H,J,b⟩:=Qa HI;rw[List.drop_of_length_le (by simp[(Qa H0).2.2])]at b;have j:wDeclP p p.decls.zipIdx=(0,0):=b;clear b;obtain⟨W,u,sc⟩:=sc2 J (Ji 0) (Ji 0);obtain⟨ab,ac,yf⟩:=cl2 J;have l:=hide (Ya (sc.below H (Nat.le_of_eq (Qa Q))) (Ya sc.box j));have B:=hide u;clear u sc;go_wp2_with fail;rw[<- Qa B];obtain⟨C,D,uf⟩:=cl2 (Qa l).2.1;refine bodyPost_ret (v:=ftV (0,0)) (by simp[results,Tryz.results33,go_sem,C,D,ftV]) rfl ?_;exact⟨by rw[(Qa l).2.2],(Qa l).1⟩
 obtain⟨h,hL,hn⟩:=Qa H0;obtain⟨H,J,b⟩:=Qa HI;obtain⟨d,hd⟩:∃d,p.decls[i]?=some d:=⟨p.decls[i]'(by omega),List.getElem?_eq_getElem _⟩;obtain⟨q,hq⟩:=Qgu (dc_mem hd);rw[Qiq hd,wDeclP,hq]at b;obtain⟨N,cap,cs,e1,am,hS,_,al,I⟩:=(hL.later Qav H).elem hd;obtain⟨ya,yn,yc,rfl,y⟩:=al;simp only[Value.slice.injEq]at e1;obtain⟨rfl,-,-⟩:=e1;have y0:wr.cell? (Ja N (i*5))=some (str d.name):=I 0 _ rfl;have y1:wr.cell? (Ja N (i*5+1))=some (.slice ya yn yc):=I 1 _ rfl;have y2:wr.cell? (Ja N (i*5+2))=some (.bool d.input):=I 2 _ rfl;have y3:wr.cell? (Ja N (i*5+3))=some (.bool d.output):=I 3 _ rfl;have y4:wr.cell? (Ja N (i*5+4))=some (Ji d.at_):=I 4 _ rfl;obtain⟨x,U⟩:=JE (wr.alloc (.cells #[str d.name,.slice ya yn yc,.bool d.input,.bool d.output,Ji d.at_] 63));have M:=bnw U;have g:=nnw U;obtain⟨tb,a7⟩:=JF wr.heap.size;rw[a7]at g;have m:=H.trans (M.mono H.size);have o:=(M.block _ (Qaa J)).trans J;have t:Cs n0 p c x:=Ct.later h m;have L:=hide (show ∀E,Below x.heap.size x E->E.cell? (Ja c.cb 7)=some (.map (some c.md))/\E.cell? (Ja tb 0)=some (str d.name)/\E.cell? (Ja tb 1)=some (.slice ya yn yc)/\(Instr.lookup 125 (.map (some c.md)) (str d.name) false).run Tryz.prog E = .ok (Ji (q:Int)) E from fun E bW=>⟨(cl9 (Ct.later t bW).box).2.2.2.2.2.2.2.1,(cl5 ((bW.block _ (Qaa g)).trans g)).1,(cl5 ((bW.block _ (Qaa g)).trans g)).2.1,Cs.dcf (Ct.later t bW) hq⟩);have a8:=Qjs d.cols ((y.later Qbb M).later Qbb (Below.refl _ x).drew);have H3:=hide (Ya m (Ya o (Ya g (Ya t (Ya b (y.later Qbb M))))));have ae:=hide (Ya U a7);clear h hL hn H J hd hq b am hS I y U M g a7 m o t;go_upto_region 4 with fail;rw[<- (Qa ae).1,(Qa ae).2];clear y0 y1 y2 y3 y4
 refine Qaz (md:=[(0,true),(1,true),(2,true),(3,true),(4,true),(5,true),(6,true),(7,true),(8,true),(9,true),(10,true),(11,true),(12,false),(13,true)]) (Below x.heap.size x) mixedO (by kernel_rfl) rfl (by kernel_rfl) (fun PP R=>?_)
 iterate 8 refine Qac rfl (by kernel_rfl) (fun w' hw=>by obtain⟨V,X,Y,Z⟩:=Qa L w' hw;go_simp<;>rfl) ?_
 have r:=(Below.refl x.heap.size x).drew;by_cases a0:q=i
 rotate_left
 ·
  refine mT (v:=.bool true) (fun w' hw=>?_) ?_
  ·
   go_simp
   try omega
  refine mT (v:=?_) (fun w' hw=>?_) ?_;rotate_left;· (obtain⟨V,X,Y,Z⟩:=Qa L w' hw;go_simp<;>rfl)
  iterate 2 refine Qdv rfl (by kernel_rfl) ?_
  refine Qak rfl r (fun K O=>?_);clear a8;go_simp;refine O _ _ ?_;clear O K;refine mT (v:=?_) (fun w' hw=>?_) ?_;rotate_left;· (obtain⟨V,X,Y,Z⟩:=Qa L w' hw;go_simp<;>rfl)
  refine Qbc r (R _ _ ?_);clear R PP;obtain⟨m,o,g,t,b,y⟩:=Qa H3;obtain⟨w4,ag⟩:=JE x.drew;rw[<- ag]at r ⊢;have s:=(r.block _ (Qaa g)).trans g;have f:=(r.block _ (Qaa o)).trans o;clear ag;have k:=m.trans (r.mono m.size);obtain⟨a2,a3,a4,a5,a6,zf⟩:=cl5 s;have j:wDeclP p p.decls.zipIdx=(11,d.at_):=by
   rw[b,if_pos (.inl (by simp[a0]))]
  clear r m o g t b y s;obtain⟨W,u,sc⟩:=sc2 f (Ji 11) (Ji d.at_);obtain⟨ab,ac,yf⟩:=cl2 f;have l:=hide (Ya (sc.below k (Nat.le_of_eq (Qa Q))) (Ya sc.box j));have B:=hide u;clear u sc;go_wp2_with fail;rw[<- Qa B];obtain⟨C,D,uf⟩:=cl2 (Qa l).2.1;refine bodyPost_ret (v:=ftV (11,d.at_)) (by simp[results,Tryz.results33,go_sem,C,D,ftV]) rfl ?_;exact⟨by rw[(Qa l).2.2],(Qa l).1⟩
 subst a0;refine mT (v:=.bool false) (fun w' hw=>?_) ?_
 ·go_simp
 iterate 3 refine Qac rfl (by kernel_rfl) (fun w' hw=>by obtain⟨V,X,Y,Z⟩:=Qa L w' hw;go_simp<;>rfl) ?_
 refine Qak rfl r (fun K O=>?_);go_simp;refine a8.mono ?_;clear a8;rintro en w4⟨rfl,b4⟩;show K _ _;refine O _ _ ?_;clear O K;have z:Below x.heap.size x w4:=r.trans b4;refine mT (v:=?_) (fun w' hw=>?_) ?_;rotate_left;· (obtain⟨V,X,Y,Z⟩:=Qa L w' hw;go_simp<;>rfl)
 refine Qbc z (R _ _ ?_);clear R PP;obtain⟨m,o,g,t,b,y⟩:=Qa H3;have s:=(z.block _ (Qaa g)).trans g;have f:=(z.block _ (Qaa o)).trans o;have k:=m.trans (z.mono m.size);obtain⟨a2,a3,a4,a5,a6,zf⟩:=cl5 s;by_cases hz:twiceP d.cols []=true
 ·
  rw[hz];have j:wDeclP p p.decls.zipIdx=(11,d.at_):=by
   rw[b,if_pos (.inr hz)]
  clear z r b4 m o g t b y s;obtain⟨W,u,sc⟩:=sc2 f (Ji 11) (Ji d.at_);obtain⟨ab,ac,yf⟩:=cl2 f;have l:=hide (Ya (sc.below k (Nat.le_of_eq (Qa Q))) (Ya sc.box j));have B:=hide u;clear u sc;go_wp2_with fail;rw[<- Qa B];obtain⟨C,D,uf⟩:=cl2 (Qa l).2.1;refine bodyPost_ret (v:=ftV (11,d.at_)) (by simp[results,Tryz.results33,go_sem,C,D,ftV]) rfl ?_;exact⟨by rw[(Qa l).2.2],(Qa l).1⟩
 have aa:twiceP d.cols []=false:=by simpa using hz
 rw[aa];have G:=Qgz (Ct.later t z) d.cols (y.later Qbb z);by_cases hy:noneP p d.cols=true
 ·
  have j:wDeclP p p.decls.zipIdx=(6,d.at_):=by
   rw[b,if_neg (by simp[aa]),if_pos hy]
  rw[hy]at G;have HS:=hide (Ya k (Ya f (Ya s j)));clear z r b4 m o g t b y s f k j;go_wp2_with fail;refine G.mono ?_;clear G a2 a3 a4 a5 a6 zf;rintro en w5⟨rfl,A⟩;obtain⟨k,f,s,j⟩:=Qa HS;have n5:=(A.block _ (Qaa s)).trans s;have ai:=(A.block _ (Qaa f)).trans f;have ak:=k.trans (A.mono k.size);obtain⟨a2,a3,a4,a5,a6,zf⟩:=cl5 n5;clear k f s A n5;obtain⟨W,u,sc⟩:=sc2 ai (Ji 6) (Ji d.at_);obtain⟨ab,ac,yf⟩:=cl2 ai;have l:=hide (Ya (sc.below ak (Nat.le_of_eq (Qa Q))) (Ya sc.box j));have B:=hide u;clear u sc;go_wp2_with fail;rw[<- Qa B];obtain⟨C,D,uf⟩:=cl2 (Qa l).2.1;refine bodyPost_ret (v:=ftV (6,d.at_)) (by simp[results,Tryz.results33,go_sem,C,D,ftV]) rfl ?_;exact⟨by rw[(Qa l).2.2],(Qa l).1⟩
 have ah:noneP p d.cols=false:=by simpa using hy
 have j:wDeclP p p.decls.zipIdx=wDeclP p (p.decls.zipIdx.drop (q+1)):=by
  rw[b,if_neg (by simp[aa]),if_neg (by simp[ah])]
 rw[ah]at G;have HS:=hide (Ya k (Ya f j));clear z r b4 m o g t b y s f k j;go_wp2_with fail;refine G.mono ?_;clear G a2 a3 a4 a5 a6 zf;rintro en w5⟨rfl,A⟩;obtain⟨k,f,j⟩:=Qa HS;have H5:=hide (Ya (k.trans (A.mono k.size)) (Ya ((A.block _ (Qaa f)).trans f) j));clear k f A j;go_wp2_with fail;go_roundw
 case rel=>exact⟨q+1,by congr 1,by omega,H5⟩
 case measure=>simp[intOf];omega
end
section
variable {n0:Nat}{p:Pg}{c:CatP}{w:World}
theorem Qim(h:Cs n0 p c w)(hts:p.types.length<=1000000000):
  Calls Tryz.prog 31 #[.pointer (Js c.cb)] w fun en w'=>en = .returned (ftV (wNameP p p.types.zipIdx))/\Below w.heap.size w w':=by
 obtain⟨vt,vd,vc,vi,vl,ev,C,qd,qc,qi,ql⟩:=h.prg.cells;simp only[List.cons.injEq,and_true]at ev;rw[<- ev.1]at C;obtain⟨a1,G,c1,ab⟩:∃a n d,c.v0 = .slice a n d:=by
  obtain⟨_,_,e⟩:=C.sl;exact⟨_,_,_,e⟩
 rw[ab]at C;have ae:G=p.types.length:=by obtain⟨_,_,e⟩:=C.sl;cases e;rfl
 have av:=C.cap rfl;have aw:G<=1000000000:=by omega
 obtain⟨w1,S⟩:=JE (w.alloc (.cells #[Ji 0,Ji 0] 31));have b1:=bnw S;have n1:=nnw S;obtain⟨rb,Q⟩:=JF w.heap.size;rw[Q]at n1;have L:=hide Q;obtain⟨ag,al,am,an,ao,ap,aq,ar,au,xf⟩:=cl9 (Ct.later h b1).box;rw[ab]at ag;have ac:=hide (Ya S Q);have H0:=hide (Ya h (Ya C (Ya ae hts)));have H1:=hide (Ya b1 n1);clear h hts ev C qd qc qi ql ab ae S b1 n1 Q al am an ao ap aq ar au;go_enter Tryz.func31,Tryz.ntmps31;go_upto_region 1 with fail;rw[<- (Qa ac).1,(Qa ac).2];go_wp2_with fail;clear ag xf;go_loopw [11] (fun v wr=>∃i:Nat,v = Ji (i:Int)/\i<=G/\Hid (Below w.heap.size w wr/\wr.heap[rb]?=some (.cells #[Ji 0,Ji 0] 31 (0,0))/\wNameP p p.types.zipIdx=wNameP p (p.types.zipIdx.drop i))) (fun v _=>G - (intOf v).toNat)
 case atStart=>exact⟨0,rfl,Nat.zero_le _,hide ⟨(Qa H1).1,(Qa H1).2,rfl⟩⟩
 obtain⟨i,rfl,hi,HI⟩:=hrel;by_cases ax:i<G
 rotate_left
 ·
  have aj:i=G:=by omega
  subst aj;obtain⟨F,I,b⟩:=Qa HI;rw[List.drop_of_length_le (by simp[(Qa H0).2.2.1])]at b;have l:wNameP p p.types.zipIdx=(0,0):=b;clear b;obtain⟨W,o,sc⟩:=sc2 I (Ji 0) (Ji 0);obtain⟨Z,a2,yf⟩:=cl2 I;have j:=hide (Ya (sc.below F (Nat.le_of_eq (Qa L))) (Ya sc.box l));have x:=hide o;clear o sc l;go_wp2_with fail;rw[<- Qa x];obtain⟨y,z,uf⟩:=cl2 (Qa j).2.1;refine bodyPost_ret (v:=ftV (0,0)) (by simp[results,Tryz.results31,go_sem,y,z,ftV]) rfl ?_;exact⟨by rw[(Qa j).2.2],(Qa j).1⟩
 obtain⟨h,hL,hn,hts⟩:=Qa H0;obtain⟨F,I,b⟩:=Qa HI;obtain⟨⟨s,sb,ad,m⟩,hd⟩:∃d,p.types[i]?=some d:=⟨p.types[i]'(by omega),List.getElem?_eq_getElem _⟩;rw[Qiq hd,wNameP]at b;simp only at b;obtain⟨gb,cap,cs,e1,ai,hS,_,ah,O⟩:=(hL.later Qbe F).elem hd;obtain⟨ya,yn,yc,rfl,hY⟩:=ah;simp only[Value.slice.injEq]at e1;obtain⟨rfl,-,-⟩:=e1;have y0:wr.cell? (Ja gb (i*4))=some (str s):=O 0 _ rfl;have y1:wr.cell? (Ja gb (i*4+1))=some (str sb):=O 1 _ rfl;have y2:wr.cell? (Ja gb (i*4+2))=some (.slice ya yn yc):=O 2 _ rfl;have y3:wr.cell? (Ja gb (i*4+3))=some (Ji m):=O 3 _ rfl;obtain⟨u,T⟩:=JE (wr.alloc (.cells #[str s,str sb,.slice ya yn yc,Ji m] 54));have b3:=bnw T;have f:=nnw T;obtain⟨tb,aa⟩:=JF wr.heap.size;rw[aa]at f;have k:=F.trans (b3.mono F.size);have g:=(b3.block _ (Qaa I)).trans I;have h3:Cs n0 p c u:=Ct.later h k;obtain⟨q,r⟩:=JF (tyNo p s);have J:=hide (show ∀B,Below u.heap.size u B->B.cell? (Ja c.cb 6)=some (.map (some c.mt))/\B.cell? (Ja tb 0)=some (str s)/\B.cell? (Ja tb 3)=some (Ji m)/\(Instr.lookup 125 (.map (some c.mt)) (str s) false).run Tryz.prog B = .ok (Ji (q:Int)) B from fun B bW=>⟨(cl9 (Ct.later h3 bW).box).2.2.2.2.2.2.1,(cl4 ((bW.block _ (Qaa f)).trans f)).1,(cl4 ((bW.block _ (Qaa f)).trans f)).2.2.2.1,by rw[<- r];exact Cs.ty (Ct.later h3 bW) s⟩);have R:=Qho (Ct.later h3 (Below.refl _ u).drew) hd hts
 dsimp only at R
 obtain⟨a3,a4,a5,a6,zf⟩:=cl4 f;have H3:=hide (Ya k (Ya g (Ya f (Ya b r))));have D:=hide (Ya T aa);clear h hL hn hts F I hd r b ai hS O hY T b3 f aa k g h3;by_cases a7:s=[110,117,109,98,101,114]
 ·
  subst a7;obtain⟨k,g,f,b,r⟩:=Qa H3;have l:wNameP p p.types.zipIdx=(1,m):=by rw[b,if_pos (.inl rfl)]
  obtain⟨W,o,sc⟩:=sc2 g (Ji 1) (Ji m);obtain⟨Z,a2,yf⟩:=cl2 g;have j:=hide (Ya (sc.below k (Nat.le_of_eq (Qa L))) (Ya sc.box l));have x:=hide o;clear o sc k g f b r l;go_upto_region 4 with fail;rw[<- (Qa D).1,(Qa D).2];go_wp2_with fail;rw[<- Qa x];obtain⟨y,z,uf⟩:=cl2 (Qa j).2.1;refine bodyPost_ret (v:=ftV (1,m)) (by simp[results,Tryz.results31,go_sem,y,z,ftV]) rfl ?_;exact⟨by rw[(Qa j).2.2],(Qa j).1⟩
 by_cases a8:s=[115,121,109,98,111,108]
 ·
  subst a8;obtain⟨k,g,f,b,r⟩:=Qa H3;have l:wNameP p p.types.zipIdx=(1,m):=by rw[b,if_pos (.inr rfl)]
  obtain⟨W,o,sc⟩:=sc2 g (Ji 1) (Ji m);obtain⟨Z,a2,yf⟩:=cl2 g;have j:=hide (Ya (sc.below k (Nat.le_of_eq (Qa L))) (Ya sc.box l));have x:=hide o;clear o sc k g f b r l;go_upto_region 4 with fail;rw[<- (Qa D).1,(Qa D).2];go_wp2_with fail;rw[<- Qa x];obtain⟨y,z,uf⟩:=cl2 (Qa j).2.1;refine bodyPost_ret (v:=ftV (1,m)) (by simp[results,Tryz.results31,go_sem,y,z,ftV]) rfl ?_;exact⟨by rw[(Qa j).2.2],(Qa j).1⟩
 have g1:(s==[110,117,109,98,101,114])=false:=beq_eq_false_iff_ne.2 a7;have g2:(s==[115,121,109,98,111,108])=false:=beq_eq_false_iff_ne.2 a8;have a9:¬(s=tNum∨s=tSym):=fun e=>e.elim a7 a8;go_upto_region 4 with fail;rw[<- (Qa D).1,(Qa D).2];go_upto_region 6 with fail;clear y0 y1 y2 y3 a3 a4 a5 a6 zf g1 g2;refine Qaz (md:=[(0,true),(1,true),(2,true),(3,true),(4,true),(5,true),(6,true),(7,true),(8,true),(9,true),(10,true),(11,true),(12,true),(13,false),(14,true)]) (Below u.heap.size u) mixedO (by kernel_rfl) rfl (by kernel_rfl) (fun PP P=>?_)
 iterate 9 refine Qac rfl (by kernel_rfl) (fun w' hw=>by obtain⟨U,V,X,Y⟩:=Qa J w' hw;go_simp<;>rfl) ?_
 have t:=(Below.refl u.heap.size u).drew;by_cases a0:q=3+i
 ·
  have e1:(q:Int)=3+(i:Int):=by omega
  refine mT (v:=.bool false) (fun w' hw=>?_) ?_
  ·
   go_simp;exact(Qlh i (by omega)).symm
  iterate 3 refine Qac rfl (by kernel_rfl) (fun w' hw=>by obtain⟨U,V,X,Y⟩:=Qa J w' hw;go_simp<;>rfl) ?_
  refine Qak rfl t (fun K N=>?_);clear e1;go_simp;refine R.mono ?_;clear R;rintro en w4⟨rfl,b4⟩;show K _ _;refine N _ _ ?_;clear N K;have E:Below u.heap.size u w4:=t.trans b4;refine mT (v:=?_) (fun w' hw=>?_) ?_;rotate_left;· (obtain⟨U,V,X,Y⟩:=Qa J w' hw;go_simp<;>rfl)
  refine Qbc E (P _ _ ?_);clear P PP;obtain⟨k,g,f,b,r⟩:=Qa H3;have H:=(E.block _ (Qaa f)).trans f;have A:=(E.block _ (Qaa g)).trans g;have M:=k.trans (E.mono k.size);obtain⟨a3,a4,a5,a6,zf⟩:=cl4 H;by_cases hz:ad.zipIdx.any (ctP p i)=true
  ·
   rw[hz];have l:wNameP p p.types.zipIdx=(11,m):=by
    rw[b,if_neg a9,if_pos (.inr hz)]
   clear E t b4 k g f b r H;obtain⟨W,o,sc⟩:=sc2 A (Ji 11) (Ji m);obtain⟨Z,a2,yf⟩:=cl2 A;have j:=hide (Ya (sc.below M (Nat.le_of_eq (Qa L))) (Ya sc.box l));have x:=hide o;clear o sc l;go_wp2_with fail;rw[<- Qa x];obtain⟨y,z,uf⟩:=cl2 (Qa j).2.1;refine bodyPost_ret (v:=ftV (11,m)) (by simp[results,Tryz.results31,go_sem,y,z,ftV]) rfl ?_;exact⟨by rw[(Qa j).2.2],(Qa j).1⟩
  have ak:ad.zipIdx.any (ctP p i)=false:=by simpa using hz
  rw[ak];have l:wNameP p p.types.zipIdx=wNameP p (p.types.zipIdx.drop (i+1)):=by
   rw[b,if_neg a9,if_neg (fun e=>e.elim (fun e=>e (r.trans a0)) (fun e=>hz e))]
  have H5:=hide (Ya M (Ya A l));clear E t b4 k g f b r H A M l a3 a4 a5 a6 zf;go_wp2_with fail;go_roundw
  case rel=>exact⟨i+1,by congr 1,by omega,H5⟩
  case measure=>simp[intOf];omega
 refine mT (v:=.bool true) (fun w' hw=>?_) ?_
 ·
  go_simp;rw[Qlh i (by omega)];omega
 refine mT (v:=?_) (fun w' hw=>?_) ?_;rotate_left;· (obtain⟨U,V,X,Y⟩:=Qa J w' hw;go_simp<;>rfl)
 iterate 2 refine Qdv rfl (by kernel_rfl) ?_
 refine Qak rfl t (fun K N=>?_);clear R;go_simp;refine N _ _ ?_;clear N K;refine mT (v:=?_) (fun w' hw=>?_) ?_;rotate_left;· (obtain⟨U,V,X,Y⟩:=Qa J w' hw;go_simp<;>rfl)
 refine Qbc t (P _ _ ?_);clear P PP;obtain⟨k,g,f,b,r⟩:=Qa H3;obtain⟨w4,af⟩:=JE u.drew;rw[<- af]at t ⊢;have H:=(t.block _ (Qaa f)).trans f;have A:=(t.block _ (Qaa g)).trans g;clear af;have M:=k.trans (t.mono k.size);obtain⟨a3,a4,a5,a6,zf⟩:=cl4 H;have l:wNameP p p.types.zipIdx=(11,m):=by
  rw[b,if_neg a9,if_pos (.inl (fun e=>a0 (r.symm.trans e)))]
 clear t k g f b r H;obtain⟨W,o,sc⟩:=sc2 A (Ji 11) (Ji m);obtain⟨Z,a2,yf⟩:=cl2 A;have j:=hide (Ya (sc.below M (Nat.le_of_eq (Qa L))) (Ya sc.box l));have x:=hide o;clear o sc l;go_wp2_with fail;rw[<- Qa x];obtain⟨y,z,uf⟩:=cl2 (Qa j).2.1;refine bodyPost_ret (v:=ftV (11,m)) (by simp[results,Tryz.results31,go_sem,y,z,ftV]) rfl ?_;exact⟨by rw[(Qa j).2.2],(Qa j).1⟩
end
section
variable {n0:Nat}{p:Pg}{c:CatP}{w:World}
theorem Qin(h:Cs n0 p c w)(hts:p.types.length<=1000000000):
  Calls Tryz.prog 32 #[.pointer (Js c.cb)] w fun en w'=>en = .returned (ftV (wTypeP p p.types.zipIdx))/\Below w.heap.size w w':=by
 obtain⟨vt,vd,vc,vi,vl,ev,U,qd,qc,qi,ql⟩:=h.prg.cells;simp only[List.cons.injEq,and_true]at ev;rw[<- ev.1]at U;obtain⟨a1,k1,c1,ai⟩:∃a n d,c.v0 = .slice a n d:=by
  obtain⟨_,_,e⟩:=U.sl;exact⟨_,_,_,e⟩
 rw[ai]at U;have al:k1=p.types.length:=by obtain⟨_,_,e⟩:=U.sl;cases e;rfl
 have aq:=U.cap rfl;have ar:k1<=1000000000:=by omega
 obtain⟨w1,a9⟩:=JE (w.alloc (.cells #[Ji 0,Ji 0] 31));have b1:=bnw a9;have n1:=nnw a9;obtain⟨rb,a8⟩:=JF w.heap.size;rw[a8]at n1;have V:=hide a8;obtain⟨G,M,N,O,P,a5,Q,R,S,xf⟩:=cl9 (Ct.later h b1).box;rw[ai]at G;have ak:=hide (Ya a9 a8);have H0:=hide (Ya h (Ya U (Ya al hts)));have H1:=hide (Ya b1 n1);clear h hts ev U qd qc qi ql ai al a9 b1 n1 a8 M N O P a5 Q R S;go_enter Tryz.func32,Tryz.ntmps32;go_upto_region 1 with fail;rw[<- (Qa ak).1,(Qa ak).2];go_wp2_with fail;clear G xf;go_loopw [11] (fun v wr=>∃i:Nat,v = Ji (i:Int)/\i<=k1/\Hid (Below w.heap.size w wr/\wr.heap[rb]?=some (.cells #[Ji 0,Ji 0] 31 (0,0))/\wTypeP p p.types.zipIdx=wTypeP p (p.types.zipIdx.drop i))) (fun v _=>k1 - (intOf v).toNat)
 case atStart=>exact⟨0,rfl,Nat.zero_le _,hide ⟨(Qa H1).1,(Qa H1).2,rfl⟩⟩
 obtain⟨i,rfl,hi,HI⟩:=hrel;by_cases au:i<k1
 rotate_left
 ·
  have ao:i=k1:=by omega
  subst ao;obtain⟨Y,nr,b⟩:=Qa HI;rw[List.drop_of_length_le (by simp[(Qa H0).2.2.1])]at b;have f:wTypeP p p.types.zipIdx=(0,0):=b;clear b;obtain⟨W,q,sc⟩:=sc2 nr (Ji 0) (Ji 0);obtain⟨a6,a7,yf⟩:=cl2 nr;have g:=hide (Ya (sc.below Y (Nat.le_of_eq (Qa V))) (Ya sc.box f));have A:=hide q;clear q sc f;go_wp2_with fail;rw[<- Qa A];obtain⟨B,C,uf⟩:=cl2 (Qa g).2.1;refine bodyPost_ret (v:=ftV (0,0)) (by simp[results,Tryz.results32,go_sem,B,C,ftV]) rfl ?_;exact⟨by rw[(Qa g).2.2],(Qa g).1⟩
 obtain⟨h,hL,hn,hts⟩:=Qa H0;obtain⟨Y,nr,b⟩:=Qa HI;obtain⟨⟨nm,j,I,l⟩,hd⟩:∃d,p.types[i]?=some d:=⟨p.types[i]'(by omega),List.getElem?_eq_getElem _⟩;rw[Qiq hd,wTypeP]at b;simp only at b;obtain⟨gb,cap,cs,e1,an,hS,_,am,hc⟩:=(hL.later Qbe Y).elem hd;obtain⟨ya,yn,yc,rfl,hY⟩:=am;simp only[Value.slice.injEq]at e1;obtain⟨rfl,-,-⟩:=e1;have y0:wr.cell? (Ja gb (i*4))=some (str nm):=hc 0 _ rfl;have y1:wr.cell? (Ja gb (i*4+1))=some (str j):=hc 1 _ rfl;have y2:wr.cell? (Ja gb (i*4+2))=some (.slice ya yn yc):=hc 2 _ rfl;have y3:wr.cell? (Ja gb (i*4+3))=some (Ji l):=hc 3 _ rfl;obtain⟨w3,aa⟩:=JE (wr.alloc (.cells #[str nm,str j,.slice ya yn yc,Ji l] 54));have b3:=bnw aa;have k:=nnw aa;obtain⟨tb,ah⟩:=JF wr.heap.size;rw[ah]at k;have m:=Y.trans (b3.mono Y.size);have o:=(b3.block _ (Qaa nr)).trans nr;have r:Cs n0 p c w3:=Ct.later h m;have L:=Qjr r j;have a0:=Qgp r I (hY.later Qcg b3);have y:3+i<p.types.length+3:=by omega
 obtain⟨ab,ac,ad,ae,zf⟩:=cl4 k;have H3:=hide (Ya m (Ya o (Ya k (Ya b (Ya r (Ya y hn))))));have X:=hide (Ya aa ah);clear h hL hn hts Y nr hd b an hS hc hY aa b3 k ah m o r y;by_cases hs:j=[]
 ·
  have g1:List.isEmpty j=true:=by rw[hs];rfl
  have u:¬(j≠[]/\tyNo p j=0):=fun e=>e.1 hs;have HA:=hide u;clear L hs u;have u:=Qa HA;go_upto_region 4 with fail;rw[<- (Qa X).1,(Qa X).2];go_wp2_with fail;refine a0.mono ?_;clear a0 ab ac ad ae zf;rintro en w5⟨rfl,s⟩;obtain⟨m,o,k,b,r,y,D⟩:=Qa H3;have F:=(s.block _ (Qaa k)).trans k;have z:=(s.block _ (Qaa o)).trans o;have E:=m.trans (s.mono m.size);have t:Cs n0 p c w5:=Ct.later r s;obtain⟨ab,ac,ad,ae,zf⟩:=cl4 F;by_cases x:(I.any fun c=>noneP p c.fields)=true
  ·
   rw[x];have f:wTypeP p p.types.zipIdx=(6,l):=by rw[b,if_pos (.inr x)]
   clear m o k b r y D s F t u x;obtain⟨W,q,sc⟩:=sc2 z (Ji 6) (Ji l);obtain⟨a6,a7,yf⟩:=cl2 z;have g:=hide (Ya (sc.below E (Nat.le_of_eq (Qa V))) (Ya sc.box f));have A:=hide q;clear q sc f;go_wp2_with fail;rw[<- Qa A];obtain⟨B,C,uf⟩:=cl2 (Qa g).2.1;refine bodyPost_ret (v:=ftV (6,l)) (by simp[results,Tryz.results32,go_sem,B,C,ftV]) rfl ?_;exact⟨by rw[(Qa g).2.2],(Qa g).1⟩
  have J:(I.any fun c=>noneP p c.fields)=false:=by simpa using x
  rw[J];have H:¬((j≠[]/\tyNo p j=0)∨(I.any fun c=>noneP p c.fields)=true):=fun e=>e.elim u x;rw[if_neg H]at b;obtain⟨G,M,N,O,P,a5,Q,R,S,xf⟩:=cl9 t.box;obtain⟨a3,a4,aj,rf⟩:=t.row.cells y;have ag:=t.row.le;have af:=t.row.cm;unfold maxLen at af;rw[<- D]at a5 ag;obtain⟨kv,K⟩:=JF (kBase p (3+i));rw[K]at aj b;by_cases T:kv = -2
  ·
   subst T;have f:wTypeP p p.types.zipIdx=(12,l):=by rw[b,if_pos rfl]
   clear m o k b r y D s F t u x J H K G M N O P Q R S a3 a4;obtain⟨W,q,sc⟩:=sc2 z (Ji 12) (Ji l);obtain⟨a6,a7,yf⟩:=cl2 z;have g:=hide (Ya (sc.below E (Nat.le_of_eq (Qa V))) (Ya sc.box f));have A:=hide q;clear q sc f;go_wp2_with fail;rw[<- Qa A];obtain⟨B,C,uf⟩:=cl2 (Qa g).2.1;refine bodyPost_ret (v:=ftV (12,l)) (by simp[results,Tryz.results32,go_sem,B,C,ftV]) rfl ?_;exact⟨by rw[(Qa g).2.2],(Qa g).1⟩
  have ap:(kv == -2)=false:=beq_eq_false_iff_ne.2 T;have f:wTypeP p p.types.zipIdx=wTypeP p (p.types.zipIdx.drop (i+1)):=by rw[b,if_neg T]
  have H5:=hide (Ya E (Ya z f));clear m o k b r y D s F t u x J H K G M N O P Q R S a3 a4 E z f;go_wp2_with fail;go_roundw
  case rel=>exact⟨i+1,by congr 1,by omega,H5⟩
  case measure=>simp[intOf];omega
 have g1:List.isEmpty j=false:=by
  cases hq:j with
  |nil=>exact absurd hq hs
  |cons _ _=>rfl
 by_cases Z:tyNo p j=0
 ·
  have a2:decide (tyNo p j≠0)=false:=by simp[Z]
  rw[a2]at L;have u:j≠[]/\tyNo p j=0:=⟨hs,Z⟩;clear a0 Z a2;go_upto_region 4 with fail;rw[<- (Qa X).1,(Qa X).2];go_wp2_with fail;refine L.mono ?_;clear L;rintro en w4⟨rfl,rfl⟩;obtain⟨m,o,k,b,r,y,D⟩:=Qa H3;have f:wTypeP p p.types.zipIdx=(6,l):=by rw[b,if_pos (.inl u)]
  clear k b r y D u;obtain⟨W,q,sc⟩:=sc2 o (Ji 6) (Ji l);obtain⟨a6,a7,yf⟩:=cl2 o;have g:=hide (Ya (sc.below m (Nat.le_of_eq (Qa V))) (Ya sc.box f));have A:=hide q;clear q sc f;go_wp2_with fail;rw[<- Qa A];obtain⟨B,C,uf⟩:=cl2 (Qa g).2.1;refine bodyPost_ret (v:=ftV (6,l)) (by simp[results,Tryz.results32,go_sem,B,C,ftV]) rfl ?_;exact⟨by rw[(Qa g).2.2],(Qa g).1⟩
 have a2:decide (tyNo p j≠0)=true:=by simp[Z]
 rw[a2]at L;have u:¬(j≠[]/\tyNo p j=0):=fun e=>Z e.2;clear Z a2;go_upto_region 4 with fail;rw[<- (Qa X).1,(Qa X).2];go_wp2_with fail;refine L.mono ?_;clear L;rintro en w4⟨rfl,rfl⟩;go_wp2_with fail;refine a0.mono ?_;clear a0 ab ac ad ae zf;rintro en w5⟨rfl,s⟩;obtain⟨m,o,k,b,r,y,D⟩:=Qa H3;have F:=(s.block _ (Qaa k)).trans k;have z:=(s.block _ (Qaa o)).trans o;have E:=m.trans (s.mono m.size);have t:Cs n0 p c w5:=Ct.later r s;obtain⟨ab,ac,ad,ae,zf⟩:=cl4 F;by_cases x:(I.any fun c=>noneP p c.fields)=true
 ·
  rw[x];have f:wTypeP p p.types.zipIdx=(6,l):=by rw[b,if_pos (.inr x)]
  clear m o k b r y D s F t u x;obtain⟨W,q,sc⟩:=sc2 z (Ji 6) (Ji l);obtain⟨a6,a7,yf⟩:=cl2 z;have g:=hide (Ya (sc.below E (Nat.le_of_eq (Qa V))) (Ya sc.box f));have A:=hide q;clear q sc f;go_wp2_with fail;rw[<- Qa A];obtain⟨B,C,uf⟩:=cl2 (Qa g).2.1;refine bodyPost_ret (v:=ftV (6,l)) (by simp[results,Tryz.results32,go_sem,B,C,ftV]) rfl ?_;exact⟨by rw[(Qa g).2.2],(Qa g).1⟩
 have J:(I.any fun c=>noneP p c.fields)=false:=by simpa using x
 rw[J];have H:¬((j≠[]/\tyNo p j=0)∨(I.any fun c=>noneP p c.fields)=true):=fun e=>e.elim u x;rw[if_neg H]at b;obtain⟨G,M,N,O,P,a5,Q,R,S,xf⟩:=cl9 t.box;obtain⟨a3,a4,aj,rf⟩:=t.row.cells y;have ag:=t.row.le;have af:=t.row.cm;unfold maxLen at af;rw[<- D]at a5 ag;obtain⟨kv,K⟩:=JF (kBase p (3+i));rw[K]at aj b;by_cases T:kv = -2
 ·
  subst T;have f:wTypeP p p.types.zipIdx=(12,l):=by rw[b,if_pos rfl]
  clear m o k b r y D s F t u x J H K G M N O P Q R S a3 a4;obtain⟨W,q,sc⟩:=sc2 z (Ji 12) (Ji l);obtain⟨a6,a7,yf⟩:=cl2 z;have g:=hide (Ya (sc.below E (Nat.le_of_eq (Qa V))) (Ya sc.box f));have A:=hide q;clear q sc f;go_wp2_with fail;rw[<- Qa A];obtain⟨B,C,uf⟩:=cl2 (Qa g).2.1;refine bodyPost_ret (v:=ftV (12,l)) (by simp[results,Tryz.results32,go_sem,B,C,ftV]) rfl ?_;exact⟨by rw[(Qa g).2.2],(Qa g).1⟩
 have ap:(kv == -2)=false:=beq_eq_false_iff_ne.2 T;have f:wTypeP p p.types.zipIdx=wTypeP p (p.types.zipIdx.drop (i+1)):=by rw[b,if_neg T]
 have H5:=hide (Ya E (Ya z f));clear m o k b r y D s F t u x J H K G M N O P Q R S a3 a4 E z f;go_wp2_with fail;go_roundw
 case rel=>exact⟨i+1,by congr 1,by omega,H5⟩
 case measure=>simp[intOf];omega
end
end
end Go.Proofs.YtkhndlnadhggkaaGreat
