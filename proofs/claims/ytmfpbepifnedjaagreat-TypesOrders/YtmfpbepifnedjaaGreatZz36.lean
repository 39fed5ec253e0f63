/- types. -/
import Derived.Test.YtmfpbepifnedjaaGreatZz01
import Derived.Test.YtmfpbepifnedjaaGreatZz35
set_option maxRecDepth 100000
set_option maxHeartbeats 32000000
namespace Go.Proofs.YtmfpbepifnedjaaGreat
section
open Go.RowKit Go.Maps
theorem Qkn{α : Type}{xs:List α}{i:Nat}{x:α}(h:xs[i]?=some x):xs.drop i=x :: xs.drop (i+1):=by
 obtain⟨a,e⟩:=List.getElem?_eq_some_iff.1 h
 rw[List.drop_eq_getElem_cons a,e]
section
variable {S:Nat->Prop}{w:World}
theorem Qk(fs:List Fld){a:Option Addr}{n cp:Nat}(hL:LsAt PF 2 S w (.slice a n cp) fs):
  Calls Tryz.prog 75 #[.slice a n cp] w fun en w'=>en = .returned (.bool (twiceP fs []))/\Below w.heap.size w w':=by
 have a4:=hL.cap rfl
 have x:n=fs.length:=by obtain⟨_,_,e⟩:=hL.sl;cases e;rfl
 have L:=Qky mI w (n:Int)
 obtain⟨N,E⟩:=JE (w.alloc (.map #[] 0))
 have Y:=bnw E
 have M:MpS N w.heap.size []:=by rw[E];exact MpS.new w
 obtain⟨y,m⟩:=JF w.heap.size
 rw[m]at M L
 rw[<- E]at L
 have a1:=hide m
 have H1:=hide (show ∃b met,MpS N y b/\(∀t,(asc b t).isSome=decide (t∈met))/\twiceP fs []=twiceP (fs.drop 0) met/\Below w.heap.size w N from ⟨[],[],M,fun t=>by simp[asc_nil],rfl,Y⟩)
 have W:=hide (Ya hL x)
 clear hL x E Y M m
 go_enter Tryz.func75,Tryz.ntmps75
 go_wp2_with fail
 clear L
 go_loopw [13] (fun v wr=>∃i:Nat,v = Ji (i:Int)/\i<=n/\Hid (∃b met,MpS wr y b/\(∀t,(asc b t).isSome=decide (t∈met))/\twiceP fs []=twiceP (fs.drop i) met/\Below w.heap.size w wr)) (fun v _=>n - (intOf v).toNat)
 case atStart=>exact⟨0,rfl,Nat.zero_le _,H1⟩
 obtain⟨i,rfl,hi,X⟩:=hrel
 by_cases a5:i<n
 ·
  obtain⟨hL,x⟩:=Qa W
  obtain⟨b,met,l,o,h,j⟩:=Qa X
  obtain⟨f,I⟩:∃f,fs[i]?=some f:=⟨fs[i]'(by omega),List.getElem?_eq_getElem _⟩
  obtain⟨gb,cap,cs,Z,P,hS,_,a2,H⟩:=(hL.later Qbb j).elem I
  have a0:cs=[str f.name,str f.type]:=a2
  subst a0
  simp only[Value.slice.injEq]at Z
  obtain⟨rfl,-,-⟩:=Z
  have y0:wr.cell? (Ja gb (i*2))=some (str f.name):=H 0 _ rfl
  have y1:wr.cell? (Ja gb (i*2+1))=some (str f.type):=H 1 _ rfl
  obtain⟨O,r⟩:=JE (wr.alloc (.cells #[str f.name,str f.type] 67))
  have G:=bnw r
  have z:=nnw r
  obtain⟨tb,D⟩:=JF wr.heap.size
  rw[D]at z
  have d:=j.trans (G.mono j.size)
  have B:=l.keep (G.block _ l.lt)
  have s:=Qeb uS mI zI O y b f.name B true
  rw[if_pos rfl]at s
  obtain⟨a8,a9,zf⟩:=cl2 z
  have g:=o f.name
  rw[Qkn I,twiceP]at h
  have A:=hide (Ya r D)
  cases k:asc b f.name with
  |some u=>
   rw[k]at s g
   simp only[Option.getD_some,Option.isSome_some]at s g
   have F:=hide (show twiceP fs []=true/\Below w.heap.size w O from ⟨by rw[h,<- g];rfl,d⟩)
   clear hL x l o h j I P hS H r G z D d B g k
   go_upto_region 5 with fail
   rw[<- (Qa A).1,(Qa A).2]
   go_wp2_with fail
   go_ret
   refine⟨?_,(Qa F).2⟩
   rw[(Qa F).1]
   rfl
  |none=>
   rw[k]at s g
   simp only[Option.getD_none,Option.isSome_none]at s g
   obtain⟨w4,hr,Q,T,R,U,V,K⟩:=Qqv uS mI O y b f.name (Ji (i:Int)) B k
   have m:=Qa a1
   obtain⟨a6,a7,kf⟩:=cl2 ((K tb (fun e=>by have:=l.lt;omega)).trans z)
   have F:=hide (show ∃b met,MpS w4 y b/\(∀t,(asc b t).isSome=decide (t∈met))/\twiceP fs []=twiceP (fs.drop (i+1)) met/\Below w.heap.size w w4 from by
    refine⟨_,f.name :: met,Q,fun t=>?_,?_,⟨R.trans d.os,U.trans d.tape,V.trans d.output,by rw[T];exact d.size,fun q J=>(K q (by omega)).trans (d.block q J)⟩⟩
    ·
     rw[Qcm,Qev]
     have C:=o t
     by_cases e:f.name=t
     ·
      subst e
      rw[k]
      simp
     cases J:asc b t with
     |some u=>
      rw[J]at C
      have:t∈met:=by simpa using C.symm
      simp[this]
     |none=>
      rw[J]at C
      have:t∉met:=by simpa using C.symm
      simp[this,e,Ne.symm e]
    rw[h,<- g]
    rfl)
   clear hL x l o h j I P hS H r G z D d B g k Q T R U V K m
   go_upto_region 5 with fail
   rw[<- (Qa A).1,(Qa A).2]
   go_wp2_with fail
   go_roundw
   case rel=>exact⟨i+1,by congr 1,by omega,F⟩
   case measure=>simp[intOf];omega
 have a3:i=n:=by omega
 subst a3
 go_wp2_with fail
 go_ret
 obtain⟨b,met,l,o,h,j⟩:=Qa X
 rw[(Qa W).2,List.drop_length]at h
 refine⟨?_,j⟩
 rw[h]
 rfl
end
theorem Qgy{α : Type}{l:List (Txt × α)}{t:Txt}{v:α}(h:(t,v)∈l):∃u,asc l t=some u:=by
 unfold asc
 cases e:l.find? fun q=>decide (q.1=t) with
 |some q=>exact⟨q.2,rfl⟩
 |none=>
  rw[List.find?_eq_none]at e
  exact absurd (decide_eq_true (rfl:t=t)) (e _ h)
theorem ct_mem{ts:List Typ}{i k:Nat}{t:Typ}{x:Ctr}(h1:ts[i]?=some t)(h2:t.ctors[k]?=some x):(x.name,(i,k))∈ctRow ts:=by
 unfold ctRow
 rw[List.mem_flatMap]
 refine⟨(t,i),?_,?_⟩
 ·rw[List.mk_mem_zipIdx_iff_getElem?];exact h1
 rw[List.mem_map]
 exact⟨(x,k),by rw[List.mk_mem_zipIdx_iff_getElem?];exact h2,rfl⟩
def ctP(p:Pg)(i:Nat)(c:Ctr×Nat):Bool:=decide (asc (ctRow p.types) c.1.name≠some (i,c.2)) || twiceP c.1.fields []
section
variable {n0:Nat}{p:Pg}{c:CatP}{w:World}
theorem Cs.ct(h:Cs n0 p c w){t:Txt}{q:Nat×Nat}(e:asc (ctRow p.types) t=some q):(Instr.lookup 126 (.map (some c.mc)) (str t) false).run Tryz.prog w = .ok (.agg #[Ji (q.1:Int),Ji (q.2:Int)]) w:=by
 obtain⟨d,a,b⟩:=h.mc
 rw[Qeb uS mP zP w c.mc d t a false,b t,e]
 rfl
theorem Qhu(h:Cs n0 p c w){i:Nat}{t:Typ}(ht:p.types[i]?=some t)(hts:p.types.length<=1000000000):
  Calls Tryz.prog 72 #[.pointer (Js c.cb),Ji (i:Int)] w fun en w'=>en = .returned (.bool (t.ctors.zipIdx.any (ctP p i)))/\Below w.heap.size w w':=by
 obtain⟨vt,vd,vc,vi,vl,ev,s,qd,qc,qi,ql⟩:=h.prg.cells
 simp only[List.cons.injEq,and_true]at ev
 rw[<- ev.1]at s
 obtain⟨a0,k0,c0,Y⟩:∃a n d,c.v0 = .slice a n d:=by
  obtain⟨_,_,e⟩:=s.sl
  exact⟨_,_,_,e⟩
 rw[Y]at s
 have a3:k0=p.types.length:=by obtain⟨_,_,e⟩:=s.sl;cases e;rfl
 have ag:=s.cap rfl
 have ai:i<k0:=by rw[a3];exact(List.getElem?_eq_some_iff.1 ht).1
 have aj:k0<=1000000000:=by omega
 obtain⟨gb,cap,ah,j,V,hS,_,U,z⟩:=s.elem ht
 obtain⟨xa,u,xc,rfl,r⟩:=U
 simp only[Value.slice.injEq]at j
 obtain⟨rfl,-,-⟩:=j
 have y2:w.cell? (Ja gb (i*4+2))=some (.slice xa u xc):=z 2 _ rfl
 have al:=r.cap (a:=xa) (n:=u) (c:=xc) rfl
 have J:u=t.ctors.length:=by obtain⟨_,_,e⟩:=r.sl;cases e;rfl
 obtain⟨a5,a7,a8,a9,aa,ab,ac,ad,ae,xf⟩:=cl9 h.box
 rw[Y]at a5
 have H0:=hide (Ya h (Ya ht (Ya r J)))
 clear h ht r J hts ev s qd qc qi ql Y a3 V hS z a7 a8 a9 aa ab ac ad ae
 go_enter Tryz.func72,Tryz.ntmps72
 go_wp2_with fail
 clear a5 xf y2
 go_loopw [17] (fun v wr=>∃k:Nat,v = Ji (k:Int)/\k<=u/\Hid (Below w.heap.size w wr/\(t.ctors.zipIdx.take k).any (ctP p i)=false)) (fun v _=>u - (intOf v).toNat)
 case atStart=>exact⟨0,rfl,Nat.zero_le _,hide ⟨Below.refl _ _,rfl⟩⟩
 obtain⟨k,rfl,hk,HI⟩:=hrel
 by_cases ak:k<u
 ·
  obtain⟨h,ht,r,J⟩:=Qa H0
  obtain⟨y,D⟩:=Qa HI
  obtain⟨f,R⟩:∃f,t.ctors[k]?=some f:=⟨t.ctors[k]'(by omega),List.getElem?_eq_getElem _⟩
  have l:t.ctors.zipIdx[k]?=some (f,k):=by rw[List.getElem?_zipIdx,R];simp
  obtain⟨q,A⟩:=Qgy (ct_mem ht R)
  obtain⟨hb,af,cs,j,V,hS,_,U,z⟩:=(r.later Qci y).elem R
  obtain⟨ya,yn,yc,rfl,hY⟩:=U
  simp only[Value.slice.injEq]at j
  obtain⟨rfl,-,-⟩:=j
  have y0:wr.cell? (Ja hb (k*2))=some (str f.name):=z 0 _ rfl
  have y1:wr.cell? (Ja hb (k*2+1))=some (.slice ya yn yc):=z 1 _ rfl
  obtain⟨b,I⟩:=JE (wr.alloc (.cells #[str f.name,.slice ya yn yc] 97))
  have Z:=bnw I
  have B:=nnw I
  obtain⟨tb,W⟩:=JF wr.heap.size
  rw[W]at B
  have g:=y.trans (Z.mono y.size)
  have h3:Cs n0 p c b:=Ct.later h g
  have E:=hide (show ∀m,Below b.heap.size b m->m.cell? (Ja c.cb 8)=some (.map (some c.mc))/\m.cell? (Ja tb 0)=some (str f.name)/\m.cell? (Ja tb 1)=some (.slice ya yn yc)/\(Instr.lookup 126 (.map (some c.mc)) (str f.name) false).run Tryz.prog m = .ok (.agg #[Ji (q.1:Int),Ji (q.2:Int)]) m from fun m Q=>⟨(cl9 (Ct.later h3 Q).box).2.2.2.2.2.2.2.2.1,(cl2 ((Q.block _ (Qaa B)).trans B)).1,(cl2 ((Q.block _ (Qaa B)).trans B)).2.1,Cs.ct (Ct.later h3 Q) A⟩)
  have X:=Qk f.fields ((hY.later Qbb Z).later Qbb (Below.refl _ b).drew)
  have H:=Qff l D
  have x:=hide (Ya g (Ya H (Ya l A)))
  have a1:=hide (Ya I W)
  clear h ht r J y D R l V hS z hY I Z B W g h3 H A
  go_upto_region 4 with fail
  rw[<- (Qa a1).1,(Qa a1).2]
  clear y0 y1
  refine Qaz (md:=[(0,true),(1,true),(2,true),(3,true),(4,true),(5,true),(6,true),(7,true),(8,true),(9,true),(10,true),(11,true),(12,true),(13,true),(14,false),(15,true)]) (Below b.heap.size b) mixedO (by kernel_rfl) rfl (by kernel_rfl) (fun PP G=>?_)
  iterate 10 refine Qac rfl (by kernel_rfl) (fun w' hw=>by obtain⟨L,M,N,O⟩:=Qa E w' hw;go_simp<;>rfl) ?_
  have o:=(Below.refl b.heap.size b).drew
  by_cases C:q=(i,k)
  ·
   have j:(q.1:Int)=(i:Int):=by rw[C]
   have e2:(q.2:Int)=(k:Int):=by rw[C]
   refine mT (v:=.bool false) (fun w' hw=>?_) ?_
   ·go_simp
   iterate 3 refine Qac rfl (by kernel_rfl) (fun w' hw=>by obtain⟨L,M,N,O⟩:=Qa E w' hw;go_simp<;>rfl) ?_
   refine Qal rfl o (fun K F=>?_)
   clear j e2
   go_simp
   refine X.mono ?_
   clear X
   rintro en w4⟨rfl,b4⟩
   show K _ _
   refine F _ _ ?_
   clear F K
   have T:Below b.heap.size b w4:=o.trans b4
   refine mT (v:=?_) (fun w' hw=>?_) ?_;rotate_left;· (obtain⟨L,M,N,O⟩:=Qa E w' hw;go_simp<;>rfl)
   refine Qbc T (G _ _ ?_)
   clear G PP
   have P:=hide T
   clear T o b4
   have a2:ctP p i (f,k)=twiceP f.fields []:=by
    unfold ctP
    rw[(Qa x).2.2.2,C]
    simp
   by_cases hz:twiceP f.fields []=true
   ·
    rw[hz]
    go_wp2_with fail
    go_ret
    obtain⟨g,H,l,A⟩:=Qa x
    refine⟨?_,g.trans ((Qa P).mono g.size)⟩
    have:t.ctors.zipIdx.any (ctP p i)=true:=by
     rw[List.any_eq_true]
     exact⟨(f,k),List.mem_of_getElem? l,a2.trans hz⟩
    rw[this]
    rfl
   have a4:twiceP f.fields []=false:=by simpa using hz
   rw[a4]
   go_wp2_with fail
   go_roundw
   case rel=>exact⟨k+1,by congr 1,by omega,hide ⟨(Qa x).1.trans ((Qa P).mono (Qa x).1.size),(Qa x).2.1.trans (a2.trans a4)⟩⟩
   case measure=>simp[intOf];omega
  refine mT (v:=.bool true) (fun w' hw=>?_) ?_
  ·
   go_simp
   exact fun j e2=>C (Prod.ext (by omega) (by omega))
  refine mT (v:=?_) (fun w' hw=>?_) ?_;rotate_left;· (obtain⟨L,M,N,O⟩:=Qa E w' hw;go_simp<;>rfl)
  iterate 2 refine Qe rfl (by kernel_rfl) ?_
  refine Qal rfl o (fun K F=>?_)
  clear X
  go_simp
  refine F _ _ ?_
  clear F K
  refine mT (v:=?_) (fun w' hw=>?_) ?_;rotate_left;· (obtain⟨L,M,N,O⟩:=Qa E w' hw;go_simp<;>rfl)
  refine Qbc o (G _ _ ?_)
  clear G PP
  have P:=hide o
  clear o
  go_wp2_with fail
  go_ret
  obtain⟨g,H,l,A⟩:=Qa x
  refine⟨?_,g.trans ((Qa P).mono g.size)⟩
  have:t.ctors.zipIdx.any (ctP p i)=true:=by
   rw[List.any_eq_true]
   refine⟨(f,k),List.mem_of_getElem? l,?_⟩
   unfold ctP
   rw[A]
   simp[C]
  rw[this]
  rfl
 have a6:k=u:=by omega
 subst a6
 go_wp2_with fail
 go_ret
 obtain⟨y,D⟩:=Qa HI
 rw[(Qa H0).2.2.2,List.take_of_length_le (by simp)]at D
 refine⟨?_,y⟩
 rw[D]
 rfl
end
theorem dc_mem{ds:List Dcl}{i:Nat}{d:Dcl}(h:ds[i]?=some d):(d.name,i)∈dcRow ds:=by
 unfold dcRow
 rw[List.mem_map]
 exact⟨(d,i),by rw[List.mk_mem_zipIdx_iff_getElem?];exact h,rfl⟩
theorem Qiz{α : Type}{xs:List α}{i:Nat}{x:α}(h:xs[i]?=some x):xs.zipIdx.drop i=(x,i) :: xs.zipIdx.drop (i+1):=Qkn (by rw[List.getElem?_zipIdx,h];simp)
section
variable {n0:Nat}{p:Pg}{c:CatP}{w:World}
theorem Cs.dcf(h:Cs n0 p c w){t:Txt}{q:Nat}(e:asc (dcRow p.decls) t=some q):(Instr.lookup 125 (.map (some c.md)) (str t) false).run Tryz.prog w = .ok (Ji (q:Int)) w:=by
 obtain⟨d,a,b⟩:=h.md
 rw[Qeb uS mI zI w c.md d t a false,b t,e]
 rfl
theorem Qiu(h:Cs n0 p c w):
  Calls Tryz.prog 33 #[.pointer (Js c.cb)] w fun en w'=>en = .returned (ftV (wDeclP p p.decls.zipIdx))/\Below w.heap.size w w':=by
 obtain⟨vt,vd,vc,vi,vl,ev,qt,F,qc,qi,ql⟩:=h.prg.cells
 simp only[List.cons.injEq,and_true]at ev
 rw[<- ev.2.1]at F
 obtain⟨a1,P,c1,aa⟩:∃a n d,c.v1 = .slice a n d:=by
  obtain⟨_,_,e⟩:=F.sl
  exact⟨_,_,_,e⟩
 rw[aa]at F
 have ag:P=p.decls.length:=by obtain⟨_,_,e⟩:=F.sl;cases e;rfl
 have az:=F.cap rfl
 obtain⟨w1,U⟩:=JE (w.alloc (.cells #[Ji 0,Ji 0] 31))
 have b1:=bnw U
 have n1:=nnw U
 obtain⟨rb,T⟩:=JF w.heap.size
 rw[T]at n1
 have Q:=hide T
 obtain⟨ap,ak,aq,ar,au,av,aw,ax,ay,xf⟩:=cl9 (Ct.later h b1).box
 rw[aa]at ak
 have ae:=hide (Ya U T)
 have H0:=hide (Ya h (Ya F ag))
 have H1:=hide (Ya b1 n1)
 clear h ev qt F qc qi ql aa ag U b1 n1 T ap aq ar au av aw ax ay
 go_enter Tryz.func33,Tryz.ntmps33
 go_upto_region 1 with fail
 rw[<- (Qa ae).1,(Qa ae).2]
 go_wp2_with fail
 clear ak xf
 go_loopw [11] (fun v wr=>∃i:Nat,v = Ji (i:Int)/\i<=P/\Hid (Below w.heap.size w wr/\wr.heap[rb]?=some (.cells #[Ji 0,Ji 0] 31 (0,0))/\wDeclP p p.decls.zipIdx=wDeclP p (p.decls.zipIdx.drop i))) (fun v _=>P - (intOf v).toNat)
 case atStart=>exact⟨0,rfl,Nat.zero_le _,hide ⟨(Qa H1).1,(Qa H1).2,rfl⟩⟩
 obtain⟨i,rfl,hi,HI⟩:=hrel
 by_cases aA:i<P
 ·
  obtain⟨h,hL,hn⟩:=Qa H0
  obtain⟨H,J,b⟩:=Qa HI
  obtain⟨d,hd⟩:∃d,p.decls[i]?=some d:=⟨p.decls[i]'(by omega),List.getElem?_eq_getElem _⟩
  obtain⟨q,hq⟩:=Qgy (dc_mem hd)
  rw[Qiz hd,wDeclP,hq]at b
  obtain⟨N,cap,cs,e1,an,hS,_,am,I⟩:=(hL.later Qau H).elem hd
  obtain⟨ya,yn,yc,rfl,y⟩:=am
  simp only[Value.slice.injEq]at e1
  obtain⟨rfl,-,-⟩:=e1
  have y0:wr.cell? (Ja N (i*5))=some (str d.name):=I 0 _ rfl
  have y1:wr.cell? (Ja N (i*5+1))=some (.slice ya yn yc):=I 1 _ rfl
  have y2:wr.cell? (Ja N (i*5+2))=some (.bool d.input):=I 2 _ rfl
  have y3:wr.cell? (Ja N (i*5+3))=some (.bool d.output):=I 3 _ rfl
  have y4:wr.cell? (Ja N (i*5+4))=some (Ji d.at_):=I 4 _ rfl
  obtain⟨x,V⟩:=JE (wr.alloc (.cells #[str d.name,.slice ya yn yc,.bool d.input,.bool d.output,Ji d.at_] 63))
  have M:=bnw V
  have g:=nnw V
  obtain⟨tb,a8⟩:=JF wr.heap.size
  rw[a8]at g
  have m:=H.trans (M.mono H.size)
  have o:=(M.block _ (Qaa J)).trans J
  have t:Cs n0 p c x:=Ct.later h m
  have L:=hide (show ∀E,Below x.heap.size x E->E.cell? (Ja c.cb 7)=some (.map (some c.md))/\E.cell? (Ja tb 0)=some (str d.name)/\E.cell? (Ja tb 1)=some (.slice ya yn yc)/\(Instr.lookup 125 (.map (some c.md)) (str d.name) false).run Tryz.prog E = .ok (Ji (q:Int)) E from fun E bW=>⟨(cl9 (Ct.later t bW).box).2.2.2.2.2.2.2.1,(cl5 ((bW.block _ (Qaa g)).trans g)).1,(cl5 ((bW.block _ (Qaa g)).trans g)).2.1,Cs.dcf (Ct.later t bW) hq⟩)
  have a9:=Qk d.cols ((y.later Qbb M).later Qbb (Below.refl _ x).drew)
  have H3:=hide (Ya m (Ya o (Ya g (Ya t (Ya b (y.later Qbb M))))))
  have af:=hide (Ya V a8)
  clear h hL hn H J hd hq b an hS I y V M g a8 m o t
  go_upto_region 4 with fail
  rw[<- (Qa af).1,(Qa af).2]
  clear y0 y1 y2 y3 y4
  refine Qaz (md:=[(0,true),(1,true),(2,true),(3,true),(4,true),(5,true),(6,true),(7,true),(8,true),(9,true),(10,true),(11,true),(12,false),(13,true)]) (Below x.heap.size x) mixedO (by kernel_rfl) rfl (by kernel_rfl) (fun PP R=>?_)
  iterate 8 refine Qac rfl (by kernel_rfl) (fun w' hw=>by obtain⟨X,Y,Z,a2⟩:=Qa L w' hw;go_simp<;>rfl) ?_
  have r:=(Below.refl x.heap.size x).drew
  by_cases a0:q=i
  ·
   subst a0
   refine mT (v:=.bool false) (fun w' hw=>?_) ?_
   ·go_simp
   iterate 3 refine Qac rfl (by kernel_rfl) (fun w' hw=>by obtain⟨X,Y,Z,a2⟩:=Qa L w' hw;go_simp<;>rfl) ?_
   refine Qal rfl r (fun K O=>?_)
   go_simp
   refine a9.mono ?_
   clear a9
   rintro en w4⟨rfl,b4⟩
   show K _ _
   refine O _ _ ?_
   clear O K
   have z:Below x.heap.size x w4:=r.trans b4
   refine mT (v:=?_) (fun w' hw=>?_) ?_;rotate_left;· (obtain⟨X,Y,Z,a2⟩:=Qa L w' hw;go_simp<;>rfl)
   refine Qbc z (R _ _ ?_)
   clear R PP
   obtain⟨m,o,g,t,b,y⟩:=Qa H3
   have s:=(z.block _ (Qaa g)).trans g
   have f:=(z.block _ (Qaa o)).trans o
   have k:=m.trans (z.mono m.size)
   obtain⟨a3,a4,a5,a6,a7,zf⟩:=cl5 s
   by_cases hz:twiceP d.cols []=true
   ·
    rw[hz]
    have j:wDeclP p p.decls.zipIdx=(11,d.at_):=by
     rw[b,if_pos (.inr hz)]
    clear z r b4 m o g t b y s
    obtain⟨W,u,sc⟩:=sc2 f (Ji 11) (Ji d.at_)
    obtain⟨ac,ad,yf⟩:=cl2 f
    have l:=hide (Ya (sc.below k (Nat.le_of_eq (Qa Q))) (Ya sc.box j))
    have B:=hide u
    clear u sc
    go_wp2_with fail
    rw[<- Qa B]
    obtain⟨C,D,uf⟩:=cl2 (Qa l).2.1
    refine bodyPost_ret (v:=ftV (11,d.at_)) (by simp[results,Tryz.results33,go_sem,C,D,ftV]) rfl ?_
    exact⟨by rw[(Qa l).2.2],(Qa l).1⟩
   have ab:twiceP d.cols []=false:=by simpa using hz
   rw[ab]
   have G:=Qhd (Ct.later t z) d.cols (y.later Qbb z)
   by_cases hy:noneP p d.cols=true
   ·
    have j:wDeclP p p.decls.zipIdx=(6,d.at_):=by
     rw[b,if_neg (by simp[ab]),if_pos hy]
    rw[hy]at G
    have HS:=hide (Ya k (Ya f (Ya s j)))
    clear z r b4 m o g t b y s f k j
    go_wp2_with fail
    refine G.mono ?_
    clear G a3 a4 a5 a6 a7 zf
    rintro en w5⟨rfl,A⟩
    obtain⟨k,f,s,j⟩:=Qa HS
    have n5:=(A.block _ (Qaa s)).trans s
    have aj:=(A.block _ (Qaa f)).trans f
    have al:=k.trans (A.mono k.size)
    obtain⟨a3,a4,a5,a6,a7,zf⟩:=cl5 n5
    clear k f s A n5
    obtain⟨W,u,sc⟩:=sc2 aj (Ji 6) (Ji d.at_)
    obtain⟨ac,ad,yf⟩:=cl2 aj
    have l:=hide (Ya (sc.below al (Nat.le_of_eq (Qa Q))) (Ya sc.box j))
    have B:=hide u
    clear u sc
    go_wp2_with fail
    rw[<- Qa B]
    obtain⟨C,D,uf⟩:=cl2 (Qa l).2.1
    refine bodyPost_ret (v:=ftV (6,d.at_)) (by simp[results,Tryz.results33,go_sem,C,D,ftV]) rfl ?_
    exact⟨by rw[(Qa l).2.2],(Qa l).1⟩
   have ai:noneP p d.cols=false:=by simpa using hy
   have j:wDeclP p p.decls.zipIdx=wDeclP p (p.decls.zipIdx.drop (q+1)):=by
    rw[b,if_neg (by simp[ab]),if_neg (by simp[ai])]
   rw[ai]at G
   have HS:=hide (Ya k (Ya f j))
   clear z r b4 m o g t b y s f k j
   go_wp2_with fail
   refine G.mono ?_
   clear G a3 a4 a5 a6 a7 zf
   rintro en w5⟨rfl,A⟩
   obtain⟨k,f,j⟩:=Qa HS
   have H5:=hide (Ya (k.trans (A.mono k.size)) (Ya ((A.block _ (Qaa f)).trans f) j))
   clear k f A j
   go_wp2_with fail
   go_roundw
   case rel=>exact⟨q+1,by congr 1,by omega,H5⟩
   case measure=>simp[intOf];omega
  refine mT (v:=.bool true) (fun w' hw=>?_) ?_
  ·
   go_simp
   try omega
  refine mT (v:=?_) (fun w' hw=>?_) ?_;rotate_left;· (obtain⟨X,Y,Z,a2⟩:=Qa L w' hw;go_simp<;>rfl)
  iterate 2 refine Qe rfl (by kernel_rfl) ?_
  refine Qal rfl r (fun K O=>?_)
  clear a9
  go_simp
  refine O _ _ ?_
  clear O K
  refine mT (v:=?_) (fun w' hw=>?_) ?_;rotate_left;· (obtain⟨X,Y,Z,a2⟩:=Qa L w' hw;go_simp<;>rfl)
  refine Qbc r (R _ _ ?_)
  clear R PP
  obtain⟨m,o,g,t,b,y⟩:=Qa H3
  obtain⟨w4,ah⟩:=JE x.drew
  rw[<- ah]at r ⊢
  have s:=(r.block _ (Qaa g)).trans g
  have f:=(r.block _ (Qaa o)).trans o
  clear ah
  have k:=m.trans (r.mono m.size)
  obtain⟨a3,a4,a5,a6,a7,zf⟩:=cl5 s
  have j:wDeclP p p.decls.zipIdx=(11,d.at_):=by
   rw[b,if_pos (.inl (by simp[a0]))]
  clear r m o g t b y s
  obtain⟨W,u,sc⟩:=sc2 f (Ji 11) (Ji d.at_)
  obtain⟨ac,ad,yf⟩:=cl2 f
  have l:=hide (Ya (sc.below k (Nat.le_of_eq (Qa Q))) (Ya sc.box j))
  have B:=hide u
  clear u sc
  go_wp2_with fail
  rw[<- Qa B]
  obtain⟨C,D,uf⟩:=cl2 (Qa l).2.1
  refine bodyPost_ret (v:=ftV (11,d.at_)) (by simp[results,Tryz.results33,go_sem,C,D,ftV]) rfl ?_
  exact⟨by rw[(Qa l).2.2],(Qa l).1⟩
 have ao:i=P:=by omega
 subst ao
 obtain⟨H,J,b⟩:=Qa HI
 rw[List.drop_of_length_le (by simp[(Qa H0).2.2])]at b
 have j:wDeclP p p.decls.zipIdx=(0,0):=b
 clear b
 obtain⟨W,u,sc⟩:=sc2 J (Ji 0) (Ji 0)
 obtain⟨ac,ad,yf⟩:=cl2 J
 have l:=hide (Ya (sc.below H (Nat.le_of_eq (Qa Q))) (Ya sc.box j))
 have B:=hide u
 clear u sc
 go_wp2_with fail
 rw[<- Qa B]
 obtain⟨C,D,uf⟩:=cl2 (Qa l).2.1
 refine bodyPost_ret (v:=ftV (0,0)) (by simp[results,Tryz.results33,go_sem,C,D,ftV]) rfl ?_
 exact⟨by rw[(Qa l).2.2],(Qa l).1⟩
end
section
variable {n0:Nat}{p:Pg}{c:CatP}{w:World}
theorem Qiv(h:Cs n0 p c w)(hts:p.types.length<=1000000000):
  Calls Tryz.prog 31 #[.pointer (Js c.cb)] w fun en w'=>en = .returned (ftV (wNameP p p.types.zipIdx))/\Below w.heap.size w w':=by
 obtain⟨vt,vd,vc,vi,vl,ev,C,qd,qc,qi,ql⟩:=h.prg.cells
 simp only[List.cons.injEq,and_true]at ev
 rw[<- ev.1]at C
 obtain⟨a1,G,c1,ac⟩:∃a n d,c.v0 = .slice a n d:=by
  obtain⟨_,_,e⟩:=C.sl
  exact⟨_,_,_,e⟩
 rw[ac]at C
 have af:G=p.types.length:=by obtain⟨_,_,e⟩:=C.sl;cases e;rfl
 have aw:=C.cap rfl
 have ax:G<=1000000000:=by omega
 obtain⟨w1,T⟩:=JE (w.alloc (.cells #[Ji 0,Ji 0] 31))
 have b1:=bnw T
 have n1:=nnw T
 obtain⟨rb,Q⟩:=JF w.heap.size
 rw[Q]at n1
 have L:=hide Q
 obtain⟨ah,am,an,ao,ap,aq,ar,au,av,xf⟩:=cl9 (Ct.later h b1).box
 rw[ac]at ah
 have ad:=hide (Ya T Q)
 have H0:=hide (Ya h (Ya C (Ya af hts)))
 have H1:=hide (Ya b1 n1)
 clear h hts ev C qd qc qi ql ac af T b1 n1 Q am an ao ap aq ar au av
 go_enter Tryz.func31,Tryz.ntmps31
 go_upto_region 1 with fail
 rw[<- (Qa ad).1,(Qa ad).2]
 go_wp2_with fail
 clear ah xf
 go_loopw [11] (fun v wr=>∃i:Nat,v = Ji (i:Int)/\i<=G/\Hid (Below w.heap.size w wr/\wr.heap[rb]?=some (.cells #[Ji 0,Ji 0] 31 (0,0))/\wNameP p p.types.zipIdx=wNameP p (p.types.zipIdx.drop i))) (fun v _=>G - (intOf v).toNat)
 case atStart=>exact⟨0,rfl,Nat.zero_le _,hide ⟨(Qa H1).1,(Qa H1).2,rfl⟩⟩
 obtain⟨i,rfl,hi,HI⟩:=hrel
 by_cases ay:i<G
 ·
  obtain⟨h,hL,hn,hts⟩:=Qa H0
  obtain⟨F,I,b⟩:=Qa HI
  obtain⟨⟨s,sb,ae,m⟩,hd⟩:∃d,p.types[i]?=some d:=⟨p.types[i]'(by omega),List.getElem?_eq_getElem _⟩
  rw[Qiz hd,wNameP]at b
  simp only at b
  obtain⟨gb,cap,cs,e1,aj,hS,_,ai,O⟩:=(hL.later Qbg F).elem hd
  obtain⟨ya,yn,yc,rfl,hY⟩:=ai
  simp only[Value.slice.injEq]at e1
  obtain⟨rfl,-,-⟩:=e1
  have y0:wr.cell? (Ja gb (i*4))=some (str s):=O 0 _ rfl
  have y1:wr.cell? (Ja gb (i*4+1))=some (str sb):=O 1 _ rfl
  have y2:wr.cell? (Ja gb (i*4+2))=some (.slice ya yn yc):=O 2 _ rfl
  have y3:wr.cell? (Ja gb (i*4+3))=some (Ji m):=O 3 _ rfl
  obtain⟨u,U⟩:=JE (wr.alloc (.cells #[str s,str sb,.slice ya yn yc,Ji m] 54))
  have b3:=bnw U
  have f:=nnw U
  obtain⟨tb,ab⟩:=JF wr.heap.size
  rw[ab]at f
  have k:=F.trans (b3.mono F.size)
  have g:=(b3.block _ (Qaa I)).trans I
  have h3:Cs n0 p c u:=Ct.later h k
  obtain⟨q,r⟩:=JF (tyNo p s)
  have J:=hide (show ∀B,Below u.heap.size u B->B.cell? (Ja c.cb 6)=some (.map (some c.mt))/\B.cell? (Ja tb 0)=some (str s)/\B.cell? (Ja tb 3)=some (Ji m)/\(Instr.lookup 125 (.map (some c.mt)) (str s) false).run Tryz.prog B = .ok (Ji (q:Int)) B from fun B bW=>⟨(cl9 (Ct.later h3 bW).box).2.2.2.2.2.2.1,(cl4 ((bW.block _ (Qaa f)).trans f)).1,(cl4 ((bW.block _ (Qaa f)).trans f)).2.2.2.1,by rw[<- r];exact Cs.ty (Ct.later h3 bW) s⟩)
  have R:=Qhu (Ct.later h3 (Below.refl _ u).drew) hd hts
  dsimp only at R
  obtain⟨a4,a5,a6,a7,zf⟩:=cl4 f
  have H3:=hide (Ya k (Ya g (Ya f (Ya b r))))
  have D:=hide (Ya U ab)
  clear h hL hn hts F I hd r b aj hS O hY U b3 f ab k g h3
  by_cases a8:s=[110,117,109,98,101,114]
  ·
   subst a8
   obtain⟨k,g,f,b,r⟩:=Qa H3
   have l:wNameP p p.types.zipIdx=(1,m):=by rw[b,if_pos (.inl rfl)]
   obtain⟨W,o,sc⟩:=sc2 g (Ji 1) (Ji m)
   obtain⟨a2,a3,yf⟩:=cl2 g
   have j:=hide (Ya (sc.below k (Nat.le_of_eq (Qa L))) (Ya sc.box l))
   have x:=hide o
   clear o sc k g f b r l
   go_upto_region 4 with fail
   rw[<- (Qa D).1,(Qa D).2]
   go_wp2_with fail
   rw[<- Qa x]
   obtain⟨y,z,uf⟩:=cl2 (Qa j).2.1
   refine bodyPost_ret (v:=ftV (1,m)) (by simp[results,Tryz.results31,go_sem,y,z,ftV]) rfl ?_
   exact⟨by rw[(Qa j).2.2],(Qa j).1⟩
  by_cases a9:s=[115,121,109,98,111,108]
  ·
   subst a9
   obtain⟨k,g,f,b,r⟩:=Qa H3
   have l:wNameP p p.types.zipIdx=(1,m):=by rw[b,if_pos (.inr rfl)]
   obtain⟨W,o,sc⟩:=sc2 g (Ji 1) (Ji m)
   obtain⟨a2,a3,yf⟩:=cl2 g
   have j:=hide (Ya (sc.below k (Nat.le_of_eq (Qa L))) (Ya sc.box l))
   have x:=hide o
   clear o sc k g f b r l
   go_upto_region 4 with fail
   rw[<- (Qa D).1,(Qa D).2]
   go_wp2_with fail
   rw[<- Qa x]
   obtain⟨y,z,uf⟩:=cl2 (Qa j).2.1
   refine bodyPost_ret (v:=ftV (1,m)) (by simp[results,Tryz.results31,go_sem,y,z,ftV]) rfl ?_
   exact⟨by rw[(Qa j).2.2],(Qa j).1⟩
  have g1:(s==[110,117,109,98,101,114])=false:=beq_eq_false_iff_ne.2 a8
  have g2:(s==[115,121,109,98,111,108])=false:=beq_eq_false_iff_ne.2 a9
  have aa:¬(s=tNum∨s=tSym):=fun e=>e.elim a8 a9
  go_upto_region 4 with fail
  rw[<- (Qa D).1,(Qa D).2]
  go_upto_region 6 with fail
  clear y0 y1 y2 y3 a4 a5 a6 a7 zf g1 g2
  refine Qaz (md:=[(0,true),(1,true),(2,true),(3,true),(4,true),(5,true),(6,true),(7,true),(8,true),(9,true),(10,true),(11,true),(12,true),(13,false),(14,true)]) (Below u.heap.size u) mixedO (by kernel_rfl) rfl (by kernel_rfl) (fun PP P=>?_)
  iterate 9 refine Qac rfl (by kernel_rfl) (fun w' hw=>by obtain⟨V,X,Y,Z⟩:=Qa J w' hw;go_simp<;>rfl) ?_
  have t:=(Below.refl u.heap.size u).drew
  by_cases a0:q=3+i
  ·
   have e1:(q:Int)=3+(i:Int):=by omega
   refine mT (v:=.bool false) (fun w' hw=>?_) ?_
   ·
    go_simp
    exact(Qlm i (by omega)).symm
   iterate 3 refine Qac rfl (by kernel_rfl) (fun w' hw=>by obtain⟨V,X,Y,Z⟩:=Qa J w' hw;go_simp<;>rfl) ?_
   refine Qal rfl t (fun K N=>?_)
   clear e1
   go_simp
   refine R.mono ?_
   clear R
   rintro en w4⟨rfl,b4⟩
   show K _ _
   refine N _ _ ?_
   clear N K
   have E:Below u.heap.size u w4:=t.trans b4
   refine mT (v:=?_) (fun w' hw=>?_) ?_;rotate_left;· (obtain⟨V,X,Y,Z⟩:=Qa J w' hw;go_simp<;>rfl)
   refine Qbc E (P _ _ ?_)
   clear P PP
   obtain⟨k,g,f,b,r⟩:=Qa H3
   have H:=(E.block _ (Qaa f)).trans f
   have A:=(E.block _ (Qaa g)).trans g
   have M:=k.trans (E.mono k.size)
   obtain⟨a4,a5,a6,a7,zf⟩:=cl4 H
   by_cases hz:ae.zipIdx.any (ctP p i)=true
   ·
    rw[hz]
    have l:wNameP p p.types.zipIdx=(11,m):=by
     rw[b,if_neg aa,if_pos (.inr hz)]
    clear E t b4 k g f b r H
    obtain⟨W,o,sc⟩:=sc2 A (Ji 11) (Ji m)
    obtain⟨a2,a3,yf⟩:=cl2 A
    have j:=hide (Ya (sc.below M (Nat.le_of_eq (Qa L))) (Ya sc.box l))
    have x:=hide o
    clear o sc l
    go_wp2_with fail
    rw[<- Qa x]
    obtain⟨y,z,uf⟩:=cl2 (Qa j).2.1
    refine bodyPost_ret (v:=ftV (11,m)) (by simp[results,Tryz.results31,go_sem,y,z,ftV]) rfl ?_
    exact⟨by rw[(Qa j).2.2],(Qa j).1⟩
   have al:ae.zipIdx.any (ctP p i)=false:=by simpa using hz
   rw[al]
   have l:wNameP p p.types.zipIdx=wNameP p (p.types.zipIdx.drop (i+1)):=by
    rw[b,if_neg aa,if_neg (fun e=>e.elim (fun e=>e (r.trans a0)) (fun e=>hz e))]
   have H5:=hide (Ya M (Ya A l))
   clear E t b4 k g f b r H A M l a4 a5 a6 a7 zf
   go_wp2_with fail
   go_roundw
   case rel=>exact⟨i+1,by congr 1,by omega,H5⟩
   case measure=>simp[intOf];omega
  refine mT (v:=.bool true) (fun w' hw=>?_) ?_
  ·
   go_simp
   rw[Qlm i (by omega)]
   omega
  refine mT (v:=?_) (fun w' hw=>?_) ?_;rotate_left;· (obtain⟨V,X,Y,Z⟩:=Qa J w' hw;go_simp<;>rfl)
  iterate 2 refine Qe rfl (by kernel_rfl) ?_
  refine Qal rfl t (fun K N=>?_)
  clear R
  go_simp
  refine N _ _ ?_
  clear N K
  refine mT (v:=?_) (fun w' hw=>?_) ?_;rotate_left;· (obtain⟨V,X,Y,Z⟩:=Qa J w' hw;go_simp<;>rfl)
  refine Qbc t (P _ _ ?_)
  clear P PP
  obtain⟨k,g,f,b,r⟩:=Qa H3
  obtain⟨w4,ag⟩:=JE u.drew
  rw[<- ag]at t ⊢
  have H:=(t.block _ (Qaa f)).trans f
  have A:=(t.block _ (Qaa g)).trans g
  clear ag
  have M:=k.trans (t.mono k.size)
  obtain⟨a4,a5,a6,a7,zf⟩:=cl4 H
  have l:wNameP p p.types.zipIdx=(11,m):=by
   rw[b,if_neg aa,if_pos (.inl (fun e=>a0 (r.symm.trans e)))]
  clear t k g f b r H
  obtain⟨W,o,sc⟩:=sc2 A (Ji 11) (Ji m)
  obtain⟨a2,a3,yf⟩:=cl2 A
  have j:=hide (Ya (sc.below M (Nat.le_of_eq (Qa L))) (Ya sc.box l))
  have x:=hide o
  clear o sc l
  go_wp2_with fail
  rw[<- Qa x]
  obtain⟨y,z,uf⟩:=cl2 (Qa j).2.1
  refine bodyPost_ret (v:=ftV (11,m)) (by simp[results,Tryz.results31,go_sem,y,z,ftV]) rfl ?_
  exact⟨by rw[(Qa j).2.2],(Qa j).1⟩
 have ak:i=G:=by omega
 subst ak
 obtain⟨F,I,b⟩:=Qa HI
 rw[List.drop_of_length_le (by simp[(Qa H0).2.2.1])]at b
 have l:wNameP p p.types.zipIdx=(0,0):=b
 clear b
 obtain⟨W,o,sc⟩:=sc2 I (Ji 0) (Ji 0)
 obtain⟨a2,a3,yf⟩:=cl2 I
 have j:=hide (Ya (sc.below F (Nat.le_of_eq (Qa L))) (Ya sc.box l))
 have x:=hide o
 clear o sc l
 go_wp2_with fail
 rw[<- Qa x]
 obtain⟨y,z,uf⟩:=cl2 (Qa j).2.1
 refine bodyPost_ret (v:=ftV (0,0)) (by simp[results,Tryz.results31,go_sem,y,z,ftV]) rfl ?_
 exact⟨by rw[(Qa j).2.2],(Qa j).1⟩
end
end
end Go.Proofs.YtmfpbepifnedjaaGreat
