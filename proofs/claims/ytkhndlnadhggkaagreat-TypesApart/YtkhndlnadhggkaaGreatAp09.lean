/- The document's flattener. -/
import Derived.Test.YtkhndlnadhggkaaGreatAp01
import Derived.Test.YtkhndlnadhggkaaGreatAp08
import Derived.Test.YtkhndlnadhggkaaGreatAp07
set_option maxRecDepth 100000
set_option maxHeartbeats 32000000
namespace Go.Proofs.YtkhndlnadhggkaaGreat
section
open Go.RowKit Go.Maps
theorem Row.mv{α : Type}{p:PS α}{k:Nat}{T:TypeId}{base:Nat}(hp:PSok p){S S':Nat->Prop}{w w':World}{sl:Value}{acc:List α}(h:Row p k T base S w sl acc)(hs:w.heap.size<=w'.heap.size)(hb:∀b,b<w.heap.size->(S b∨some b=sl.ownBlock)->w'.heap[b]?=w.heap[b]?)(hS:∀b,b<w.heap.size->S b->S' b):Row p k T base S' w' sl acc:=by
 obtain⟨q,o,v⟩:=h;refine⟨q,⟨o.1,?_⟩,?_⟩
 ·
  rcases o.2 with e|⟨g,cap,r,j,s,n,t⟩
  ·exact .inl e
  ·exact .inr ⟨g,cap,r,j,s,(hb g (Qaa n) (.inr (by rw[j];rfl))).trans n,t⟩
 have u:=(v.mono hp (fun b c hs=>(⟨hs,c⟩:S b/\b<w.heap.size))).same hp hs (fun b hs c=>hb b c (.inl hs.1));exact u.mono hp (fun b _ hs=>hS b hs.2 hs.1)
def FS(wb:Nat)(dv cv:Value)(b:Nat):Prop:=b≠wb/\some b≠dv.ownBlock/\some b≠cv.ownBlock
structure FK(wb:Nat)(dv cv dv' cv':Value)(w w':World):Prop where
 os:w'.os=w.os
 tape:w'.tape=w.tape
 output:w'.output=w.output
 size:w.heap.size<=w'.heap.size
 block:∀q,q<w.heap.size->FS wb dv cv q->w'.heap[q]?=w.heap[q]?
 fs:∀q,q<w.heap.size->FS wb dv cv q->FS wb dv' cv' q
section
variable {wb:Nat}{dv cv dv' cv' d2 c2:Value}{w w' w2:World}
theorem FK.of_below(b:Below w.heap.size w w'):FK wb dv cv dv cv w w':=⟨b.os,b.tape,b.output,b.size,fun q c _=>b.block q c,fun _ _ h=>h⟩
theorem FK.trans(h:FK wb dv cv dv' cv' w w')(k:FK wb dv' cv' d2 c2 w' w2):FK wb dv cv d2 c2 w w2:=
 ⟨k.os.trans h.os,k.tape.trans h.tape,k.output.trans h.output,Nat.le_trans h.size k.size,fun q b c=>(k.block q (by have:=h.size;omega) (h.fs q b c)).trans (h.block q b c),fun q b c=>k.fs q (by have:=h.size;omega) (h.fs q b c)⟩
theorem PSok.fk{α : Type}{p:PS α}(hp:PSok p){cs:List Value}{x:α}(h:p (FS wb dv cv) w cs x)(k:FK wb dv cv dv' cv' w w'):p (FS wb dv' cv') w' cs x:=
 hp.mono _ _ _ _ _ (hp.same _ _ _ _ _ (hp.mono _ (fun b=>FS wb dv cv b/\b<w.heap.size) _ _ _ h (fun _ e c=>⟨c,e⟩)) k.size (fun b c e=>k.block b e c.1)) (fun b _ c=>k.fs b c.2 c.1)
theorem LsAt.fk{α : Type}{p:PS α}{j:Nat}(hp:PSok p){v:Value}{xs:List α}(h:LsAt p j (FS wb dv cv) w v xs)(k:FK wb dv cv dv' cv' w w'):LsAt p j (FS wb dv' cv') w' v xs:=
 ((h.mono hp (S':=fun b=>FS wb dv cv b/\b<w.heap.size) (fun _ e c=>⟨c,e⟩)).same hp k.size (fun b c e=>k.block b e c.1)).mono hp (fun b _ c=>k.fs b c.2 c.1)
end
structure Fl(R:Nat->Prop)(wb:Nat)(p0:Option Addr)(m0 o0:Nat)(p1:Option Addr)(m1 o1:Nat)(p2:Option Addr)(m2 o2:Nat)(p3:Option Addr)(m3 o3:Nat)(p4:Option Addr)(m4 o4:Nat)(p:Pg)(tv:Value)(Bd:Nat->Prop)(w:World)(dv cv:Value)(ds:List Dcl)(cs:List Cls)(y f:Int)(m:Nat):Prop where
 box:w.heap[wb]?=some (.cells #[.slice p0 m0 o0,.slice p1 m1 o1,.slice p2 m2 o2,.slice p3 m3 o3,.slice p4 m4 o4,tv,dv,.slice none 0 0,.slice none 0 0,cv,.int .i64 y,.int .i64 f,.int .i64 (m:Int)] 80 (0,0))
 hp:PgS (fun b=>Bd b/\b<wb) w [.slice p0 m0 o0,.slice p1 m1 o1,.slice p2 m2 o2,.slice p3 m3 o3,.slice p4 m4 o4] p
 rd:Row PDc 5 63 (wb+1) (fun b=>R b/\FS wb dv cv b) w dv ds
 rc:Row PCl 5 45 (wb+1) (fun b=>R b/\FS wb dv cv b) w cv cs
 ap:Apt dv cv
 z:y=0->f=0
 nd:ds.length<=97
 nc:cs.length<=97
 sz:∀x∈cs,ltBs x.body<=131074
section
variable {R:Nat->Prop}{wb:Nat}{p0:Option Addr}{m0 o0:Nat}{p1:Option Addr}{m1 o1:Nat}{p2:Option Addr}{m2 o2:Nat}{p3:Option Addr}{m3 o3:Nat}{p4:Option Addr}{m4 o4:Nat}{p:Pg}{tv:Value}{Bd:Nat->Prop}{w w':World}{dv cv:Value}{ds:List Dcl}{cs:List Cls}{y f:Int}{m:Nat}
theorem Fl.lt(h:Fl R wb p0 m0 o0 p1 m1 o1 p2 m2 o2 p3 m3 o3 p4 m4 o4 p tv Bd w dv cv ds cs y f m):wb<w.heap.size:=Qaa h.box
theorem Fl.dlt(h:Fl R wb p0 m0 o0 p1 m1 o1 p2 m2 o2 p3 m3 o3 p4 m4 o4 p tv Bd w dv cv ds cs y f m)(b:Nat)(e:some b=dv.ownBlock∨some b=cv.ownBlock):wb<b/\b<w.heap.size:=by
 rcases e with e|e
 ·have:=h.rd.lt b e;omega
 ·have:=h.rc.lt b e;omega
theorem Fl.keep(h:Fl R wb p0 m0 o0 p1 m1 o1 p2 m2 o2 p3 m3 o3 p4 m4 o4 p tv Bd w dv cv ds cs y f m)(hs:w.heap.size<=w'.heap.size)(hb:∀q,q<w.heap.size->(R q∨q<=wb∨some q=dv.ownBlock∨some q=cv.ownBlock)->w'.heap[q]?=w.heap[q]?):Fl R wb p0 m0 o0 p1 m1 o1 p2 m2 o2 p3 m3 o3 p4 m4 o4 p tv Bd w' dv cv ds cs y f m:=
 ⟨(hb _ h.lt (.inr (.inl (Nat.le_refl _)))).trans h.box,Qal.same _ _ _ _ _ h.hp hs (fun q c b=>hb q b (.inr (.inl (Nat.le_of_lt c.2)))),h.rd.mv Qav hs (fun q b c=>hb q b (by rcases c with e|e;exact .inl e.1;exact .inr (.inr (.inl e)))) (fun _ _ hs=>hs),h.rc.mv Qaw hs (fun q b c=>hb q b (by rcases c with e|e;exact .inl e.1;exact .inr (.inr (.inr e)))) (fun _ _ hs=>hs),h.ap,h.z,h.nd,h.nc,h.sz⟩
theorem Fl.later(h:Fl R wb p0 m0 o0 p1 m1 o1 p2 m2 o2 p3 m3 o3 p4 m4 o4 p tv Bd w dv cv ds cs y f m)(b:Below w.heap.size w w'):Fl R wb p0 m0 o0 p1 m1 o1 p2 m2 o2 p3 m3 o3 p4 m4 o4 p tv Bd w' dv cv ds cs y f m:=
 h.keep b.size (fun q c _=>b.block q c)
theorem Fl.mono{R':Nat->Prop}(h:Fl R wb p0 m0 o0 p1 m1 o1 p2 m2 o2 p3 m3 o3 p4 m4 o4 p tv Bd w dv cv ds cs y f m)(hR:∀b,b<w.heap.size->R b->R' b):Fl R' wb p0 m0 o0 p1 m1 o1 p2 m2 o2 p3 m3 o3 p4 m4 o4 p tv Bd w dv cv ds cs y f m:=
 ⟨h.box,h.hp,h.rd.mv Qav (Nat.le_refl _) (fun _ _ _=>rfl) (fun b e c=>⟨hR b e c.1,c.2⟩),h.rc.mv Qaw (Nat.le_refl _) (fun _ _ _=>rfl) (fun b e c=>⟨hR b e c.1,c.2⟩),h.ap,h.z,h.nd,h.nc,h.sz⟩
theorem Fl.cell(h:Fl R wb p0 m0 o0 p1 m1 o1 p2 m2 o2 p3 m3 o3 p4 m4 o4 p tv Bd w dv cv ds cs y f m)(hs:w'.heap.size=w.heap.size)(ho:∀q,q≠wb->w'.heap[q]?=w.heap[q]?){y' f':Int}{m':Nat}(hb:w'.heap[wb]?=some (.cells #[.slice p0 m0 o0,.slice p1 m1 o1,.slice p2 m2 o2,.slice p3 m3 o3,.slice p4 m4 o4,tv,dv,Jn,Jn,cv,Ji y',Ji f',Ji (m':Int)] 80 (0,0)))(hz:y'=0->f'=0):Fl R wb p0 m0 o0 p1 m1 o1 p2 m2 o2 p3 m3 o3 p4 m4 o4 p tv Bd w' dv cv ds cs y' f' m':=
 ⟨hb,Qal.same _ _ _ _ _ h.hp (by omega) (fun q b _=>ho q (by have c:q<wb:=b.2;omega)),h.rd.mv Qav (by omega) (fun q _ b=>ho q (by rcases b with e|e;exact e.2.1;have:=(h.rd.lt q e).1;omega)) (fun _ _ hs=>hs),h.rc.mv Qaw (by omega) (fun q _ b=>ho q (by rcases b with e|e;exact e.2.1;have:=(h.rc.lt q e).1;omega)) (fun _ _ hs=>hs),h.ap,hz,h.nd,h.nc,h.sz⟩
theorem Kp.cell(hs:w'.heap.size=w.heap.size)(ho:∀q,q≠wb->w'.heap[q]?=w.heap[q]?)(h1:w'.os=w.os)(h2:w'.tape=w.tape)(h3:w'.output=w.output):Kp wb w w':=
 ⟨h1,h2,h3,by omega,fun q _ b=>ho q b⟩
theorem FK.of_kp(k:Kp wb w w'):FK wb dv cv dv cv w w':=⟨k.os,k.tape,k.output,k.size,fun q b c=>k.block q b c.1,fun _ _ h=>h⟩
theorem Fl.addD(h:Fl R wb p0 m0 o0 p1 m1 o1 p2 m2 o2 p3 m3 o3 p4 m4 o4 p tv Bd w dv cv ds cs y f m){x:Dcl}{xs:List Value}(hl:xs.length=5)(h1:∀c∈xs,c.oneCell'=true)(hx:PDc (fun b=>R b/\FS wb dv cv b) w xs x)(hn:ds.length+1<=97):
  ∃g c w8,(Builtin.append_ #[23,23] 23 #[dv,.slice (Js w.heap.size) 1 1]).run Tryz.prog (w.alloc (.cells xs.toArray 63)) = .ok (.slice (Js g) (ds.length+1) c) w8/\w8.heap[wb]?=some (.cells #[.slice p0 m0 o0,.slice p1 m1 o1,.slice p2 m2 o2,.slice p3 m3 o3,.slice p4 m4 o4,tv,dv,Jn,Jn,cv,Ji y,Ji f,Ji (m:Int)] 80 (0,0))/\Fl R wb p0 m0 o0 p1 m1 o1 p2 m2 o2 p3 m3 o3 p4 m4 o4 p tv Bd (w8.setCell (Ja wb 6) (.slice (Js g) (ds.length+1) c)) (.slice (Js g) (ds.length+1) c) cv (ds++[x]) cs y f m/\FK wb dv cv (.slice (Js g) (ds.length+1) c) cv w (w8.setCell (Ja wb 6) (.slice (Js g) (ds.length+1) c)):=by
 obtain⟨i0,V,Y,P,J⟩:=info51;have X:Tryz.prog.underlying 23=some (.slice 63):=by kernel_rfl
 have o:Below w.heap.size w (w.alloc (.cells xs.toArray 63)):=(Below.refl _ w).alloc (Nat.le_refl _) _;have H:=heap_alloc_new w (.cells xs.toArray 63);have O:(w.alloc (.cells xs.toArray 63)).heap.size=w.heap.size+1:=by simp
 have n:=h.later o;have a1:=h.lt;obtain⟨W,U⟩:=JE (w.alloc (.cells xs.toArray 63));rw[<- U]at o H O n ⊢;have Q:PDc (fun b=>(R b/\FS wb dv cv b)/\b<W.heap.size) W xs x:=Qav.mono _ _ _ _ _ (Qav.same _ _ _ _ _ (Qav.mono _ (fun b=>(R b/\FS wb dv cv b)/\b<w.heap.size) _ _ _ hx (fun _ hl j=>⟨j,hl⟩)) o.size (fun q _ k=>o.block q k)) (fun b hl j=>⟨j.1,hl⟩);have M:Row PDc 5 63 (wb+1) (fun b=>(R b/\FS wb dv cv b)/\b<W.heap.size) W dv ds:=n.rd.mv Qav (Nat.le_refl _) (fun _ _ _=>rfl) (fun _ hl j=>⟨j,hl⟩);obtain⟨r,w8,E,u,B,⟨g,c,T⟩,A⟩:=M.app Qav X V Y P J rfl (by decide) (by decide) (fun b j=>j.1.2.2.1) hl h1 Q (by omega) (by omega) w.heap.size H;subst T;have G:=n.rd.lt;have a0:=u.size;have F:w8.heap[wb]?=some (.cells #[.slice p0 m0 o0,.slice p1 m1 o1,.slice p2 m2 o2,.slice p3 m3 o3,.slice p4 m4 o4,tv,dv,Jn,Jn,cv,Ji y,Ji f,Ji (m:Int)] 80 (0,0)):=(u.block wb (by omega) (fun e=>by have:=(G wb e).1;omega)).trans n.box;obtain⟨r,L⟩:=JE (Value.slice (Js g) (ds.length+1) c);refine⟨g,c,w8,E,F,?_⟩;rw[<- L]at B A ⊢;have N:=A.lt;have v:∀q,q≠wb->(w8.setCell (Ja wb 6) r).heap[q]?=w8.heap[q]?:=fun q k=>hpS k;have s9:(w8.setCell (Ja wb 6) r).heap.size=w8.heap.size:=by simp
 have D:∀b,b<W.heap.size->FS wb dv cv b->FS wb r cv b:=fun b hb s=>by
  have E:some b≠r.ownBlock:=fun e=>by
   rcases B with t|t
   ·exact s.2.1 (e.trans t)
   rw[t]at e;simp only[Option.some.injEq]at e;omega
  exact⟨s.1,E,s.2.2⟩
 have S:(w8.setCell (Ja wb 6) r).heap[wb]?=some (.cells #[.slice p0 m0 o0,.slice p1 m1 o1,.slice p2 m2 o2,.slice p3 m3 o3,.slice p4 m4 o4,tv,r,Jn,Jn,cv,Ji y,Ji f,Ji (m:Int)] 80 (0,0)):=(Qah F 6 r).trans rfl;have r1:Row PDc 5 63 (wb+1) (fun b=>R b/\FS wb r cv b) (w8.setCell (Ja wb 6) r) r (ds++[x]):=A.mv Qav (by omega) (fun q _ k=>v q (by rcases k with e|e;exact e.1.2.1;have:=(N q e).1;omega)) (fun b _ j=>⟨j.1.1,D b j.2 j.1.2⟩)
 have r2:=n.rc.mv Qaw (w':=w8.setCell (Ja wb 6) r) (S':=fun b=>R b/\FS wb r cv b) (by omega) (fun q hl k=>by
  have I:q≠wb/\some q≠dv.ownBlock:=by
   rcases k with e|e
   ·exact⟨e.2.1,e.2.2.1⟩
   ·exact⟨by have:=(n.rc.lt q e).1;omega,(fun t=>h.ap q t e)⟩
  exact(v q I.1).trans (u.block q hl I.2)) (fun b hl j=>⟨j.1,D b hl j.2⟩)
 have Z:PgS (fun b=>Bd b/\b<wb) (w8.setCell (Ja wb 6) r) [.slice p0 m0 o0,.slice p1 m1 o1,.slice p2 m2 o2,.slice p3 m3 o3,.slice p4 m4 o4] p:=Qal.same _ _ _ _ _ n.hp (by omega) (fun q k hl=>(v q (by have K:q<wb:=k.2;omega)).trans (u.block q hl (fun e=>by have:=(G q e).1;have K:q<wb:=k.2;omega)));refine⟨⟨S,Z,r1,r2,?_,h.z,by rw[List.length_append,List.length_singleton];omega,h.nc,h.sz⟩,⟨u.os.trans o.os,u.tape.trans o.tape,u.output.trans o.output,by omega,fun q k j=>(v q j.1).trans ((u.block q (by omega) j.2.1).trans (o.block q k)),fun q k j=>D q (by omega) j⟩⟩;exact fun b C t=>by rcases B with e|e;exact n.ap b (C.trans e) t;rw[e]at C;simp only[Option.some.injEq]at C;have:=(n.rc.lt b t).2;omega
theorem Fl.addC(h:Fl R wb p0 m0 o0 p1 m1 o1 p2 m2 o2 p3 m3 o3 p4 m4 o4 p tv Bd w dv cv ds cs y f m){x:Cls}{xs:List Value}(hl:xs.length=5)(h1:∀c∈xs,c.oneCell'=true)(hx:PCl (fun b=>R b/\FS wb dv cv b) w xs x)(hn:cs.length+1<=97)(hxz:ltBs x.body<=131074):
  ∃g c w8,(Builtin.append_ #[26,26] 26 #[cv,.slice (Js w.heap.size) 1 1]).run Tryz.prog (w.alloc (.cells xs.toArray 45)) = .ok (.slice (Js g) (cs.length+1) c) w8/\w8.heap[wb]?=some (.cells #[.slice p0 m0 o0,.slice p1 m1 o1,.slice p2 m2 o2,.slice p3 m3 o3,.slice p4 m4 o4,tv,dv,Jn,Jn,cv,Ji y,Ji f,Ji (m:Int)] 80 (0,0))/\Fl R wb p0 m0 o0 p1 m1 o1 p2 m2 o2 p3 m3 o3 p4 m4 o4 p tv Bd (w8.setCell (Ja wb 9) (.slice (Js g) (cs.length+1) c)) dv (.slice (Js g) (cs.length+1) c) ds (cs++[x]) y f m/\FK wb dv cv dv (.slice (Js g) (cs.length+1) c) w (w8.setCell (Ja wb 9) (.slice (Js g) (cs.length+1) c)):=by
 obtain⟨i0,Y,Z,S,L⟩:=info54;have F:Tryz.prog.underlying 26=some (.slice 45):=by kernel_rfl
 have u:Below w.heap.size w (w.alloc (.cells xs.toArray 45)):=(Below.refl _ w).alloc (Nat.le_refl _) _;have I:=heap_alloc_new w (.cells xs.toArray 45);have Q:(w.alloc (.cells xs.toArray 45)).heap.size=w.heap.size+1:=by simp
 have n:=h.later u;have a1:=h.lt;obtain⟨W,X⟩:=JE (w.alloc (.cells xs.toArray 45));rw[<- X]at u I Q n ⊢;have T:PCl (fun b=>(R b/\FS wb dv cv b)/\b<W.heap.size) W xs x:=Qaw.mono _ _ _ _ _ (Qaw.same _ _ _ _ _ (Qaw.mono _ (fun b=>(R b/\FS wb dv cv b)/\b<w.heap.size) _ _ _ hx (fun _ hl j=>⟨j,hl⟩)) u.size (fun q _ k=>u.block q k)) (fun b hl j=>⟨j.1,hl⟩);have O:Row PCl 5 45 (wb+1) (fun b=>(R b/\FS wb dv cv b)/\b<W.heap.size) W cv cs:=n.rc.mv Qaw (Nat.le_refl _) (fun _ _ _=>rfl) (fun _ hl j=>⟨j,hl⟩);obtain⟨r,w8,E,v,C,⟨g,c,V⟩,B⟩:=O.app Qaw F Y Z S L rfl (by decide) (by decide) (fun b j=>j.1.2.2.2) hl h1 T (by omega) (by omega) w.heap.size I;subst V;have H:=n.rc.lt;have a0:=v.size;have G:w8.heap[wb]?=some (.cells #[.slice p0 m0 o0,.slice p1 m1 o1,.slice p2 m2 o2,.slice p3 m3 o3,.slice p4 m4 o4,tv,dv,Jn,Jn,cv,Ji y,Ji f,Ji (m:Int)] 80 (0,0)):=(v.block wb (by omega) (fun e=>by have:=(H wb e).1;omega)).trans n.box;obtain⟨r,N⟩:=JE (Value.slice (Js g) (cs.length+1) c);refine⟨g,c,w8,E,G,?_⟩;rw[<- N]at C B ⊢;have P:=B.lt;have A:∀q,q≠wb->(w8.setCell (Ja wb 9) r).heap[q]?=w8.heap[q]?:=fun q k=>hpS k;have s9:(w8.setCell (Ja wb 9) r).heap.size=w8.heap.size:=by simp
 have D:∀b,b<W.heap.size->FS wb dv cv b->FS wb dv r b:=fun b hb s=>by
  have E:some b≠r.ownBlock:=fun e=>by
   rcases C with o|o
   ·exact s.2.2 (e.trans o)
   rw[o]at e;simp only[Option.some.injEq]at e;omega
  exact⟨s.1,s.2.1,E⟩
 have U:(w8.setCell (Ja wb 9) r).heap[wb]?=some (.cells #[.slice p0 m0 o0,.slice p1 m1 o1,.slice p2 m2 o2,.slice p3 m3 o3,.slice p4 m4 o4,tv,dv,Jn,Jn,r,Ji y,Ji f,Ji (m:Int)] 80 (0,0)):=(Qah G 9 r).trans rfl;have r1:Row PCl 5 45 (wb+1) (fun b=>R b/\FS wb dv r b) (w8.setCell (Ja wb 9) r) r (cs++[x]):=B.mv Qaw (by omega) (fun q _ k=>A q (by rcases k with e|e;exact e.1.2.1;have:=(P q e).1;omega)) (fun b _ j=>⟨j.1.1,D b j.2 j.1.2⟩)
 have r2:=n.rd.mv Qav (w':=w8.setCell (Ja wb 9) r) (S':=fun b=>R b/\FS wb dv r b) (by omega) (fun q hl k=>by
  have J:q≠wb/\some q≠cv.ownBlock:=by
   rcases k with e|e
   ·exact⟨e.2.1,e.2.2.2⟩
   ·exact⟨by have:=(n.rd.lt q e).1;omega,(fun o=>h.ap q e o)⟩
  exact(A q J.1).trans (v.block q hl J.2)) (fun b hl j=>⟨j.1,D b hl j.2⟩)
 have p9:PgS (fun b=>Bd b/\b<wb) (w8.setCell (Ja wb 9) r) [.slice p0 m0 o0,.slice p1 m1 o1,.slice p2 m2 o2,.slice p3 m3 o3,.slice p4 m4 o4] p:=Qal.same _ _ _ _ _ n.hp (by omega) (fun q k hl=>(A q (by have M:q<wb:=k.2;omega)).trans (v.block q hl (fun e=>by have:=(H q e).1;have M:q<wb:=k.2;omega)));refine⟨⟨U,p9,r2,r1,?_,h.z,h.nd,by rw[List.length_append,List.length_singleton];omega,fun t F=>by rcases List.mem_append.1 F with q|q;exact h.sz t q;rw[List.mem_singleton.1 q];exact hxz⟩,⟨v.os.trans u.os,v.tape.trans u.tape,v.output.trans u.output,by omega,fun q k j=>(A q j.1).trans ((v.block q (by omega) j.2.2).trans (u.block q k)),fun q k j=>D q (by omega) j⟩⟩;exact fun b K o=>by rcases C with e|e;exact n.ap b K (o.trans e);rw[e]at o;simp only[Option.some.injEq]at o;have:=(n.rd.lt b K).2;omega
end
theorem cl13{w:World}{b:Nat}{T:TypeId}{v0 v1 v2 v3 v4 v5 v6 v7 v8 v9 v10 v11 v12:Value}(h:w.heap[b]?=some (.cells #[v0,v1,v2,v3,v4,v5,v6,v7,v8,v9,v10,v11,v12] T (0,0))):
  w.cell? (Ja b 0)=some v0/\w.cell? (Ja b 1)=some v1/\w.cell? (Ja b 2)=some v2/\w.cell? (Ja b 3)=some v3/\w.cell? (Ja b 4)=some v4/\w.cell? (Ja b 5)=some v5/\w.cell? (Ja b 6)=some v6/\w.cell? (Ja b 7)=some v7/\w.cell? (Ja b 8)=some v8/\w.cell? (Ja b 9)=some v9/\w.cell? (Ja b 10)=some v10/\w.cell? (Ja b 11)=some v11/\w.cell? (Ja b 12)=some v12 /\ ∀o,w.frozen? (Ja b o)=false:=
 ⟨(Qad h 0).trans rfl,(Qad h 1).trans rfl,(Qad h 2).trans rfl,(Qad h 3).trans rfl,(Qad h 4).trans rfl,(Qad h 5).trans rfl,(Qad h 6).trans rfl,(Qad h 7).trans rfl,(Qad h 8).trans rfl,(Qad h 9).trans rfl,(Qad h 10).trans rfl,(Qad h 11).trans rfl,(Qad h 12).trans rfl,fun o=>by simp[World.frozen?,h]⟩
section
variable {R:Nat->Prop}{wb:Nat}{p0:Option Addr}{m0 o0:Nat}{p1:Option Addr}{m1 o1:Nat}{p2:Option Addr}{m2 o2:Nat}{p3:Option Addr}{m3 o3:Nat}{p4:Option Addr}{m4 o4:Nat}{p:Pg}{tv:Value}{Bd:Nat->Prop}{w w':World}{dv cv:Value}{ds:List Dcl}{cs:List Cls}{y f:Int}{m:Nat}
def FlF(R:Nat->Prop)(wb:Nat)(p0:Option Addr)(m0 o0:Nat)(p1:Option Addr)(m1 o1:Nat)(p2:Option Addr)(m2 o2:Nat)(p3:Option Addr)(m3 o3:Nat)(p4:Option Addr)(m4 o4:Nat)(p:Pg)(tv:Value)(Bd:Nat->Prop)(w:World)(dv cv:Value)(ds:List Dcl)(cs:List Cls)(y:Int)(m:Nat)(w':World):Prop:=
 ∃y' f',Fl R wb p0 m0 o0 p1 m1 o1 p2 m2 o2 p3 m3 o3 p4 m4 o4 p tv Bd w' dv cv ds cs y' f' m/\Kp wb w w'/\(y≠0->y'≠0)
theorem Qbt(h:Fl R wb p0 m0 o0 p1 m1 o1 p2 m2 o2 p3 m3 o3 p4 m4 o4 p tv Bd w dv cv ds cs y f m){why:Int}(hw:why≠0)(at_:Int):
  Calls Tryz.prog 26 #[.pointer (Js wb),Ji why,Ji at_] w fun en w'=>en = .returned (.tuple #[]) /\ ∃y' f',Fl R wb p0 m0 o0 p1 m1 o1 p2 m2 o2 p3 m3 o3 p4 m4 o4 p tv Bd w' dv cv ds cs y' f' m/\Kp wb w w'/\y'≠0:=by
 obtain⟨r,s,t,u,v,x,A,B,C,D,M,N,o,I⟩:=cl13 h.box;have H:=hide h;have j:=hide hw;have c:=h.z;clear h hw r s t u v x A B C D o I;by_cases b:y=0
 ·
  have G:=c b;subst b;subst G;clear c;go_enter Tryz.func26,Tryz.ntmps26;obtain⟨O,P,Q,S,T,U,V,W,X,Y,J,K,L,uf⟩:=cl13 (Qa H).box;go_wp2_with fail
  go_end0
  have h:=Qa H;have F:((w.setCell (Ja wb 10) (Ji why)).setCell (Ja wb 11) (Ji at_)).heap[wb]?=some (.cells #[.slice p0 m0 o0,.slice p1 m1 o1,.slice p2 m2 o2,.slice p3 m3 o3,.slice p4 m4 o4,tv,dv,Jn,Jn,cv,Ji why,Ji at_,Ji (m:Int)] 80 (0,0)):=(Qah (Qah h.box 10 _) 11 _).trans rfl;have k:∀q,q≠wb->((w.setCell (Ja wb 10) (Ji why)).setCell (Ja wb 11) (Ji at_)).heap[q]?=w.heap[q]?:=fun q n=>by rw[hpS n,hpS n]
  exact⟨rfl,why,at_,h.cell (by simp) k F (fun e=>absurd e (Qa j)),Kp.cell (by simp) k rfl rfl rfl,Qa j⟩
 have Z:(y==0)=false:=beq_eq_false_iff_ne.2 b;have E:=hide b;clear b c;go_enter Tryz.func26,Tryz.ntmps26;go_wp2_with fail
 go_end0
 exact⟨rfl,y,f,Qa H,Kp.refl _ _,Qa E⟩
theorem Qhn(a b:Txt):(⟨a.toArray⟩:ByteArray)++⟨b.toArray⟩=⟨(a++b).toArray⟩:=by
 apply ByteArray.ext;apply Array.toList_inj.1;simp
theorem Qdo(h:Fl R wb p0 m0 o0 p1 m1 o1 p2 m2 o2 p3 m3 o3 p4 m4 o4 p tv Bd w dv cv ds cs y f m){s pre:Txt}{S:Nat->Prop}{ov:Value}{own:List Txt}(ho:LsAt PSt 1 S w ov own)(hl:s.length+pre.length<=1000000000000)(at_:Int):
  Calls Tryz.prog 96 #[.pointer (Js wb),str s,str pre,ov,Ji at_] w fun en w'=>∃r:Txt,en = .returned (str r)/\FlF R wb p0 m0 o0 p1 m1 o1 p2 m2 o2 p3 m3 o3 p4 m4 o4 p tv Bd w dv cv ds cs y m w':=by
 have x:(⟨s.toArray⟩:ByteArray).size=s.length:=by simp[ByteArray.size]
 have v:(⟨pre.toArray⟩:ByteArray).size=pre.length:=by simp[ByteArray.size]
 have q:=Qp (w:=w) ⟨s.toArray⟩ (by omega);have H:=hide h;have A:=hide ho;have u:=hide hl;have n:=hide (Ya x v);clear h ho hl x v;unfold str;go_enter Tryz.func96,Tryz.ntmps96;go_wp2_with fail;refine q.mono ?_;clear q;rintro en E⟨⟨C,rfl⟩,rfl⟩;have t:=Qja (Qa A) C;go_wp2_with fail;refine t.mono ?_;clear t;rintro en w2⟨⟨b,rfl⟩,rfl⟩;cases b
 ·
  go_wp2_with fail;go_ret;exact⟨s,rfl,y,f,Qa H,Kp.refl _ _,fun e=>e⟩
 have o:=Qbt (Qa H) (why:=2) (by decide) at_;have G:(⟨s.toArray⟩:ByteArray).size<=1000000000000:=by have:=Qa u;have:=(Qa n).1;omega
 have I:(⟨pre.toArray⟩:ByteArray).size<=1000000000000:=by have:=Qa u;have:=(Qa n).2;omega
 go_wp2_with fail
 ·
  refine o.mono ?_;clear o;rintro en F⟨rfl,D,B,j,k,c⟩;have z:=hide (Ya j (Ya k c));clear j k c;go_wp2_with fail;go_ret;obtain⟨j,k,c⟩:=Qa z;exact⟨pre++s,by rw[Qhn];rfl,D,B,j,k,fun _=>c⟩
 go_ret;exact⟨pre++s,by rw[Qhn];rfl,y,f,Qa H,Kp.refl _ _,fun e=>e⟩
end
theorem cl6{w:World}{b:Nat}{T:TypeId}{v0 v1 v2 v3 v4 v5:Value}(h:w.heap[b]?=some (.cells #[v0,v1,v2,v3,v4,v5] T (0,0))):
  w.cell? (Ja b 0)=some v0/\w.cell? (Ja b 1)=some v1/\w.cell? (Ja b 2)=some v2/\w.cell? (Ja b 3)=some v3/\w.cell? (Ja b 4)=some v4/\w.cell? (Ja b 5)=some v5 /\ ∀o,w.frozen? (Ja b o)=false:=
 ⟨(Qad h 0).trans rfl,(Qad h 1).trans rfl,(Qad h 2).trans rfl,(Qad h 3).trans rfl,(Qad h 4).trans rfl,(Qad h 5).trans rfl,fun o=>by simp[World.frozen?,h]⟩
structure Rr(rb g cap:Nat)(l:List Tok)(w:World)(a d i:Nat)(y f:Int):Prop where
 box:w.heap[rb]?=some (.cells #[.slice (some ⟨g,0,none⟩) l.length cap,.int .i64 (a:Int),.int .i64 (d:Int),.int .i64 (i:Int),.int .i64 y,.int .i64 f] 75 (0,0))
 row:RowAt w g cap l
 ne:g≠rb
 lt:a<l.length
 few:l.length<=65537
 at_:∀t∈l,t.at_<=65536
 last:∀t,l[l.length - 1]?=some t->t.kind=0
 z:y=0->f=0
 dd:d<=64
 ii:i<=65537
 tx:∀t∈l,t.text.length<=65536
theorem Rr.later{rb g cap a d i:Nat}{l:List Tok}{w w':World}{y f:Int}(h:Rr rb g cap l w a d i y f)(b:Below w.heap.size w w'):Rr rb g cap l w' a d i y f:=
 ⟨(b.block _ (Qaa h.box)).trans h.box,h.row.later b,h.ne,h.lt,h.few,h.at_,h.last,h.z,h.dd,h.ii,h.tx⟩
theorem RowAt.keep{w w':World}{g cap:Nat}{l:List Tok}(h:RowAt w g cap l)(hs:w.heap.size<=w'.heap.size)(hb:w'.heap[g]?=w.heap[g]?):RowAt w' g cap l:=
 ⟨Nat.lt_of_lt_of_le h.lt hs,h.le,h.cm,fun i t b=>by
  have:=h.cells i t b;have e:∀o,w'.cell? (Ja g o)=w.cell? (Ja g o):=fun o=>by simp[World.cell?,hb]
  rw[e,e,e,e];exact this⟩
theorem Rr.tok{rb g cap a d i:Nat}{l:List Tok}{w:World}{y f:Int}(h:Rr rb g cap l w a d i y f):∃t,l[a]?=some t:=⟨_,List.getElem?_eq_getElem h.lt⟩
abbrev tkA(t:Tok):Value:=.agg #[.int .i64 t.kind,str t.text,.int .i64 t.num,.int .i64 (t.at_:Int)]
theorem Qax{rb g cap a d i:Nat}{l:List Tok}{w:World}{y f:Int}(h:Rr rb g cap l w a d i y f):
  Calls Tryz.prog 24 #[.pointer (Js rb)] w fun en w'=>en = .returned (.bool (decide (y=0)))/\w'=w:=by
 obtain⟨j,k,n,o,q,r,t⟩:=cl6 h.box;have c:=h.z;clear h;by_cases b:y=0
 ·
  obtain rfl:=c b;subst b;clear c;go_enter Tryz.func24,Tryz.ntmps24;go_wp2_with fail;go_ret;exact⟨rfl,rfl⟩
 have s:(y==0)=false:=beq_eq_false_iff_ne.2 b;have e:decide (y=0)=false:=decide_eq_false b;rw[e];clear c b e;go_enter Tryz.func24,Tryz.ntmps24;go_wp2_with fail;go_ret;exact⟨rfl,rfl⟩
theorem Qap{rb g cap a d i:Nat}{l:List Tok}{w:World}{y f:Int}(h:Rr rb g cap l w a d i y f){t:Tok}(ht:l[a]?=some t):
  Calls Tryz.prog 22 #[.pointer (Js rb)] w fun en w'=>en = .returned (tkA t)/\Below w.heap.size w w':=by
 obtain⟨W,s⟩:=JE ((w.alloc tokZ).drew);have j:Below w.heap.size w W:=by rw[s];exact((Below.refl _ w).alloc (Nat.le_refl _) _).drew
 have z:W.heap[w.heap.size]?=some tokZ:=by rw[s];exact heap_alloc_new w _
 have J:=h.lt;have I:=h.few;have G:=h.row.le;have H:=h.row.cm;unfold maxLen at H;obtain⟨n,x⟩:=JF l.length;rw[x]at J I G;have B:Hid (∀w',Below w.heap.size w w'->w'.heap[rb]?=some (.cells #[.slice (Js g) n cap,Ji (a:Int),Ji (d:Int),Ji (i:Int),Ji y,Ji f] 75 (0,0))/\(∀q c,([Ji t.kind,str t.text,Ji t.num,Ji (t.at_:Int)]:List Value)[q]?=some c->w'.cell? (Ja g (a*4+q))=some c)):=fun w' T=>by
  have E:=h.later T;refine⟨by have:=E.box;rw[x]at this;exact this,fun q c e=>?_⟩;have u:=E.row.cells a t ht
  match q,e with
  | 0,e=>cases e;exact u.1
  | 1,e=>cases e;exact u.2.1
  | 2,e=>cases e;exact u.2.2.1
  | 3,e=>cases e;exact u.2.2.2
  |q+4,e=>simp at e
 obtain⟨V,r⟩:=JE (W.setRow w.heap.size #[Ji t.kind,str t.text,Ji t.num,Ji (t.at_:Int)]);have C:Below w.heap.size w V:=by
  rw[r];exact⟨j.os,j.tape,j.output,by rw[size_setRow];exact j.size,fun k U=>by rw[setRow_other _ _ _ _ (by omega)];exact j.block k U⟩
 have F:V.heap[w.heap.size]?=some (.cells #[Ji t.kind,str t.text,Ji t.num,Ji (t.at_:Int)] 73 (0,0)):=by rw[r];exact setRow_heap _ _ _ _ _ _ z
 have Q:=hide s;have P:=hide r;have o:=hide (Ya j (Ya z (Ya C F)));clear s r j z C F h ht x;go_enter Tryz.func22,Tryz.ntmps22;go_wp2_with fail;refine Qaz (md:=[(0,true),(1,true),(2,true),(3,true),(4,true),(5,true),(6,true),(7,true),(8,true),(9,true),(10,false)]) (fun w'=>w'.heap[rb]?=some (.cells #[.slice (Js g) n cap,Ji (a:Int),Ji (d:Int),Ji (i:Int),Ji y,Ji f] 75 (0,0))/\(∀q c,([Ji t.kind,str t.text,Ji t.num,Ji (t.at_:Int)]:List Value)[q]?=some c->w'.cell? (Ja g (a*4+q))=some c)) mixedO (by kernel_rfl) rfl (by kernel_rfl) (fun S A=>?_);rw[<- Qa Q]
 iterate 10 refine Qac rfl (by kernel_rfl) (fun w' hw=>by obtain⟨X,Y,Z,a0,a1,a2,xf⟩:=cl6 hw.1;obtain⟨a3,a4,a5,a6⟩:=cs4 hw.2;go_simp<;>rfl) ?_
 refine Qij (b:={ tmps:=#[.pointer (Js rb),undef,.pointer (Js w.heap.size),.pointer (Js rb),.pointer (Js rb),.pointer (Js rb),.slice (Js g) n cap,.pointer (Js rb),.pointer (Js rb),.pointer (some (Ja rb 1)),Ji (a:Int),.pointer (some (Ja g (a*4))),tkA t],defers:=[] }) (by kernel_rfl) ?_;refine Qak rfl (Qa B _ (Qa o).1) (fun K D=>?_);refine Qd rfl _ _ _ rfl w.heap.size _ _ #[Ji t.kind,str t.text,Ji t.num,Ji (t.at_:Int)] (by kernel_rfl) (by kernel_rfl) (Qa o).2.1 (by kernel_rfl) rfl (by simp[Value.oneCell',str]) ?_;refine D _ _ ?_;clear D K;rw[<- Qa P];refine Qbc (Qa B _ (Qa o).2.2.1) (A _ _ ?_);clear A S;simp[Act.put];obtain⟨L,M,N,O,zf⟩:=cl4 (Qa o).2.2.2;go_wp2_with fail;refine bodyPost_ret (v:=tkA t) (by simp[results,Tryz.results22,go_sem,L,M,N,O]) rfl ?_;exact⟨rfl,(Qa o).2.2.1⟩
section
variable {rb g cap a d i:Nat}{l:List Tok}{w:World}{y f:Int}
theorem Rr.setF(h:Rr rb g cap l w a d i y f){why x:Int}(hw:why≠0):Rr rb g cap l ((w.setCell (Ja rb 4) (Ji why)).setCell (Ja rb 5) (Ji x)) a d i why x:=
 ⟨(Qah (Qah h.box 4 _) 5 _).trans rfl,h.row.keep (by simp) (by rw[hpS h.ne,hpS h.ne]),h.ne,h.lt,h.few,h.at_,h.last,fun e=>absurd e hw,h.dd,h.ii,h.tx⟩
theorem Rr.setD(h:Rr rb g cap l w a d i y f){d':Nat}(hd:d'<=64):Rr rb g cap l (w.setCell (Ja rb 2) (Ji (d':Int))) a d' i y f:=
 ⟨(Qah h.box 2 _).trans rfl,h.row.keep (by simp) (by rw[hpS h.ne]),h.ne,h.lt,h.few,h.at_,h.last,h.z,hd,h.ii,h.tx⟩
theorem Rr.setI(h:Rr rb g cap l w a d i y f){i':Nat}(hi:i'<=65537):Rr rb g cap l (w.setCell (Ja rb 3) (Ji (i':Int))) a d i' y f:=
 ⟨(Qah h.box 3 _).trans rfl,h.row.keep (by simp) (by rw[hpS h.ne]),h.ne,h.lt,h.few,h.at_,h.last,h.z,h.dd,hi,h.tx⟩
theorem Rr.setA(h:Rr rb g cap l w a d i y f){a':Nat}(ha:a'<l.length):Rr rb g cap l (w.setCell (Ja rb 1) (Ji (a':Int))) a' d i y f:=
 ⟨(Qah h.box 1 _).trans rfl,h.row.keep (by simp) (by rw[hpS h.ne]),h.ne,ha,h.few,h.at_,h.last,h.z,h.dd,h.ii,h.tx⟩
end
def RA(rb g cap:Nat)(l:List Tok)(w:World)(d:Nat)(R:World->Value->Prop)(Y:Nat->Nat->Int->Prop)(en:Ending)(w':World):Prop:=
 ∃v a' i' y' f',en = .returned v/\R w' v/\Y a' i' y'/\Rr rb g cap l w' a' d i' y' f'/\Kp rb w w'
def noV(_:World)(v:Value):Prop:=v = .tuple #[]
theorem Qbf{rb g cap a d i:Nat}{l:List Tok}{w:World}{y f:Int}(h:Rr rb g cap l w a d i y f){why:Int}(hw:why≠0):
  Calls Tryz.prog 23 #[.pointer (Js rb),Ji why] w fun en w'=>RA rb g cap l w d noV (fun a' i' y'=>a'=a/\i'=i/\y'≠0) en w':=by
 have b:=Qax h;obtain⟨t,z⟩:=h.tok;have e:=Qap h z;unfold tkA at e;obtain⟨n,o,q,r,s,u,A⟩:=cl6 h.box;have H:=hide h;have v:=hide hw;clear h hw z n o q r s u A;by_cases c:y=0
 ·
  rw[decide_eq_true c]at b;clear c;go_enter Tryz.func23,Tryz.ntmps23;go_wp2_with fail;refine b.mono ?_;clear b;rintro en E⟨rfl,rfl⟩;go_wp2_with fail;refine e.mono ?_;clear e;rintro en w2⟨rfl,j⟩;have k:=(Qa H).later j;obtain⟨n,o,q,r,s,u,A⟩:=cl6 k.box;have C:=hide k;have B:=hide j;clear k j;go_wp2_with fail;rename_i x;refine x _ _ ?_;clear x;go_wp2_with fail
  go_end0
  exact⟨_,_,_,_,_,rfl,rfl,⟨rfl,rfl,Qa v⟩,(Qa C).setF (Qa v),((Kp.of_below (Qa B)).trans (Kp.set _ _ _ _)).trans (Kp.set _ _ _ _)⟩
 rw[decide_eq_false c]at b;have D:=hide c;clear c e;go_enter Tryz.func23,Tryz.ntmps23;go_wp2_with fail;refine b.mono ?_;clear b;rintro en E⟨rfl,rfl⟩;go_wp2_with fail
 go_end0
 exact⟨_,_,_,_,_,rfl,rfl,⟨rfl,rfl,Qa D⟩,Qa H,Kp.refl _ _⟩
theorem Qhd{rb g cap a d i:Nat}{l:List Tok}{w:World}{y f:Int}(h:Rr rb g cap l w a d i y f)(hd:d<64):
  Calls Tryz.prog 60 #[.pointer (Js rb)] w fun en w'=>RA rb g cap l w (d+1) noV (fun a' i' y'=>a'=a/\i'=i/\(y'=0->y=0/\d<32)) en w':=by
 have k:=Qbf h (why:=4) (by decide);obtain⟨o,q,r,s,t,u,v⟩:=cl6 h.box;have H:=hide h;clear h;by_cases n:32<=d
 ·
  have x:(32:Int)<=(d:Int):=by omega
  clear n;go_enter Tryz.func60,Tryz.ntmps60;go_wp2_with fail;refine k.mono ?_;clear k o q r s t u v;rintro en w2⟨_,_,_,y',B,rfl,rfl,⟨rfl,rfl,c⟩,b,j⟩;obtain⟨o,q,r,s,t,u,v⟩:=cl6 b.box;have z:=hide (Ya c (Ya b j));clear c b j;go_wp2_with fail
  go_end0
  obtain⟨c,b,j⟩:=Qa z;exact⟨_,_,_,y',B,rfl,rfl,⟨rfl,rfl,fun e=>absurd e c⟩,b.setD (d':=d+1) (by omega),j.trans (Kp.set _ _ _ _)⟩
 have x:¬((32:Int)<=(d:Int)):=by omega
 have A:=hide (show d<32 by omega);clear n k;go_enter Tryz.func60,Tryz.ntmps60;go_wp2_with fail
 go_end0
 exact⟨_,_,_,y,f,rfl,rfl,⟨rfl,rfl,fun e=>⟨e,Qa A⟩⟩,(Qa H).setD (d':=d+1) (by omega),Kp.set _ _ _ _⟩
end
end Go.Proofs.YtkhndlnadhggkaaGreat
