/- The document's flattener. -/
import Derived.Test.YtmfpbepifnedjaaGreatZv01
import Derived.Test.YtmfpbepifnedjaaGreatZv29
import Derived.Test.YtmfpbepifnedjaaGreatZv09
set_option maxRecDepth 100000
set_option maxHeartbeats 32000000
namespace Go.Proofs.YtmfpbepifnedjaaGreat
section
open Go.RowKit Go.Maps
theorem Row.mv{α : Type}{p:PS α}{k:Nat}{T:TypeId}{base:Nat}(hp:PSok p){S S':Nat->Prop}{w w':World}{sl:Value}{acc:List α}(h:Row p k T base S w sl acc)(hs:w.heap.size<=w'.heap.size)(hb:∀b,b<w.heap.size->(S b∨some b=sl.ownBlock)->w'.heap[b]?=w.heap[b]?)(hS:∀b,b<w.heap.size->S b->S' b):Row p k T base S' w' sl acc:=by
 obtain⟨j,i,r⟩:=h;refine⟨j,⟨i.1,?_⟩,?_⟩
 ·
  rcases i.2 with e|⟨g,cap,l,c,n,d,o⟩
  ·exact .inl e
  ·exact .inr ⟨g,cap,l,c,n,(hb g (Qaa d) (.inr (by rw[c];rfl))).trans d,o⟩
 have q:=(r.mono hp (fun b a hs=>(⟨hs,a⟩:S b/\b<w.heap.size))).same hp hs (fun b hs a=>hb b a (.inl hs.1));exact q.mono hp (fun b _ hs=>hS b hs.2 hs.1)
def FS(wb:Nat)(dv cv:Value)(b:Nat):Prop:=b≠wb/\some b≠dv.ownBlock/\some b≠cv.ownBlock
structure FK(wb:Nat)(dv cv dv' cv':Value)(w w':World):Prop where
 os:w'.os=w.os
 tape:w'.tape=w.tape
 output:w'.output=w.output
 size:w.heap.size<=w'.heap.size
 block:∀q,q<w.heap.size->FS wb dv cv q->w'.heap[q]?=w.heap[q]?
 fs:∀q,q<w.heap.size->FS wb dv cv q->FS wb dv' cv' q
section
variable {wb:Nat}{dv cv dv' cv' d2 c2:Value}{w w' w2:World}
theorem FK.of_below(b:Below w.heap.size w w'):FK wb dv cv dv cv w w':=⟨b.os,b.tape,b.output,b.size,fun q a _=>b.block q a,fun _ _ h=>h⟩
theorem FK.trans(h:FK wb dv cv dv' cv' w w')(k:FK wb dv' cv' d2 c2 w' w2):FK wb dv cv d2 c2 w w2:=
 ⟨k.os.trans h.os,k.tape.trans h.tape,k.output.trans h.output,Nat.le_trans h.size k.size,fun q a b=>(k.block q (by have:=h.size;omega) (h.fs q a b)).trans (h.block q a b),fun q a b=>k.fs q (by have:=h.size;omega) (h.fs q a b)⟩
theorem PSok.fk{α : Type}{p:PS α}(hp:PSok p){cs:List Value}{x:α}(h:p (FS wb dv cv) w cs x)(k:FK wb dv cv dv' cv' w w'):p (FS wb dv' cv') w' cs x:=
 hp.mono _ _ _ _ _ (hp.same _ _ _ _ _ (hp.mono _ (fun b=>FS wb dv cv b/\b<w.heap.size) _ _ _ h (fun _ c a=>⟨a,c⟩)) k.size (fun b a c=>k.block b c a.1)) (fun b _ a=>k.fs b a.2 a.1)
theorem LsAt.fk{α : Type}{p:PS α}{j:Nat}(hp:PSok p){v:Value}{xs:List α}(h:LsAt p j (FS wb dv cv) w v xs)(k:FK wb dv cv dv' cv' w w'):LsAt p j (FS wb dv' cv') w' v xs:=
 ((h.mono hp (S':=fun b=>FS wb dv cv b/\b<w.heap.size) (fun _ c a=>⟨a,c⟩)).same hp k.size (fun b a c=>k.block b c a.1)).mono hp (fun b _ a=>k.fs b a.2 a.1)
end
structure Fl(R:Nat->Prop)(wb:Nat)(p0:Option Addr)(m0 o0:Nat)(p1:Option Addr)(m1 o1:Nat)(p2:Option Addr)(m2 o2:Nat)(p3:Option Addr)(m3 o3:Nat)(p4:Option Addr)(m4 o4:Nat)(p:Pg)(tv:Value)(Bd:Nat->Prop)(w:World)(dv cv:Value)(ds:List Dcl)(cs:List Cls)(y f:Int)(m:Nat):Prop where
 box:w.heap[wb]?=some (.cells #[.slice p0 m0 o0,.slice p1 m1 o1,.slice p2 m2 o2,.slice p3 m3 o3,.slice p4 m4 o4,tv,dv,.slice none 0 0,.slice none 0 0,cv,.int .i64 y,.int .i64 f,.int .i64 (m:Int)] 80 (0,0))
 hp:PgS (fun b=>Bd b/\b<wb) w [.slice p0 m0 o0,.slice p1 m1 o1,.slice p2 m2 o2,.slice p3 m3 o3,.slice p4 m4 o4] p
 rd:Row PDc 5 63 (wb+1) (fun b=>R b/\FS wb dv cv b) w dv ds
 rc:Row PCl 5 45 (wb+1) (fun b=>R b/\FS wb dv cv b) w cv cs
 ap:Apt dv cv
 z:y=0->f=0
 nd:ds.length<=97
 nc:cs.length<=97
 sz:∀x∈cs,ltBs x.body<=131074
section
variable {R:Nat->Prop}{wb:Nat}{p0:Option Addr}{m0 o0:Nat}{p1:Option Addr}{m1 o1:Nat}{p2:Option Addr}{m2 o2:Nat}{p3:Option Addr}{m3 o3:Nat}{p4:Option Addr}{m4 o4:Nat}{p:Pg}{tv:Value}{Bd:Nat->Prop}{w w':World}{dv cv:Value}{ds:List Dcl}{cs:List Cls}{y f:Int}{m:Nat}
theorem Fl.lt(h:Fl R wb p0 m0 o0 p1 m1 o1 p2 m2 o2 p3 m3 o3 p4 m4 o4 p tv Bd w dv cv ds cs y f m):wb<w.heap.size:=Qaa h.box
theorem Fl.dlt(h:Fl R wb p0 m0 o0 p1 m1 o1 p2 m2 o2 p3 m3 o3 p4 m4 o4 p tv Bd w dv cv ds cs y f m)(b:Nat)(e:some b=dv.ownBlock∨some b=cv.ownBlock):wb<b/\b<w.heap.size:=by
 rcases e with e|e
 ·have:=h.rd.lt b e;omega
 ·have:=h.rc.lt b e;omega
theorem Fl.keep(h:Fl R wb p0 m0 o0 p1 m1 o1 p2 m2 o2 p3 m3 o3 p4 m4 o4 p tv Bd w dv cv ds cs y f m)(hs:w.heap.size<=w'.heap.size)(hb:∀q,q<w.heap.size->(R q∨q<=wb∨some q=dv.ownBlock∨some q=cv.ownBlock)->w'.heap[q]?=w.heap[q]?):Fl R wb p0 m0 o0 p1 m1 o1 p2 m2 o2 p3 m3 o3 p4 m4 o4 p tv Bd w' dv cv ds cs y f m:=
 ⟨(hb _ h.lt (.inr (.inl (Nat.le_refl _)))).trans h.box,Qak.same _ _ _ _ _ h.hp hs (fun q b a=>hb q a (.inr (.inl (Nat.le_of_lt b.2)))),h.rd.mv Qav hs (fun q a b=>hb q a (by rcases b with e|e;exact .inl e.1;exact .inr (.inr (.inl e)))) (fun _ _ hs=>hs),h.rc.mv Qay hs (fun q a b=>hb q a (by rcases b with e|e;exact .inl e.1;exact .inr (.inr (.inr e)))) (fun _ _ hs=>hs),h.ap,h.z,h.nd,h.nc,h.sz⟩
theorem Fl.later(h:Fl R wb p0 m0 o0 p1 m1 o1 p2 m2 o2 p3 m3 o3 p4 m4 o4 p tv Bd w dv cv ds cs y f m)(b:Below w.heap.size w w'):Fl R wb p0 m0 o0 p1 m1 o1 p2 m2 o2 p3 m3 o3 p4 m4 o4 p tv Bd w' dv cv ds cs y f m:=
 h.keep b.size (fun q a _=>b.block q a)
theorem Fl.mono{R':Nat->Prop}(h:Fl R wb p0 m0 o0 p1 m1 o1 p2 m2 o2 p3 m3 o3 p4 m4 o4 p tv Bd w dv cv ds cs y f m)(hR:∀b,b<w.heap.size->R b->R' b):Fl R' wb p0 m0 o0 p1 m1 o1 p2 m2 o2 p3 m3 o3 p4 m4 o4 p tv Bd w dv cv ds cs y f m:=
 ⟨h.box,h.hp,h.rd.mv Qav (Nat.le_refl _) (fun _ _ _=>rfl) (fun b c a=>⟨hR b c a.1,a.2⟩),h.rc.mv Qay (Nat.le_refl _) (fun _ _ _=>rfl) (fun b c a=>⟨hR b c a.1,a.2⟩),h.ap,h.z,h.nd,h.nc,h.sz⟩
theorem Fl.cell(h:Fl R wb p0 m0 o0 p1 m1 o1 p2 m2 o2 p3 m3 o3 p4 m4 o4 p tv Bd w dv cv ds cs y f m)(hs:w'.heap.size=w.heap.size)(ho:∀q,q≠wb->w'.heap[q]?=w.heap[q]?){y' f':Int}{m':Nat}(hb:w'.heap[wb]?=some (.cells #[.slice p0 m0 o0,.slice p1 m1 o1,.slice p2 m2 o2,.slice p3 m3 o3,.slice p4 m4 o4,tv,dv,Jn,Jn,cv,Ji y',Ji f',Ji (m':Int)] 80 (0,0)))(hz:y'=0->f'=0):Fl R wb p0 m0 o0 p1 m1 o1 p2 m2 o2 p3 m3 o3 p4 m4 o4 p tv Bd w' dv cv ds cs y' f' m':=
 ⟨hb,Qak.same _ _ _ _ _ h.hp (by omega) (fun q a _=>ho q (by have b:q<wb:=a.2;omega)),h.rd.mv Qav (by omega) (fun q _ a=>ho q (by rcases a with e|e;exact e.2.1;have:=(h.rd.lt q e).1;omega)) (fun _ _ hs=>hs),h.rc.mv Qay (by omega) (fun q _ a=>ho q (by rcases a with e|e;exact e.2.1;have:=(h.rc.lt q e).1;omega)) (fun _ _ hs=>hs),h.ap,hz,h.nd,h.nc,h.sz⟩
theorem Kp.cell(hs:w'.heap.size=w.heap.size)(ho:∀q,q≠wb->w'.heap[q]?=w.heap[q]?)(h1:w'.os=w.os)(h2:w'.tape=w.tape)(h3:w'.output=w.output):Kp wb w w':=
 ⟨h1,h2,h3,by omega,fun q _ a=>ho q a⟩
theorem FK.of_kp(k:Kp wb w w'):FK wb dv cv dv cv w w':=⟨k.os,k.tape,k.output,k.size,fun q a b=>k.block q a b.1,fun _ _ h=>h⟩
theorem Fl.addD(h:Fl R wb p0 m0 o0 p1 m1 o1 p2 m2 o2 p3 m3 o3 p4 m4 o4 p tv Bd w dv cv ds cs y f m){x:Dcl}{xs:List Value}(hl:xs.length=5)(h1:∀c∈xs,c.oneCell'=true)(hx:PDc (fun b=>R b/\FS wb dv cv b) w xs x)(hn:ds.length+1<=97):
  ∃g c w8,(Builtin.append_ #[23,23] 23 #[dv,.slice (Js w.heap.size) 1 1]).run Tryz.prog (w.alloc (.cells xs.toArray 63)) = .ok (.slice (Js g) (ds.length+1) c) w8/\w8.heap[wb]?=some (.cells #[.slice p0 m0 o0,.slice p1 m1 o1,.slice p2 m2 o2,.slice p3 m3 o3,.slice p4 m4 o4,tv,dv,Jn,Jn,cv,Ji y,Ji f,Ji (m:Int)] 80 (0,0))/\Fl R wb p0 m0 o0 p1 m1 o1 p2 m2 o2 p3 m3 o3 p4 m4 o4 p tv Bd (w8.setCell (Ja wb 6) (.slice (Js g) (ds.length+1) c)) (.slice (Js g) (ds.length+1) c) cv (ds++[x]) cs y f m/\FK wb dv cv (.slice (Js g) (ds.length+1) c) cv w (w8.setCell (Ja wb 6) (.slice (Js g) (ds.length+1) c)):=by
 obtain⟨i0,Q,T,L,F⟩:=info51;have S:Tryz.prog.underlying 23=some (.slice 63):=by kernel_rfl
 have j:Below w.heap.size w (w.alloc (.cells xs.toArray 63)):=(Below.refl _ w).alloc (Nat.le_refl _) _;have D:=heap_alloc_new w (.cells xs.toArray 63);have K:(w.alloc (.cells xs.toArray 63)).heap.size=w.heap.size+1:=by simp
 have i:=h.later j;have Z:=h.lt;obtain⟨W,P⟩:=JE (w.alloc (.cells xs.toArray 63));rw[<- P]at j D K i ⊢;have M:PDc (fun b=>(R b/\FS wb dv cv b)/\b<W.heap.size) W xs x:=Qav.mono _ _ _ _ _ (Qav.same _ _ _ _ _ (Qav.mono _ (fun b=>(R b/\FS wb dv cv b)/\b<w.heap.size) _ _ _ hx (fun _ hl a=>⟨a,hl⟩)) j.size (fun q _ d=>j.block q d)) (fun b hl a=>⟨a.1,hl⟩);have I:Row PDc 5 63 (wb+1) (fun b=>(R b/\FS wb dv cv b)/\b<W.heap.size) W dv ds:=i.rd.mv Qav (Nat.le_refl _) (fun _ _ _=>rfl) (fun _ hl a=>⟨a,hl⟩);obtain⟨r,w8,A,l,t,⟨g,c,O⟩,o⟩:=I.app Qav S Q T L F rfl (by decide) (by decide) (fun b a=>a.1.2.2.1) hl h1 M (by omega) (by omega) w.heap.size D;subst O;have C:=i.rd.lt;have Y:=l.size;have B:w8.heap[wb]?=some (.cells #[.slice p0 m0 o0,.slice p1 m1 o1,.slice p2 m2 o2,.slice p3 m3 o3,.slice p4 m4 o4,tv,dv,Jn,Jn,cv,Ji y,Ji f,Ji (m:Int)] 80 (0,0)):=(l.block wb (by omega) (fun e=>by have:=(C wb e).1;omega)).trans i.box;obtain⟨r,H⟩:=JE (Value.slice (Js g) (ds.length+1) c);refine⟨g,c,w8,A,B,?_⟩;rw[<- H]at t o ⊢;have J:=o.lt;have n:∀q,q≠wb->(w8.setCell (Ja wb 6) r).heap[q]?=w8.heap[q]?:=fun q d=>hpS d;have s9:(w8.setCell (Ja wb 6) r).heap.size=w8.heap.size:=by simp
 have v:∀b,b<W.heap.size->FS wb dv cv b->FS wb r cv b:=fun b hb s=>by
  have A:some b≠r.ownBlock:=fun e=>by
   rcases t with k|k
   ·exact s.2.1 (e.trans k)
   rw[k]at e;simp only[Option.some.injEq]at e;omega
  exact⟨s.1,A,s.2.2⟩
 have N:(w8.setCell (Ja wb 6) r).heap[wb]?=some (.cells #[.slice p0 m0 o0,.slice p1 m1 o1,.slice p2 m2 o2,.slice p3 m3 o3,.slice p4 m4 o4,tv,r,Jn,Jn,cv,Ji y,Ji f,Ji (m:Int)] 80 (0,0)):=(Qah B 6 r).trans rfl;have V:Row PDc 5 63 (wb+1) (fun b=>R b/\FS wb r cv b) (w8.setCell (Ja wb 6) r) r (ds++[x]):=o.mv Qav (by omega) (fun q _ d=>n q (by rcases d with e|e;exact e.1.2.1;have:=(J q e).1;omega)) (fun b _ a=>⟨a.1.1,v b a.2 a.1.2⟩)
 have X:=i.rc.mv Qay (w':=w8.setCell (Ja wb 6) r) (S':=fun b=>R b/\FS wb r cv b) (by omega) (fun q hl d=>by
  have E:q≠wb/\some q≠dv.ownBlock:=by
   rcases d with e|e
   ·exact⟨e.2.1,e.2.2.1⟩
   ·exact⟨by have:=(i.rc.lt q e).1;omega,(fun k=>h.ap q k e)⟩
  exact(n q E.1).trans (l.block q hl E.2)) (fun b hl a=>⟨a.1,v b hl a.2⟩)
 have U:PgS (fun b=>Bd b/\b<wb) (w8.setCell (Ja wb 6) r) [.slice p0 m0 o0,.slice p1 m1 o1,.slice p2 m2 o2,.slice p3 m3 o3,.slice p4 m4 o4] p:=Qak.same _ _ _ _ _ i.hp (by omega) (fun q d hl=>(n q (by have G:q<wb:=d.2;omega)).trans (l.block q hl (fun e=>by have:=(C q e).1;have G:q<wb:=d.2;omega)));refine⟨⟨N,U,V,X,?_,h.z,by rw[List.length_append,List.length_singleton];omega,h.nc,h.sz⟩,⟨l.os.trans j.os,l.tape.trans j.tape,l.output.trans j.output,by omega,fun q d a=>(n q a.1).trans ((l.block q (by omega) a.2.1).trans (j.block q d)),fun q d a=>v q (by omega) a⟩⟩;exact fun b u k=>by rcases t with e|e;exact i.ap b (u.trans e) k;rw[e]at u;simp only[Option.some.injEq]at u;have:=(i.rc.lt b k).2;omega
theorem Fl.addC(h:Fl R wb p0 m0 o0 p1 m1 o1 p2 m2 o2 p3 m3 o3 p4 m4 o4 p tv Bd w dv cv ds cs y f m){x:Cls}{xs:List Value}(hl:xs.length=5)(h1:∀c∈xs,c.oneCell'=true)(hx:PCl (fun b=>R b/\FS wb dv cv b) w xs x)(hn:cs.length+1<=97)(hxz:ltBs x.body<=131074):
  ∃g c w8,(Builtin.append_ #[26,26] 26 #[cv,.slice (Js w.heap.size) 1 1]).run Tryz.prog (w.alloc (.cells xs.toArray 45)) = .ok (.slice (Js g) (cs.length+1) c) w8/\w8.heap[wb]?=some (.cells #[.slice p0 m0 o0,.slice p1 m1 o1,.slice p2 m2 o2,.slice p3 m3 o3,.slice p4 m4 o4,tv,dv,Jn,Jn,cv,Ji y,Ji f,Ji (m:Int)] 80 (0,0))/\Fl R wb p0 m0 o0 p1 m1 o1 p2 m2 o2 p3 m3 o3 p4 m4 o4 p tv Bd (w8.setCell (Ja wb 9) (.slice (Js g) (cs.length+1) c)) dv (.slice (Js g) (cs.length+1) c) ds (cs++[x]) y f m/\FK wb dv cv dv (.slice (Js g) (cs.length+1) c) w (w8.setCell (Ja wb 9) (.slice (Js g) (cs.length+1) c)):=by
 obtain⟨i0,T,U,N,H⟩:=info54;have B:Tryz.prog.underlying 26=some (.slice 45):=by kernel_rfl
 have k:Below w.heap.size w (w.alloc (.cells xs.toArray 45)):=(Below.refl _ w).alloc (Nat.le_refl _) _;have E:=heap_alloc_new w (.cells xs.toArray 45);have M:(w.alloc (.cells xs.toArray 45)).heap.size=w.heap.size+1:=by simp
 have i:=h.later k;have a0:=h.lt;obtain⟨W,S⟩:=JE (w.alloc (.cells xs.toArray 45));rw[<- S]at k E M i ⊢;have O:PCl (fun b=>(R b/\FS wb dv cv b)/\b<W.heap.size) W xs x:=Qay.mono _ _ _ _ _ (Qay.same _ _ _ _ _ (Qay.mono _ (fun b=>(R b/\FS wb dv cv b)/\b<w.heap.size) _ _ _ hx (fun _ hl a=>⟨a,hl⟩)) k.size (fun q _ d=>k.block q d)) (fun b hl a=>⟨a.1,hl⟩);have K:Row PCl 5 45 (wb+1) (fun b=>(R b/\FS wb dv cv b)/\b<W.heap.size) W cv cs:=i.rc.mv Qay (Nat.le_refl _) (fun _ _ _=>rfl) (fun _ hl a=>⟨a,hl⟩);obtain⟨r,w8,A,l,u,⟨g,c,Q⟩,o⟩:=K.app Qay B T U N H rfl (by decide) (by decide) (fun b a=>a.1.2.2.2) hl h1 O (by omega) (by omega) w.heap.size E;subst Q;have D:=i.rc.lt;have Z:=l.size;have C:w8.heap[wb]?=some (.cells #[.slice p0 m0 o0,.slice p1 m1 o1,.slice p2 m2 o2,.slice p3 m3 o3,.slice p4 m4 o4,tv,dv,Jn,Jn,cv,Ji y,Ji f,Ji (m:Int)] 80 (0,0)):=(l.block wb (by omega) (fun e=>by have:=(D wb e).1;omega)).trans i.box;obtain⟨r,J⟩:=JE (Value.slice (Js g) (cs.length+1) c);refine⟨g,c,w8,A,C,?_⟩;rw[<- J]at u o ⊢;have L:=o.lt;have n:∀q,q≠wb->(w8.setCell (Ja wb 9) r).heap[q]?=w8.heap[q]?:=fun q d=>hpS d;have s9:(w8.setCell (Ja wb 9) r).heap.size=w8.heap.size:=by simp
 have v:∀b,b<W.heap.size->FS wb dv cv b->FS wb dv r b:=fun b hb s=>by
  have A:some b≠r.ownBlock:=fun e=>by
   rcases u with j|j
   ·exact s.2.2 (e.trans j)
   rw[j]at e;simp only[Option.some.injEq]at e;omega
  exact⟨s.1,s.2.1,A⟩
 have P:(w8.setCell (Ja wb 9) r).heap[wb]?=some (.cells #[.slice p0 m0 o0,.slice p1 m1 o1,.slice p2 m2 o2,.slice p3 m3 o3,.slice p4 m4 o4,tv,dv,Jn,Jn,r,Ji y,Ji f,Ji (m:Int)] 80 (0,0)):=(Qah C 9 r).trans rfl;have X:Row PCl 5 45 (wb+1) (fun b=>R b/\FS wb dv r b) (w8.setCell (Ja wb 9) r) r (cs++[x]):=o.mv Qay (by omega) (fun q _ d=>n q (by rcases d with e|e;exact e.1.2.1;have:=(L q e).1;omega)) (fun b _ a=>⟨a.1.1,v b a.2 a.1.2⟩)
 have Y:=i.rd.mv Qav (w':=w8.setCell (Ja wb 9) r) (S':=fun b=>R b/\FS wb dv r b) (by omega) (fun q hl d=>by
  have F:q≠wb/\some q≠cv.ownBlock:=by
   rcases d with e|e
   ·exact⟨e.2.1,e.2.2.2⟩
   ·exact⟨by have:=(i.rd.lt q e).1;omega,(fun j=>h.ap q e j)⟩
  exact(n q F.1).trans (l.block q hl F.2)) (fun b hl a=>⟨a.1,v b hl a.2⟩)
 have V:PgS (fun b=>Bd b/\b<wb) (w8.setCell (Ja wb 9) r) [.slice p0 m0 o0,.slice p1 m1 o1,.slice p2 m2 o2,.slice p3 m3 o3,.slice p4 m4 o4] p:=Qak.same _ _ _ _ _ i.hp (by omega) (fun q d hl=>(n q (by have I:q<wb:=d.2;omega)).trans (l.block q hl (fun e=>by have:=(D q e).1;have I:q<wb:=d.2;omega)));refine⟨⟨P,V,Y,X,?_,h.z,h.nd,by rw[List.length_append,List.length_singleton];omega,fun t B=>by rcases List.mem_append.1 B with q|q;exact h.sz t q;rw[List.mem_singleton.1 q];exact hxz⟩,⟨l.os.trans k.os,l.tape.trans k.tape,l.output.trans k.output,by omega,fun q d a=>(n q a.1).trans ((l.block q (by omega) a.2.2).trans (k.block q d)),fun q d a=>v q (by omega) a⟩⟩;exact fun b G j=>by rcases u with e|e;exact i.ap b G (j.trans e);rw[e]at j;simp only[Option.some.injEq]at j;have:=(i.rd.lt b G).2;omega
end
theorem cl13{w:World}{b:Nat}{T:TypeId}{v0 v1 v2 v3 v4 v5 v6 v7 v8 v9 v10 v11 v12:Value}(h:w.heap[b]?=some (.cells #[v0,v1,v2,v3,v4,v5,v6,v7,v8,v9,v10,v11,v12] T (0,0))):
  w.cell? (Ja b 0)=some v0/\w.cell? (Ja b 1)=some v1/\w.cell? (Ja b 2)=some v2/\w.cell? (Ja b 3)=some v3/\w.cell? (Ja b 4)=some v4/\w.cell? (Ja b 5)=some v5/\w.cell? (Ja b 6)=some v6/\w.cell? (Ja b 7)=some v7/\w.cell? (Ja b 8)=some v8/\w.cell? (Ja b 9)=some v9/\w.cell? (Ja b 10)=some v10/\w.cell? (Ja b 11)=some v11/\w.cell? (Ja b 12)=some v12 /\ ∀o,w.frozen? (Ja b o)=false:=
 ⟨(Qad h 0).trans rfl,(Qad h 1).trans rfl,(Qad h 2).trans rfl,(Qad h 3).trans rfl,(Qad h 4).trans rfl,(Qad h 5).trans rfl,(Qad h 6).trans rfl,(Qad h 7).trans rfl,(Qad h 8).trans rfl,(Qad h 9).trans rfl,(Qad h 10).trans rfl,(Qad h 11).trans rfl,(Qad h 12).trans rfl,fun o=>by simp[World.frozen?,h]⟩
section
variable {R:Nat->Prop}{wb:Nat}{p0:Option Addr}{m0 o0:Nat}{p1:Option Addr}{m1 o1:Nat}{p2:Option Addr}{m2 o2:Nat}{p3:Option Addr}{m3 o3:Nat}{p4:Option Addr}{m4 o4:Nat}{p:Pg}{tv:Value}{Bd:Nat->Prop}{w w':World}{dv cv:Value}{ds:List Dcl}{cs:List Cls}{y f:Int}{m:Nat}
def FlF(R:Nat->Prop)(wb:Nat)(p0:Option Addr)(m0 o0:Nat)(p1:Option Addr)(m1 o1:Nat)(p2:Option Addr)(m2 o2:Nat)(p3:Option Addr)(m3 o3:Nat)(p4:Option Addr)(m4 o4:Nat)(p:Pg)(tv:Value)(Bd:Nat->Prop)(w:World)(dv cv:Value)(ds:List Dcl)(cs:List Cls)(y:Int)(m:Nat)(w':World):Prop:=
 ∃y' f',Fl R wb p0 m0 o0 p1 m1 o1 p2 m2 o2 p3 m3 o3 p4 m4 o4 p tv Bd w' dv cv ds cs y' f' m/\Kp wb w w'/\(y≠0->y'≠0)
theorem Qbs(h:Fl R wb p0 m0 o0 p1 m1 o1 p2 m2 o2 p3 m3 o3 p4 m4 o4 p tv Bd w dv cv ds cs y f m){why:Int}(hw:why≠0)(at_:Int):
  Calls Tryz.prog 26 #[.pointer (Js wb),Ji why,Ji at_] w fun en w'=>en = .returned (.tuple #[]) /\ ∃y' f',Fl R wb p0 m0 o0 p1 m1 o1 p2 m2 o2 p3 m3 o3 p4 m4 o4 p tv Bd w' dv cv ds cs y' f' m/\Kp wb w w'/\y'≠0:=by
 obtain⟨j,k,l,n,o,r,s,t,u,v,G,I,i,C⟩:=cl13 h.box;have H:=hide h;have c:=hide hw;have b:=h.z;clear h hw j k l n o r s t u v i C;by_cases a:y=0
 ·
  have B:=b a;subst a;subst B;clear b;go_enter Tryz.func26,Tryz.ntmps26;obtain⟨J,K,L,M,N,O,P,Q,S,T,D,E,F,V⟩:=cl13 (Qa H).box;go_wp2_with fail
  go_end0
  have h:=Qa H;have A:((w.setCell (Ja wb 10) (Ji why)).setCell (Ja wb 11) (Ji at_)).heap[wb]?=some (.cells #[.slice p0 m0 o0,.slice p1 m1 o1,.slice p2 m2 o2,.slice p3 m3 o3,.slice p4 m4 o4,tv,dv,Jn,Jn,cv,Ji why,Ji at_,Ji (m:Int)] 80 (0,0)):=(Qah (Qah h.box 10 _) 11 _).trans rfl;have d:∀q,q≠wb->((w.setCell (Ja wb 10) (Ji why)).setCell (Ja wb 11) (Ji at_)).heap[q]?=w.heap[q]?:=fun q g=>by rw[hpS g,hpS g]
  exact⟨rfl,why,at_,h.cell (by simp) d A (fun e=>absurd e (Qa c)),Kp.cell (by simp) d rfl rfl rfl,Qa c⟩
 have U:(y==0)=false:=beq_eq_false_iff_ne.2 a;have x:=hide a;clear a b;go_enter Tryz.func26,Tryz.ntmps26;go_wp2_with fail
 go_end0
 exact⟨rfl,y,f,Qa H,Kp.refl _ _,Qa x⟩
theorem Qi(a b:Txt):(⟨a.toArray⟩:ByteArray)++⟨b.toArray⟩=⟨(a++b).toArray⟩:=by
 apply ByteArray.ext;apply Array.toList_inj.1;simp
theorem Qdv(h:Fl R wb p0 m0 o0 p1 m1 o1 p2 m2 o2 p3 m3 o3 p4 m4 o4 p tv Bd w dv cv ds cs y f m){s pre:Txt}{S:Nat->Prop}{ov:Value}{own:List Txt}(ho:LsAt PSt 1 S w ov own)(hl:s.length+pre.length<=1000000000000)(at_:Int):
  Calls Tryz.prog 96 #[.pointer (Js wb),str s,str pre,ov,Ji at_] w fun en w'=>∃r:Txt,en = .returned (str r)/\FlF R wb p0 m0 o0 p1 m1 o1 p2 m2 o2 p3 m3 o3 p4 m4 o4 p tv Bd w dv cv ds cs y m w':=by
 have o:(⟨s.toArray⟩:ByteArray).size=s.length:=by simp[ByteArray.size]
 have n:(⟨pre.toArray⟩:ByteArray).size=pre.length:=by simp[ByteArray.size]
 have j:=Qps (w:=w) ⟨s.toArray⟩ (by omega);have H:=hide h;have t:=hide ho;have l:=hide hl;have g:=hide (Ya o n);clear h ho hl o n;unfold str;go_enter Tryz.func96,Tryz.ntmps96;go_wp2_with fail;refine j.mono ?_;clear j;rintro en z⟨⟨v,rfl⟩,rfl⟩;have k:=Qjp (Qa t) v;go_wp2_with fail;refine k.mono ?_;clear k;rintro en w2⟨⟨b,rfl⟩,rfl⟩;cases b
 ·
  go_wp2_with fail;go_ret;exact⟨s,rfl,y,f,Qa H,Kp.refl _ _,fun e=>e⟩
 have i:=Qbs (Qa H) (why:=2) (by decide) at_;have B:(⟨s.toArray⟩:ByteArray).size<=1000000000000:=by have:=Qa l;have:=(Qa g).1;omega
 have C:(⟨pre.toArray⟩:ByteArray).size<=1000000000000:=by have:=Qa l;have:=(Qa g).2;omega
 go_wp2_with fail
 ·
  refine i.mono ?_;clear i;rintro en A⟨rfl,x,u,c,d,a⟩;have q:=hide (Ya c (Ya d a));clear c d a;go_wp2_with fail;go_ret;obtain⟨c,d,a⟩:=Qa q;exact⟨pre++s,by rw[Qi];rfl,x,u,c,d,fun _=>a⟩
 go_ret;exact⟨pre++s,by rw[Qi];rfl,y,f,Qa H,Kp.refl _ _,fun e=>e⟩
end
end
end Go.Proofs.YtmfpbepifnedjaaGreat
