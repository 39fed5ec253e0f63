/- The document's reader. -/
import Derived.Test.YtkhndlnadhggkaaGreatAp01
import Derived.Test.YtkhndlnadhggkaaGreatAp16
set_option maxRecDepth 100000
set_option maxHeartbeats 32000000
namespace Go.Proofs.YtkhndlnadhggkaaGreat
section
open Go.RowKit Go.Maps
theorem P5.radd0{rb tg tcap ta td ti pb base:Nat}{ty tf:Int}{wr w2:World}{v0 v1 v2 v3 v4:Value}{p:Pg}{tl:List Tok}(h:P5 pb base wr v0 v1 v2 v3 v4 p)(hb:base<=wr.heap.size)(hrp:rb<pb)(k2:Kp rb wr w2)(hR:Rr rb tg tcap tl w2 ta td ti ty tf)(htg:tg<base)(htp:tg≠pb){x:Typ}{cs:List Value}(hl:cs.length=4)(h1:∀c∈cs,c.oneCell'=true){S:Nat->Prop}(hx:PTy S w2 cs x)(hS:∀b,S b->wr.heap.size<=b)(hf:p.types.length<=65536)(zb:Nat)(hzb:w2.heap[zb]?=some (.cells cs.toArray 54 (0,0))):
  ∃r w8,(Builtin.append_ #[22,22] 22 #[v0,.slice (Js zb) 1 1]).run Tryz.prog w2 = .ok r w8/\(∃g c,r = .slice (Js g) (p.types.length+1) c/\base<=g/\g<w8.heap.size)/\w8.heap[pb]?=some (.cells #[v0,v1,v2,v3,v4] 28 (0,0)) /\
   P5 pb base (w8.setCell (Ja pb 0) r) r v1 v2 v3 v4 (.mk (p.types++[x]) p.decls p.comps p.inits p.clauses)/\Rr rb tg tcap tl (w8.setCell (Ja pb 0) r) ta td ti ty tf/\KB rb pb base wr (w8.setCell (Ja pb 0) r):=by
 obtain⟨i0,J,O,F,D⟩:=info50;have M:Tryz.prog.underlying 22=some (.slice 54):=by kernel_rfl
 have X:=h.lt;have Z:=k2.size;have q:∀b,some b=v0.ownBlock->base<=b/\b<wr.heap.size:=h.r0.lt;have B:Row PTy 4 54 base (fun b=>P5S base v0 v1 v2 v3 v4 b/\b<w2.heap.size) w2 v0 p.types:=h.r0.move Qbe k2.size (fun b hb hl _=>k2.block b hl (by omega)) (fun b hb=>hb.1) (fun b hl a=>⟨a,by omega⟩)
 have G:PTy (fun b=>P5S base v0 v1 v2 v3 v4 b/\b<w2.heap.size) w2 cs x:=Qbe.mono _ _ _ _ _ hx (fun b hl a=>by
  have W:=hS b a
  exact⟨⟨by omega,fun e=>by have:=h.r0.lt b e;omega,fun e=>by have:=h.r1.lt b e;omega,fun e=>by have:=h.r2.lt b e;omega,fun e=>by have:=h.r3.lt b e;omega,fun e=>by have:=h.r4.lt b e;omega⟩,hl⟩)
 obtain⟨r,w8,L,k,H,⟨g,c,z⟩,t⟩:=B.app Qbe M J O F D rfl (by decide) (by decide) (fun b a=>a.1.2.1) hl h1 G (by omega) hf zb hzb;have a0:=k.size;have l:∀b,b<w2.heap.size->some b≠v0.ownBlock->w8.heap[b]?=w2.heap[b]?:=fun b hb d=>k.block b hb d;have Y:pb<wr.heap.size:=Qaa h.box;have u:w8.heap[pb]?=some (.cells #[v0,v1,v2,v3,v4] 28 (0,0)):=(l pb (by omega) (fun e=>by have:=(q pb e).1;omega)).trans (k2.keep h.box (by omega));have w:∀b,some b=r.ownBlock->some b=v0.ownBlock∨w2.heap.size<=b:=fun b e=>by
  rcases H with j|j
  ·exact .inl (e.trans j)
  rw[j]at e;simp only[Option.some.injEq]at e;exact .inr (by omega)
 have n:∀b,b≠pb->(w8.setCell (Ja pb 0) r).heap[b]?=w8.heap[b]?:=fun b hb=>hpS hb;have V:(w8.setCell (Ja pb 0) r).heap.size=w8.heap.size:=by simp[World.setCell]
 have i:∀b,b<w2.heap.size->P5S base v0 v1 v2 v3 v4 b->P5S base r v1 v2 v3 v4 b:=fun b hb a=>by
  obtain⟨s,P,Q,R,T,U⟩:=a;exact⟨s,(fun e=>by rcases w b e with e|e;exact P e;omega),Q,R,T,U⟩
 have o:∀b,base<=b->b<w2.heap.size->some b≠v0.ownBlock->b≠rb->(w8.setCell (Ja pb 0) r).heap[b]?=w2.heap[b]?:=fun b hb hl d _=>(n b (by omega)).trans (l b hl d);have m:∀v,Apt v v0->(∀b,some b=v.ownBlock->b<w2.heap.size)->Apt v r:=fun v I N b y j=>by
  rcases w b j with e|e
  ·exact I b y e
  ·have:=N b y;omega
 have C:(w8.setCell (Ja pb 0) r).heap[pb]?=some (.cells #[r,v1,v2,v3,v4] 28 (0,0)):=(Qah u 0 r).trans rfl;have E:base<=g/\g<w8.heap.size:=t.lt g (by rw[z];rfl);refine⟨r,w8,L,⟨g,c,z,E⟩,u,⟨C,h.lt,?_,?_,?_,?_,?_,(m v1 h.a01.symm (fun b e=>by have:=h.r1.lt b e;omega)).symm,(m v2 h.a02.symm (fun b e=>by have:=h.r2.lt b e;omega)).symm,(m v3 h.a03.symm (fun b e=>by have:=h.r3.lt b e;omega)).symm,(m v4 h.a04.symm (fun b e=>by have:=h.r4.lt b e;omega)).symm,h.a12,h.a13,h.a14,h.a23,h.a24,h.a34⟩,?_,?_⟩
 ·exact t.move Qbe (by omega) (fun b hb _ _=>n b (by omega)) (fun b a=>a.1.1) (fun b _ a=>i b a.2 a.1)
 ·
  refine(h.r1.move Qav k2.size (S':=fun b=>P5S base v0 v1 v2 v3 v4 b/\b<w2.heap.size) (fun b hb hl _=>k2.block b hl (by omega)) (fun b hb=>hb.1) (fun b hl a=>⟨a,by omega⟩)).move Qav (by omega) (fun b hb hl f=>?_) (fun b a=>a.1.1) (fun b _ a=>i b a.2 a.1);refine o b hb hl ?_ (by omega);rcases f with a|e
  ·exact a.1.2.1
  ·exact h.a01.symm b e
 ·
  refine(h.r2.move Qbj k2.size (S':=fun b=>P5S base v0 v1 v2 v3 v4 b/\b<w2.heap.size) (fun b hb hl _=>k2.block b hl (by omega)) (fun b hb=>hb.1) (fun b hl a=>⟨a,by omega⟩)).move Qbj (by omega) (fun b hb hl f=>?_) (fun b a=>a.1.1) (fun b _ a=>i b a.2 a.1);refine o b hb hl ?_ (by omega);rcases f with a|e
  ·exact a.1.2.1
  ·exact h.a02.symm b e
 ·
  refine(h.r3.move Qbg k2.size (S':=fun b=>P5S base v0 v1 v2 v3 v4 b/\b<w2.heap.size) (fun b hb hl _=>k2.block b hl (by omega)) (fun b hb=>hb.1) (fun b hl a=>⟨a,by omega⟩)).move Qbg (by omega) (fun b hb hl f=>?_) (fun b a=>a.1.1) (fun b _ a=>i b a.2 a.1);refine o b hb hl ?_ (by omega);rcases f with a|e
  ·exact a.1.2.1
  ·exact h.a03.symm b e
 ·
  refine(h.r4.move Qaw k2.size (S':=fun b=>P5S base v0 v1 v2 v3 v4 b/\b<w2.heap.size) (fun b hb hl _=>k2.block b hl (by omega)) (fun b hb=>hb.1) (fun b hl a=>⟨a,by omega⟩)).move Qaw (by omega) (fun b hb hl f=>?_) (fun b a=>a.1.1) (fun b _ a=>i b a.2 a.1);refine o b hb hl ?_ (by omega);rcases f with a|e
  ·exact a.1.2.1
  ·exact h.a04.symm b e
 ·
  have A:∀b,b<base->b≠pb->b<w2.heap.size->(w8.setCell (Ja pb 0) r).heap[b]?=w2.heap[b]?:=fun b hb d hl=>(n b d).trans (l b hl (fun e=>by have:=(q b e).1;omega));exact hR.move (by omega) (A rb (by omega) (by omega) (Qaa hR.box)) (A tg htg htp hR.row.lt)
 have a:=(Below.refl 0 w8).setCell (p:=(Ja pb 0)) (Nat.zero_le _) r;refine⟨a.os.trans (k.os.trans k2.os),a.tape.trans (k.tape.trans k2.tape),a.output.trans (k.output.trans k2.output),by omega,fun b hb d K=>?_⟩;rw[n b K,l b (by omega) (fun e=>by have:=(q b e).1;omega)];exact k2.block b (by omega) d
theorem P5.radd1{rb tg tcap ta td ti pb base:Nat}{ty tf:Int}{wr w2:World}{v0 v1 v2 v3 v4:Value}{p:Pg}{tl:List Tok}(h:P5 pb base wr v0 v1 v2 v3 v4 p)(hb:base<=wr.heap.size)(hrp:rb<pb)(k2:Kp rb wr w2)(hR:Rr rb tg tcap tl w2 ta td ti ty tf)(htg:tg<base)(htp:tg≠pb){x:Dcl}{cs:List Value}(hl:cs.length=5)(h1:∀c∈cs,c.oneCell'=true){S:Nat->Prop}(hx:PDc S w2 cs x)(hS:∀b,S b->wr.heap.size<=b)(hf:p.decls.length<=65536)(zb:Nat)(hzb:w2.heap[zb]?=some (.cells cs.toArray 63 (0,0))):
  ∃r w8,(Builtin.append_ #[23,23] 23 #[v1,.slice (Js zb) 1 1]).run Tryz.prog w2 = .ok r w8/\(∃g c,r = .slice (Js g) (p.decls.length+1) c/\base<=g/\g<w8.heap.size)/\w8.heap[pb]?=some (.cells #[v0,v1,v2,v3,v4] 28 (0,0)) /\
   P5 pb base (w8.setCell (Ja pb 1) r) v0 r v2 v3 v4 (.mk p.types (p.decls++[x]) p.comps p.inits p.clauses)/\Rr rb tg tcap tl (w8.setCell (Ja pb 1) r) ta td ti ty tf/\KB rb pb base wr (w8.setCell (Ja pb 1) r):=by
 obtain⟨i0,J,O,F,D⟩:=info51;have M:Tryz.prog.underlying 23=some (.slice 63):=by kernel_rfl
 have X:=h.lt;have Z:=k2.size;have q:∀b,some b=v1.ownBlock->base<=b/\b<wr.heap.size:=h.r1.lt;have B:Row PDc 5 63 base (fun b=>P5S base v0 v1 v2 v3 v4 b/\b<w2.heap.size) w2 v1 p.decls:=h.r1.move Qav k2.size (fun b hb hl _=>k2.block b hl (by omega)) (fun b hb=>hb.1) (fun b hl a=>⟨a,by omega⟩)
 have G:PDc (fun b=>P5S base v0 v1 v2 v3 v4 b/\b<w2.heap.size) w2 cs x:=Qav.mono _ _ _ _ _ hx (fun b hl a=>by
  have W:=hS b a
  exact⟨⟨by omega,fun e=>by have:=h.r0.lt b e;omega,fun e=>by have:=h.r1.lt b e;omega,fun e=>by have:=h.r2.lt b e;omega,fun e=>by have:=h.r3.lt b e;omega,fun e=>by have:=h.r4.lt b e;omega⟩,hl⟩)
 obtain⟨r,w8,L,k,H,⟨g,c,z⟩,t⟩:=B.app Qav M J O F D rfl (by decide) (by decide) (fun b a=>a.1.2.2.1) hl h1 G (by omega) hf zb hzb;have a0:=k.size;have l:∀b,b<w2.heap.size->some b≠v1.ownBlock->w8.heap[b]?=w2.heap[b]?:=fun b hb d=>k.block b hb d;have Y:pb<wr.heap.size:=Qaa h.box;have u:w8.heap[pb]?=some (.cells #[v0,v1,v2,v3,v4] 28 (0,0)):=(l pb (by omega) (fun e=>by have:=(q pb e).1;omega)).trans (k2.keep h.box (by omega));have w:∀b,some b=r.ownBlock->some b=v1.ownBlock∨w2.heap.size<=b:=fun b e=>by
  rcases H with j|j
  ·exact .inl (e.trans j)
  rw[j]at e;simp only[Option.some.injEq]at e;exact .inr (by omega)
 have n:∀b,b≠pb->(w8.setCell (Ja pb 1) r).heap[b]?=w8.heap[b]?:=fun b hb=>hpS hb;have V:(w8.setCell (Ja pb 1) r).heap.size=w8.heap.size:=by simp[World.setCell]
 have i:∀b,b<w2.heap.size->P5S base v0 v1 v2 v3 v4 b->P5S base v0 r v2 v3 v4 b:=fun b hb a=>by
  obtain⟨s,P,Q,R,T,U⟩:=a;exact⟨s,P,(fun e=>by rcases w b e with e|e;exact Q e;omega),R,T,U⟩
 have o:∀b,base<=b->b<w2.heap.size->some b≠v1.ownBlock->b≠rb->(w8.setCell (Ja pb 1) r).heap[b]?=w2.heap[b]?:=fun b hb hl d _=>(n b (by omega)).trans (l b hl d);have m:∀v,Apt v v1->(∀b,some b=v.ownBlock->b<w2.heap.size)->Apt v r:=fun v I N b y j=>by
  rcases w b j with e|e
  ·exact I b y e
  ·have:=N b y;omega
 have C:(w8.setCell (Ja pb 1) r).heap[pb]?=some (.cells #[v0,r,v2,v3,v4] 28 (0,0)):=(Qah u 1 r).trans rfl;have E:base<=g/\g<w8.heap.size:=t.lt g (by rw[z];rfl);refine⟨r,w8,L,⟨g,c,z,E⟩,u,⟨C,h.lt,?_,?_,?_,?_,?_,m v0 h.a01 (fun b e=>by have:=h.r0.lt b e;omega),h.a02,h.a03,h.a04,(m v2 h.a12.symm (fun b e=>by have:=h.r2.lt b e;omega)).symm,(m v3 h.a13.symm (fun b e=>by have:=h.r3.lt b e;omega)).symm,(m v4 h.a14.symm (fun b e=>by have:=h.r4.lt b e;omega)).symm,h.a23,h.a24,h.a34⟩,?_,?_⟩
 ·
  refine(h.r0.move Qbe k2.size (S':=fun b=>P5S base v0 v1 v2 v3 v4 b/\b<w2.heap.size) (fun b hb hl _=>k2.block b hl (by omega)) (fun b hb=>hb.1) (fun b hl a=>⟨a,by omega⟩)).move Qbe (by omega) (fun b hb hl f=>?_) (fun b a=>a.1.1) (fun b _ a=>i b a.2 a.1);refine o b hb hl ?_ (by omega);rcases f with a|e
  ·exact a.1.2.2.1
  ·exact h.a01 b e
 ·exact t.move Qav (by omega) (fun b hb _ _=>n b (by omega)) (fun b a=>a.1.1) (fun b _ a=>i b a.2 a.1)
 ·
  refine(h.r2.move Qbj k2.size (S':=fun b=>P5S base v0 v1 v2 v3 v4 b/\b<w2.heap.size) (fun b hb hl _=>k2.block b hl (by omega)) (fun b hb=>hb.1) (fun b hl a=>⟨a,by omega⟩)).move Qbj (by omega) (fun b hb hl f=>?_) (fun b a=>a.1.1) (fun b _ a=>i b a.2 a.1);refine o b hb hl ?_ (by omega);rcases f with a|e
  ·exact a.1.2.2.1
  ·exact h.a12.symm b e
 ·
  refine(h.r3.move Qbg k2.size (S':=fun b=>P5S base v0 v1 v2 v3 v4 b/\b<w2.heap.size) (fun b hb hl _=>k2.block b hl (by omega)) (fun b hb=>hb.1) (fun b hl a=>⟨a,by omega⟩)).move Qbg (by omega) (fun b hb hl f=>?_) (fun b a=>a.1.1) (fun b _ a=>i b a.2 a.1);refine o b hb hl ?_ (by omega);rcases f with a|e
  ·exact a.1.2.2.1
  ·exact h.a13.symm b e
 ·
  refine(h.r4.move Qaw k2.size (S':=fun b=>P5S base v0 v1 v2 v3 v4 b/\b<w2.heap.size) (fun b hb hl _=>k2.block b hl (by omega)) (fun b hb=>hb.1) (fun b hl a=>⟨a,by omega⟩)).move Qaw (by omega) (fun b hb hl f=>?_) (fun b a=>a.1.1) (fun b _ a=>i b a.2 a.1);refine o b hb hl ?_ (by omega);rcases f with a|e
  ·exact a.1.2.2.1
  ·exact h.a14.symm b e
 ·
  have A:∀b,b<base->b≠pb->b<w2.heap.size->(w8.setCell (Ja pb 1) r).heap[b]?=w2.heap[b]?:=fun b hb d hl=>(n b d).trans (l b hl (fun e=>by have:=(q b e).1;omega));exact hR.move (by omega) (A rb (by omega) (by omega) (Qaa hR.box)) (A tg htg htp hR.row.lt)
 have a:=(Below.refl 0 w8).setCell (p:=(Ja pb 1)) (Nat.zero_le _) r;refine⟨a.os.trans (k.os.trans k2.os),a.tape.trans (k.tape.trans k2.tape),a.output.trans (k.output.trans k2.output),by omega,fun b hb d K=>?_⟩;rw[n b K,l b (by omega) (fun e=>by have:=(q b e).1;omega)];exact k2.block b (by omega) d
theorem P5.radd2{rb tg tcap ta td ti pb base:Nat}{ty tf:Int}{wr w2:World}{v0 v1 v2 v3 v4:Value}{p:Pg}{tl:List Tok}(h:P5 pb base wr v0 v1 v2 v3 v4 p)(hb:base<=wr.heap.size)(hrp:rb<pb)(k2:Kp rb wr w2)(hR:Rr rb tg tcap tl w2 ta td ti ty tf)(htg:tg<base)(htp:tg≠pb){x:Cp}{cs:List Value}(hl:cs.length=8)(h1:∀c∈cs,c.oneCell'=true){S:Nat->Prop}(hx:PCo S w2 cs x)(hS:∀b,S b->wr.heap.size<=b)(hf:p.comps.length<=65536)(zb:Nat)(hzb:w2.heap[zb]?=some (.cells cs.toArray 83 (0,0))):
  ∃r w8,(Builtin.append_ #[24,24] 24 #[v2,.slice (Js zb) 1 1]).run Tryz.prog w2 = .ok r w8/\(∃g c,r = .slice (Js g) (p.comps.length+1) c/\base<=g/\g<w8.heap.size)/\w8.heap[pb]?=some (.cells #[v0,v1,v2,v3,v4] 28 (0,0)) /\
   P5 pb base (w8.setCell (Ja pb 2) r) v0 v1 r v3 v4 (.mk p.types p.decls (p.comps++[x]) p.inits p.clauses)/\Rr rb tg tcap tl (w8.setCell (Ja pb 2) r) ta td ti ty tf/\KB rb pb base wr (w8.setCell (Ja pb 2) r)/\(∀b,wr.heap.size<=b->b<w2.heap.size->w8.heap[b]?=w2.heap[b]?/\some b≠r.ownBlock)/\w2.heap.size<=w8.heap.size:=by
 obtain⟨i0,L,Q,G,D⟩:=info52;have O:Tryz.prog.underlying 24=some (.slice 83):=by kernel_rfl
 have Z:=h.lt;have a1:=k2.size;have j:∀b,some b=v2.ownBlock->base<=b/\b<wr.heap.size:=h.r2.lt;have B:Row PCo 8 83 base (fun b=>P5S base v0 v1 v2 v3 v4 b/\b<w2.heap.size) w2 v2 p.comps:=h.r2.move Qbj k2.size (fun b hb hl _=>k2.block b hl (by omega)) (fun b hb=>hb.1) (fun b hl a=>⟨a,by omega⟩)
 have H:PCo (fun b=>P5S base v0 v1 v2 v3 v4 b/\b<w2.heap.size) w2 cs x:=Qbj.mono _ _ _ _ _ hx (fun b hl a=>by
  have Y:=hS b a
  exact⟨⟨by omega,fun e=>by have:=h.r0.lt b e;omega,fun e=>by have:=h.r1.lt b e;omega,fun e=>by have:=h.r2.lt b e;omega,fun e=>by have:=h.r3.lt b e;omega,fun e=>by have:=h.r4.lt b e;omega⟩,hl⟩)
 obtain⟨r,w8,N,m,I,⟨g,c,z⟩,u⟩:=B.app Qbj O L Q G D rfl (by decide) (by decide) (fun b a=>a.1.2.2.2.1) hl h1 H (by omega) hf zb hzb;have F:=m.size;have i:∀b,b<w2.heap.size->some b≠v2.ownBlock->w8.heap[b]?=w2.heap[b]?:=fun b hb d=>m.block b hb d;have a0:pb<wr.heap.size:=Qaa h.box;have w:w8.heap[pb]?=some (.cells #[v0,v1,v2,v3,v4] 28 (0,0)):=(i pb (by omega) (fun e=>by have:=(j pb e).1;omega)).trans (k2.keep h.box (by omega));have t:∀b,some b=r.ownBlock->some b=v2.ownBlock∨w2.heap.size<=b:=fun b e=>by
  rcases I with l|l
  ·exact .inl (e.trans l)
  rw[l]at e;simp only[Option.some.injEq]at e;exact .inr (by omega)
 have o:∀b,b≠pb->(w8.setCell (Ja pb 2) r).heap[b]?=w8.heap[b]?:=fun b hb=>hpS hb;have X:(w8.setCell (Ja pb 2) r).heap.size=w8.heap.size:=by simp[World.setCell]
 have k:∀b,b<w2.heap.size->P5S base v0 v1 v2 v3 v4 b->P5S base v0 v1 r v3 v4 b:=fun b hb a=>by
  obtain⟨s,R,T,U,V,W⟩:=a;exact⟨s,R,T,(fun e=>by rcases t b e with e|e;exact U e;omega),V,W⟩
 have q:∀b,base<=b->b<w2.heap.size->some b≠v2.ownBlock->b≠rb->(w8.setCell (Ja pb 2) r).heap[b]?=w2.heap[b]?:=fun b hb hl d _=>(o b (by omega)).trans (i b hl d);have n:∀v,Apt v v2->(∀b,some b=v.ownBlock->b<w2.heap.size)->Apt v r:=fun v K P b y l=>by
  rcases t b l with e|e
  ·exact K b y e
  ·have:=P b y;omega
 have C:(w8.setCell (Ja pb 2) r).heap[pb]?=some (.cells #[v0,v1,r,v3,v4] 28 (0,0)):=(Qah w 2 r).trans rfl;have E:base<=g/\g<w8.heap.size:=u.lt g (by rw[z];rfl);refine⟨r,w8,N,⟨g,c,z,E⟩,w,⟨C,h.lt,?_,?_,?_,?_,?_,h.a01,n v0 h.a02 (fun b e=>by have:=h.r0.lt b e;omega),h.a03,h.a04,n v1 h.a12 (fun b e=>by have:=h.r1.lt b e;omega),h.a13,h.a14,(n v3 h.a23.symm (fun b e=>by have:=h.r3.lt b e;omega)).symm,(n v4 h.a24.symm (fun b e=>by have:=h.r4.lt b e;omega)).symm,h.a34⟩,?_,?_,fun b h1 J=>⟨i b J (fun e=>by have:=(j b e).2;omega),fun e=>by rcases t b e with e|e;have:=(j b e).2;omega;omega⟩,F⟩
 ·
  refine(h.r0.move Qbe k2.size (S':=fun b=>P5S base v0 v1 v2 v3 v4 b/\b<w2.heap.size) (fun b hb hl _=>k2.block b hl (by omega)) (fun b hb=>hb.1) (fun b hl a=>⟨a,by omega⟩)).move Qbe (by omega) (fun b hb hl f=>?_) (fun b a=>a.1.1) (fun b _ a=>k b a.2 a.1);refine q b hb hl ?_ (by omega);rcases f with a|e
  ·exact a.1.2.2.2.1
  ·exact h.a02 b e
 ·
  refine(h.r1.move Qav k2.size (S':=fun b=>P5S base v0 v1 v2 v3 v4 b/\b<w2.heap.size) (fun b hb hl _=>k2.block b hl (by omega)) (fun b hb=>hb.1) (fun b hl a=>⟨a,by omega⟩)).move Qav (by omega) (fun b hb hl f=>?_) (fun b a=>a.1.1) (fun b _ a=>k b a.2 a.1);refine q b hb hl ?_ (by omega);rcases f with a|e
  ·exact a.1.2.2.2.1
  ·exact h.a12 b e
 ·exact u.move Qbj (by omega) (fun b hb _ _=>o b (by omega)) (fun b a=>a.1.1) (fun b _ a=>k b a.2 a.1)
 ·
  refine(h.r3.move Qbg k2.size (S':=fun b=>P5S base v0 v1 v2 v3 v4 b/\b<w2.heap.size) (fun b hb hl _=>k2.block b hl (by omega)) (fun b hb=>hb.1) (fun b hl a=>⟨a,by omega⟩)).move Qbg (by omega) (fun b hb hl f=>?_) (fun b a=>a.1.1) (fun b _ a=>k b a.2 a.1);refine q b hb hl ?_ (by omega);rcases f with a|e
  ·exact a.1.2.2.2.1
  ·exact h.a23.symm b e
 ·
  refine(h.r4.move Qaw k2.size (S':=fun b=>P5S base v0 v1 v2 v3 v4 b/\b<w2.heap.size) (fun b hb hl _=>k2.block b hl (by omega)) (fun b hb=>hb.1) (fun b hl a=>⟨a,by omega⟩)).move Qaw (by omega) (fun b hb hl f=>?_) (fun b a=>a.1.1) (fun b _ a=>k b a.2 a.1);refine q b hb hl ?_ (by omega);rcases f with a|e
  ·exact a.1.2.2.2.1
  ·exact h.a24.symm b e
 ·
  have A:∀b,b<base->b≠pb->b<w2.heap.size->(w8.setCell (Ja pb 2) r).heap[b]?=w2.heap[b]?:=fun b hb d hl=>(o b d).trans (i b hl (fun e=>by have:=(j b e).1;omega));exact hR.move (by omega) (A rb (by omega) (by omega) (Qaa hR.box)) (A tg htg htp hR.row.lt)
 have a:=(Below.refl 0 w8).setCell (p:=(Ja pb 2)) (Nat.zero_le _) r;refine⟨a.os.trans (m.os.trans k2.os),a.tape.trans (m.tape.trans k2.tape),a.output.trans (m.output.trans k2.output),by omega,fun b hb d M=>?_⟩;rw[o b M,i b (by omega) (fun e=>by have:=(j b e).1;omega)];exact k2.block b (by omega) d
theorem P5.radd3{rb tg tcap ta td ti pb base:Nat}{ty tf:Int}{wr w2:World}{v0 v1 v2 v3 v4:Value}{p:Pg}{tl:List Tok}(h:P5 pb base wr v0 v1 v2 v3 v4 p)(hb:base<=wr.heap.size)(hrp:rb<pb)(k2:Kp rb wr w2)(hR:Rr rb tg tcap tl w2 ta td ti ty tf)(htg:tg<base)(htp:tg≠pb){x:Ini}{cs:List Value}(hl:cs.length=3)(h1:∀c∈cs,c.oneCell'=true){S:Nat->Prop}(hx:PIn S w2 cs x)(hS:∀b,S b->wr.heap.size<=b)(hf:p.inits.length<=65536)(zb:Nat)(hzb:w2.heap[zb]?=some (.cells cs.toArray 93 (0,0))):
  ∃r w8,(Builtin.append_ #[25,25] 25 #[v3,.slice (Js zb) 1 1]).run Tryz.prog w2 = .ok r w8/\(∃g c,r = .slice (Js g) (p.inits.length+1) c/\base<=g/\g<w8.heap.size)/\w8.heap[pb]?=some (.cells #[v0,v1,v2,v3,v4] 28 (0,0)) /\
   P5 pb base (w8.setCell (Ja pb 3) r) v0 v1 v2 r v4 (.mk p.types p.decls p.comps (p.inits++[x]) p.clauses)/\Rr rb tg tcap tl (w8.setCell (Ja pb 3) r) ta td ti ty tf/\KB rb pb base wr (w8.setCell (Ja pb 3) r):=by
 obtain⟨i0,J,O,F,D⟩:=info53;have M:Tryz.prog.underlying 25=some (.slice 93):=by kernel_rfl
 have X:=h.lt;have Z:=k2.size;have q:∀b,some b=v3.ownBlock->base<=b/\b<wr.heap.size:=h.r3.lt;have B:Row PIn 3 93 base (fun b=>P5S base v0 v1 v2 v3 v4 b/\b<w2.heap.size) w2 v3 p.inits:=h.r3.move Qbg k2.size (fun b hb hl _=>k2.block b hl (by omega)) (fun b hb=>hb.1) (fun b hl a=>⟨a,by omega⟩)
 have G:PIn (fun b=>P5S base v0 v1 v2 v3 v4 b/\b<w2.heap.size) w2 cs x:=Qbg.mono _ _ _ _ _ hx (fun b hl a=>by
  have W:=hS b a
  exact⟨⟨by omega,fun e=>by have:=h.r0.lt b e;omega,fun e=>by have:=h.r1.lt b e;omega,fun e=>by have:=h.r2.lt b e;omega,fun e=>by have:=h.r3.lt b e;omega,fun e=>by have:=h.r4.lt b e;omega⟩,hl⟩)
 obtain⟨r,w8,L,k,H,⟨g,c,z⟩,t⟩:=B.app Qbg M J O F D rfl (by decide) (by decide) (fun b a=>a.1.2.2.2.2.1) hl h1 G (by omega) hf zb hzb;have a0:=k.size;have l:∀b,b<w2.heap.size->some b≠v3.ownBlock->w8.heap[b]?=w2.heap[b]?:=fun b hb d=>k.block b hb d;have Y:pb<wr.heap.size:=Qaa h.box;have u:w8.heap[pb]?=some (.cells #[v0,v1,v2,v3,v4] 28 (0,0)):=(l pb (by omega) (fun e=>by have:=(q pb e).1;omega)).trans (k2.keep h.box (by omega));have w:∀b,some b=r.ownBlock->some b=v3.ownBlock∨w2.heap.size<=b:=fun b e=>by
  rcases H with j|j
  ·exact .inl (e.trans j)
  rw[j]at e;simp only[Option.some.injEq]at e;exact .inr (by omega)
 have n:∀b,b≠pb->(w8.setCell (Ja pb 3) r).heap[b]?=w8.heap[b]?:=fun b hb=>hpS hb;have V:(w8.setCell (Ja pb 3) r).heap.size=w8.heap.size:=by simp[World.setCell]
 have i:∀b,b<w2.heap.size->P5S base v0 v1 v2 v3 v4 b->P5S base v0 v1 v2 r v4 b:=fun b hb a=>by
  obtain⟨s,P,Q,R,T,U⟩:=a;exact⟨s,P,Q,R,(fun e=>by rcases w b e with e|e;exact T e;omega),U⟩
 have o:∀b,base<=b->b<w2.heap.size->some b≠v3.ownBlock->b≠rb->(w8.setCell (Ja pb 3) r).heap[b]?=w2.heap[b]?:=fun b hb hl d _=>(n b (by omega)).trans (l b hl d);have m:∀v,Apt v v3->(∀b,some b=v.ownBlock->b<w2.heap.size)->Apt v r:=fun v I N b y j=>by
  rcases w b j with e|e
  ·exact I b y e
  ·have:=N b y;omega
 have C:(w8.setCell (Ja pb 3) r).heap[pb]?=some (.cells #[v0,v1,v2,r,v4] 28 (0,0)):=(Qah u 3 r).trans rfl;have E:base<=g/\g<w8.heap.size:=t.lt g (by rw[z];rfl);refine⟨r,w8,L,⟨g,c,z,E⟩,u,⟨C,h.lt,?_,?_,?_,?_,?_,h.a01,h.a02,m v0 h.a03 (fun b e=>by have:=h.r0.lt b e;omega),h.a04,h.a12,m v1 h.a13 (fun b e=>by have:=h.r1.lt b e;omega),h.a14,m v2 h.a23 (fun b e=>by have:=h.r2.lt b e;omega),h.a24,(m v4 h.a34.symm (fun b e=>by have:=h.r4.lt b e;omega)).symm⟩,?_,?_⟩
 ·
  refine(h.r0.move Qbe k2.size (S':=fun b=>P5S base v0 v1 v2 v3 v4 b/\b<w2.heap.size) (fun b hb hl _=>k2.block b hl (by omega)) (fun b hb=>hb.1) (fun b hl a=>⟨a,by omega⟩)).move Qbe (by omega) (fun b hb hl f=>?_) (fun b a=>a.1.1) (fun b _ a=>i b a.2 a.1);refine o b hb hl ?_ (by omega);rcases f with a|e
  ·exact a.1.2.2.2.2.1
  ·exact h.a03 b e
 ·
  refine(h.r1.move Qav k2.size (S':=fun b=>P5S base v0 v1 v2 v3 v4 b/\b<w2.heap.size) (fun b hb hl _=>k2.block b hl (by omega)) (fun b hb=>hb.1) (fun b hl a=>⟨a,by omega⟩)).move Qav (by omega) (fun b hb hl f=>?_) (fun b a=>a.1.1) (fun b _ a=>i b a.2 a.1);refine o b hb hl ?_ (by omega);rcases f with a|e
  ·exact a.1.2.2.2.2.1
  ·exact h.a13 b e
 ·
  refine(h.r2.move Qbj k2.size (S':=fun b=>P5S base v0 v1 v2 v3 v4 b/\b<w2.heap.size) (fun b hb hl _=>k2.block b hl (by omega)) (fun b hb=>hb.1) (fun b hl a=>⟨a,by omega⟩)).move Qbj (by omega) (fun b hb hl f=>?_) (fun b a=>a.1.1) (fun b _ a=>i b a.2 a.1);refine o b hb hl ?_ (by omega);rcases f with a|e
  ·exact a.1.2.2.2.2.1
  ·exact h.a23 b e
 ·exact t.move Qbg (by omega) (fun b hb _ _=>n b (by omega)) (fun b a=>a.1.1) (fun b _ a=>i b a.2 a.1)
 ·
  refine(h.r4.move Qaw k2.size (S':=fun b=>P5S base v0 v1 v2 v3 v4 b/\b<w2.heap.size) (fun b hb hl _=>k2.block b hl (by omega)) (fun b hb=>hb.1) (fun b hl a=>⟨a,by omega⟩)).move Qaw (by omega) (fun b hb hl f=>?_) (fun b a=>a.1.1) (fun b _ a=>i b a.2 a.1);refine o b hb hl ?_ (by omega);rcases f with a|e
  ·exact a.1.2.2.2.2.1
  ·exact h.a34.symm b e
 ·
  have A:∀b,b<base->b≠pb->b<w2.heap.size->(w8.setCell (Ja pb 3) r).heap[b]?=w2.heap[b]?:=fun b hb d hl=>(n b d).trans (l b hl (fun e=>by have:=(q b e).1;omega));exact hR.move (by omega) (A rb (by omega) (by omega) (Qaa hR.box)) (A tg htg htp hR.row.lt)
 have a:=(Below.refl 0 w8).setCell (p:=(Ja pb 3)) (Nat.zero_le _) r;refine⟨a.os.trans (k.os.trans k2.os),a.tape.trans (k.tape.trans k2.tape),a.output.trans (k.output.trans k2.output),by omega,fun b hb d K=>?_⟩;rw[n b K,l b (by omega) (fun e=>by have:=(q b e).1;omega)];exact k2.block b (by omega) d
theorem P5.radd4{rb tg tcap ta td ti pb base:Nat}{ty tf:Int}{wr w2:World}{v0 v1 v2 v3 v4:Value}{p:Pg}{tl:List Tok}(h:P5 pb base wr v0 v1 v2 v3 v4 p)(hb:base<=wr.heap.size)(hrp:rb<pb)(k2:Kp rb wr w2)(hR:Rr rb tg tcap tl w2 ta td ti ty tf)(htg:tg<base)(htp:tg≠pb){x:Cls}{cs:List Value}(hl:cs.length=5)(h1:∀c∈cs,c.oneCell'=true){S:Nat->Prop}(hx:PCl S w2 cs x)(hS:∀b,S b->wr.heap.size<=b)(hf:p.clauses.length<=65536)(zb:Nat)(hzb:w2.heap[zb]?=some (.cells cs.toArray 45 (0,0))):
  ∃r w8,(Builtin.append_ #[26,26] 26 #[v4,.slice (Js zb) 1 1]).run Tryz.prog w2 = .ok r w8/\(∃g c,r = .slice (Js g) (p.clauses.length+1) c/\base<=g/\g<w8.heap.size)/\w8.heap[pb]?=some (.cells #[v0,v1,v2,v3,v4] 28 (0,0)) /\
   P5 pb base (w8.setCell (Ja pb 4) r) v0 v1 v2 v3 r (.mk p.types p.decls p.comps p.inits (p.clauses++[x]))/\Rr rb tg tcap tl (w8.setCell (Ja pb 4) r) ta td ti ty tf/\KB rb pb base wr (w8.setCell (Ja pb 4) r):=by
 obtain⟨i0,J,O,F,D⟩:=info54;have M:Tryz.prog.underlying 26=some (.slice 45):=by kernel_rfl
 have X:=h.lt;have Z:=k2.size;have q:∀b,some b=v4.ownBlock->base<=b/\b<wr.heap.size:=h.r4.lt;have B:Row PCl 5 45 base (fun b=>P5S base v0 v1 v2 v3 v4 b/\b<w2.heap.size) w2 v4 p.clauses:=h.r4.move Qaw k2.size (fun b hb hl _=>k2.block b hl (by omega)) (fun b hb=>hb.1) (fun b hl a=>⟨a,by omega⟩)
 have G:PCl (fun b=>P5S base v0 v1 v2 v3 v4 b/\b<w2.heap.size) w2 cs x:=Qaw.mono _ _ _ _ _ hx (fun b hl a=>by
  have W:=hS b a
  exact⟨⟨by omega,fun e=>by have:=h.r0.lt b e;omega,fun e=>by have:=h.r1.lt b e;omega,fun e=>by have:=h.r2.lt b e;omega,fun e=>by have:=h.r3.lt b e;omega,fun e=>by have:=h.r4.lt b e;omega⟩,hl⟩)
 obtain⟨r,w8,L,k,H,⟨g,c,z⟩,t⟩:=B.app Qaw M J O F D rfl (by decide) (by decide) (fun b a=>a.1.2.2.2.2.2) hl h1 G (by omega) hf zb hzb;have a0:=k.size;have l:∀b,b<w2.heap.size->some b≠v4.ownBlock->w8.heap[b]?=w2.heap[b]?:=fun b hb d=>k.block b hb d;have Y:pb<wr.heap.size:=Qaa h.box;have u:w8.heap[pb]?=some (.cells #[v0,v1,v2,v3,v4] 28 (0,0)):=(l pb (by omega) (fun e=>by have:=(q pb e).1;omega)).trans (k2.keep h.box (by omega));have w:∀b,some b=r.ownBlock->some b=v4.ownBlock∨w2.heap.size<=b:=fun b e=>by
  rcases H with j|j
  ·exact .inl (e.trans j)
  rw[j]at e;simp only[Option.some.injEq]at e;exact .inr (by omega)
 have n:∀b,b≠pb->(w8.setCell (Ja pb 4) r).heap[b]?=w8.heap[b]?:=fun b hb=>hpS hb;have V:(w8.setCell (Ja pb 4) r).heap.size=w8.heap.size:=by simp[World.setCell]
 have i:∀b,b<w2.heap.size->P5S base v0 v1 v2 v3 v4 b->P5S base v0 v1 v2 v3 r b:=fun b hb a=>by
  obtain⟨s,P,Q,R,T,U⟩:=a;exact⟨s,P,Q,R,T,(fun e=>by rcases w b e with e|e;exact U e;omega)⟩
 have o:∀b,base<=b->b<w2.heap.size->some b≠v4.ownBlock->b≠rb->(w8.setCell (Ja pb 4) r).heap[b]?=w2.heap[b]?:=fun b hb hl d _=>(n b (by omega)).trans (l b hl d);have m:∀v,Apt v v4->(∀b,some b=v.ownBlock->b<w2.heap.size)->Apt v r:=fun v I N b y j=>by
  rcases w b j with e|e
  ·exact I b y e
  ·have:=N b y;omega
 have C:(w8.setCell (Ja pb 4) r).heap[pb]?=some (.cells #[v0,v1,v2,v3,r] 28 (0,0)):=(Qah u 4 r).trans rfl;have E:base<=g/\g<w8.heap.size:=t.lt g (by rw[z];rfl);refine⟨r,w8,L,⟨g,c,z,E⟩,u,⟨C,h.lt,?_,?_,?_,?_,?_,h.a01,h.a02,h.a03,m v0 h.a04 (fun b e=>by have:=h.r0.lt b e;omega),h.a12,h.a13,m v1 h.a14 (fun b e=>by have:=h.r1.lt b e;omega),h.a23,m v2 h.a24 (fun b e=>by have:=h.r2.lt b e;omega),m v3 h.a34 (fun b e=>by have:=h.r3.lt b e;omega)⟩,?_,?_⟩
 ·
  refine(h.r0.move Qbe k2.size (S':=fun b=>P5S base v0 v1 v2 v3 v4 b/\b<w2.heap.size) (fun b hb hl _=>k2.block b hl (by omega)) (fun b hb=>hb.1) (fun b hl a=>⟨a,by omega⟩)).move Qbe (by omega) (fun b hb hl f=>?_) (fun b a=>a.1.1) (fun b _ a=>i b a.2 a.1);refine o b hb hl ?_ (by omega);rcases f with a|e
  ·exact a.1.2.2.2.2.2
  ·exact h.a04 b e
 ·
  refine(h.r1.move Qav k2.size (S':=fun b=>P5S base v0 v1 v2 v3 v4 b/\b<w2.heap.size) (fun b hb hl _=>k2.block b hl (by omega)) (fun b hb=>hb.1) (fun b hl a=>⟨a,by omega⟩)).move Qav (by omega) (fun b hb hl f=>?_) (fun b a=>a.1.1) (fun b _ a=>i b a.2 a.1);refine o b hb hl ?_ (by omega);rcases f with a|e
  ·exact a.1.2.2.2.2.2
  ·exact h.a14 b e
 ·
  refine(h.r2.move Qbj k2.size (S':=fun b=>P5S base v0 v1 v2 v3 v4 b/\b<w2.heap.size) (fun b hb hl _=>k2.block b hl (by omega)) (fun b hb=>hb.1) (fun b hl a=>⟨a,by omega⟩)).move Qbj (by omega) (fun b hb hl f=>?_) (fun b a=>a.1.1) (fun b _ a=>i b a.2 a.1);refine o b hb hl ?_ (by omega);rcases f with a|e
  ·exact a.1.2.2.2.2.2
  ·exact h.a24 b e
 ·
  refine(h.r3.move Qbg k2.size (S':=fun b=>P5S base v0 v1 v2 v3 v4 b/\b<w2.heap.size) (fun b hb hl _=>k2.block b hl (by omega)) (fun b hb=>hb.1) (fun b hl a=>⟨a,by omega⟩)).move Qbg (by omega) (fun b hb hl f=>?_) (fun b a=>a.1.1) (fun b _ a=>i b a.2 a.1);refine o b hb hl ?_ (by omega);rcases f with a|e
  ·exact a.1.2.2.2.2.2
  ·exact h.a34 b e
 ·exact t.move Qaw (by omega) (fun b hb _ _=>n b (by omega)) (fun b a=>a.1.1) (fun b _ a=>i b a.2 a.1)
 ·
  have A:∀b,b<base->b≠pb->b<w2.heap.size->(w8.setCell (Ja pb 4) r).heap[b]?=w2.heap[b]?:=fun b hb d hl=>(n b d).trans (l b hl (fun e=>by have:=(q b e).1;omega));exact hR.move (by omega) (A rb (by omega) (by omega) (Qaa hR.box)) (A tg htg htp hR.row.lt)
 have a:=(Below.refl 0 w8).setCell (p:=(Ja pb 4)) (Nat.zero_le _) r;refine⟨a.os.trans (k.os.trans k2.os),a.tape.trans (k.tape.trans k2.tape),a.output.trans (k.output.trans k2.output),by omega,fun b hb d K=>?_⟩;rw[n b K,l b (by omega) (fun e=>by have:=(q b e).1;omega)];exact k2.block b (by omega) d
structure PgB(rb g:Nat)(w:World)(pb:Nat)(W:World)(v0 v1 v2 v3 v4:Value)(p:Pg):Prop where
 p5:P5 pb (pb+1) W v0 v1 v2 v3 v4 p
 kp:Kp rb w W
 res:W.heap[w.heap.size]?=some (.cells #[.slice none 0 0,.slice none 0 0,.slice none 0 0,.slice none 0 0,.slice none 0 0] 28 (0,0))
 r1:rb<w.heap.size
 g1:g<w.heap.size
 x1:w.heap.size<pb
theorem PgB.call{rb g:Nat}{w:World}{pb:Nat}{W W':World}{v0 v1 v2 v3 v4:Value}{p:Pg}(h:PgB rb g w pb W v0 v1 v2 v3 v4 p)(k:Kp rb W W'):PgB rb g w pb W' v0 v1 v2 v3 v4 p:=
 ⟨h.p5.kp k (by have:=h.r1;have:=h.x1;omega),h.kp.trans k,k.keep h.res (by have:=h.r1;omega),h.r1,h.g1,h.x1⟩
theorem PgB.fin{rb g:Nat}{w:World}{pb:Nat}{W W':World}{v0 v1 v2 v3 v4:Value}{p:Pg}(h:PgB rb g w pb W v0 v1 v2 v3 v4 p)(hs:W'.heap.size=W.heap.size)(ho:W'.os=W.os/\W'.tape=W.tape/\W'.output=W.output)(hb:∀q,q≠w.heap.size->W'.heap[q]?=W.heap[q]?):Kp rb w W'/\PgS (fun b=>w.heap.size<=b) W' [v0,v1,v2,v3,v4] p:=by
 have m:=h.x1;refine⟨⟨ho.1.trans h.kp.os,ho.2.1.trans h.kp.tape,ho.2.2.trans h.kp.output,by rw[hs];exact h.kp.size,fun q l k=>(hb q (by omega)).trans (h.kp.block q l k)⟩,?_⟩;have d:=((h.p5.r0.ls Qbe (fun b hs=>hs.1)).same Qbe (w':=W') (by omega) (fun b a _=>hb b (by have c:pb+1<=b:=a;omega))).mono Qbe (S':=fun b=>w.heap.size<=b) (fun b _ a=>by have c:pb+1<=b:=a;omega);have e:=((h.p5.r1.ls Qav (fun b hs=>hs.1)).same Qav (w':=W') (by omega) (fun b a _=>hb b (by have c:pb+1<=b:=a;omega))).mono Qav (S':=fun b=>w.heap.size<=b) (fun b _ a=>by have c:pb+1<=b:=a;omega);have f:=((h.p5.r2.ls Qbj (fun b hs=>hs.1)).same Qbj (w':=W') (by omega) (fun b a _=>hb b (by have c:pb+1<=b:=a;omega))).mono Qbj (S':=fun b=>w.heap.size<=b) (fun b _ a=>by have c:pb+1<=b:=a;omega);have i:=((h.p5.r3.ls Qbg (fun b hs=>hs.1)).same Qbg (w':=W') (by omega) (fun b a _=>hb b (by have c:pb+1<=b:=a;omega))).mono Qbg (S':=fun b=>w.heap.size<=b) (fun b _ a=>by have c:pb+1<=b:=a;omega);have j:=((h.p5.r4.ls Qaw (fun b hs=>hs.1)).same Qaw (w':=W') (by omega) (fun b a _=>hb b (by have c:pb+1<=b:=a;omega))).mono Qaw (S':=fun b=>w.heap.size<=b) (fun b _ a=>by have c:pb+1<=b:=a;omega);have:=Qji d e f i j;cases p
 exact this
theorem PgB.more0{rb g:Nat}{w:World}{pb:Nat}{W w2:World}{v0 v1 v2 v3 v4:Value}{p:Pg}{cap a d i:Nat}{l:List Tok}{y f:Int}(h:PgB rb g w pb W v0 v1 v2 v3 v4 p)(k2:Kp rb W w2)(hR:Rr rb g cap l w2 a d i y f){x:Typ}{cs:List Value}(hl:cs.length=4)(h1:∀c∈cs,c.oneCell'=true)(hx:PTy (fun b=>W.heap.size<=b) w2 cs x)(hf:p.types.length<=65536):
  ∃ga gc w8,(Builtin.append_ #[22,22] 22 #[v0,.slice (Js w2.heap.size) 1 1]).run Tryz.prog (w2.alloc (.cells cs.toArray 54)) = .ok (.slice (Js ga) (p.types.length+1) gc) w8/\w8.heap[pb]?=some (.cells #[v0,v1,v2,v3,v4] 28 (0,0))/\PgB rb g w pb (w8.setCell (Ja pb 0) (.slice (Js ga) (p.types.length+1) gc)) (.slice (Js ga) (p.types.length+1) gc) v1 v2 v3 v4 (.mk (p.types++[x]) p.decls p.comps p.inits p.clauses)/\Rr rb g cap l (w8.setCell (Ja pb 0) (.slice (Js ga) (p.types.length+1) gc)) a d i y f:=by
 have t:=h.x1;have s:=h.r1;have o:=h.g1;have C:=Qaa h.p5.box;have j:Below w2.heap.size w2 (w2.alloc (.cells cs.toArray 54)):=(Below.refl _ w2).alloc (Nat.le_refl _) _;obtain⟨r,w8,m,⟨ga,gc,v,_,_⟩,n,z,u,e⟩:=h.p5.radd0 (rb:=rb) (by omega) (by omega) (k2.trans (Kp.of_below j)) (hR.later j) (by omega) (by omega) hl h1 (Qbe.same _ _ _ _ _ hx j.size (fun b _ hl=>j.block b hl)) (fun b A=>A) hf w2.heap.size (heap_alloc_new w2 _);subst v;exact⟨ga,gc,w8,m,n,⟨z,⟨e.os.trans h.kp.os,e.tape.trans h.kp.tape,e.output.trans h.kp.output,Nat.le_trans h.kp.size e.size,fun q B k=>(e.block q (by omega) k (by omega)).trans (h.kp.block q B k)⟩,(e.block _ (by omega) (by omega) (by omega)).trans h.res,s,o,t⟩,u⟩
theorem PgB.more1{rb g:Nat}{w:World}{pb:Nat}{W w2:World}{v0 v1 v2 v3 v4:Value}{p:Pg}{cap a d i:Nat}{l:List Tok}{y f:Int}(h:PgB rb g w pb W v0 v1 v2 v3 v4 p)(k2:Kp rb W w2)(hR:Rr rb g cap l w2 a d i y f){x:Dcl}{cs:List Value}(hl:cs.length=5)(h1:∀c∈cs,c.oneCell'=true)(hx:PDc (fun b=>W.heap.size<=b) w2 cs x)(hf:p.decls.length<=65536):
  ∃ga gc w8,(Builtin.append_ #[23,23] 23 #[v1,.slice (Js w2.heap.size) 1 1]).run Tryz.prog (w2.alloc (.cells cs.toArray 63)) = .ok (.slice (Js ga) (p.decls.length+1) gc) w8/\w8.heap[pb]?=some (.cells #[v0,v1,v2,v3,v4] 28 (0,0))/\PgB rb g w pb (w8.setCell (Ja pb 1) (.slice (Js ga) (p.decls.length+1) gc)) v0 (.slice (Js ga) (p.decls.length+1) gc) v2 v3 v4 (.mk p.types (p.decls++[x]) p.comps p.inits p.clauses)/\Rr rb g cap l (w8.setCell (Ja pb 1) (.slice (Js ga) (p.decls.length+1) gc)) a d i y f:=by
 have t:=h.x1;have s:=h.r1;have o:=h.g1;have C:=Qaa h.p5.box;have j:Below w2.heap.size w2 (w2.alloc (.cells cs.toArray 63)):=(Below.refl _ w2).alloc (Nat.le_refl _) _;obtain⟨r,w8,m,⟨ga,gc,v,_,_⟩,n,z,u,e⟩:=h.p5.radd1 (rb:=rb) (by omega) (by omega) (k2.trans (Kp.of_below j)) (hR.later j) (by omega) (by omega) hl h1 (Qav.same _ _ _ _ _ hx j.size (fun b _ hl=>j.block b hl)) (fun b A=>A) hf w2.heap.size (heap_alloc_new w2 _);subst v;exact⟨ga,gc,w8,m,n,⟨z,⟨e.os.trans h.kp.os,e.tape.trans h.kp.tape,e.output.trans h.kp.output,Nat.le_trans h.kp.size e.size,fun q B k=>(e.block q (by omega) k (by omega)).trans (h.kp.block q B k)⟩,(e.block _ (by omega) (by omega) (by omega)).trans h.res,s,o,t⟩,u⟩
theorem PgB.more2{rb g:Nat}{w:World}{pb:Nat}{W w2:World}{v0 v1 v2 v3 v4:Value}{p:Pg}{cap a d i:Nat}{l:List Tok}{y f:Int}(h:PgB rb g w pb W v0 v1 v2 v3 v4 p)(k2:Kp rb W w2)(hR:Rr rb g cap l w2 a d i y f){x:Cp}{cs:List Value}(hl:cs.length=8)(h1:∀c∈cs,c.oneCell'=true)(hx:PCo (fun b=>W.heap.size<=b) w2 cs x)(hf:p.comps.length<=65536):
  ∃ga gc w8,(Builtin.append_ #[24,24] 24 #[v2,.slice (Js w2.heap.size) 1 1]).run Tryz.prog (w2.alloc (.cells cs.toArray 83)) = .ok (.slice (Js ga) (p.comps.length+1) gc) w8/\w8.heap[pb]?=some (.cells #[v0,v1,v2,v3,v4] 28 (0,0))/\PgB rb g w pb (w8.setCell (Ja pb 2) (.slice (Js ga) (p.comps.length+1) gc)) v0 v1 (.slice (Js ga) (p.comps.length+1) gc) v3 v4 (.mk p.types p.decls (p.comps++[x]) p.inits p.clauses)/\Rr rb g cap l (w8.setCell (Ja pb 2) (.slice (Js ga) (p.comps.length+1) gc)) a d i y f:=by
 have t:=h.x1;have s:=h.r1;have o:=h.g1;have C:=Qaa h.p5.box;have j:Below w2.heap.size w2 (w2.alloc (.cells cs.toArray 83)):=(Below.refl _ w2).alloc (Nat.le_refl _) _;obtain⟨r,w8,m,⟨ga,gc,v,_,_⟩,n,z,u,e,_,_⟩:=h.p5.radd2 (rb:=rb) (by omega) (by omega) (k2.trans (Kp.of_below j)) (hR.later j) (by omega) (by omega) hl h1 (Qbj.same _ _ _ _ _ hx j.size (fun b _ hl=>j.block b hl)) (fun b A=>A) hf w2.heap.size (heap_alloc_new w2 _);subst v;exact⟨ga,gc,w8,m,n,⟨z,⟨e.os.trans h.kp.os,e.tape.trans h.kp.tape,e.output.trans h.kp.output,Nat.le_trans h.kp.size e.size,fun q B k=>(e.block q (by omega) k (by omega)).trans (h.kp.block q B k)⟩,(e.block _ (by omega) (by omega) (by omega)).trans h.res,s,o,t⟩,u⟩
theorem PgB.more3{rb g:Nat}{w:World}{pb:Nat}{W w2:World}{v0 v1 v2 v3 v4:Value}{p:Pg}{cap a d i:Nat}{l:List Tok}{y f:Int}(h:PgB rb g w pb W v0 v1 v2 v3 v4 p)(k2:Kp rb W w2)(hR:Rr rb g cap l w2 a d i y f){x:Ini}{cs:List Value}(hl:cs.length=3)(h1:∀c∈cs,c.oneCell'=true)(hx:PIn (fun b=>W.heap.size<=b) w2 cs x)(hf:p.inits.length<=65536):
  ∃ga gc w8,(Builtin.append_ #[25,25] 25 #[v3,.slice (Js w2.heap.size) 1 1]).run Tryz.prog (w2.alloc (.cells cs.toArray 93)) = .ok (.slice (Js ga) (p.inits.length+1) gc) w8/\w8.heap[pb]?=some (.cells #[v0,v1,v2,v3,v4] 28 (0,0))/\PgB rb g w pb (w8.setCell (Ja pb 3) (.slice (Js ga) (p.inits.length+1) gc)) v0 v1 v2 (.slice (Js ga) (p.inits.length+1) gc) v4 (.mk p.types p.decls p.comps (p.inits++[x]) p.clauses)/\Rr rb g cap l (w8.setCell (Ja pb 3) (.slice (Js ga) (p.inits.length+1) gc)) a d i y f:=by
 have t:=h.x1;have s:=h.r1;have o:=h.g1;have C:=Qaa h.p5.box;have j:Below w2.heap.size w2 (w2.alloc (.cells cs.toArray 93)):=(Below.refl _ w2).alloc (Nat.le_refl _) _;obtain⟨r,w8,m,⟨ga,gc,v,_,_⟩,n,z,u,e⟩:=h.p5.radd3 (rb:=rb) (by omega) (by omega) (k2.trans (Kp.of_below j)) (hR.later j) (by omega) (by omega) hl h1 (Qbg.same _ _ _ _ _ hx j.size (fun b _ hl=>j.block b hl)) (fun b A=>A) hf w2.heap.size (heap_alloc_new w2 _);subst v;exact⟨ga,gc,w8,m,n,⟨z,⟨e.os.trans h.kp.os,e.tape.trans h.kp.tape,e.output.trans h.kp.output,Nat.le_trans h.kp.size e.size,fun q B k=>(e.block q (by omega) k (by omega)).trans (h.kp.block q B k)⟩,(e.block _ (by omega) (by omega) (by omega)).trans h.res,s,o,t⟩,u⟩
theorem PgB.more4{rb g:Nat}{w:World}{pb:Nat}{W w2:World}{v0 v1 v2 v3 v4:Value}{p:Pg}{cap a d i:Nat}{l:List Tok}{y f:Int}(h:PgB rb g w pb W v0 v1 v2 v3 v4 p)(k2:Kp rb W w2)(hR:Rr rb g cap l w2 a d i y f){x:Cls}{cs:List Value}(hl:cs.length=5)(h1:∀c∈cs,c.oneCell'=true)(hx:PCl (fun b=>W.heap.size<=b) w2 cs x)(hf:p.clauses.length<=65536):
  ∃ga gc w8,(Builtin.append_ #[26,26] 26 #[v4,.slice (Js w2.heap.size) 1 1]).run Tryz.prog (w2.alloc (.cells cs.toArray 45)) = .ok (.slice (Js ga) (p.clauses.length+1) gc) w8/\w8.heap[pb]?=some (.cells #[v0,v1,v2,v3,v4] 28 (0,0))/\PgB rb g w pb (w8.setCell (Ja pb 4) (.slice (Js ga) (p.clauses.length+1) gc)) v0 v1 v2 v3 (.slice (Js ga) (p.clauses.length+1) gc) (.mk p.types p.decls p.comps p.inits (p.clauses++[x]))/\Rr rb g cap l (w8.setCell (Ja pb 4) (.slice (Js ga) (p.clauses.length+1) gc)) a d i y f:=by
 have t:=h.x1;have s:=h.r1;have o:=h.g1;have C:=Qaa h.p5.box;have j:Below w2.heap.size w2 (w2.alloc (.cells cs.toArray 45)):=(Below.refl _ w2).alloc (Nat.le_refl _) _;obtain⟨r,w8,m,⟨ga,gc,v,_,_⟩,n,z,u,e⟩:=h.p5.radd4 (rb:=rb) (by omega) (by omega) (k2.trans (Kp.of_below j)) (hR.later j) (by omega) (by omega) hl h1 (Qaw.same _ _ _ _ _ hx j.size (fun b _ hl=>j.block b hl)) (fun b A=>A) hf w2.heap.size (heap_alloc_new w2 _);subst v;exact⟨ga,gc,w8,m,n,⟨z,⟨e.os.trans h.kp.os,e.tape.trans h.kp.tape,e.output.trans h.kp.output,Nat.le_trans h.kp.size e.size,fun q B k=>(e.block q (by omega) k (by omega)).trans (h.kp.block q B k)⟩,(e.block _ (by omega) (by omega) (by omega)).trans h.res,s,o,t⟩,u⟩
end
end Go.Proofs.YtkhndlnadhggkaaGreat
