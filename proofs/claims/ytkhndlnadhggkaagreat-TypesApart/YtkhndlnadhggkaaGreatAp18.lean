/- The document's flattener. -/
import Derived.Test.YtkhndlnadhggkaaGreatAp01
import Derived.Test.YtkhndlnadhggkaaGreatAp09
import Derived.Test.YtkhndlnadhggkaaGreatAp15
import Derived.Test.YtkhndlnadhggkaaGreatAp17
import Derived.Test.YtkhndlnadhggkaaGreatAp16
import Derived.Test.YtkhndlnadhggkaaGreatAp04
set_option maxRecDepth 100000
set_option maxHeartbeats 32000000
namespace Go.Proofs.YtkhndlnadhggkaaGreat
section
open Go.RowKit Go.Maps
theorem lt_atf{w:World}{b o:Nat}{cs:List Value}(hl:cs.length=16)(h:∀q c,cs[q]?=some c->w.cell? (Ja b (o+q))=some c):(ltLoad (.pointer (some (Ja b o)))).run Tryz.prog w = .ok (.agg cs.toArray) w:=
 run_loadAt_mid w b o 61 cs _ (fun q v a=>h q v a) Tryz.underlying61 rfl (by rw[hl];exact Qdi)
theorem lt_putf(w:World){cs:List Value}(hl:cs.length=16)(h1:∀c∈cs,c.oneCell'=true):(ltStore (.pointer (Js w.heap.size)) (.agg cs.toArray)).run Tryz.prog (w.alloc (.cells #[Ji 0,Je,Jn,Ji 0,Je,Ji 0,Ji 0,Je,Jn,Ji 0,Ji 0,Ji 0,Je,Jn,Ji 0,Ji 0] 61)) = .ok () (w.alloc (.cells cs.toArray 61)):=
 run_storeAt_new w 61 _ _ (by rw[List.size_toArray,hl];exact Qdi) (by simp[hl]) (by simpa using h1)
theorem new2(w:World)(cs ds:Array Value)(T U:TypeId):∃w2,w2=(w.alloc (.cells cs T)).alloc (.cells ds U)/\Below w.heap.size w w2/\w2.heap[w.heap.size]?=some (.cells cs T (0,0))/\w2.heap[w.heap.size+1]?=some (.cells ds U (0,0))/\w2.heap.size=w.heap.size+2:=by
 refine⟨_,rfl,((Below.refl _ w).alloc (Nat.le_refl _) _).alloc (by simp) _,?_,?_,by simp⟩
 ·rw[Below.heap_alloc _ _ _ (by simp)];exact heap_alloc_new w _
 have:=heap_alloc_new (w.alloc (.cells cs T)) (.cells ds U);rwa [show(w.alloc (.cells cs T)).heap.size=w.heap.size+1 by simp]at this
theorem Kp.grow{rb:Nat}{w W W':World}{sl:Value}(k:Kp rb w W)(g:W.grownBy W' sl.ownBlock)(ho:∀b,some b=sl.ownBlock->w.heap.size<=b):Kp rb w W':=
 ⟨g.os.trans k.os,g.tape.trans k.tape,g.output.trans k.output,Nat.le_trans k.size g.size,fun q c a=>(g.block q (by have:=k.size;omega) (fun e=>by have:=ho q e;omega)).trans (k.block q c a)⟩
theorem Row.more{α : Type}{p:PS α}{k:Nat}{T:TypeId}{base:Nat}(hp:PSok p){ST:TypeId}{i0:TypeInfo}{z:Value}{by_:Nat}(ht:Tryz.prog.underlying ST=some (.slice T))(hi:Tryz.prog.info? T=some i0)(hz:i0.zero=some z)(hsz:i0.size=k)(hby:i0.bytes=by_)(hzc:z.cells.size=k)(hk:0<k)(hb6:by_<=1000)
  {S:Nat->Prop}{w:World}{sl:Value}{acc:List α}(h:Row p k T base S w sl acc)(hS:∀b,S b->b<base){x:α}{cs:List Value}(hl:cs.length=k)(h1:∀c∈cs,c.oneCell'=true)(hx:p S w cs x)(hbase:base<=w.heap.size)(hf:acc.length<=1000000):
  ∃g c w8,(Builtin.append_ #[ST,ST] ST #[sl,.slice (Js w.heap.size) 1 1]).run Tryz.prog (w.alloc (.cells cs.toArray T)) = .ok (.slice (Js g) (acc.length+1) c) w8/\w.grownBy w8 sl.ownBlock/\acc.length+1<=c/\c<=maxLen/\Row p k T base S w8 (.slice (Js g) (acc.length+1) c) (acc++[x]):=by
 have a:Below w.heap.size w (w.alloc (.cells cs.toArray T)):=(Below.refl _ w).alloc (Nat.le_refl _) _;have o:=heap_alloc_new w (.cells cs.toArray T);have E:(w.alloc (.cells cs.toArray T)).heap.size=w.heap.size+1:=by simp
 have D:=h.lt;have v:Row p k T base S (w.alloc (.cells cs.toArray T)) sl acc:=h.mv hp a.size (fun q i _=>a.block q i) (fun _ _ l=>l);have t:p S (w.alloc (.cells cs.toArray T)) cs x:=hp.same _ _ _ _ _ hx a.size (fun q _ i=>a.block q i);obtain⟨W,K⟩:=JE (w.alloc (.cells cs.toArray T));rw[<- K]at a o E v t ⊢;obtain⟨n,O,L⟩:=v
 obtain⟨r,w8,U,A,d,_,X⟩:=run_append_own_at (P:=Tryz.prog) W base ST ST T i0 z k by_ ht hi hz hsz hby hzc hk sl acc.length n.flatten O (Ja w.heap.size 0) 1 1 cs (by rw[hl,Nat.one_mul]) (fun j u M=>by
  have F:((Ja w.heap.size 0):Addr).add j=(Ja w.heap.size j):=by cases j<;>simp[Addr.add]
  rw[F,Qad o]
  simpa using M) h1 (by unfold maxLen;omega) (by
  have J:acc.length+1<=1000001:=by omega
  have:=Nat.mul_le_mul J hb6
  omega) (by omega)
 have s:∀b,S b->b<W.heap.size->w8.heap[b]?=W.heap[b]?:=fun b l C=>d.block b C (fun e=>by have:=hS b l;have:=(D b e).1;omega);have B:Row p k T base S w8 r (acc++[x]):=⟨n++[cs],by rw[List.length_append];simpa using A,(L.same hp d.size s).snoc hl (hp.same _ _ _ _ _ t d.size s)⟩;have G:w.grownBy w8 sl.ownBlock:=⟨d.os.trans a.os,d.tape.trans a.tape,d.output.trans a.output,Nat.le_trans a.size d.size,fun q i N=>(d.block q (by omega) N).trans (a.block q i)⟩;rcases A.2 with ⟨_,e⟩|⟨g,cap,V,e,_,_,H,I,_⟩
 ·omega
 subst e;exact⟨g,cap,w8,U,G,H,I,B⟩
section
variable {R Q:Nat->Prop}{wb:Nat}{p0:Option Addr}{m0 o0:Nat}{p1:Option Addr}{m1 o1:Nat}{p2:Option Addr}{m2 o2:Nat}{p3:Option Addr}{m3 o3:Nat}{p4:Option Addr}{m4 o4:Nat}{p:Pg}{tv:Value}{Bd:Nat->Prop}{w:World}{dv cv:Value}{ds:List Dcl}{cs:List Cls}{y f:Int}{m:Nat}
theorem Fl.out{n0:Nat}{W W':World}(h:Fl (fun b=>R b/\b<n0) wb p0 m0 o0 p1 m1 o1 p2 m2 o2 p3 m3 o3 p4 m4 o4 p tv Bd W dv cv ds cs y f m)(hd:∀b,(some b=dv.ownBlock∨some b=cv.ownBlock)->b<n0)(hw:wb<n0)(hs:W.heap.size<=W'.heap.size)(hb:∀q,q<n0->q<W.heap.size->W'.heap[q]?=W.heap[q]?):Fl (fun b=>R b/\b<n0) wb p0 m0 o0 p1 m1 o1 p2 m2 o2 p3 m3 o3 p4 m4 o4 p tv Bd W' dv cv ds cs y f m:=
 h.keep hs (fun q a c=>hb q (by rcases c with e|e|e;exact e.2;omega;exact hd q e) a)
structure ClW(R Q:Nat->Prop)(wb:Nat)(p0:Option Addr)(m0 o0:Nat)(p1:Option Addr)(m1 o1:Nat)(p2:Option Addr)(m2 o2:Nat)(p3:Option Addr)(m3 o3:Nat)(p4:Option Addr)(m4 o4:Nat)(p:Pg)(tv:Value)(Bd:Nat->Prop)(w:World)(dv cv:Value)(ds:List Dcl)(cs:List Cls)(y:Int)(m:Nat)(bx:Array Value)(W:World)(sl:Value)(acc:List Lt):Prop where
 fl:∃y1 f1,Fl (fun b=>R b/\b<w.heap.size) wb p0 m0 o0 p1 m1 o1 p2 m2 o2 p3 m3 o3 p4 m4 o4 p tv Bd W dv cv ds cs y1 f1 m/\(y≠0->y1≠0)
 kp:Kp wb w W
 bx:W.heap[w.heap.size]?=some (.cells bx 45 (0,0))
 zx:W.heap[w.heap.size+1]?=some (.cells #[.string ⟨#[]⟩,.slice none 0 0,.int .i64 0,.slice none 0 0,.int .i64 0] 45 (0,0))
 row:Row PLt 16 61 (w.heap.size+2) (fun b=>(Q b/\b≠wb)/\b<w.heap.size) W sl acc
 wl:wb<w.heap.size
 dl:∀b,(some b=dv.ownBlock∨some b=cv.ownBlock)->b<w.heap.size
variable {bx:Array Value}{W W':World}{sl:Value}{acc:List Lt}
theorem ClW.next(h:ClW R Q wb p0 m0 o0 p1 m1 o1 p2 m2 o2 p3 m3 o3 p4 m4 o4 p tv Bd w dv cv ds cs y m bx W sl acc)(k:Kp wb W W'){y1 f1:Int}(hf:Fl (fun b=>R b/\b<w.heap.size) wb p0 m0 o0 p1 m1 o1 p2 m2 o2 p3 m3 o3 p4 m4 o4 p tv Bd W' dv cv ds cs y1 f1 m)(hy:y≠0->y1≠0):ClW R Q wb p0 m0 o0 p1 m1 o1 p2 m2 o2 p3 m3 o3 p4 m4 o4 p tv Bd w dv cv ds cs y m bx W' sl acc:=
 ⟨⟨y1,f1,hf,hy⟩,h.kp.trans k,k.keep h.bx (by have:=h.wl;omega),k.keep h.zx (by have:=h.wl;omega),h.row.mv Qb k.size (fun q a c=>k.block q a (by rcases c with e|e;exact e.1.2;have:=(h.row.lt q e).1;have:=h.wl;omega)) (fun _ _ d=>d),h.wl,h.dl⟩
theorem ClW.size(h:ClW R Q wb p0 m0 o0 p1 m1 o1 p2 m2 o2 p3 m3 o3 p4 m4 o4 p tv Bd w dv cv ds cs y m bx W sl acc):w.heap.size+2<=W.heap.size:=by
 have:=Qaa h.zx;omega
theorem ClW.more(h:ClW R Q wb p0 m0 o0 p1 m1 o1 p2 m2 o2 p3 m3 o3 p4 m4 o4 p tv Bd w dv cv ds cs y m bx W sl acc){x:Lt}{xs:List Value}(hl:xs.length=16)(h1:∀c∈xs,c.oneCell'=true)(hx:PLt (fun b=>(Q b/\b≠wb)/\b<w.heap.size) W xs x)(hf:acc.length<=1000000):
  ∃g c w8,(Builtin.append_ #[43,43] 43 #[sl,.slice (Js W.heap.size) 1 1]).run Tryz.prog (W.alloc (.cells xs.toArray 61)) = .ok (.slice (Js g) (acc.length+1) c) w8/\acc.length+1<=c/\c<=maxLen/\ClW R Q wb p0 m0 o0 p1 m1 o1 p2 m2 o2 p3 m3 o3 p4 m4 o4 p tv Bd w dv cv ds cs y m bx w8 (.slice (Js g) (acc.length+1) c) (acc++[x]):=by
 obtain⟨E,u,B,o,k⟩:=infoL;obtain⟨g,c,w8,z,d,t,l,j⟩:=h.row.more Qb (by kernel_rfl:Tryz.prog.underlying 43=some (.slice 61)) u B o k rfl (by decide) (by decide) (fun b A=>by have:=A.2;omega) hl h1 hx h.size hf;obtain⟨C,s,n,r⟩:=h.fl;have D:=h.size;have i:∀b,some b=sl.ownBlock->w.heap.size+2<=b:=fun b e=>(h.row.lt b e).1;have a:∀q,q<w.heap.size+2->w8.heap[q]?=W.heap[q]?:=fun q v=>d.block q (by omega) (fun e=>by have:=i q e;omega);exact⟨g,c,w8,z,t,l,⟨⟨C,s,n.out h.dl h.wl d.size (fun q v _=>a q (by omega)),r⟩,h.kp.grow d (fun b e=>by have:=i b e;omega),(a _ (by omega)).trans h.bx,(a _ (by omega)).trans h.zx,j,h.wl,h.dl⟩⟩
attribute [local go_sem ↓] Qbi Qbo
theorem Qfn{y0:Int}(h:Fl R wb p0 m0 o0 p1 m1 o1 p2 m2 o2 p3 m3 o3 p4 m4 o4 p tv Bd w dv cv ds cs y0 f m)(x:Cls){aa ba:Option Addr}{an ac bn bc:Nat}(hA:LsAt PE 5 Q w (.slice aa an ac) x.head.args)(hB:LsAt PLt 16 Q w (.slice ba bn bc) x.body)(hQ:∀b,Q b->b≠wb){pre:Txt}{ov:Value}{own:List Txt}(hO:LsAt PSt 1 (fun b=>b≠wb) w ov own)(hl:x.head.rel.length+pre.length<=1000000000000)(hlb:∀t∈x.body,t.atom.rel.length+pre.length<=1000000000000)(hn:x.body.length<=1000000):
  Calls Tryz.prog 97 #[.pointer (Js wb),.agg #[str x.head.rel,.slice aa an ac,Ji x.head.at_,.slice ba bn bc,Ji x.at_],str pre,ov] w fun en w'=>∃(v:Value) (x':Cls),en = .returned v/\VCl (fun b=>Q b∨w.heap.size<=b) w' v x'/\ltBs x'.body=ltBs x.body/\FlF R wb p0 m0 o0 p1 m1 o1 p2 m2 o2 p3 m3 o3 p4 m4 o4 p tv Bd w dv cv ds cs y0 m w':=by
 obtain⟨w2,aS,M,nx,nz,s2⟩:=new2 w #[str x.head.rel,.slice aa an ac,Ji x.head.at_,.slice ba bn bc,Ji x.at_] #[Je,Jn,Ji 0,Jn,Ji 0] 45 45;have A:=h.lt;have z:∀b,(some b=dv.ownBlock∨some b=cv.ownBlock)->b<w.heap.size:=fun b e=>(h.dlt b e).2;have h2:Fl (fun b=>R b/\b<w.heap.size) wb p0 m0 o0 p1 m1 o1 p2 m2 o2 p3 m3 o3 p4 m4 o4 p tv Bd w2 dv cv ds cs y0 f m:=(h.mono (fun b hl hr=>⟨hr,hl⟩)).later M;have aI:=hO.same Qao M.size (fun q _ hl=>M.block q hl);have ad:=Qdo h2 aI hl x.head.at_;have s:x.body.length=bn:=by obtain⟨_,_,e⟩:=hB.sl;cases e;rfl
 have bk:=hB.cap rfl;obtain⟨ap,aq,ar,au,av,xf⟩:=cl5 nx;have HW:=hide aS;have HH:=hide (Ya M (Ya nx (Ya nz s2)));have HA:=hide hA;have HB:=hide (Ya hB s);have HO:=hide hO;have HL:=hide (Ya hlb hn);have HQ:=hide hQ;have HD:=hide (Ya A z);clear aS M nx nz s2 hA hB s hO aI hlb hn hQ A z h2 h hl;go_enter Tryz.func97,Tryz.ntmps97;go_upto_region 1 with fail;rw[<- Qa HW];go_wp2_with fail;refine ad.mono ?_;clear ad ap aq ar au av;rintro en w3⟨r,rfl,y3,f3,h3,k3,e3⟩;obtain⟨M,nx,nz,s2⟩:=Qa HH;obtain⟨A,z⟩:=Qa HD;have aF:=k3.keep nx (by omega);have aU:=k3.keep nz (by omega);obtain⟨ap,aq,ar,au,av,bi⟩:=cl5 aF;obtain⟨w4,Y⟩:=JE (w3.setCell (Ja w.heap.size 0) (str r));have ao:∀q,q≠w.heap.size->w4.heap[q]?=w3.heap[q]?:=fun q a=>by rw[Y,hpS a]
 have s4:w4.heap.size=w3.heap.size:=by rw[Y];simp
 have aT:w4.heap[w.heap.size]?=some (.cells #[str r,.slice aa an ac,Ji x.head.at_,.slice ba bn bc,Ji x.at_] 45 (0,0)):=by rw[Y];exact(Qah aF 0 _).trans rfl
 have C4:Hid (ClW R Q wb p0 m0 o0 p1 m1 o1 p2 m2 o2 p3 m3 o3 p4 m4 o4 p tv Bd w dv cv ds cs y0 m #[str r,.slice aa an ac,Ji x.head.at_,.slice ba bn bc,Ji x.at_] w4 (Jn) []):=hide ⟨⟨y3,f3,h3.out z A (by omega) (fun q a _=>ao q (by omega)),e3⟩,by rw[Y];exact((Kp.of_below M).trans k3).set2 (Nat.le_refl _),aT,(ao _ (by omega)).trans aU,Row.nil _ _,A,z⟩;have aG:=hide Y;clear M nx nz s2 A z aF aU Y ao s4 aT h3 k3 e3 xf HH;go_upto_region 2 with fail;rw[<- Qa aG];clear aG ap aq ar au av bi;go_wp2_with fail;go_loopw [9,10] (fun lv iv wr=>∃(acc:List Lt) (i:Nat) (F:Option Addr) (sc:Nat),lv = .slice F acc.length sc/\iv = Ji (i:Int)/\i<=bn/\acc.length<=sc/\sc<=maxLen/\Hid (ClW R Q wb p0 m0 o0 p1 m1 o1 p2 m2 o2 p3 m3 o3 p4 m4 o4 p tv Bd w dv cv ds cs y0 m #[str r,.slice aa an ac,Ji x.head.at_,.slice ba bn bc,Ji x.at_] wr (.slice F acc.length sc) acc)/\Hid (acc.length=i/\ltBs acc=ltBs (x.body.take i))) (fun _ iv _=>bn - (intOf iv).toNat)
 case atStart=>exact⟨[],0,none,0,rfl,rfl,Nat.zero_le _,Nat.le_refl _,by unfold maxLen;omega,C4,hide ⟨rfl,rfl⟩⟩
 obtain⟨acc,i,F,sc,rfl,rfl,hi,b3,b4,j,S⟩:=hrel;unfold maxLen at b4;clear C4;obtain⟨ap,aq,ar,au,av,xf⟩:=cl5 (Qa j).bx;by_cases bl:i<bn
 rotate_left
 ·
  have bb:i=bn:=by omega
  subst bb;obtain⟨hB,s⟩:=Qa HB;have aM:=(Qa j).bx;obtain⟨w9,a7⟩:=JE (wr.setCell (Ja w.heap.size 3) (.slice F acc.length sc));have n9:w9.heap[w.heap.size]?=some (.cells #[str r,.slice aa an ac,Ji x.head.at_,.slice F acc.length sc,Ji x.at_] 45 (0,0)):=by rw[a7];exact(Qah aM 3 _).trans rfl
  have o9:∀q,q≠w.heap.size->w9.heap[q]?=wr.heap[q]?:=fun q a=>by rw[a7,hpS a]
  have s9:w9.heap.size=wr.heap.size:=by rw[a7];simp
  have z9:=(o9 (w.heap.size+1) (by omega)).trans (Qa j).zx;obtain⟨W9,aK,o⟩:=sc5 z9 (str r) (.slice aa an ac) (Ji x.head.at_) (.slice F acc.length sc) (Ji x.at_);obtain⟨y1,f1,h1,N⟩:=(Qa j).fl;have d:=(Qa j).kp;have A:=(Qa j).wl;have z:=(Qa j).dl;have aR:=(Qa j).size;have X:Kp wb w w9:=by rw[a7];exact d.set2 (Nat.le_refl _)
  have ax:Kp wb w W9:=⟨o.os.trans X.os,o.tape.trans X.tape,o.output.trans X.output,by have:=X.size;rw[o.size];exact this,fun q a hn=>(o.oth q (by omega)).trans (X.block q a hn)⟩;have aH:Fl R wb p0 m0 o0 p1 m1 o1 p2 m2 o2 p3 m3 o3 p4 m4 o4 p tv Bd W9 dv cv ds cs y1 f1 m:=(h1.out (W':=W9) z A (by rw[o.size,s9];exact Nat.le_refl _) (fun q a _=>(o.oth q (by omega)).trans (o9 q (by omega)))).mono (fun _ _ hr=>hr.1);obtain⟨bj,ho,ha⟩:=(Qa j).row.mv Qb (w':=W9) (S':=fun b=>(Q b/\b≠wb)/\b<w.heap.size) (by rw[o.size,s9];exact Nat.le_refl _) (fun q hl a=>(o.oth q (by rcases a with e|e;have:=e.2;omega;have:=((Qa j).row.lt q e).1;omega)).trans (o9 q (by rcases a with e|e;have:=e.2;omega;have:=((Qa j).row.lt q e).1;omega))) (fun _ _ hs=>hs);have hV:VCl (fun b=>Q b∨w.heap.size<=b) W9 (.agg #[str r,.slice aa an ac,Ji x.head.at_,.slice F acc.length sc,Ji x.at_]) ⟨⟨r,x.head.args,x.head.at_⟩,acc,x.at_⟩:=
   ⟨aa,an,ac,F,acc.length,sc,rfl,((Qa HA).same Qag ax.size (fun q a hl=>ax.block q hl (Qa HQ q a))).mono Qag (fun _ _ a=>.inl a),(Qhy Qb ho ha).mono Qb (fun b _ hs=>by rcases hs with e|e;exact .inl e.1.1;exact .inr (by omega))⟩
  have HE:=hide (Ya hV (Ya (show ltBs acc=ltBs x.body by rw[(Qa S).2,<- s,List.take_length]) (show FlF R wb p0 m0 o0 p1 m1 o1 p2 m2 o2 p3 m3 o3 p4 m4 o4 p tv Bd w dv cv ds cs y0 m W9 from ⟨y1,f1,aH,ax,N⟩)));have aV:=hide o.box;have aY:=hide aK;have aZ:=hide a7;obtain⟨bm,bo,bp,bq,br,uf⟩:=cl5 n9;obtain⟨bs,bt,bu,bv,bw,zf⟩:=cl5 z9;clear hB s aM a7 n9 o9 s9 z9 aK o h1 N d A z aR X ax aH ho ha hV;go_upto_region 11 with fail;rw[<- Qa aZ];go_wp2_with fail;rw[<- Qa aY];obtain⟨bd,be,bf,bg,bh,vf⟩:=cl5 (Qa aV);refine bodyPost_ret (v:=.agg #[str r,.slice aa an ac,Ji x.head.at_,.slice F acc.length sc,Ji x.at_]) (by simp[results,Tryz.results97,go_sem,bd,be,bf,bg,bh]) rfl ?_;exact⟨_,_,rfl,(Qa HE).1,(Qa HE).2⟩
 obtain⟨hB,s⟩:=Qa HB;obtain⟨y,P⟩:∃y,x.body[i]?=some y:=⟨x.body[i]'(by omega),List.getElem?_eq_getElem _⟩;have d:=(Qa j).kp;obtain⟨hlb,hn⟩:=Qa HL;obtain⟨gb,cap,qs,N,b9,b8,aD,aJ,aO⟩:=((hB.mono Qb (S':=fun b=>(Q b/\b≠wb)/\b<w.heap.size) (fun b hl a=>⟨⟨a,Qa HQ b a⟩,hl⟩)).same Qb d.size (fun q a hl=>d.block q hl a.1.2)).elem P;simp only[Value.slice.injEq]at N;obtain⟨rfl,-,rfl⟩:=N;have a0:=Qg aJ;obtain⟨C,E,D,G,I,H,J,L,K,rfl,a8,a9,ab⟩:=aJ;have L1:(ltLoad (.pointer (some (Ja gb (i*16))))).run Tryz.prog wr = .ok (.agg #[Ji y.kind,str y.atom.rel,.slice C E D,Ji y.atom.at_,str y.op,Ji y.l.kind,Ji y.l.num,str y.l.txt,.slice G I H,Ji y.l.at_,Ji y.r.kind,Ji y.r.num,str y.r.txt,.slice J L K,Ji y.r.at_,Ji y.at_]) wr:=lt_atf rfl aO;obtain⟨w5,az⟩:=JE (wr.alloc (.cells #[Ji y.kind,str y.atom.rel,.slice C E D,Ji y.atom.at_,str y.op,Ji y.l.kind,Ji y.l.num,str y.l.txt,.slice G I H,Ji y.l.at_,Ji y.r.kind,Ji y.r.num,str y.r.txt,.slice J L K,Ji y.r.at_,Ji y.at_] 61));have N1:(ltStore (.pointer (Js wr.heap.size)) (.agg #[Ji y.kind,str y.atom.rel,.slice C E D,Ji y.atom.at_,str y.op,Ji y.l.kind,Ji y.l.num,str y.l.txt,.slice G I H,Ji y.l.at_,Ji y.r.kind,Ji y.r.num,str y.r.txt,.slice J L K,Ji y.r.at_,Ji y.at_])).run Tryz.prog (wr.alloc (.cells #[Ji 0,Je,Jn,Ji 0,Je,Ji 0,Ji 0,Je,Jn,Ji 0,Ji 0,Ji 0,Je,Jn,Ji 0,Ji 0] 61)) = .ok () w5:=by rw[az];exact lt_putf wr rfl a0
 have b5:=bnw az;have k:=nnw az;obtain⟨B,V⟩:=JF wr.heap.size;rw[V]at k;obtain⟨y1,f1,h1,N⟩:=(Qa j).fl;obtain⟨ae,aA,af,ag,ah,ai,aj,ak,al,am,a1,a2,a3,a4,a5,a6,lf⟩:=cl16 k;have aN:=b3;have X5:=hide (show ∃u T,Fl (fun b=>R b/\b<w.heap.size) wb p0 m0 o0 p1 m1 o1 p2 m2 o2 p3 m3 o3 p4 m4 o4 p tv Bd w5 dv cv ds cs u T m/\(y0≠0->u≠0)/\Kp wb wr w5/\w5.heap[B]?=some (.cells #[Ji y.kind,str y.atom.rel,.slice C E D,Ji y.atom.at_,str y.op,Ji y.l.kind,Ji y.l.num,str y.l.txt,.slice G I H,Ji y.l.at_,Ji y.r.kind,Ji y.r.num,str y.r.txt,.slice J L K,Ji y.r.at_,Ji y.at_] 61 (0,0)) from ⟨y1,f1,h1.later b5,N,Kp.of_below b5,k⟩);have HP:=hide (Ya a8 (Ya a9 (Ya ab (Ya P (Ya d (Ya (hlb y (List.mem_of_getElem? P)) (Ya (show wr.heap.size=B from V) (Ya s hn))))))));have aW:=hide V;clear hB s P d hlb hn b9 b8 aD aO a0 a8 a9 ab az b5 k V h1 N aN aA af ag ah ai aj ak al am a1 a2 a3 a4 a5 a6;go_upto_region 7 with fail;rw[Qa aW];go_cut [43] from 24 to 59 (fun c wc=>∃b:Bool,c = .bool b/\wc=w5)
 case first=>
  by_cases k1:y.kind=1
  ·
   have g1:(y.kind==1)=true:=by simp[k1]
   clear k1;go_wp2_with fail;go_meet;exact⟨true,rfl,rfl⟩
  have g1:(y.kind==1)=false:=beq_eq_false_iff_ne.2 k1;clear k1;go_wp2_with fail;go_meet;exact⟨_,rfl,rfl⟩
 obtain⟨b,rfl,ew⟩:=hcut;rw[ew];clear ew L1 N1 ae lf ap aq ar au av xf
 go_upto_if 43 with fail
 go_cut [] from 24 to 59 (fun WX=>∃U:Txt,Hid (∃u T,Fl (fun b=>R b/\b<w.heap.size) wb p0 m0 o0 p1 m1 o1 p2 m2 o2 p3 m3 o3 p4 m4 o4 p tv Bd WX dv cv ds cs u T m/\(y0≠0->u≠0)/\Kp wb wr WX/\WX.heap[B]?=some (.cells #[Ji y.kind,str U,.slice C E D,Ji y.atom.at_,str y.op,Ji y.l.kind,Ji y.l.num,str y.l.txt,.slice G I H,Ji y.l.at_,Ji y.r.kind,Ji y.r.num,str y.r.txt,.slice J L K,Ji y.r.at_,Ji y.at_] 61 (0,0))))
 case first=>
  cases b
  ·
   go_wp2_with fail;go_meet;exact⟨y.atom.rel,X5⟩
  obtain⟨u,T,h5,O,n,k⟩:=Qa X5;obtain⟨-,-,-,-,d,hlb,-,-,-⟩:=Qa HP;have aE:=d.trans n;have ad:=Qdo h5 ((Qa HO).same Qao aE.size (fun q a hl=>aE.block q hl a)) hlb y.atom.at_;obtain⟨ae,aA,af,ag,ah,ai,aj,ak,al,am,a1,a2,a3,a4,a5,a6,lf⟩:=cl16 k;have H5:=hide (Ya O (Ya n k));clear h5 O n k d hlb aE ae af ah ai aj ak al am a1 a2 a3 a4 a5 a6;go_wp2_with fail;refine ad.mono ?_;clear ad aA ag lf;rintro en w6⟨r6,rfl,y6,f6,h6,k6,e6⟩;obtain⟨O,n,k⟩:=Qa H5;have aP:B≠wb:=by
   obtain⟨-,-,-,-,d,-,hlb,-,-⟩:=Qa HP;have:=(Qa HD).1;have:=d.size;omega
  have n6:=k6.keep k aP;obtain⟨w7,Z⟩:=JE (w6.setCell (Ja B 1) (str r6));have aQ:w.heap.size<=B/\wr.heap.size=B:=by
   obtain⟨-,-,-,-,d,-,hlb,-,-⟩:=Qa HP;have:=d.size;omega
  have X7:=hide (show ∃u T,Fl (fun b=>R b/\b<w.heap.size) wb p0 m0 o0 p1 m1 o1 p2 m2 o2 p3 m3 o3 p4 m4 o4 p tv Bd w7 dv cv ds cs u T m/\(y0≠0->u≠0)/\Kp wb wr w7/\w7.heap[B]?=some (.cells #[Ji y.kind,str r6,.slice C E D,Ji y.atom.at_,str y.op,Ji y.l.kind,Ji y.l.num,str y.l.txt,.slice G I H,Ji y.l.at_,Ji y.r.kind,Ji y.r.num,str y.r.txt,.slice J L K,Ji y.r.at_,Ji y.at_] 61 (0,0)) from ⟨y6,f6,h6.out (Qa HD).2 (Qa HD).1 (by rw[Z];simp) (fun q a _=>by rw[Z,hpS (show q≠B by omega)]),fun e=>e6 (O e),by rw[Z];exact(n.trans k6).set2 (by omega),by rw[Z];exact(Qah n6 1 _).trans rfl⟩);obtain⟨ae,aA,af,ag,ah,ai,aj,ak,al,am,a1,a2,a3,a4,a5,a6,lf⟩:=cl16 n6;have aX:=hide Z;clear h6 k6 e6 O n k aP n6 Z aQ ae af ag ah ai aj ak al am a1 a2 a3 a4 a5 a6;go_wp2_with fail;rw[<- Qa aX];go_meet;exact⟨r6,X7⟩
 obtain⟨U,XX⟩:=hcut;obtain⟨WX,b1⟩:=JE wc;subst b1;obtain⟨u,T,h5,O,n,k⟩:=Qa XX;obtain⟨a8,a9,ab,P,d,-,V,s,hn⟩:=Qa HP;have hX:=(Qa j).next n h5 O;have ay:∀q,((Q q/\q≠wb)/\q<w.heap.size)->q<wr.heap.size->WX.heap[q]?=wr.heap[q]?:=fun q a hl=>n.block q hl a.1.2;have a0:∀c∈([Ji y.kind,str U,.slice C E D,Ji y.atom.at_,str y.op,Ji y.l.kind,Ji y.l.num,str y.l.txt,.slice G I H,Ji y.l.at_,Ji y.r.kind,Ji y.r.num,str y.r.txt,.slice J L K,Ji y.r.at_,Ji y.at_]:List Value),c.oneCell'=true:=by simp[Value.oneCell',str]
 obtain⟨g,c,w8,aC,b6,b7,aL⟩:=hX.more (x:=⟨y.kind,⟨U,y.atom.args,y.atom.at_⟩,y.op,y.l,y.r,y.at_⟩) (xs:=[Ji y.kind,str U,.slice C E D,Ji y.atom.at_,str y.op,Ji y.l.kind,Ji y.l.num,str y.l.txt,.slice G I H,Ji y.l.at_,Ji y.r.kind,Ji y.r.num,str y.r.txt,.slice J L K,Ji y.r.at_,Ji y.at_]) rfl a0 ⟨C,E,D,G,I,H,J,L,K,rfl,a8.same Qag n.size ay,Qag.same _ _ _ _ _ a9 n.size ay,Qag.same _ _ _ _ _ ab n.size ay⟩ (by have:=(Qa S).1;omega);have L5:=Qks k;have aB:=hide aC;have b0:=hide aL
 have aw:=hide (show(acc++[(⟨y.kind,⟨U,y.atom.args,y.atom.at_⟩,y.op,y.l,y.r,y.at_⟩:Lt)]).length=i+1/\ltBs (acc++[(⟨y.kind,⟨U,y.atom.args,y.atom.at_⟩,y.op,y.l,y.r,y.at_⟩:Lt)])=ltBs (x.body.take (i+1)) by
  refine⟨by rw[List.length_append,(Qa S).1];rfl,?_⟩;rw[List.take_add_one,P,Qea,Qm,(Qa S).2,Option.toList_some,Qea,Qm]
  rfl)
 clear h5 O n k a8 a9 ab P d V s hn hX ay a0 aC aL X5 XX;go_wp2_with (at_builtin;refine Qaj _ rfl _ _ 43 rfl _ _ rfl rfl _ _ (Qa aB) ?_;clear aB);go_roundw
 case rel=>exact⟨_,i+1,_,_,by rw[(Qa aw).1,<- (Qa S).1],by simp,by omega,by rw[(Qa aw).1,<- (Qa S).1];exact b6,b7,by rw[(Qa aw).1,<- (Qa S).1];exact b0,aw⟩
 case measure=>simp[intOf];omega
end
def NeT(l:List Tok):Prop:=∀t∈l,t.kind=1->t.text≠[]
def WfT(p:Pg):Prop:=∀x,x∈p.types->(x.sub=[]↔x.ctors≠[])
theorem Qbz(n:Nat):Few .none n:=⟨Nat.zero_le _,Nat.zero_le _,Nat.zero_le _,Nat.zero_le _,Nat.zero_le _⟩
inductive WfZ (n:Nat):Pg->Prop
 |mk (ts:List Typ) (ds:List Dcl) (cs:List Cp) (is:List Ini) (ls:List Cls) (hT:∀x∈ts,(x.sub=[]↔x.ctors≠[])) (hC:∀x∈cs,WfZ n x.2.2.1) (hL:∀x∈ls,x.head.rel.length<=65536/\ltQs x.body<=2*n) (hD:∀x∈ds,x.name.length<=65536) (hI:∀x∈is,x.name.length<=65536) (hB:∀x∈cs,Few x.2.2.1 97):WfZ n (.mk ts ds cs is ls)
theorem WfZ.t{n:Nat}{p:Pg}(h:WfZ n p):WfT p:=by
 cases h with
 |mk ts ds cs is ls hT hC hL hD hI hB=>exact hT
theorem WfZ.mono{n m:Nat}(hnm:n<=m):∀{p:Pg},WfZ n p->WfZ m p
 |_,.mk ts ds cs is ls hT hC hL hD hI hB=>.mk ts ds cs is ls hT (fun x hx=>WfZ.mono hnm (hC x hx)) (fun x hx=>⟨(hL x hx).1,Nat.le_trans (hL x hx).2 (by omega)⟩) hD hI hB
theorem Qcb{n:Nat}:WfZ n .none:=.mk [] [] [] [] [] (fun x a=>by cases a) (fun x a=>by cases a) (fun x a=>by cases a) (fun x a=>by cases a) (fun x a=>by cases a) (fun x a=>by cases a)
theorem wfZ_ty{n:Nat}{p:Pg}{x:Typ}(h:WfZ n p)(hx:x.sub=[]↔x.ctors≠[]):WfZ n (.mk (p.types++[x]) p.decls p.comps p.inits p.clauses):=by
 cases h with
 |mk ts ds cs is ls hT hC hL hD hI hB=>
  refine .mk _ _ _ _ _ (fun t a=>?_) hC hL hD hI hB;rcases List.mem_append.1 a with q|q
  ·exact hT t q
  ·rw[List.mem_singleton.1 q];exact hx
theorem wfZ_cp{n:Nat}{p:Pg}{x:Cp}(h:WfZ n p)(hx:WfZ n x.2.2.1)(hf:Few x.2.2.1 97):WfZ n (.mk p.types p.decls (p.comps++[x]) p.inits p.clauses):=by
 cases h with
 |mk ts ds cs is ls hT hC hL hD hI hB=>
  refine .mk _ _ _ _ _ hT (fun t a=>?_) hL hD hI (fun t a=>?_)
  ·
   rcases List.mem_append.1 a with q|q
   ·exact hC t q
   ·rw[List.mem_singleton.1 q];exact hx
  rcases List.mem_append.1 a with q|q
  ·exact hB t q
  ·rw[List.mem_singleton.1 q];exact hf
theorem Quk{n:Nat}{p:Pg}{x:Cls}(h:WfZ n p)(hx:x.head.rel.length<=65536/\ltQs x.body<=2*n):WfZ n (.mk p.types p.decls p.comps p.inits (p.clauses++[x])):=by
 cases h with
 |mk ts ds cs is ls hT hC hL hD hI hB=>
  refine .mk _ _ _ _ _ hT hC (fun t a=>?_) hD hI hB;rcases List.mem_append.1 a with q|q
  ·exact hL t q
  ·rw[List.mem_singleton.1 q];exact hx
theorem wfZ_dc{n:Nat}{p:Pg}{x:Dcl}(h:WfZ n p)(hx:x.name.length<=65536):WfZ n (.mk p.types (p.decls++[x]) p.comps p.inits p.clauses):=by
 cases h with
 |mk ts ds cs is ls hT hC hL hD hI hB=>
  refine .mk _ _ _ _ _ hT hC hL (fun t a=>?_) hI hB;rcases List.mem_append.1 a with q|q
  ·exact hD t q
  ·rw[List.mem_singleton.1 q];exact hx
theorem wfZ_in{n:Nat}{p:Pg}{x:Ini}(h:WfZ n p)(hx:x.name.length<=65536):WfZ n (.mk p.types p.decls p.comps (p.inits++[x]) p.clauses):=by
 cases h with
 |mk ts ds cs is ls hT hC hL hD hI hB=>
  refine .mk _ _ _ _ _ hT hC hL hD (fun t a=>?_) hB;rcases List.mem_append.1 a with q|q
  ·exact hI t q
  ·rw[List.mem_singleton.1 q];exact hx
theorem Qms{n:Nat}{p q:Pg}(hp:WfZ n p)(hq:WfZ n q):WfZ n (both p q):=by
 cases hp with
 |mk ts ds cs is ls hT hC hL hD hI hB=>
  cases hq with
  |mk ts2 ds2 cs2 is2 ls2 hT2 hC2 hL2 hD2 hI2 hB2=>
   refine .mk _ _ _ _ _ (fun x a=>?_) (fun x a=>?_) (fun x a=>?_) (fun x a=>?_) (fun x a=>?_) (fun x a=>?_)
   ·exact(List.mem_append.1 a).elim (hT x) (hT2 x)
   ·exact(List.mem_append.1 a).elim (hC x) (hC2 x)
   ·exact(List.mem_append.1 a).elim (hL x) (hL2 x)
   ·exact(List.mem_append.1 a).elim (hD x) (hD2 x)
   ·exact(List.mem_append.1 a).elim (hI x) (hI2 x)
   ·exact(List.mem_append.1 a).elim (hB x) (hB2 x)
theorem Qmh{w:World}{p0:Option Addr}{m0 o0:Nat}{p1:Option Addr}{m1 o1:Nat}{p2:Option Addr}{m2 o2:Nat}{p3:Option Addr}{m3 o3:Nat}{p4:Option Addr}{m4 o4:Nat}(h0:m0<=1000)(h1:m1<=1000)(h2:m2<=1000)(h3:m3<=1000)(h4:m4<=1000):
  Calls Tryz.prog 110 #[.agg #[.slice p0 m0 o0,.slice p1 m1 o1,.slice p2 m2 o2,.slice p3 m3 o3,.slice p4 m4 o4]] w fun en w'=>en = .returned (Ji ((m0+m1+m2+m3+m4:Nat):Int))/\Below w.heap.size w w':=by
 obtain⟨l,a⟩:=JE (w.alloc (.cells #[.slice p0 m0 o0,.slice p1 m1 o1,.slice p2 m2 o2,.slice p3 m3 o3,.slice p4 m4 o4] 28));have b:=bnw a;have c:=nnw a;obtain⟨g,h,i,j,k,n⟩:=cl5 c;have e:=hide a;have d:=hide b;clear a b c;go_enter Tryz.func110,Tryz.ntmps110;go_upto_region 1 with fail;rw[<- Qa e];go_wp2_with fail;go_ret;exact⟨by simp[Int.add_assoc],Qa d⟩
theorem Qrd{S:Nat->Prop}{w:World}{wv:Value}{xs:List Txt}(h:LsAt PSt 1 S w wv xs)(hl:xs.length<=97)(t:Txt):
  ∃u U g c W8,(Builtin.append_ #[51,51] 51 #[Jn,wv]).run Tryz.prog w = .ok u U/\Below w.heap.size w U/\(Builtin.append_ #[51,51] 51 #[u,.slice (Js U.heap.size) 1 1]).run Tryz.prog (U.alloc (.cells #[str t] 9)) = .ok (.slice (Js g) (xs.length+1) c) W8/\Below w.heap.size w W8/\LsAt PSt 1 (fun b=>w.heap.size<=b) W8 (.slice (Js g) (xs.length+1) c) (xs++[t]):=by
 obtain⟨N,C,E,B,A⟩:=infoS;have D:Tryz.prog.underlying 51=some (.slice 9):=by kernel_rfl
 obtain⟨u,U,css,M,o1,k,d⟩:=Qed (ys:=xs) (css:=[]) (xs:=([]:List Txt)) (base:=w.heap.size) Qao (fun _ _ _ _ r c l=>by rw[r]at l;simp only[List.mem_singleton]at l;rw[l];simp[Value.oneCell']) D C E B A rfl (by decide) (by decide) (v:=Jn) (World.ownsRow_nil _ _ _ _) ⟨rfl,fun j x cs r=>by simp at r⟩ h (fun b _=>by simp[Value.ownBlock]) (by simp) hl (Nat.le_refl _);rw[List.nil_append]at o1 k;have a:Below w.heap.size w U:=⟨d.os,d.tape,d.output,d.size,fun q n=>d.block q n (by simp[Value.ownBlock])⟩;have z:Row PSt 1 9 w.heap.size (fun _=>False) U u xs:=⟨css,o1,k.1,fun j x cs J K=>k.2 j x cs J K⟩;obtain⟨g,c,W8,F,i,_,_,s⟩:=z.more (x:=t) (cs:=[str t]) Qao D C E B A rfl (by decide) (by decide) (fun b o=>o.elim) rfl (by simp[Value.oneCell',str]) rfl a.size (by omega);have H:Below w.heap.size w W8:=⟨i.os.trans a.os,i.tape.trans a.tape,i.output.trans a.output,Nat.le_trans a.size i.size,fun q n=>(i.block q (by have:=a.size;omega) (fun e=>by have:=(z.lt q e).1;omega)).trans (a.block q n)⟩;have I:xs.length+1=(xs++[t]).length:=by simp
 rw[I]at s F ⊢;obtain⟨cs8,L,G⟩:=s;exact⟨u,U,g,c,W8,M,a,F,H,(Qhy Qao L G).mono Qao (fun b _ o=>o.elim (fun e=>e.elim) id)⟩
def WhA(S0:Nat->Prop)(B n:Nat)(w:World)(nb k:Nat)(en:Ending)(w':World):Prop:=∃v q e k',en = .returned (.tuple #[v,.int .i64 e])/\VPg (fun b=>(S0 b/\b<B)∨w.heap.size<=b) w' v q/\(e≠0->q = .none)/\Few q 97/\WfZ n q/\w'.heap[nb]?=some (.cells #[.int .i64 ((k':Nat):Int)] 3 (0,0))/\k<=k'/\(e=0->k'<=96)/\Kp nb w w'
def WhC(S0:Nat->Prop)(B n D:Nat)(p:Pg)(p0:Option Addr)(m0 o0:Nat)(p1:Option Addr)(m1 o1:Nat)(p2:Option Addr)(m2 o2:Nat)(p3:Option Addr)(m3 o3:Nat)(p4:Option Addr)(m4 o4:Nat):Prop:=∀(w:World) (name:Txt) (wv:Value) (way:List Txt) (nb k:Nat),k<=96->97 - k<=D->PgS (fun b=>S0 b/\b<B) w [.slice p0 m0 o0,.slice p1 m1 o1,.slice p2 m2 o2,.slice p3 m3 o3,.slice p4 m4 o4] p->B<=nb->w.heap[nb]?=some (.cells #[.int .i64 (k:Int)] 3 (0,0))->LsAt PSt 1 (fun b=>b≠nb) w wv way->way.length<=k->Calls Tryz.prog 95 #[.agg #[.slice p0 m0 o0,.slice p1 m1 o1,.slice p2 m2 o2,.slice p3 m3 o3,.slice p4 m4 o4],str name,wv,.pointer (some ⟨nb,0,none⟩)] w fun en w'=>WhA S0 B n w nb k en w'
end
end Go.Proofs.YtkhndlnadhggkaaGreat
