/- The document's reader. -/
import Derived.Test.YtmfpbepifnedjaaGreatZz01
import Derived.Test.YtmfpbepifnedjaaGreatZz16
import Derived.Test.YtmfpbepifnedjaaGreatZz18
import Derived.Test.YtmfpbepifnedjaaGreatZz15
import Derived.Test.YtmfpbepifnedjaaGreatZz04
set_option maxRecDepth 100000
set_option maxHeartbeats 32000000
namespace Go.Proofs.YtmfpbepifnedjaaGreat
section
open Go.RowKit Go.Maps
def pgV(rb:Nat)(l:List Tok)(w:World)(w':World)(v:Value):Prop:=∃(x:Pg) (p0:Option Addr) (m0 o0:Nat) (p1:Option Addr) (m1 o1:Nat) (p2:Option Addr) (m2 o2:Nat) (p3:Option Addr) (m3 o3:Nat) (p4:Option Addr) (m4 o4:Nat),v = .agg #[.slice p0 m0 o0,.slice p1 m1 o1,.slice p2 m2 o2,.slice p3 m3 o3,.slice p4 m4 o4]/\PgS (fun b=>w.heap.size<=b) w' [.slice p0 m0 o0,.slice p1 m1 o1,.slice p2 m2 o2,.slice p3 m3 o3,.slice p4 m4 o4] x/\Few x 97/\(rdOk rb w'->NeT l->WfZ l.length x)
def coV(rb:Nat)(l:List Tok)(w:World)(w':World)(v:Value):Prop:=∃x:Cp,VCo (fun b=>w.heap.size<=b) w' v x/\(rdOk rb w'->NeT l->WfZ l.length x.2.2.1)/\Few x.2.2.1 97
def PgY(a i:Nat)(y:Int)(a' i':Nat)(y':Int):Prop:=a<=a'/\i<=i'/\i'<=97/\(y'=0->y=0/\i'<=96)
def PgC(rb g cap:Nat)(l:List Tok)(d:Nat):Prop:=∀(w:World) (a i:Nat) (y f:Int),Rr rb g cap l w a d i y f->i<=97->(y=0->i<=96/\d<=32)->Calls Tryz.prog 21 #[.pointer (some ⟨rb,0,none⟩)] w fun en w'=>RA rb g cap l w d (pgV rb l w) (PgY a i y) en w'
theorem co_ld{w:World}{b:Nat}{v0 v1 v2 v3 v4 v5 v6 v7:Value}(h:w.heap[b]?=some (.cells #[v0,v1,v2,v3,v4,v5,v6,v7] 83 (0,0))):(coLoad (.pointer (Js b))).run Tryz.prog w = .ok (.agg #[v0,v1,v2,v3,v4,v5,v6,v7]) w:=
 run_loadAt_mid w b 0 83 [v0,v1,v2,v3,v4,v5,v6,v7] _ (fun q v a=>by rw[Qad h,Nat.zero_add];simpa using a) Tryz.underlying83 rfl Qqx
theorem Qtr{w:World}{b:Nat}{old new:Array Value}(hb:w.heap[b]?=some (.cells old 83 (0,0)))(h0:old.size=8)(hn:new.size=8)(h1:new.all (·.oneCell')=true):(coStore (.pointer (Js b)) (.agg new)).run Tryz.prog w = .ok () (w.setRow b new):=by
 unfold coStore
 simp only[Instr.storeAt,Instr.sureAddr,Sem.run_bind,Sem.run_pure,Result.andThen_ok]
 exact run_storeVar_row w b 83 83 old new hb (by rw[hn];kernel_rfl) (by rw[h0,hn]) h1
attribute [local go_sem ↓] Qd Qdj
theorem Qsv{rb g cap a d i:Nat}{l:List Tok}{w:World}{y f:Int}(h:Rr rb g cap l w a d i y f)(hi:i<=97)(hy0:y=0->i<=96/\d<=32)(hP:PgC rb g cap l d)(at0:Int):
  Calls Tryz.prog 62 #[.pointer (Js rb),Ji at0] w fun en w'=>RA rb g cap l w d (coV rb l w) (PgY a i y) en w':=by
 have b0:Below w.heap.size w (w.alloc (.cells #[Je,Jn,Jn,Jn,Jn,Jn,Jn,Ji 0] 83)):=(Below.refl _ w).alloc (Nat.le_refl _) _
 have n0:(w.alloc (.cells #[Je,Jn,Jn,Jn,Jn,Jn,Jn,Ji 0] 83)).heap[w.heap.size]?=some (.cells #[Je,Jn,Jn,Jn,Jn,Jn,Jn,Ji 0] 83 (0,0)):=heap_alloc_new w _
 have s0:(w.alloc (.cells #[Je,Jn,Jn,Jn,Jn,Jn,Jn,Ji 0] 83)).heap.size=w.heap.size+1:=by simp
 have b9:=Qcb (h.later b0)
 have HH:=hide (Ya (Qaa h.box) h.row.lt)
 have H0:=hide (Ya b0 (Ya n0 s0))
 have aS:=hide (Ya hi hy0)
 have HP:=hide hP
 clear h b0 n0 s0 hi hy0 hP
 go_enter Tryz.func62,Tryz.ntmps62
 go_wp2_with fail
 refine b9.mono ?_
 clear b9
 rintro en w2⟨_,a2,i2,y2,f2,rfl,⟨z,rfl,-⟩,⟨j,ha2,hy2⟩,h2,k2⟩
 rw[j]at h2
 clear j
 obtain⟨b0,n0,s0⟩:=Qa H0
 obtain⟨g1,g2⟩:=Qa HH
 have ba:=k2.size
 have n2:=k2.keep n0 (by omega)
 obtain⟨w3,aR⟩:=JE (w2.alloc (.cells #[str z,Jn,Jn,Jn,Jn,Jn,Jn,Ji at0] 83))
 have S3:(coStore (.pointer (Js w2.heap.size)) (.agg #[str z,Jn,Jn,Jn,Jn,Jn,Jn,Ji at0])).run Tryz.prog (w2.alloc (.cells #[Je,Jn,Jn,Jn,Jn,Jn,Jn,Ji 0] 83)) = .ok () w3:=by rw[aR];exact run_storeAt_new w2 83 _ _ Qqx rfl (by simp[Value.oneCell',str])
 obtain⟨G,aV⟩:=JF w2.heap.size
 have b3:Below w2.heap.size w2 w3:=by rw[aR];exact(Below.refl _ w2).alloc (Nat.le_refl _) _
 have n3:w3.heap[G]?=some (.cells #[str z,Jn,Jn,Jn,Jn,Jn,Jn,Ji at0] 83 (0,0)):=by rw[aR,<- aV];exact heap_alloc_new w2 _
 have q3:=(b3.block _ (by omega)).trans n2
 have G3:Hid (Gx PSt 1 9 rb g cap l w d i a y G 83 #[Je,Jn,Jn,Jn,Jn,Jn,Jn,Ji 0] (fun _=>True) w3 #[str z,Jn,Jn,Jn,Jn,Jn,Jn,Ji at0] a2 y2 f2 (Jn) []):=⟨h2.later b3,⟨((Kp.of_below b0).trans k2).trans (Kp.of_below b3),n3,q3,g1,g2,by omega⟩,trivial,Qo.nil _,ha2,hy2,Nat.zero_le _,fun _=>Nat.zero_le _⟩
 have aK:=Qbf (Qa G3).r ⟨#[58]⟩
 have b8:=hide aV
 clear b0 n0 s0 g1 g2 ba n2 aV aR b3 n3 q3 ha2 hy2 h2 k2 H0
 go_wp2_with fail
 rw[Qa b8]
 clear b8 S3
 refine aK.mono ?_
 clear aK
 rintro en w4⟨b,a4,f4,rfl,ak,al,h4,k4⟩
 have G4:=hide ((Qa G3).call Qam (EK.none _ _) k4 h4 (by
  cases b with
  |true=>have:=(ak rfl).2;omega
  |false=>have:=al rfl;omega) (fun e=>e))
 clear ak al h4 k4 G3
 cases b
 ·
  have ab:=Qbl (Qa G4).r ⟨#[123]⟩
  go_wp2_with fail
  refine ab.mono ?_
  clear ab
  rintro en Y⟨_,a5,i5,y5,f5,rfl,rfl,⟨j,az,aJ⟩,h5,k5⟩
  rw[j]at h5
  clear j
  have G5:=hide ((Qa G4).call Qam (EK.none _ _) k5 h5 az (fun e=>(aJ e).1))
  clear az aJ h5 k5
  have a0:=Qa HP Y _ _ _ _ (Qa G5).r (Qa aS).1 (fun e=>(Qa aS).2 ((Qa G5).y0 e).1)
  go_wp2_with fail
  refine a0.mono ?_
  clear a0
  rintro en N⟨_,a6,i6,y6,f6,rfl,⟨pg,B,J,D,t,o,E,C,n,H,u,F,M,L,I,A,rfl,a0,aC,aF⟩,⟨aa,ax,aB,Q⟩,U,T⟩
  have b6:=hide aC
  have aX:=hide (show y6=0->NeT l->WfZ l.length pg from fun e=>aF ((Rr.ok U).2 e))
  clear aF aC
  have P:=Qa G5
  have B6:=P.b.call T
  have ai:=P.b.x1
  have a3:=P.b.r1
  have aj:=P.b.g1
  have ae:=Qaa P.b.box
  have b5:=T.size
  obtain⟨s,p⟩:=JE ((((((N.setCell (Ja G 2) (.slice B J D)).setCell (Ja G 3) (.slice t o E)).setCell (Ja G 4) (.slice C n H)).setCell (Ja G 5) (.slice u F M)).setCell (Ja G 6) (.slice L I A)))
  have o7:∀q,q≠G->s.heap[q]?=N.heap[q]?:=fun q V=>by rw[p,hpS V,hpS V,hpS V,hpS V,hpS V]
  have s7:s.heap.size=N.heap.size:=by rw[p];simp
  have B7:Bx rb g w G 83 #[Je,Jn,Jn,Jn,Jn,Jn,Jn,Ji 0] #[str z,Jn,.slice B J D,.slice t o E,.slice C n H,.slice u F M,.slice L I A,Ji at0] s:=by rw[p];exact((((B6.set 2 _).set 3 _).set 4 _).set 5 _).set 6 _
  have h7:=U.move (w':=s) (by omega) (o7 rb (by omega)) (o7 g (by omega))
  have Q7:=P.q.move Qam (w':=s) (by omega) (fun b c hl=>(o7 b (by omega)).trans (T.block b hl (by omega)))
  have P7:PgS (fun b=>Y.heap.size<=b) s [.slice B J D,.slice t o E,.slice C n H,.slice u F M,.slice L I A] pg:=Qak.same _ _ s _ _ a0 (by omega) (fun b c _=>o7 b (by have ac:Y.heap.size<=b:=c;omega))
  have ab:=Qbl h7 ⟨#[125]⟩
  obtain⟨aE,aA,aL,aD,aO,aI,ay,aH,xf⟩:=cl8 B6.box
  have H7:=hide (Ya B7 (Ya Q7 (Ya P7 (Ya (show a<=a6 by have:=P.le;omega) (Ya (show i<=i6/\i6<=97 from ⟨ax,aB⟩) (Ya (show y6=0->y=0/\i6<=96 from fun e=>⟨(P.y0 (Q e).1).1,(Q e).2⟩) ae))))))
  have a7:=hide p
  clear P B6 ai a3 aj ae b5 p o7 s7 B7 h7 Q7 P7 a0 aa ax aB Q U T G5
  go_wp2_with fail
  rw[<- Qa a7]
  clear a7 aE aA aL aD aO aI ay aH xf
  refine ab.mono ?_
  clear ab
  rintro en Z⟨_,a8,i8,y8,f8,rfl,rfl,⟨j,b2,ag⟩,h8,k8⟩
  rw[j]at h8
  clear j
  obtain⟨B7,Q7,P7,ea,j,ey,ae⟩:=Qa H7
  have S:=B7.call k8
  have ai:=S.x1
  have a3:=S.r1
  have aj:=S.g1
  have b1:=Qaa B7.box
  have Q8:=Q7.move Qam k8.size (fun b c hl=>k8.block b hl (by omega))
  have P8:=Qak.same _ _ Z _ _ P7 k8.size (fun b c hl=>k8.block b hl (by have ac:Y.heap.size<=b:=c;omega))
  have L8:=co_ld S.box
  have S8:=Qtr (new:=#[str z,Jn,.slice B J D,.slice t o E,.slice C n H,.slice u F M,.slice L I A,Ji at0]) S.res rfl rfl (by simp[Value.oneCell',str])
  obtain⟨O,W⟩:=JE (Z.setRow w.heap.size #[str z,Jn,.slice B J D,.slice t o E,.slice C n H,.slice u F M,.slice L I A,Ji at0])
  rw[<- W]at S8
  have o9:∀q,q≠w.heap.size->O.heap[q]?=Z.heap[q]?:=fun q V=>by rw[W];exact setRow_other _ _ _ _ V
  have s9:O.heap.size=Z.heap.size:=by rw[W,size_setRow]
  have z9:O.heap[w.heap.size]?=some (.cells #[str z,Jn,.slice B J D,.slice t o E,.slice C n H,.slice u F M,.slice L I A,Ji at0] 83 (0,0)):=by rw[W];exact setRow_heap _ _ _ _ _ _ S.res
  have h9:=h8.move (w':=O) (by omega) (o9 rb (by omega)) (o9 g (by omega))
  have k9:Kp rb w O:=by rw[W];exact S.kp.row (Nat.le_refl _)
  have Q9:=(Q8.move Qam (w':=O) (by omega) (fun b c _=>o9 b (by omega))).ls Qam
  have P9:PgS (fun b=>w.heap.size<=b) O [.slice B J D,.slice t o E,.slice C n H,.slice u F M,.slice L I A] pg:=Qak.mono _ _ _ _ _ (Qak.same _ _ O _ _ P8 (by omega) (fun b c _=>o9 b (by have ac:Y.heap.size<=b:=c;omega))) (fun b _ c=>by have ac:Y.heap.size<=b:=c;omega)
  have hR:RA rb g cap l w d (coV rb l w) (PgY a i y) (.returned (.agg #[str z,Jn,.slice B J D,.slice t o E,.slice C n H,.slice u F M,.slice L I A,Ji at0])) O:=⟨_,_,_,_,_,rfl,⟨(z,[],pg,at0),⟨_,_,_,_,_,_,_,_,_,_,_,_,_,_,_,_,_,_,rfl,_,[.slice B J D,.slice t o E,.slice C n H,.slice u F M,.slice L I A],rfl,rfl,Q9.mono Qam (fun b _ c=>by have ac:G+1<=b:=c;omega),P9⟩,fun ho=>Qa aX (ag ((Rr.ok h9).1 ho)).1,Qa b6⟩,⟨by omega,by omega,by omega,fun e=>ey (ag e).1⟩,h9,k9⟩
  have HF:=hide (Ya z9 hR)
  clear B7 Q7 P7 ea j ey ae S ai a3 aj b1 Q8 P8 W o9 s9 z9 h9 k9 Q9 P9 hR h8 k8 b2 ag H7
  go_wp2_with fail
  obtain⟨z9,hR⟩:=Qa HF
  obtain⟨ap,an,am,ao,aq,ar,au,av,zf⟩:=cl8 z9
  refine bodyPost_ret (v:=.agg #[str z,Jn,.slice B J D,.slice t o E,.slice C n H,.slice u F M,.slice L I A,Ji at0]) (by simp[results,Tryz.results62,go_sem,ap,an,am,ao,aq,ar,au,av]) rfl ?_
  exact hR
 go_wp2_with fail
 have X:=hide ((Qa G4).call Qam (EK.none _ _) (W':=w4.drew) (Kp.of_below (Below.refl _ w4).drew) ((Qa G4).r.later (Below.refl _ w4).drew) (Nat.le_refl _) (fun e=>e))
 have aN:=Qdm (Qa X).r
 go_wp2_with fail
 refine Qaq (m:=7) (ml:=[(0,1),(1,2),(2,1),(3,0),(4,0),(5,0),(6,1),(7,0)]) (fun ff w'=>ff=false->w'.heap[G]?=some (.cells #[str z,Jn,Jn,Jn,Jn,Jn,Jn,Ji at0] 83 (0,0))) mixedO (by kernel_rfl) rfl (by rfl) (by kernel_rfl) (fun PP aP=>?_)
 refine Qae rfl (by kernel_rfl) (fun _ _ _=>by go_simp<;>rfl) ?_
 refine Qax (v:=?_) rfl (by kernel_rfl) (fun w' hw=>?_) ?_
 rotate_left
 ·(obtain⟨aE,aA,aL,aD,aO,aI,ay,aH,xf⟩:=cl8 (hw rfl);go_simp<;>rfl)
 refine Qae rfl (by kernel_rfl) (fun _ _ _=>by go_simp<;>rfl) ?_
 refine Qab rfl (fun _=>(Qa X).b.box) (fun K k=>?_)
 go_simp
 refine aN.mono ?_
 clear aN
 rintro en N⟨_,a6,i6,y6,f6,rfl,⟨x6,rfl,-⟩,⟨j,aa,Q⟩,U,T⟩
 rw[j]at U
 clear j
 show K _ _
 refine k _ _ ?_
 clear k K
 obtain⟨i0,hi,hz,aG,aw⟩:=infoS
 obtain⟨ra,rc,Z,af,a3,b4,ah,g8⟩:=(Qa X).more Qam (EK.none _ _) (by kernel_rfl:Tryz.prog.underlying 51=some (.slice 9)) hi hz aG aw rfl (by decide) (by decide) (cx:=[str x6]) rfl (by simp[Value.oneCell',str]) (x:=x6) rfl U T aa (fun e=>⟨(Q e).1,(Q e).2⟩) (by simp) 1
 obtain⟨s,p⟩:=JE (N.alloc (.cells #[str x6] 9))
 have b7:Below N.heap.size N s:=by rw[p];exact(Below.refl _ N).alloc (Nat.le_refl _) _
 have ad:=T.keep (Qa X).b.box (by have:=(Qa X).b.r1;have:=(Qa X).b.x1;omega)
 have aZ:=hide ad
 have aW:=hide ((b7.block _ (Qaa ad)).trans ad)
 have aY:=hide ah
 obtain⟨ap,an,am,ao,aq,ar,au,av,zf⟩:=cl8 ah
 have a9:(Builtin.append_ #[51,51] 51 #[Jn,.slice (Js N.heap.size) 1 1]).run Tryz.prog s = .ok (.slice ra (0+1) rc) Z:=by rw[p];exact af
 have a7:=hide p
 have aT:=hide g8
 clear aa Q U T hi hz aG aw af p b7 ad ah g8
 refine Qab rfl (fun _=>Qa aZ) (fun K k=>?_)
 go_simp
 rw[<- Qa a7]
 clear a7
 refine k _ _ ?_
 clear k K
 refine Qab rfl (fun _=>Qa aW) (fun K k=>Qaj rfl _ _ 51 rfl _ _ rfl rfl a9 (k _ _ ?_))
 clear k K a9
 refine Qae rfl (by kernel_rfl) (fun _ _ _=>by go_simp<;>rfl) ?_
 refine Qab rfl (fun _=>Qa aY) (fun K k=>?_)
 go_simp
 refine k _ _ ?_
 clear k K
 refine Qat (fun h=>by cases h) (aP _ _ ?_)
 clear aP PP
 go_wp2_with fail
 clear ap an am ao aq ar au av zf
 go_loopw [19] (fun _ wr=>∃(R:List Txt) (a1:Nat) (y1 f1:Int) (sa:Option Addr) (sc:Nat),R.length<=sc/\sc<=maxLen/\Hid (Gx PSt 1 9 rb g cap l w d i a y G 83 #[Je,Jn,Jn,Jn,Jn,Jn,Jn,Ji 0] (fun _=>True) wr #[str z,.slice sa R.length sc,Jn,Jn,Jn,Jn,Jn,Ji at0] a1 y1 f1 (.slice sa R.length sc) R)) (fun _ wr=>leftR rb l.length wr)
 case atStart=>exact⟨[x6],a6,y6,f6,ra,rc,by simpa using a3,b4,hide (by simpa using Qa aT)⟩
 obtain⟨R,a1,y1,f1,sa,sc,be,bb,HI⟩:=hrel
 unfold maxLen at bb
 clear aT
 have aK:=Qbf (Qa HI).r ⟨#[44]⟩
 go_wp2_with fail
 refine aK.mono ?_
 clear aK
 rintro en WX⟨b,aM,fM,rfl,ak,al,hM,kM⟩
 have eM:a1<=aM:=by
  cases b with
  |true=>have:=(ak rfl).2;omega
  |false=>have:=al rfl;omega
 have GM:=hide ((Qa HI).call Qam (EK.none _ _) kM hM eM (fun e=>e))
 have bc:=hide eM
 cases b
 ·
  clear ak al hM kM eM
  have ab:=Qbl (Qa GM).r ⟨#[123]⟩
  go_wp2_with fail
  refine ab.mono ?_
  clear ab
  rintro en Y⟨_,a5,i5,y5,f5,rfl,rfl,⟨j,az,aJ⟩,h5,k5⟩
  rw[j]at h5
  clear j
  have G5:=hide ((Qa GM).call Qam (EK.none _ _) k5 h5 az (fun e=>(aJ e).1))
  clear az aJ h5 k5
  have a0:=Qa HP Y _ _ _ _ (Qa G5).r (Qa aS).1 (fun e=>(Qa aS).2 ((Qa G5).y0 e).1)
  go_wp2_with fail
  refine a0.mono ?_
  clear a0
  rintro en N⟨_,a6,i6,y6,f6,rfl,⟨pg,B,J,D,t,o,E,C,n,H,u,F,M,L,I,A,rfl,a0,aC,aF⟩,⟨aa,ax,aB,Q⟩,U,T⟩
  have b6:=hide aC
  have aX:=hide (show y6=0->NeT l->WfZ l.length pg from fun e=>aF ((Rr.ok U).2 e))
  clear aF aC
  have P:=Qa G5
  have B6:=P.b.call T
  have ai:=P.b.x1
  have a3:=P.b.r1
  have aj:=P.b.g1
  have ae:=Qaa P.b.box
  have b5:=T.size
  obtain⟨s,p⟩:=JE ((((((N.setCell (Ja G 2) (.slice B J D)).setCell (Ja G 3) (.slice t o E)).setCell (Ja G 4) (.slice C n H)).setCell (Ja G 5) (.slice u F M)).setCell (Ja G 6) (.slice L I A)))
  have o7:∀q,q≠G->s.heap[q]?=N.heap[q]?:=fun q V=>by rw[p,hpS V,hpS V,hpS V,hpS V,hpS V]
  have s7:s.heap.size=N.heap.size:=by rw[p];simp
  have B7:Bx rb g w G 83 #[Je,Jn,Jn,Jn,Jn,Jn,Jn,Ji 0] #[str z,.slice sa R.length sc,.slice B J D,.slice t o E,.slice C n H,.slice u F M,.slice L I A,Ji at0] s:=by rw[p];exact((((B6.set 2 _).set 3 _).set 4 _).set 5 _).set 6 _
  have h7:=U.move (w':=s) (by omega) (o7 rb (by omega)) (o7 g (by omega))
  have Q7:=P.q.move Qam (w':=s) (by omega) (fun b c hl=>(o7 b (by omega)).trans (T.block b hl (by omega)))
  have P7:PgS (fun b=>Y.heap.size<=b) s [.slice B J D,.slice t o E,.slice C n H,.slice u F M,.slice L I A] pg:=Qak.same _ _ s _ _ a0 (by omega) (fun b c _=>o7 b (by have ac:Y.heap.size<=b:=c;omega))
  have ab:=Qbl h7 ⟨#[125]⟩
  obtain⟨aE,aA,aL,aD,aO,aI,ay,aH,xf⟩:=cl8 B6.box
  have H7:=hide (Ya B7 (Ya Q7 (Ya P7 (Ya (show a<=a6 by have:=P.le;omega) (Ya (show i<=i6/\i6<=97 from ⟨ax,aB⟩) (Ya (show y6=0->y=0/\i6<=96 from fun e=>⟨(P.y0 (Q e).1).1,(Q e).2⟩) ae))))))
  have a7:=hide p
  clear P B6 ai a3 aj ae b5 p o7 s7 B7 h7 Q7 P7 a0 aa ax aB Q U T G5
  go_wp2_with fail
  rw[<- Qa a7]
  clear a7 aE aA aL aD aO aI ay aH xf
  refine ab.mono ?_
  clear ab
  rintro en Z⟨_,a8,i8,y8,f8,rfl,rfl,⟨j,b2,ag⟩,h8,k8⟩
  rw[j]at h8
  clear j
  obtain⟨B7,Q7,P7,ea,j,ey,ae⟩:=Qa H7
  have S:=B7.call k8
  have ai:=S.x1
  have a3:=S.r1
  have aj:=S.g1
  have b1:=Qaa B7.box
  have Q8:=Q7.move Qam k8.size (fun b c hl=>k8.block b hl (by omega))
  have P8:=Qak.same _ _ Z _ _ P7 k8.size (fun b c hl=>k8.block b hl (by have ac:Y.heap.size<=b:=c;omega))
  have L8:=co_ld S.box
  have S8:=Qtr (new:=#[str z,.slice sa R.length sc,.slice B J D,.slice t o E,.slice C n H,.slice u F M,.slice L I A,Ji at0]) S.res rfl rfl (by simp[Value.oneCell',str])
  obtain⟨O,W⟩:=JE (Z.setRow w.heap.size #[str z,.slice sa R.length sc,.slice B J D,.slice t o E,.slice C n H,.slice u F M,.slice L I A,Ji at0])
  rw[<- W]at S8
  have o9:∀q,q≠w.heap.size->O.heap[q]?=Z.heap[q]?:=fun q V=>by rw[W];exact setRow_other _ _ _ _ V
  have s9:O.heap.size=Z.heap.size:=by rw[W,size_setRow]
  have z9:O.heap[w.heap.size]?=some (.cells #[str z,.slice sa R.length sc,.slice B J D,.slice t o E,.slice C n H,.slice u F M,.slice L I A,Ji at0] 83 (0,0)):=by rw[W];exact setRow_heap _ _ _ _ _ _ S.res
  have h9:=h8.move (w':=O) (by omega) (o9 rb (by omega)) (o9 g (by omega))
  have k9:Kp rb w O:=by rw[W];exact S.kp.row (Nat.le_refl _)
  have Q9:=(Q8.move Qam (w':=O) (by omega) (fun b c _=>o9 b (by omega))).ls Qam
  have P9:PgS (fun b=>w.heap.size<=b) O [.slice B J D,.slice t o E,.slice C n H,.slice u F M,.slice L I A] pg:=Qak.mono _ _ _ _ _ (Qak.same _ _ O _ _ P8 (by omega) (fun b c _=>o9 b (by have ac:Y.heap.size<=b:=c;omega))) (fun b _ c=>by have ac:Y.heap.size<=b:=c;omega)
  have hR:RA rb g cap l w d (coV rb l w) (PgY a i y) (.returned (.agg #[str z,.slice sa R.length sc,.slice B J D,.slice t o E,.slice C n H,.slice u F M,.slice L I A,Ji at0])) O:=⟨_,_,_,_,_,rfl,⟨(z,R,pg,at0),⟨_,_,_,_,_,_,_,_,_,_,_,_,_,_,_,_,_,_,rfl,_,[.slice B J D,.slice t o E,.slice C n H,.slice u F M,.slice L I A],rfl,rfl,Q9.mono Qam (fun b _ c=>by have ac:G+1<=b:=c;omega),P9⟩,fun ho=>Qa aX (ag ((Rr.ok h9).1 ho)).1,Qa b6⟩,⟨by omega,by omega,by omega,fun e=>ey (ag e).1⟩,h9,k9⟩
  have HF:=hide (Ya z9 hR)
  clear B7 Q7 P7 ea j ey ae S ai a3 aj b1 Q8 P8 W o9 s9 z9 h9 k9 Q9 P9 hR h8 k8 b2 ag H7
  go_wp2_with fail
  obtain⟨z9,hR⟩:=Qa HF
  obtain⟨ap,an,am,ao,aq,ar,au,av,zf⟩:=cl8 z9
  refine bodyPost_ret (v:=.agg #[str z,.slice sa R.length sc,.slice B J D,.slice t o E,.slice C n H,.slice u F M,.slice L I A,Ji at0]) (by simp[results,Tryz.results62,go_sem,ap,an,am,ao,aq,ar,au,av]) rfl ?_
  exact hR
 have HY:=hide (ak rfl).1
 have bd:=hide (show R.length<=aM by have:=(Qa HI).n0 (Qa HY);omega)
 clear ak al hM kM eM
 have X:=hide ((Qa GM).call Qam (EK.none _ _) (W':=WX.drew) (Kp.of_below (Below.refl _ WX).drew) ((Qa GM).r.later (Below.refl _ WX).drew) (Nat.le_refl _) (fun e=>e))
 have aN:=Qdm (Qa X).r
 go_wp2_with fail
 refine Qaq (m:=7) (ml:=[(0,1),(1,2),(2,1),(3,0),(4,0),(5,0),(6,1),(7,0)]) (fun ff w'=>ff=false->w'.heap[G]?=some (.cells #[str z,.slice sa R.length sc,Jn,Jn,Jn,Jn,Jn,Ji at0] 83 (0,0))) mixedO (by kernel_rfl) rfl (by rfl) (by kernel_rfl) (fun PP aP=>?_)
 refine Qae rfl (by kernel_rfl) (fun _ _ _=>by go_simp<;>rfl) ?_
 refine Qax (v:=?_) rfl (by kernel_rfl) (fun w' hw=>?_) ?_
 rotate_left
 ·(obtain⟨aE,aA,aL,aD,aO,aI,ay,aH,xf⟩:=cl8 (hw rfl);go_simp<;>rfl)
 refine Qae rfl (by kernel_rfl) (fun _ _ _=>by go_simp<;>rfl) ?_
 refine Qab rfl (fun _=>(Qa X).b.box) (fun K k=>?_)
 go_simp
 refine aN.mono ?_
 clear aN
 rintro en N⟨_,a6,i6,y6,f6,rfl,⟨x6,rfl,-⟩,⟨j,aa,Q⟩,U,T⟩
 rw[j]at U
 clear j
 show K _ _
 refine k _ _ ?_
 clear k K
 obtain⟨i0,hi,hz,aG,aw⟩:=infoS
 obtain⟨ra,rc,Z,af,a3,b4,ah,g8⟩:=(Qa X).more Qam (EK.none _ _) (by kernel_rfl:Tryz.prog.underlying 51=some (.slice 9)) hi hz aG aw rfl (by decide) (by decide) (cx:=[str x6]) rfl (by simp[Value.oneCell',str]) (x:=x6) rfl U T aa (fun e=>⟨(Q e).1,(Q e).2⟩) (by have:=Qa bd;omega) 1
 obtain⟨s,p⟩:=JE (N.alloc (.cells #[str x6] 9))
 have b7:Below N.heap.size N s:=by rw[p];exact(Below.refl _ N).alloc (Nat.le_refl _) _
 have ad:=T.keep (Qa X).b.box (by have:=(Qa X).b.r1;have:=(Qa X).b.x1;omega)
 have aZ:=hide ad
 have aW:=hide ((b7.block _ (Qaa ad)).trans ad)
 have aY:=hide ah
 obtain⟨ap,an,am,ao,aq,ar,au,av,zf⟩:=cl8 ah
 have a9:(Builtin.append_ #[51,51] 51 #[.slice sa R.length sc,.slice (Js N.heap.size) 1 1]).run Tryz.prog s = .ok (.slice ra (R.length+1) rc) Z:=by rw[p];exact af
 have a7:=hide p
 have aU:=Qan (Qa HI).r l.length
 have aQ:=Qan g8.r l.length
 have HM:=hide (Ya aU (Ya aQ (Ya (Qa HI).r.lt (Ya g8.r.lt (Ya aa Q)))))
 clear aU aQ
 have aT:=hide g8
 clear aa Q U T hi hz aG aw af p b7 ad ah g8
 refine Qab rfl (fun _=>Qa aZ) (fun K k=>?_)
 go_simp
 rw[<- Qa a7]
 clear a7
 refine k _ _ ?_
 clear k K
 refine Qab rfl (fun _=>Qa aW) (fun K k=>Qaj rfl _ _ 51 rfl _ _ rfl rfl a9 (k _ _ ?_))
 clear k K a9
 refine Qae rfl (by kernel_rfl) (fun _ _ _=>by go_simp<;>rfl) ?_
 refine Qab rfl (fun _=>Qa aY) (fun K k=>?_)
 go_simp
 refine k _ _ ?_
 clear k K
 refine Qat (fun h=>by cases h) (aP _ _ ?_)
 clear aP PP
 go_wp2_with fail
 go_roundw
 case rel=>exact⟨R++[x6],a6,y6,f6,ra,rc,by simpa using a3,b4,hide (by simpa using Qa aT)⟩
 obtain⟨aU,aQ,o,n,aa,Q⟩:=Qa HM
 rw[aU,aQ,if_pos (Qa HY)]
 split
 ·
  rename_i e
  have:=Q e
  have:=Qa bc
  omega
 ·omega
end
end Go.Proofs.YtmfpbepifnedjaaGreat
