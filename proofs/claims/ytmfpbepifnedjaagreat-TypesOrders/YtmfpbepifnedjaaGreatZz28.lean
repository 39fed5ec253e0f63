/- The document's reader. -/
import Derived.Test.YtmfpbepifnedjaaGreatZz01
import Derived.Test.YtmfpbepifnedjaaGreatZz24
import Derived.Test.YtmfpbepifnedjaaGreatZz25
import Derived.Test.YtmfpbepifnedjaaGreatZz26
import Derived.Test.YtmfpbepifnedjaaGreatZz27
set_option maxRecDepth 100000
set_option maxHeartbeats 32000000
namespace Go.Proofs.YtmfpbepifnedjaaGreat
section
open Go.RowKit Go.Maps
abbrev mLRpw0:List (Nat×Nat):=[(0,1),(1,2),(2,1),(3,1),(4,0),(5,0),(6,0),(7,1),(8,0)]
def lenP(p:Pg):Nat:=p.types.length+p.decls.length+p.comps.length+p.inits.length+p.clauses.length
structure StP(rb g cap:Nat)(l:List Tok)(w:World)(d i a:Nat)(y:Int)(pb:Nat)(W:World)(v0 v1 v2 v3 v4:Value)(p:Pg)(aX iX:Nat)(yX fX:Int):Prop where
 r:Rr rb g cap l W aX d iX yX fX
 b:PgB rb g w pb W v0 v1 v2 v3 v4 p
 le:a<=aX
 ile:i<=iX
 i97:iX<=97
 y0:yX=0->y=0/\iX<=96
 ln:lenP p<=iX
section
variable {rb g cap:Nat}{l:List Tok}{w:World}{d i a:Nat}{y:Int}{pb:Nat}{W W':World}{v0 v1 v2 v3 v4:Value}{p:Pg}{aX iX:Nat}{yX fX f2:Int}
theorem StP.call(h:StP rb g cap l w d i a y pb W v0 v1 v2 v3 v4 p aX iX yX fX)(k:Kp rb W W')(hR:Rr rb g cap l W' aX d iX yX f2):StP rb g cap l w d i a y pb W' v0 v1 v2 v3 v4 p aX iX yX f2:=⟨hR,h.b.call k,h.le,h.ile,h.i97,h.y0,h.ln⟩
theorem StP.mayT(h:StP rb g cap l w d i a y pb W v0 v1 v2 v3 v4 p aX iX yX fX)(k:Kp rb W W')(hR:Rr rb g cap l W' (aX+1) d iX yX f2):StP rb g cap l w d i a y pb W' v0 v1 v2 v3 v4 p (aX+1) iX yX f2:=⟨hR,h.b.call k,by have:=h.le;omega,h.ile,h.i97,h.y0,h.ln⟩
end
theorem Qmk{rb g cap:Nat}{l:List Tok}{d:Nat}(hN:d<=32->PgC rb g cap l (d+1)):PgC rb g cap l d:=by
 intro w a i y f h hi bx
 have b0:Below w.heap.size w (w.alloc (.cells #[Jn,Jn,Jn,Jn,Jn] 28)):=(Below.refl _ w).alloc (Nat.le_refl _) _
 obtain⟨w1,b5⟩:=JE (w.alloc (.cells #[Jn,Jn,Jn,Jn,Jn] 28))
 obtain⟨w2,bh⟩:=JE (w1.alloc (.cells #[Jn,Jn,Jn,Jn,Jn] 28))
 obtain⟨pb,bB⟩:=JF (w.heap.size+1)
 have b1:Below w.heap.size w w1:=by rw[b5];exact(Below.refl _ w).alloc (Nat.le_refl _) _
 have n1:w1.heap[w.heap.size]?=some (.cells #[Jn,Jn,Jn,Jn,Jn] 28 (0,0)):=by rw[b5];exact heap_alloc_new w _
 have s1:w1.heap.size=w.heap.size+1:=by rw[b5];simp
 have b2:Below w1.heap.size w1 w2:=by rw[bh];exact(Below.refl _ w1).alloc (Nat.le_refl _) _
 have n2:w2.heap[pb]?=some (.cells #[Jn,Jn,Jn,Jn,Jn] 28 (0,0)):=by rw[bh,<- bB,<- s1];exact heap_alloc_new w1 _
 have O:w2.heap[w.heap.size]?=some (.cells #[Jn,Jn,Jn,Jn,Jn] 28 (0,0)):=(b2.block _ (by omega)).trans n1
 have ak:Apt (Jn) (Jn):=fun b e _=>by cases e
 have bD:Below w.heap.size w w2:=b1.trans (b2.mono (by omega))
 have S0:Hid (StP rb g cap l w d i a y pb w2 (Jn) (Jn) (Jn) (Jn) (Jn) .none a i y f):=⟨h.later bD,⟨⟨n2,by omega,Row.nil _ _,Row.nil _ _,Row.nil _ _,Row.nil _ _,Row.nil _ _,ak,ak,ak,ak,ak,ak,ak,ak,ak,ak⟩,Kp.of_below bD,O,Qaa h.box,h.row.lt,by omega⟩,Nat.le_refl _,Nat.le_refl _,hi,fun e=>⟨e,(bx e).1⟩,Nat.zero_le _⟩
 have HD:=hide (show y=0->d<=32 from fun e=>(bx e).2)
 have HN:=hide hN
 have HW:=hide (Ya bh (Ya b5 bB))
 clear h hi bx b0 b5 bh bB b1 n1 s1 b2 n2 O ak bD hN
 go_enter Tryz.func21,Tryz.ntmps21
 go_wp2_with fail
 rw[<- (Qa HW).2.1,<- (Qa HW).1,(Qa HW).2.2]
 clear HW
 go_loopw [4] (fun _ wr=>∃(p:Pg) (P N C U S:Option Addr) (L R M T Q:Nat) (V z:Nat) (y1 f1:Int),Hid (StP rb g cap l w d i a y pb wr (.slice P p.types.length L) (.slice N p.decls.length R) (.slice C p.comps.length M) (.slice U p.inits.length T) (.slice S p.clauses.length Q) p V z y1 f1)/\Hid (y1=0->NeT l->WfZ l.length p)) (fun _ wr=>leftR rb l.length wr)
 case atStart=>exact⟨.none,none,none,none,none,none,0,0,0,0,0,a,i,y,f,S0,hide (fun _ _=>Qcc)⟩
 obtain⟨p,P,N,C,U,S,L,R,M,T,Q,V,z,y1,f1,HI,ar⟩:=hrel
 clear S0
 have aF:=Qaw (Qa HI).r
 by_cases hy:y1=0
 ·
  rw[decide_eq_true hy]at aF
  have HY:=hide hy
  clear hy
  replace HD:=hide (show y1=0->d<=32 from fun e=>Qa HD ((Qa HI).y0 e).1)
  obtain⟨t,ht⟩:=(Qa HI).r.tok
  have HT:=hide ht
  clear ht
  have SI:=HI
  go_wp2_with fail
  refine aF.mono ?_
  clear aF
  rintro I wq⟨rfl,rfl⟩
  have D:=Qao (Qa SI).r (Qa HT)
  unfold tkA at D
  go_wp2_with fail
  refine D.mono ?_
  clear D
  rintro I w1⟨rfl,b1⟩
  have S1:=hide ((Qa SI).call (Kp.of_below b1) ((Qa SI).r.later b1))
  clear b1
  by_cases ku:t.kind=0
  have gu:(t.kind != 0)=false:=by simpa using ku
  clear ku
  go_wp2_with fail
  rename_i c
  refine c _ _ ?_
  clear c
  have n:=Qa S1
  obtain⟨be,bb,bf,bk,bl,xf⟩:=cl5 n.b.p5.box
  obtain⟨aU,aQ,aP,aY,aI,yf⟩:=cl5 n.b.res
  have HF:Hid (∀q0 X O q3 q4,RA rb g cap l w d (pgV rb l w) (PgY a i y) (.returned (.agg #[.slice P p.types.length L,.slice N p.decls.length R,.slice C p.comps.length M,.slice U p.inits.length T,.slice S p.clauses.length Q])) (((((w1.setCell (Ja w.heap.size 0) q0).setCell (Ja w.heap.size 1) X).setCell (Ja w.heap.size 2) O).setCell (Ja w.heap.size 3) q3).setCell (Ja w.heap.size 4) q4)):=fun q0 X O q3 q4=>by
   obtain⟨K9,P9⟩:=n.b.fin (W':=(((((w1.setCell (Ja w.heap.size 0) q0).setCell (Ja w.heap.size 1) X).setCell (Ja w.heap.size 2) O).setCell (Ja w.heap.size 3) q3).setCell (Ja w.heap.size 4) q4)) (by simp[World.setCell]) ⟨rfl,rfl,rfl⟩ (fun q o=>by rw[hpS o,hpS o,hpS o,hpS o,hpS o])
   have ah:=n.b.r1
   have bg:=n.b.g1
   have hb:∀q,q≠w.heap.size->(((((w1.setCell (Ja w.heap.size 0) q0).setCell (Ja w.heap.size 1) X).setCell (Ja w.heap.size 2) O).setCell (Ja w.heap.size 3) q3).setCell (Ja w.heap.size 4) q4).heap[q]?=w1.heap[q]?:=fun q o=>by rw[hpS o,hpS o,hpS o,hpS o,hpS o]
   exact⟨_,_,_,_,_,rfl,⟨p,_,_,_,_,_,_,_,_,_,_,_,_,_,_,_,rfl,P9,by have h1:=n.ln;have h2:=n.i97;simp only[lenP]at h1;unfold Few;omega,fun ho a7=>Qa ar ((Qtb ((hb rb (by omega)).trans n.r.box)).1 ho) a7⟩,⟨n.le,n.ile,n.i97,n.y0⟩,n.r.move (by simp[World.setCell]) (hb rb (by omega)) (hb g (by omega)),K9⟩
  rotate_left
  have gu:(t.kind != 0)=true:=by simpa using ku
  clear ku
  have bJ:=Qcj (Qa S1).r ⟨#[125]⟩
  go_wp2_with fail
  rename_i c
  refine c _ _ ?_
  clear c
  go_wp2_with fail
  refine bJ.mono ?_
  clear bJ
  rintro I w2⟨b,rfl,hb,b2⟩
  have S2:=hide ((Qa S1).call (Kp.of_below b2) ((Qa S1).r.later b2))
  clear hb b2
  cases b
  ·
   obtain⟨bA,bv,bF,bw,bE,bG,qf⟩:=cl6 (Qa S2).r.box
   have c8:=((Qa S2).y0 (Qa HY)).2
   obtain⟨w3,aL⟩:=JE (w2.setCell (Ja rb 3) (Ji ((z:Int)+1)))
   have h3:Rr rb g cap l w3 V d (z+1) y1 f1:=by rw[aL];exact(Qa S2).r.setI (i':=z+1) (by omega)
   have G3:PgB rb g w pb w3 (.slice P p.types.length L) (.slice N p.decls.length R) (.slice C p.comps.length M) (.slice U p.inits.length T) (.slice S p.clauses.length Q) p:=by rw[aL];exact(Qa S2).b.call (Kp.set _ _ _ _)
   have aB:=hide (Qa S2).ln
   have H3:=hide (Ya h3 G3)
   have bi:=hide aL
   by_cases bV:96<z+1
   ·
    have ci:(96:Int)<(z:Int)+1:=by omega
    have c9:=Qbe h3 (why:=3) (by decide)
    clear bV h3 G3 aL
    go_wp2_with fail
    rw[<- Qa bi]
    clear bi bA bv bF bw bE bG qf
    refine c9.mono ?_
    clear c9
    rintro I wf⟨_,af,jf,y4,f4,rfl,rfl,⟨ea,s,bt⟩,hf,kf⟩
    rw[ea,s]at hf
    clear ea s
    have aM:=hide bt
    have S3:Hid (StP rb g cap l w d i a y pb wf (.slice P p.types.length L) (.slice N p.decls.length R) (.slice C p.comps.length M) (.slice U p.inits.length T) (.slice S p.clauses.length Q) p V (z+1) y4 f4):=⟨hf,(Qa H3).2.call kf,(Qa S2).le,by have:=(Qa S2).ile;omega,by omega,fun e=>absurd e bt,by have:=(Qa S2).ln;omega⟩
    clear bt hf kf c8 H3
    have D:=Qao (Qa S3).r (Qa HT)
    unfold tkA at D
    go_wp2_with fail
    refine D.mono ?_
    clear D
    rintro I w4⟨rfl,b4⟩
    have S4:=hide ((Qa S3).call (Kp.of_below b4) ((Qa S3).r.later b4))
    clear b4
    go_wp2_with fail
    rename_i c
    refine c _ _ ?_
    clear c
    have J:=Qbf (Qa S4).r ⟨#[46,116,121,112,101]⟩
    go_wp2_with fail
    refine J.mono ?_
    clear J
    rintro I w5⟨b,a5,f5,rfl,a4,a3,h5,k5⟩
    cases b with
    |true=>exact absurd (a4 rfl).1 (Qa aM)
    |false=>
     have S5:=hide ((Qa S4).call k5 (a3 rfl▸h5))
     clear a4 a3 h5 k5
     have J:=Qbf (Qa S5).r ⟨#[46,100,101,99,108]⟩
     go_wp2_with fail
     refine J.mono ?_
     clear J
     rintro I wD⟨b,a6,f6,rfl,a4,a3,B,k6⟩
     cases b with
     |true=>exact absurd (a4 rfl).1 (Qa aM)
     |false=>
      have S6:=hide ((Qa S5).call k6 (a3 rfl▸B))
      clear a4 a3 B k6
      have J:=Qcj (Qa S6).r ⟨#[46,99,111,109,112]⟩
      go_wp2_with fail
      refine J.mono ?_
      clear J
      rintro I w7⟨b,rfl,hb,A⟩
      cases b with
      |true=>exact absurd (hb rfl).1 (Qa aM)
      |false=>
       have S7:=hide ((Qa S6).call (Kp.of_below A) ((Qa S6).r.later A))
       clear hb A
       have J:=Qbf (Qa S7).r ⟨#[46,105,110,105,116]⟩
       go_wp2_with fail
       refine J.mono ?_
       clear J
       rintro I wL⟨b,a8,f8,rfl,a4,a3,h8,k8⟩
       cases b with
       |true=>exact absurd (a4 rfl).1 (Qa aM)
       |false=>
        have S8:=hide ((Qa S7).call k8 (a3 rfl▸h8))
        clear a4 a3 h8 k8
        have aj:=hide (Nat.le_refl V)
        have ad:=hide (show y4=0->y=0/\z+1<=96 from fun e=>absurd e (Qa aM))
        have SD:=hide ((Qa S8).call (W':=wL.drew) (Kp.of_below (Below.refl _ wL).drew) ((Qa S8).r.later (Below.refl _ wL).drew))
        have D:=Qgg (Qa SD).r (by have:=Qa HD (Qa HY);omega)
        go_wp2_with fail
        refine Qaq (m:=7) (ml:=[(0,1),(1,2),(2,1),(3,0),(4,0),(5,0),(6,1),(7,0)]) (fun ff w'=>ff=false->w'.heap[pb]?=some (.cells #[.slice P p.types.length L,.slice N p.decls.length R,.slice C p.comps.length M,.slice U p.inits.length T,.slice S p.clauses.length Q] 28 (0,0))) mixedO (by kernel_rfl) rfl (by rfl) (by kernel_rfl) (fun PP ag=>?_)
        refine Qae rfl (by kernel_rfl) (fun _ _ _=>by go_simp<;>rfl) ?_
        refine Qax (v:=?_) rfl (by kernel_rfl) (fun w' hw=>?_) ?_
        rotate_left
        ·(obtain⟨aK,aV,aT,aJ,aN,zf⟩:=cl5 (hw rfl);go_simp<;>rfl)
        refine Qae rfl (by kernel_rfl) (fun _ _ _=>by go_simp<;>rfl) ?_
        refine Qab rfl (fun _=>(Qa SD).b.p5.box) (fun K c=>?_)
        go_simp
        refine D.mono ?_
        clear D
        rintro I u⟨_,a6,i6,H,f6,rfl,⟨x,⟨aa,an,ac,ba,bn,bc,rfl,hX⟩,aO,av⟩,⟨s,ap,F⟩,B,k6⟩
        rw[s]at B
        clear s
        have SX:=hide (show H=0->x.head.rel.length<=65536/\ltQs x.body<=2*l.length from fun e=>⟨av,by have X:=aO.at B e;have:=B.lt;omega⟩)
        clear aO av
        show K _ _
        refine c _ _ ?_
        clear c K
        have j:=Qa SD
        have ai:=j.b.x1
        have ah:=j.b.r1
        obtain⟨Y,Z,w8,a2,ab,G9,R9⟩:=j.b.more4 k6 B (x:=x) (cs:=[str x.head.rel,.slice aa an ac,Ji x.head.at_,.slice ba bn bc,Ji x.at_]) rfl (by simp[Value.oneCell',str]) ⟨_,_,_,_,_,_,rfl,hX.1,hX.2⟩ (by have:=j.i97;have:=j.ln;simp only[lenP]at this;omega)
        obtain⟨w7,G⟩:=JE (u.alloc (.cells #[str x.head.rel,.slice aa an ac,Ji x.head.at_,.slice ba bn bc,Ji x.at_] 45))
        have A:Below u.heap.size u w7:=by rw[G];exact(Below.refl _ u).alloc (Nat.le_refl _) _
        have E:=k6.keep j.b.p5.box (by omega)
        have aq:=hide E
        have au:=hide ((A.block _ (Qaa E)).trans E)
        have ao:=hide ab
        obtain⟨aS,aH,aW,bd,b8,uf⟩:=cl5 ab
        have a0:(Builtin.append_ #[26,26] 26 #[.slice S p.clauses.length Q,.slice (Js u.heap.size) 1 1]).run Tryz.prog w7 = .ok (.slice (Js Y) (p.clauses.length+1) Z) w8:=by rw[G];exact a2
        have ae:=hide G
        have k:StP rb g cap l w d i a y pb (w8.setCell (Ja pb 4) (.slice (Js Y) (p.clauses.length+1) Z)) (.slice P p.types.length L) (.slice N p.decls.length R) (.slice C p.comps.length M) (.slice U p.inits.length T) (.slice (Js Y) (p.clauses.length+1) Z) (.mk p.types p.decls p.comps p.inits (p.clauses++[x])) a6 (z+1) H f6:=⟨R9,G9,by have:=j.le;omega,by have:=j.ile;omega,j.i97,fun e=>⟨(Qa ad (F e).1).1,(Qa ad (F e).1).2⟩,by have:=Qa aB;simp[lenP,Pg.types,Pg.decls,Pg.comps,Pg.inits,Pg.clauses]at this ⊢;omega⟩
        have HE:=hide (Ya k (show H=0->V<a6 from fun e=>by have:=Qa aj;have:=(F e).2;omega))
        clear hX ap F B k6 a2 G A E ab G9 R9 k j ai ah
        refine Qab rfl (fun _=>Qa aq) (fun K c=>?_)
        go_simp
        rw[<- Qa ae]
        clear ae
        refine c _ _ ?_
        clear c K
        refine Qab rfl (fun _=>Qa au) (fun K c=>Qaj rfl _ _ 26 rfl _ _ rfl rfl a0 (c _ _ ?_))
        clear c K a0
        refine Qae rfl (by kernel_rfl) (fun _ _ _=>by go_simp<;>rfl) ?_
        refine Qab rfl (fun _=>Qa ao) (fun K c=>?_)
        go_simp
        refine c _ _ ?_
        clear c K
        refine Qat (fun h=>by cases h) (ag _ _ ?_)
        clear ag PP
        go_wp2_with fail
        go_roundw
        case rel=>
         obtain⟨k,m2⟩:=Qa HE
         exact⟨(.mk p.types p.decls p.comps p.inits (p.clauses++[x])),_,_,_,_,_,_,_,_,_,_,a6,(z+1),H,f6,hide (by simpa[Pg.types,Pg.decls,Pg.comps,Pg.inits,Pg.clauses] using k),hide (fun e a7=>Quh (Qa ar (Qa HY) a7) (Qa SX e))⟩
        obtain⟨k,m2⟩:=Qa HE
        rw[Qan (Qa HI).r l.length,Qan k.r l.length,if_pos (Qa HY)]
        have X:=(Qa HI).r.lt
        have O:=k.r.lt
        split
        ·
         rename_i e
         have:=m2 e
         omega
        ·omega
   have ci:¬((96:Int)<(z:Int)+1):=by omega
   have S3:Hid (StP rb g cap l w d i a y pb w3 (.slice P p.types.length L) (.slice N p.decls.length R) (.slice C p.comps.length M) (.slice U p.inits.length T) (.slice S p.clauses.length Q) p V (z+1) y1 f1):=⟨h3,G3,(Qa S2).le,by have:=(Qa S2).ile;omega,by omega,fun e=>⟨((Qa S2).y0 e).1,by omega⟩,by have:=(Qa S2).ln;omega⟩
   have D:=Qao (Qa S3).r (Qa HT)
   unfold tkA at D
   clear bV h3 G3 aL c8 H3
   go_wp2_with fail
   rw[<- Qa bi]
   clear bi bA bv bF bw bE bG qf
   refine D.mono ?_
   clear D
   rintro I w4⟨rfl,b4⟩
   have S4:=hide ((Qa S3).call (Kp.of_below b4) ((Qa S3).r.later b4))
   clear b4
   go_wp2_with fail
   rename_i c
   refine c _ _ ?_
   clear c
   have J:=Qbf (Qa S4).r ⟨#[46,116,121,112,101]⟩
   go_wp2_with fail
   refine J.mono ?_
   clear J
   rintro I w5⟨b,a5,f5,rfl,a4,a3,h5,k5⟩
   cases b
   ·
    have S5:=hide ((Qa S4).call k5 (a3 rfl▸h5))
    clear a4 a3 h5 k5
    have J:=Qbf (Qa S5).r ⟨#[46,100,101,99,108]⟩
    go_wp2_with fail
    refine J.mono ?_
    clear J
    rintro I wD⟨b,aD,fD,rfl,a4,a3,hD,kD⟩
    cases b
    ·
     have S6:=hide ((Qa S5).call kD (a3 rfl▸hD))
     clear a4 a3 hD kD
     have J:=Qcj (Qa S6).r ⟨#[46,99,111,109,112]⟩
     go_wp2_with fail
     refine J.mono ?_
     clear J
     rintro I w7⟨b,rfl,hb,A⟩
     cases b
     ·
      have S7:=hide ((Qa S6).call (Kp.of_below A) ((Qa S6).r.later A))
      clear hb A
      have J:=Qbf (Qa S7).r ⟨#[46,105,110,105,116]⟩
      go_wp2_with fail
      refine J.mono ?_
      clear J
      rintro I wL⟨b,a8,f8,rfl,a4,a3,h8,k8⟩
      cases b
      ·
       have S8:=hide ((Qa S7).call k8 (a3 rfl▸h8))
       have aj:=hide (Nat.le_refl V)
       have ad:=hide (show y1=0->y=0/\z+1<=96 from (Qa S8).y0)
       clear a4 a3 h8 k8
       have SD:=hide ((Qa S8).call (W':=wL.drew) (Kp.of_below (Below.refl _ wL).drew) ((Qa S8).r.later (Below.refl _ wL).drew))
       have D:=Qgg (Qa SD).r (by have:=Qa HD (Qa HY);omega)
       go_wp2_with fail
       refine Qaq (m:=7) (ml:=[(0,1),(1,2),(2,1),(3,0),(4,0),(5,0),(6,1),(7,0)]) (fun ff w'=>ff=false->w'.heap[pb]?=some (.cells #[.slice P p.types.length L,.slice N p.decls.length R,.slice C p.comps.length M,.slice U p.inits.length T,.slice S p.clauses.length Q] 28 (0,0))) mixedO (by kernel_rfl) rfl (by rfl) (by kernel_rfl) (fun PP ag=>?_)
       refine Qae rfl (by kernel_rfl) (fun _ _ _=>by go_simp<;>rfl) ?_
       refine Qax (v:=?_) rfl (by kernel_rfl) (fun w' hw=>?_) ?_
       rotate_left
       ·(obtain⟨aK,aV,aT,aJ,aN,zf⟩:=cl5 (hw rfl);go_simp<;>rfl)
       refine Qae rfl (by kernel_rfl) (fun _ _ _=>by go_simp<;>rfl) ?_
       refine Qab rfl (fun _=>(Qa SD).b.p5.box) (fun K c=>?_)
       go_simp
       refine D.mono ?_
       clear D
       rintro I u⟨_,a6,i6,H,f6,rfl,⟨x,⟨aa,an,ac,ba,bn,bc,rfl,hX⟩,aO,av⟩,⟨s,ap,F⟩,B,k6⟩
       rw[s]at B
       clear s
       have SX:=hide (show H=0->x.head.rel.length<=65536/\ltQs x.body<=2*l.length from fun e=>⟨av,by have X:=aO.at B e;have:=B.lt;omega⟩)
       clear aO av
       show K _ _
       refine c _ _ ?_
       clear c K
       have j:=Qa SD
       have ai:=j.b.x1
       have ah:=j.b.r1
       obtain⟨Y,Z,w8,a2,ab,G9,R9⟩:=j.b.more4 k6 B (x:=x) (cs:=[str x.head.rel,.slice aa an ac,Ji x.head.at_,.slice ba bn bc,Ji x.at_]) rfl (by simp[Value.oneCell',str]) ⟨_,_,_,_,_,_,rfl,hX.1,hX.2⟩ (by have:=j.i97;have:=j.ln;simp only[lenP]at this;omega)
       obtain⟨w7,G⟩:=JE (u.alloc (.cells #[str x.head.rel,.slice aa an ac,Ji x.head.at_,.slice ba bn bc,Ji x.at_] 45))
       have A:Below u.heap.size u w7:=by rw[G];exact(Below.refl _ u).alloc (Nat.le_refl _) _
       have E:=k6.keep j.b.p5.box (by omega)
       have aq:=hide E
       have au:=hide ((A.block _ (Qaa E)).trans E)
       have ao:=hide ab
       obtain⟨aS,aH,aW,bd,b8,uf⟩:=cl5 ab
       have a0:(Builtin.append_ #[26,26] 26 #[.slice S p.clauses.length Q,.slice (Js u.heap.size) 1 1]).run Tryz.prog w7 = .ok (.slice (Js Y) (p.clauses.length+1) Z) w8:=by rw[G];exact a2
       have ae:=hide G
       have k:StP rb g cap l w d i a y pb (w8.setCell (Ja pb 4) (.slice (Js Y) (p.clauses.length+1) Z)) (.slice P p.types.length L) (.slice N p.decls.length R) (.slice C p.comps.length M) (.slice U p.inits.length T) (.slice (Js Y) (p.clauses.length+1) Z) (.mk p.types p.decls p.comps p.inits (p.clauses++[x])) a6 (z+1) H f6:=⟨R9,G9,by have:=j.le;omega,by have:=j.ile;omega,j.i97,fun e=>⟨(Qa ad (F e).1).1,(Qa ad (F e).1).2⟩,by have:=Qa aB;simp[lenP,Pg.types,Pg.decls,Pg.comps,Pg.inits,Pg.clauses]at this ⊢;omega⟩
       have HE:=hide (Ya k (show H=0->V<a6 from fun e=>by have:=Qa aj;have:=(F e).2;omega))
       clear hX ap F B k6 a2 G A E ab G9 R9 k j ai ah
       refine Qab rfl (fun _=>Qa aq) (fun K c=>?_)
       go_simp
       rw[<- Qa ae]
       clear ae
       refine c _ _ ?_
       clear c K
       refine Qab rfl (fun _=>Qa au) (fun K c=>Qaj rfl _ _ 26 rfl _ _ rfl rfl a0 (c _ _ ?_))
       clear c K a0
       refine Qae rfl (by kernel_rfl) (fun _ _ _=>by go_simp<;>rfl) ?_
       refine Qab rfl (fun _=>Qa ao) (fun K c=>?_)
       go_simp
       refine c _ _ ?_
       clear c K
       refine Qat (fun h=>by cases h) (ag _ _ ?_)
       clear ag PP
       go_wp2_with fail
       go_roundw
       case rel=>
        obtain⟨k,m2⟩:=Qa HE
        exact⟨(.mk p.types p.decls p.comps p.inits (p.clauses++[x])),_,_,_,_,_,_,_,_,_,_,a6,(z+1),H,f6,hide (by simpa[Pg.types,Pg.decls,Pg.comps,Pg.inits,Pg.clauses] using k),hide (fun e a7=>Quh (Qa ar (Qa HY) a7) (Qa SX e))⟩
       obtain⟨k,m2⟩:=Qa HE
       rw[Qan (Qa HI).r l.length,Qan k.r l.length,if_pos (Qa HY)]
       have X:=(Qa HI).r.lt
       have O:=k.r.lt
       split
       ·
        rename_i e
        have:=m2 e
        omega
       ·omega
      have e8:=(a4 rfl).2
      subst e8
      have S8:=hide ((Qa S7).mayT k8 h8)
      have aj:=hide (show V<V+1 by omega)
      have ad:=hide (show y1=0->y=0/\z+1<=96 from (Qa S7).y0)
      clear a4 a3 h8 k8
      have c6:=Qcb (Qa S8).r
      go_wp2_with fail
      refine c6.mono ?_
      clear c6
      rintro I w9⟨_,a9,i9,y9,f9,rfl,⟨x9,rfl,bW⟩,⟨s,bj,aC⟩,h9,k9⟩
      have ck:=hide bW
      clear bW
      rw[s]at h9
      clear s
      obtain⟨ib,aE⟩:=JF w9.heap.size
      obtain⟨bY,ay⟩:=JE (w9.alloc (.cells #[str x9,Je,Ji (t.at_:Int)] 93))
      have bC:Below w9.heap.size w9 bY:=by rw[ay];exact(Below.refl _ w9).alloc (Nat.le_refl _) _
      have aG:bY.heap[ib]?=some (.cells #[str x9,Je,Ji (t.at_:Int)] 93 (0,0)):=by rw[ay,<- aE];exact heap_alloc_new w9 _
      have c5:=Qbl (h9.later bC) ⟨#[61]⟩
      have cm:=hide (Ya (k9.trans (Kp.of_below bC)) (Ya aG (Ya (show wL.heap.size<=ib by have:=k9.size;omega) (Ya bj aC))))
      have b3:=hide (Ya ay aE)
      clear bj aC h9 k9 aE ay bC aG
      go_wp2_with fail
      rw[<- (Qa b3).1,(Qa b3).2]
      clear b3
      refine c5.mono ?_
      clear c5
      rintro I ct⟨_,cx,cz,cv,cu,rfl,rfl,⟨s,ax,al⟩,bH,az⟩
      rw[s]at bH
      clear s
      have bN:=Qdm bH
      have cl:=hide (Ya az (Ya ax al))
      clear ax al bH az
      go_wp2_with fail
      refine bN.mono ?_
      clear bN
      rintro I bU⟨_,bm,cw,b9,bz,rfl,⟨aA,rfl,-⟩,⟨s,ha12,hy12⟩,h12,k12⟩
      rw[s]at h12
      clear s
      obtain⟨bX,aG,aE,bj,aC⟩:=Qa cm
      obtain⟨az,ax,al⟩:=Qa cl
      have s8:=Qa S8
      have ai:=s8.b.x1
      have ah:=s8.b.r1
      have bg:=s8.b.g1
      have cj:=Qaa s8.b.p5.box
      have bI:=k12.keep (az.keep aG (by omega)) (by omega)
      obtain⟨b6,am⟩:=JE (bU.setCell (Ja ib 1) (str aA))
      have bM:b6.heap[ib]?=some (.cells #[str x9,str aA,Ji (t.at_:Int)] 93 (0,0)):=by rw[am];exact(Qah bI 1 _).trans rfl
      have c7:Rr rb g cap l b6 bm d (z+1) b9 bz:=by rw[am];exact h12.atBox ⟨by omega,by omega⟩ 1 _
      have bT:b6.heap.size=bU.heap.size:=by rw[am];simp
      have bs:Kp rb wL b6:=by rw[am];exact((bX.trans az).trans k12).set2 aE
      have bq:=bs.keep s8.b.p5.box (by omega)
      obtain⟨Y,Z,cd,a2,bo,bP,bS⟩:=s8.b.more3 bs c7 (x:=⟨x9,aA,t.at_⟩) (cs:=[str x9,str aA,Ji (t.at_:Int)]) rfl (by simp[Value.oneCell',str]) rfl (by have:=s8.i97;have:=s8.ln;simp only[lenP]at this;omega)
      obtain⟨be,bb,bf,bk,bl,xf⟩:=cl5 bq
      obtain⟨aS,aH,aW,uf⟩:=cl3 bI
      obtain⟨ch,cc,cf,vf⟩:=cl3 bM
      obtain⟨aK,aV,aT,aJ,aN,zf⟩:=cl5 bo
      have k:StP rb g cap l w d i a y pb (cd.setCell (Ja pb 3) (.slice (Js Y) (p.inits.length+1) Z)) (.slice P p.types.length L) (.slice N p.decls.length R) (.slice C p.comps.length M) (.slice (Js Y) (p.inits.length+1) Z) (.slice S p.clauses.length Q) (.mk p.types p.decls p.comps (p.inits++[⟨x9,aA,t.at_⟩]) p.clauses) bm (z+1) b9 bz:=⟨bS,bP,by have:=s8.le;omega,by have:=s8.ile;omega,s8.i97,fun e=>⟨(Qa ad (aC (al (hy12 e).1).1).1).1,(Qa ad (aC (al (hy12 e).1).1).1).2⟩,by have:=Qa aB;simp[lenP,Pg.types,Pg.decls,Pg.comps,Pg.inits,Pg.clauses]at this ⊢;omega⟩
      have HE:=hide (Ya k (show b9=0->V<bm from fun e=>by have:=Qa aj;have:=(hy12 e).2;omega))
      rw[bT]at a2
      rw[am]at a2 bk ch cc cf
      have bp:=hide a2
      clear bX aG aE bj aC az ax al s8 ai ah bg cj bI am bM c7 bT bs bq a2 bo bP bS k h12 k12 ha12 hy12 be bb bf bl xf
      go_wp2_with (at_builtin;refine Qai _ rfl _ _ 25 rfl _ _ rfl rfl _ _ (Qa bp) ?_;clear bp)
      go_roundw
      case rel=>
       obtain⟨k,m2⟩:=Qa HE
       exact⟨(.mk p.types p.decls p.comps (p.inits++[⟨x9,aA,t.at_⟩]) p.clauses),_,_,_,_,_,_,_,_,_,_,bm,(z+1),b9,bz,hide (by simpa[Pg.types,Pg.decls,Pg.comps,Pg.inits,Pg.clauses] using k),hide (fun _ a7=>wfZ_in (Qa ar (Qa HY) a7) (Qa ck))⟩
      obtain⟨k,m2⟩:=Qa HE
      rw[Qan (Qa HI).r l.length,Qan k.r l.length,if_pos (Qa HY)]
      have X:=(Qa HI).r.lt
      have O:=k.r.lt
      split
      ·
       rename_i e
       have:=m2 e
       omega
      ·omega
     obtain⟨co,aR⟩:=hb rfl
     have bK:=Qhi ((Qa S6).r.later A) (by have:=(Qa HD (Qa HY));omega)
     have K7:=hide (Ya A aR)
     clear hb A co aR
     go_wp2_with fail
     refine bK.mono ?_
     clear bK
     rintro I w8⟨_,a8,i8,y8,f8,rfl,rfl,⟨ea,s,aw⟩,h8,k8⟩
     rw[ea,s]at h8
     clear ea s
     obtain⟨t8,bQ⟩:=h8.tok
     have ca:=Qb h8 bQ
     have K8:=hide (Ya k8 aw)
     clear h8 k8 aw bQ
     go_wp2_with fail
     refine ca.mono ?_
     clear ca
     rintro I w9⟨_,a9,i9,y9,f9,rfl,rfl,⟨s,ey,br⟩,h9,k9⟩
     rw[s,ey]at h9
     clear s ey
     obtain⟨A,aR⟩:=Qa K7
     obtain⟨k8,aw⟩:=Qa K8
     have s6:=Qa S6
     have e9:y8=0->a9=V+1:=fun e=>by
      rcases br with ⟨_,_,C⟩|⟨_,hn⟩
      ·exact C
      ·exact absurd aR (hn e)
     have cp:V<=a9:=by rcases br with ⟨_,_,C⟩|⟨C,_⟩<;>omega
     have S9:Hid (StP rb g cap l w (d+1) i a y pb w9 (.slice P p.types.length L) (.slice N p.decls.length R) (.slice C p.comps.length M) (.slice U p.inits.length T) (.slice S p.clauses.length Q) p a9 (z+1) y8 f9):=⟨h9,s6.b.call (((Kp.of_below A).trans k8).trans k9),by have:=s6.le;omega,by have:=s6.ile;omega,s6.i97,fun e=>s6.y0 (aw e).1,s6.ln⟩
     have aj:=hide (show y8=0->V<a9 from fun e=>by have:=e9 e;omega)
     have ad:=hide (show y8=0->y=0/\z+1<=96 from fun e=>s6.y0 (aw e).1)
     have cg:=hide (show y8=0->d+1<=32 from fun e=>by have:=(aw e).2;omega)
     clear A aR k8 aw s6 e9 cp h9 k9 br
     have SD:=hide ((Qa S9).call (W':=w9.drew) (Kp.of_below (Below.refl _ w9).drew) ((Qa S9).r.later (Below.refl _ w9).drew))
     have D:=Qsv (Qa SD).r (Qa SD).i97 (fun e=>⟨(Qa ad e).2,Qa cg e⟩) (Qa HN (Qa HD (Qa HY))) (t.at_:Int)
     go_wp2_with fail
     refine Qaq (m:=8) (ml:=mLRpw0) (fun ff w'=>ff=false->w'.heap[pb]?=some (.cells #[.slice P p.types.length L,.slice N p.decls.length R,.slice C p.comps.length M,.slice U p.inits.length T,.slice S p.clauses.length Q] 28 (0,0))) mixedO (by kernel_rfl) rfl (by rfl) (by kernel_rfl) (fun PP ag=>?_)
     refine Qae rfl (by kernel_rfl) (fun _ _ _=>by go_simp<;>rfl) ?_
     refine Qax (v:=?_) rfl (by kernel_rfl) (fun w' hw=>?_) ?_
     rotate_left
     ·(obtain⟨aK,aV,aT,aJ,aN,zf⟩:=cl5 (hw rfl);go_simp<;>rfl)
     refine Qae rfl (by kernel_rfl) (fun _ _ _=>by go_simp<;>rfl) ?_
     refine Qae rfl (by kernel_rfl) (fun _ _ _=>by go_simp<;>rfl) ?_
     refine Qab rfl (fun _=>(Qa SD).b.p5.box) (fun K c=>?_)
     go_simp
     refine D.mono ?_
     clear D
     rintro I u⟨_,a6,i6,H,f6,rfl,⟨x,⟨ba,bn,bc,r0,s0,t0,r1,s1,t1,r2,s2,t2,r3,s3,t3,r4,s4,t4,rfl,hX⟩,aZ,bO⟩,⟨ap,cb,bZ,F⟩,B,k6⟩
     have cn:=hide bO
     clear bO
     have SX:=hide (show H=0->NeT l->WfZ l.length x.2.2.1 from fun e=>aZ ((Rr.ok B).2 e))
     clear aZ
     show K _ _
     refine c _ _ ?_
     clear c K
     have j:=Qa SD
     have ai:=j.b.x1
     have ah:=j.b.r1
     obtain⟨Y,Z,w8,a2,ab,G9,R9⟩:=j.b.more2 k6 B (x:=x) (cs:=[str x.1,.slice ba bn bc,.slice r0 s0 t0,.slice r1 s1 t1,.slice r2 s2 t2,.slice r3 s3 t3,.slice r4 s4 t4,Ji x.2.2.2]) rfl (Qqf hX) hX (by have:=j.i97;have:=j.ln;simp only[lenP]at this;omega)
     obtain⟨w7,G⟩:=JE (u.alloc (.cells #[str x.1,.slice ba bn bc,.slice r0 s0 t0,.slice r1 s1 t1,.slice r2 s2 t2,.slice r3 s3 t3,.slice r4 s4 t4,Ji x.2.2.2] 83))
     have A:Below u.heap.size u w7:=by rw[G];exact(Below.refl _ u).alloc (Nat.le_refl _) _
     have E:=k6.keep j.b.p5.box (by omega)
     have aq:=hide E
     have au:=hide ((A.block _ (Qaa E)).trans E)
     have ao:=hide ab
     obtain⟨aS,aH,aW,bd,b8,uf⟩:=cl5 ab
     have a0:(Builtin.append_ #[24,24] 24 #[.slice C p.comps.length M,.slice (Js u.heap.size) 1 1]).run Tryz.prog w7 = .ok (.slice (Js Y) (p.comps.length+1) Z) w8:=by rw[G];exact a2
     have ae:=hide G
     have cr:=R9.dd
     have cy:IntKind.i64.wrap ((d:Int)+1 - 1)=(d:Int):=by rw[show(d:Int)+1 - 1=(d:Int) by omega];exact Qes d (by omega)
     obtain⟨w9,bu⟩:=JE (w8.setCell (Ja pb 2) (.slice (Js Y) (p.comps.length+1) Z))
     rw[<- bu]at G9 R9
     obtain⟨bA,bv,bF,bw,bE,bG,qf⟩:=cl6 R9.box
     have bR:Rr rb g cap l (w9.setCell (Ja rb 2) (Ji (d:Int))) a6 d i6 H f6:=R9.setD (by omega)
     have k:StP rb g cap l w d i a y pb (w9.setCell (Ja rb 2) (Ji (d:Int))) (.slice P p.types.length L) (.slice N p.decls.length R) (.slice (Js Y) (p.comps.length+1) Z) (.slice U p.inits.length T) (.slice S p.clauses.length Q) (.mk p.types p.decls (p.comps++[x]) p.inits p.clauses) a6 i6 H f6:=⟨bR,G9.call (Kp.set _ _ _ _),by have:=j.le;omega,by have:=j.ile;omega,bZ,fun e=>⟨(Qa ad (F e).1).1,(F e).2⟩,by have:=Qa aB;simp[lenP,Pg.types,Pg.decls,Pg.comps,Pg.inits,Pg.clauses]at this ⊢;omega⟩
     have HE:=hide (Ya k (show H=0->V<a6 from fun e=>by have:=Qa aj (F e).1;omega))
     have bL:=hide bu
     clear bu bR
     clear hX ap cb bZ F B k6 a2 G A E ab G9 R9 k j ai ah
     refine Qab rfl (fun _=>Qa aq) (fun K c=>?_)
     go_simp
     rw[<- Qa ae]
     clear ae
     refine c _ _ ?_
     clear c K
     refine Qab rfl (fun _=>Qa au) (fun K c=>Qaj rfl _ _ 24 rfl _ _ rfl rfl a0 (c _ _ ?_))
     clear c K a0
     refine Qae rfl (by kernel_rfl) (fun _ _ _=>by go_simp<;>rfl) ?_
     refine Qab rfl (fun _=>Qa ao) (fun K c=>?_)
     go_simp
     refine c _ _ ?_
     clear c K
     refine Qat (fun h=>by cases h) (ag _ _ ?_)
     clear ag PP
     rw[<- Qa bL]
     clear bL
     go_wp2_with fail
     go_roundw
     case rel=>
      obtain⟨k,m2⟩:=Qa HE
      exact⟨(.mk p.types p.decls (p.comps++[x]) p.inits p.clauses),_,_,_,_,_,_,_,_,_,_,a6,i6,H,f6,hide (by simpa[Pg.types,Pg.decls,Pg.comps,Pg.inits,Pg.clauses] using k),hide (fun e a7=>wfZ_cp (Qa ar (Qa HY) a7) (Qa SX e a7) (Qa cn))⟩
     obtain⟨k,m2⟩:=Qa HE
     rw[Qan (Qa HI).r l.length,Qan k.r l.length,if_pos (Qa HY)]
     have X:=(Qa HI).r.lt
     have O:=k.r.lt
     split
     ·
      rename_i e
      have:=m2 e
      omega
     ·omega
    have e6:=(a4 rfl).2
    subst e6
    have S6:=hide ((Qa S5).mayT kD hD)
    have aj:=hide (show V<V+1 by omega)
    have ad:=hide (show y1=0->y=0/\z+1<=96 from (Qa S5).y0)
    clear a4 a3 hD kD
    have SD:=hide ((Qa S6).call (W':=wD.drew) (Kp.of_below (Below.refl _ wD).drew) ((Qa S6).r.later (Below.refl _ wD).drew))
    have D:=Qqk (Qa SD).r (t.at_:Int)
    go_wp2_with fail
    refine Qaq (m:=8) (ml:=mLRpw0) (fun ff w'=>ff=false->w'.heap[pb]?=some (.cells #[.slice P p.types.length L,.slice N p.decls.length R,.slice C p.comps.length M,.slice U p.inits.length T,.slice S p.clauses.length Q] 28 (0,0))) mixedO (by kernel_rfl) rfl (by rfl) (by kernel_rfl) (fun PP ag=>?_)
    refine Qae rfl (by kernel_rfl) (fun _ _ _=>by go_simp<;>rfl) ?_
    refine Qax (v:=?_) rfl (by kernel_rfl) (fun w' hw=>?_) ?_
    rotate_left
    ·(obtain⟨aK,aV,aT,aJ,aN,zf⟩:=cl5 (hw rfl);go_simp<;>rfl)
    refine Qae rfl (by kernel_rfl) (fun _ _ _=>by go_simp<;>rfl) ?_
    refine Qae rfl (by kernel_rfl) (fun _ _ _=>by go_simp<;>rfl) ?_
    refine Qab rfl (fun _=>(Qa SD).b.p5.box) (fun K c=>?_)
    go_simp
    refine D.mono ?_
    clear D
    rintro I u⟨_,a6,i6,H,f6,rfl,⟨x,⟨xa,xn,xc,rfl,hX⟩,av⟩,⟨s,ap,F⟩,B,k6⟩
    have cq:=hide av
    clear av
    rw[s]at B
    clear s
    show K _ _
    refine c _ _ ?_
    clear c K
    have j:=Qa SD
    have ai:=j.b.x1
    have ah:=j.b.r1
    obtain⟨Y,Z,w8,a2,ab,G9,R9⟩:=j.b.more1 k6 B (x:=x) (cs:=[str x.name,.slice xa xn xc,.bool x.input,.bool x.output,Ji x.at_]) rfl (by simp[Value.oneCell',str]) ⟨_,_,_,rfl,hX⟩ (by have:=j.i97;have:=j.ln;simp only[lenP]at this;omega)
    obtain⟨w7,G⟩:=JE (u.alloc (.cells #[str x.name,.slice xa xn xc,.bool x.input,.bool x.output,Ji x.at_] 63))
    have A:Below u.heap.size u w7:=by rw[G];exact(Below.refl _ u).alloc (Nat.le_refl _) _
    have E:=k6.keep j.b.p5.box (by omega)
    have aq:=hide E
    have au:=hide ((A.block _ (Qaa E)).trans E)
    have ao:=hide ab
    obtain⟨aS,aH,aW,bd,b8,uf⟩:=cl5 ab
    have a0:(Builtin.append_ #[23,23] 23 #[.slice N p.decls.length R,.slice (Js u.heap.size) 1 1]).run Tryz.prog w7 = .ok (.slice (Js Y) (p.decls.length+1) Z) w8:=by rw[G];exact a2
    have ae:=hide G
    have k:StP rb g cap l w d i a y pb (w8.setCell (Ja pb 1) (.slice (Js Y) (p.decls.length+1) Z)) (.slice P p.types.length L) (.slice (Js Y) (p.decls.length+1) Z) (.slice C p.comps.length M) (.slice U p.inits.length T) (.slice S p.clauses.length Q) (.mk p.types (p.decls++[x]) p.comps p.inits p.clauses) a6 (z+1) H f6:=⟨R9,G9,by have:=j.le;omega,by have:=j.ile;omega,j.i97,fun e=>⟨(Qa ad (F e).1).1,(Qa ad (F e).1).2⟩,by have:=Qa aB;simp[lenP,Pg.types,Pg.decls,Pg.comps,Pg.inits,Pg.clauses]at this ⊢;omega⟩
    have HE:=hide (Ya k (show H=0->V<a6 from fun e=>by have:=Qa aj;have:=(F e).2;omega))
    clear hX ap F B k6 a2 G A E ab G9 R9 k j ai ah
    refine Qab rfl (fun _=>Qa aq) (fun K c=>?_)
    go_simp
    rw[<- Qa ae]
    clear ae
    refine c _ _ ?_
    clear c K
    refine Qab rfl (fun _=>Qa au) (fun K c=>Qaj rfl _ _ 23 rfl _ _ rfl rfl a0 (c _ _ ?_))
    clear c K a0
    refine Qae rfl (by kernel_rfl) (fun _ _ _=>by go_simp<;>rfl) ?_
    refine Qab rfl (fun _=>Qa ao) (fun K c=>?_)
    go_simp
    refine c _ _ ?_
    clear c K
    refine Qat (fun h=>by cases h) (ag _ _ ?_)
    clear ag PP
    go_wp2_with fail
    go_roundw
    case rel=>
     obtain⟨k,m2⟩:=Qa HE
     exact⟨(.mk p.types (p.decls++[x]) p.comps p.inits p.clauses),_,_,_,_,_,_,_,_,_,_,a6,(z+1),H,f6,hide (by simpa[Pg.types,Pg.decls,Pg.comps,Pg.inits,Pg.clauses] using k),hide (fun _ a7=>wfZ_dc (Qa ar (Qa HY) a7) (Qa cq))⟩
    obtain⟨k,m2⟩:=Qa HE
    rw[Qan (Qa HI).r l.length,Qan k.r l.length,if_pos (Qa HY)]
    have X:=(Qa HI).r.lt
    have O:=k.r.lt
    split
    ·
     rename_i e
     have:=m2 e
     omega
    ·omega
   have e5:=(a4 rfl).2
   subst e5
   have S5:=hide ((Qa S4).mayT k5 h5)
   have aj:=hide (show V<V+1 by omega)
   have ad:=hide (show y1=0->y=0/\z+1<=96 from (Qa S4).y0)
   clear a4 a3 h5 k5
   have SD:=hide ((Qa S5).call (W':=w5.drew) (Kp.of_below (Below.refl _ w5).drew) ((Qa S5).r.later (Below.refl _ w5).drew))
   have D:=Qqm (Qa SD).r (t.at_:Int)
   go_wp2_with fail
   refine Qaq (m:=8) (ml:=mLRpw0) (fun ff w'=>ff=false->w'.heap[pb]?=some (.cells #[.slice P p.types.length L,.slice N p.decls.length R,.slice C p.comps.length M,.slice U p.inits.length T,.slice S p.clauses.length Q] 28 (0,0))) mixedO (by kernel_rfl) rfl (by rfl) (by kernel_rfl) (fun PP ag=>?_)
   refine Qae rfl (by kernel_rfl) (fun _ _ _=>by go_simp<;>rfl) ?_
   refine Qax (v:=?_) rfl (by kernel_rfl) (fun w' hw=>?_) ?_
   rotate_left
   ·(obtain⟨aK,aV,aT,aJ,aN,zf⟩:=cl5 (hw rfl);go_simp<;>rfl)
   refine Qae rfl (by kernel_rfl) (fun _ _ _=>by go_simp<;>rfl) ?_
   refine Qae rfl (by kernel_rfl) (fun _ _ _=>by go_simp<;>rfl) ?_
   refine Qab rfl (fun _=>(Qa SD).b.p5.box) (fun K c=>?_)
   go_simp
   refine D.mono ?_
   clear D
   rintro I u⟨_,a6,i6,H,f6,rfl,⟨x,⟨xa,xn,xc,rfl,hX⟩,aZ⟩,⟨s,ap,F⟩,B,k6⟩
   rw[s]at B
   clear s
   have ce:=hide (show H=0->NeT l->(x.sub=[]↔x.ctors≠[]) from fun e=>aZ ((Rr.ok B).2 e))
   clear aZ
   show K _ _
   refine c _ _ ?_
   clear c K
   have j:=Qa SD
   have ai:=j.b.x1
   have ah:=j.b.r1
   obtain⟨Y,Z,w8,a2,ab,G9,R9⟩:=j.b.more0 k6 B (x:=x) (cs:=[str x.name,str x.sub,.slice xa xn xc,Ji x.at_]) rfl (by simp[Value.oneCell',str]) ⟨_,_,_,rfl,hX⟩ (by have:=j.i97;have:=j.ln;simp only[lenP]at this;omega)
   obtain⟨w7,G⟩:=JE (u.alloc (.cells #[str x.name,str x.sub,.slice xa xn xc,Ji x.at_] 54))
   have A:Below u.heap.size u w7:=by rw[G];exact(Below.refl _ u).alloc (Nat.le_refl _) _
   have E:=k6.keep j.b.p5.box (by omega)
   have aq:=hide E
   have au:=hide ((A.block _ (Qaa E)).trans E)
   have ao:=hide ab
   obtain⟨aS,aH,aW,bd,b8,uf⟩:=cl5 ab
   have a0:(Builtin.append_ #[22,22] 22 #[.slice P p.types.length L,.slice (Js u.heap.size) 1 1]).run Tryz.prog w7 = .ok (.slice (Js Y) (p.types.length+1) Z) w8:=by rw[G];exact a2
   have ae:=hide G
   have k:StP rb g cap l w d i a y pb (w8.setCell (Ja pb 0) (.slice (Js Y) (p.types.length+1) Z)) (.slice (Js Y) (p.types.length+1) Z) (.slice N p.decls.length R) (.slice C p.comps.length M) (.slice U p.inits.length T) (.slice S p.clauses.length Q) (.mk (p.types++[x]) p.decls p.comps p.inits p.clauses) a6 (z+1) H f6:=⟨R9,G9,by have:=j.le;omega,by have:=j.ile;omega,j.i97,fun e=>⟨(Qa ad (F e).1).1,(Qa ad (F e).1).2⟩,by have:=Qa aB;simp[lenP,Pg.types,Pg.decls,Pg.comps,Pg.inits,Pg.clauses]at this ⊢;omega⟩
   have HE:=hide (Ya k (show H=0->V<a6 from fun e=>by have:=Qa aj;have:=(F e).2;omega))
   clear hX ap F B k6 a2 G A E ab G9 R9 k j ai ah
   refine Qab rfl (fun _=>Qa aq) (fun K c=>?_)
   go_simp
   rw[<- Qa ae]
   clear ae
   refine c _ _ ?_
   clear c K
   refine Qab rfl (fun _=>Qa au) (fun K c=>Qaj rfl _ _ 22 rfl _ _ rfl rfl a0 (c _ _ ?_))
   clear c K a0
   refine Qae rfl (by kernel_rfl) (fun _ _ _=>by go_simp<;>rfl) ?_
   refine Qab rfl (fun _=>Qa ao) (fun K c=>?_)
   go_simp
   refine c _ _ ?_
   clear c K
   refine Qat (fun h=>by cases h) (ag _ _ ?_)
   clear ag PP
   go_wp2_with fail
   go_roundw
   case rel=>
    obtain⟨k,m2⟩:=Qa HE
    exact⟨(.mk (p.types++[x]) p.decls p.comps p.inits p.clauses),_,_,_,_,_,_,_,_,_,_,a6,(z+1),H,f6,hide (by simpa[Pg.types,Pg.decls,Pg.comps,Pg.inits,Pg.clauses] using k),hide (fun e a7=>wfZ_ty (Qa ar (Qa HY) a7) (Qa ce e a7))⟩
   obtain⟨k,m2⟩:=Qa HE
   rw[Qan (Qa HI).r l.length,Qan k.r l.length,if_pos (Qa HY)]
   have X:=(Qa HI).r.lt
   have O:=k.r.lt
   split
   ·
    rename_i e
    have:=m2 e
    omega
   ·omega
  have n:=Qa S2
  obtain⟨be,bb,bf,bk,bl,xf⟩:=cl5 n.b.p5.box
  obtain⟨aU,aQ,aP,aY,aI,yf⟩:=cl5 n.b.res
  have HF:Hid (∀q0 X O q3 q4,RA rb g cap l w d (pgV rb l w) (PgY a i y) (.returned (.agg #[.slice P p.types.length L,.slice N p.decls.length R,.slice C p.comps.length M,.slice U p.inits.length T,.slice S p.clauses.length Q])) (((((w2.setCell (Ja w.heap.size 0) q0).setCell (Ja w.heap.size 1) X).setCell (Ja w.heap.size 2) O).setCell (Ja w.heap.size 3) q3).setCell (Ja w.heap.size 4) q4)):=fun q0 X O q3 q4=>by
   obtain⟨K9,P9⟩:=n.b.fin (W':=(((((w2.setCell (Ja w.heap.size 0) q0).setCell (Ja w.heap.size 1) X).setCell (Ja w.heap.size 2) O).setCell (Ja w.heap.size 3) q3).setCell (Ja w.heap.size 4) q4)) (by simp[World.setCell]) ⟨rfl,rfl,rfl⟩ (fun q o=>by rw[hpS o,hpS o,hpS o,hpS o,hpS o])
   have ah:=n.b.r1
   have bg:=n.b.g1
   have hb:∀q,q≠w.heap.size->(((((w2.setCell (Ja w.heap.size 0) q0).setCell (Ja w.heap.size 1) X).setCell (Ja w.heap.size 2) O).setCell (Ja w.heap.size 3) q3).setCell (Ja w.heap.size 4) q4).heap[q]?=w2.heap[q]?:=fun q o=>by rw[hpS o,hpS o,hpS o,hpS o,hpS o]
   exact⟨_,_,_,_,_,rfl,⟨p,_,_,_,_,_,_,_,_,_,_,_,_,_,_,_,rfl,P9,by have h1:=n.ln;have h2:=n.i97;simp only[lenP]at h1;unfold Few;omega,fun ho a7=>Qa ar ((Qtb ((hb rb (by omega)).trans n.r.box)).1 ho) a7⟩,⟨n.le,n.ile,n.i97,n.y0⟩,n.r.move (by simp[World.setCell]) (hb rb (by omega)) (hb g (by omega)),K9⟩
  all_goals
   clear n
   go_wp2_with fail
   refine bodyPost_ret (v:=.agg #[.slice P p.types.length L,.slice N p.decls.length R,.slice C p.comps.length M,.slice U p.inits.length T,.slice S p.clauses.length Q]) (by simp[results,Tryz.results21,go_sem,aU,aQ,aP,aY,aI]) rfl ?_
   exact Qa HF _ _ _ _ _
 rw[decide_eq_false hy]at aF
 clear hy
 go_wp2_with fail
 refine aF.mono ?_
 clear aF
 rintro I wq⟨rfl,rfl⟩
 have n:=Qa HI
 obtain⟨be,bb,bf,bk,bl,xf⟩:=cl5 n.b.p5.box
 obtain⟨aU,aQ,aP,aY,aI,yf⟩:=cl5 n.b.res
 have HF:Hid (∀q0 X O q3 q4,RA rb g cap l w d (pgV rb l w) (PgY a i y) (.returned (.agg #[.slice P p.types.length L,.slice N p.decls.length R,.slice C p.comps.length M,.slice U p.inits.length T,.slice S p.clauses.length Q])) (((((wq.setCell (Ja w.heap.size 0) q0).setCell (Ja w.heap.size 1) X).setCell (Ja w.heap.size 2) O).setCell (Ja w.heap.size 3) q3).setCell (Ja w.heap.size 4) q4)):=fun q0 X O q3 q4=>by
  obtain⟨K9,P9⟩:=n.b.fin (W':=(((((wq.setCell (Ja w.heap.size 0) q0).setCell (Ja w.heap.size 1) X).setCell (Ja w.heap.size 2) O).setCell (Ja w.heap.size 3) q3).setCell (Ja w.heap.size 4) q4)) (by simp[World.setCell]) ⟨rfl,rfl,rfl⟩ (fun q o=>by rw[hpS o,hpS o,hpS o,hpS o,hpS o])
  have ah:=n.b.r1
  have bg:=n.b.g1
  have hb:∀q,q≠w.heap.size->(((((wq.setCell (Ja w.heap.size 0) q0).setCell (Ja w.heap.size 1) X).setCell (Ja w.heap.size 2) O).setCell (Ja w.heap.size 3) q3).setCell (Ja w.heap.size 4) q4).heap[q]?=wq.heap[q]?:=fun q o=>by rw[hpS o,hpS o,hpS o,hpS o,hpS o]
  exact⟨_,_,_,_,_,rfl,⟨p,_,_,_,_,_,_,_,_,_,_,_,_,_,_,_,rfl,P9,by have h1:=n.ln;have h2:=n.i97;simp only[lenP]at h1;unfold Few;omega,fun ho a7=>Qa ar ((Qtb ((hb rb (by omega)).trans n.r.box)).1 ho) a7⟩,⟨n.le,n.ile,n.i97,n.y0⟩,n.r.move (by simp[World.setCell]) (hb rb (by omega)) (hb g (by omega)),K9⟩
 clear n
 go_wp2_with fail
 refine bodyPost_ret (v:=.agg #[.slice P p.types.length L,.slice N p.decls.length R,.slice C p.comps.length M,.slice U p.inits.length T,.slice S p.clauses.length Q]) (by simp[results,Tryz.results21,go_sem,aU,aQ,aP,aY,aI]) rfl ?_
 exact Qa HF _ _ _ _ _
theorem Qju{rb g cap:Nat}{l:List Tok}:∀(n d:Nat),d+n=33->PgC rb g cap l d
 | 0,d,e=>Qmk (fun h=>by omega)
 |n+1,d,e=>Qmk (fun _=>Qju n (d+1) (by omega))
end
end Go.Proofs.YtmfpbepifnedjaaGreat
