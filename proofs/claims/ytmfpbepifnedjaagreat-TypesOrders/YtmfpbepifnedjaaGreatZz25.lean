/- The document's reader. -/
import Derived.Test.YtmfpbepifnedjaaGreatZz01
import Derived.Test.YtmfpbepifnedjaaGreatZz16
import Derived.Test.YtmfpbepifnedjaaGreatZz15
import Derived.Test.YtmfpbepifnedjaaGreatZz04
import Derived.Deep.Cut
import Derived.Deep.CutRange
import Derived.Test.YtmfpbepifnedjaaGreatZz18
set_option maxRecDepth 100000
set_option maxHeartbeats 32000000
namespace Go.Proofs.YtmfpbepifnedjaaGreat
section
open Go.RowKit Go.Maps
def clV(rb a:Nat)(w:World)(w':World)(v:Value):Prop:=∃x:Cls,VCl (fun b=>w.heap.size<=b) w' v x/\szQ rb a (ltQs x.body) w'/\x.head.rel.length<=65536
def clE(w:World)(xb:Nat)(v:Value)(xs:List Ex)(W:World):Prop:=LsAt PE 5 (fun b=>w.heap.size<b/\b<xb) W v xs
theorem Qea(w:World)(xb:Nat)(v:Value)(xs:List Ex):EK w xb (clE w xb v xs):=fun _ _ e d h=>LsAt.same Qaf h e (fun b a c=>d b a.1 a.2 c)
theorem Qgg{rb g cap a d i:Nat}{l:List Tok}{w:World}{y f:Int}(h:Rr rb g cap l w a d i y f)(hd:d<=63):
  Calls Tryz.prog 66 #[.pointer (Js rb)] w fun en w'=>RA rb g cap l w d (clV rb a w) (CoY a i y) en w':=by
 have b0:Below w.heap.size w (w.alloc (.cells #[Je,Jn,Ji 0,Jn,Ji 0] 45)):=(Below.refl _ w).alloc (Nat.le_refl _) _
 have n0:(w.alloc (.cells #[Je,Jn,Ji 0,Jn,Ji 0] 45)).heap[w.heap.size]?=some (.cells #[Je,Jn,Ji 0,Jn,Ji 0] 45 (0,0)):=heap_alloc_new w _
 have s0:(w.alloc (.cells #[Je,Jn,Ji 0,Jn,Ji 0] 45)).heap.size=w.heap.size+1:=by simp
 obtain⟨t,ht⟩:=h.tok
 have aG:Hid (∀w',Below w.heap.size w w'->Calls Tryz.prog 22 #[.pointer (Js rb)] w' fun en L=>en = .returned (.agg #[Ji t.kind,str t.text,Ji t.num,Ji (t.at_:Int)])/\Below w'.heap.size w' L):=fun w' bb=>Qao (h.later bb) ht
 have HH:=hide h
 have HD:=hide hd
 have H0:=hide (Ya b0 (Ya n0 s0))
 clear h hd ht b0 n0 s0
 go_enter Tryz.func66,Tryz.ntmps66
 go_wp2_with fail
 refine(Qa aG _ (Qa H0).1).mono ?_
 rintro en w1⟨rfl,b1⟩
 obtain⟨b0,n0,s0⟩:=Qa H0
 have E:=b0.trans (b1.mono (by omega))
 have n1:=(b1.block _ (by omega)).trans n0
 have aI:=Qgf ((Qa HH).later E) (Qa HD)
 have bc:=Qaa (Qa HH).box
 have b9:=(Qa HH).row.lt
 have aZ:=b1.size
 have K1:=hide (Ya (Kp.of_below (rb:=rb) E) (Ya n1 (show rb<w.heap.size/\g<w.heap.size/\w.heap.size<w1.heap.size by omega)))
 clear b1 b0 n0 s0 E n1 bc b9 aZ aG H0
 go_wp2_with fail
 rename_i A
 refine A _ _ ?_
 clear A
 go_wp2_with fail
 refine aI.mono ?_
 clear aI
 rintro en L⟨_,a2,i2,y2,f2,rfl,⟨j,⟨n,p,o,rfl,aM⟩,-,hnl⟩,⟨u,ha2,hy2⟩,h2,k2⟩
 have ao:=hide hnl
 clear hnl
 rw[u]at h2
 clear u
 obtain⟨k1,n1,g1,g2,g3⟩:=Qa K1
 have b4:=k2.size
 have n2:=k2.keep n1 (by omega)
 obtain⟨z,aw⟩:=JF L.heap.size
 obtain⟨w3,ae⟩:=JE (L.alloc (.cells #[str j.rel,.slice n p o,Ji j.at_,Jn,Ji (t.at_:Int)] 45))
 have X:Below L.heap.size L w3:=by rw[ae];exact(Below.refl _ L).alloc (Nat.le_refl _) _
 have n3:w3.heap[z]?=some (.cells #[str j.rel,.slice n p o,Ji j.at_,Jn,Ji (t.at_:Int)] 45 (0,0)):=by rw[ae,<- aw];exact heap_alloc_new L _
 have D:=(X.block _ (by omega)).trans n2
 have aV:clE w z (.slice n p o) j.args w3:=LsAt.same Qaf (aM.mono Qaf (fun b hl S=>(⟨by have aL:w1.heap.size<=b:=S;omega,by omega⟩:w.heap.size<b/\b<z))) X.size (fun q _ hl=>X.block q hl)
 have G3:Hid (Gx PLt 16 61 rb g cap l w d i a y z 45 #[Je,Jn,Ji 0,Jn,Ji 0] (clE w z (.slice n p o) j.args) w3 #[str j.rel,.slice n p o,Ji j.at_,Jn,Ji (t.at_:Int)] a2 y2 f2 (Jn) []):=⟨h2.later X,⟨(k1.trans k2).trans (Kp.of_below X),n3,D,g1,g2,by omega⟩,aV,Qo.nil _,ha2,hy2,Nat.zero_le _,fun _=>Nat.zero_le _⟩
 have ab:=Qbf (Qa G3).r ⟨#[58,45]⟩
 have ax:=hide (Ya ae aw)
 clear k1 n1 g1 g2 g3 b4 n2 aw ae X n3 D aV aM ha2 hy2 h2 k2 K1
 go_wp2_with fail
 rw[<- (Qa ax).1,(Qa ax).2]
 clear ax
 refine ab.mono ?_
 clear ab
 rintro en w4⟨b,a4,f4,rfl,E,Z,h4,k4⟩
 have G4:=hide ((Qa G3).call Qba (Qea _ _ _ _) k4 h4 (by
  cases b with
  |true=>have:=(E rfl).2;omega
  |false=>have:=Z rfl;omega) (fun e=>e))
 clear E Z h4 k4 G3
 cases b
 ·
  have a8:=Qbl (Qa G4).r ⟨#[46]⟩
  go_wp2_with fail
  refine a8.mono ?_
  clear a8
  rintro en w9⟨_,a9,i9,y9,f9,rfl,rfl,⟨u,a0,M⟩,P,k9⟩
  rw[u]at P
  clear u
  have s:=(Qa G4).call Qba (Qea _ _ _ _) k9 P a0 (fun e=>(M e).1)
  obtain⟨ak,af,al,aj,aq,xf⟩:=cl5 s.b.box
  obtain⟨au,aC,aB,aA,av,yf⟩:=cl5 s.b.res
  have HF:Hid (∀R G J D O,RA rb g cap l w d (clV rb a w) (CoY a i y) (.returned (.agg #[str j.rel,.slice n p o,Ji j.at_,Jn,Ji (t.at_:Int)])) (((((w9.setCell (Ja w.heap.size 0) R).setCell (Ja w.heap.size 1) G).setCell (Ja w.heap.size 2) J).setCell (Ja w.heap.size 3) D).setCell (Ja w.heap.size 4) O)):=fun R G J D O=>by
   obtain⟨R9,K9,E9,Q9⟩:=s.fin Qba (Qea _ _ _ _) (W':=(((((w9.setCell (Ja w.heap.size 0) R).setCell (Ja w.heap.size 1) G).setCell (Ja w.heap.size 2) J).setCell (Ja w.heap.size 3) D).setCell (Ja w.heap.size 4) O)) (by simp[World.setCell]) ⟨rfl,rfl,rfl⟩ (fun q C=>by rw[hpS C,hpS C,hpS C,hpS C,hpS C])
   have bf:=s.b.x1
   exact⟨_,_,_,_,_,rfl,⟨⟨j,[],t.at_⟩,⟨n,p,o,_,_,_,rfl,E9.mono Qaf (fun b _ S=>by omega),(Q9.ls Qba).mono Qba (fun b _ S=>by have aL:z+1<=b:=S;omega)⟩,szQ.of R9 (fun e=>by have:=s.le;show ltQs []+2*a<=2*a9;rw[ltQs];omega),Qa ao⟩,⟨rfl,s.le,s.y0⟩,R9,K9⟩
  clear a0 M P k9 s
  go_wp2_with fail
  refine bodyPost_ret (v:=.agg #[str j.rel,.slice n p o,Ji j.at_,Jn,Ji (t.at_:Int)]) (by simp[results,Tryz.results66,go_sem,au,aC,aB,aA,av]) rfl ?_
  exact Qa HF _ _ _ _ _
 go_wp2_with fail
 go_loopw [4] (fun fb wr=>∃(aE:Bool) (k:List Lt) (T:Nat) (Q f1:Int) (B:Option Addr) (sc:Nat),fb = .bool aE/\k.length<=sc/\sc<=maxLen/\Hid (Gx PLt 16 61 rb g cap l w d i a y z 45 #[Je,Jn,Ji 0,Jn,Ji 0] (clE w z (.slice n p o) j.args) wr #[str j.rel,.slice n p o,Ji j.at_,.slice B k.length sc,Ji (t.at_:Int)] T Q f1 (.slice B k.length sc) k)/\Hid (Q=0->ltQs k+2*a<=2*T)) (fun _ wr=>leftR rb l.length wr)
 case atStart=>exact⟨true,[],a4,y2,f4,none,0,rfl,Nat.le_refl _,by unfold maxLen;omega,G4,hide (fun _=>by have:=(Qa G4).le;rw[ltQs];omega)⟩
 obtain⟨aE,k,T,Q,f1,B,sc,rfl,bq,bi,F,SZ⟩:=hrel
 unfold maxLen at bi
 clear G4
 go_upto_region 4 with fail
 go_cut [21] from 13 to 34 (fun c wc=>∃(b:Bool) (Y:Nat) (fX:Int),c = .bool b/\Hid (Gx PLt 16 61 rb g cap l w d i a y z 45 #[Je,Jn,Ji 0,Jn,Ji 0] (clE w z (.slice n p o) j.args) wc #[str j.rel,.slice n p o,Ji j.at_,.slice B k.length sc,Ji (t.at_:Int)] Y Q fX (.slice B k.length sc) k)/\Hid (T<=Y/\(b=true->Q=0/\k.length<=Y)))
 case first=>
  have I:=Qaw (Qa F).r
  by_cases hy:Q=0
  ·
   rw[decide_eq_true hy]at I
   have W:=hide hy
   clear hy
   cases aE
   ·
    have ab:=Qbf (Qa F).r ⟨#[44]⟩
    go_wp2_with fail
    refine I.mono ?_
    clear I
    rintro en wq⟨rfl,rfl⟩
    go_wp2_with fail
    refine ab.mono ?_
    clear ab
    rintro en WX⟨b,a7,f7,rfl,E,Z,h7,k7⟩
    have e7:T<=a7:=by
     cases b with
     |true=>have:=(E rfl).2;omega
     |false=>have:=Z rfl;omega
    have G7:=hide ((Qa F).call Qba (Qea _ _ _ _) k7 h7 e7 (fun e=>e))
    have U:=hide e7
    clear E Z h7 k7 e7
    cases b
    ·
     go_wp2_with fail
     go_meet
     exact⟨false,a7,f7,rfl,G7,hide ⟨Qa U,fun e=>by cases e⟩⟩
    go_wp2_with fail
    go_meet
    exact⟨true,a7,f7,rfl,G7,hide ⟨Qa U,fun _=>⟨Qa W,by have:=(Qa F).n0 (Qa W);have:=Qa U;omega⟩⟩⟩
   go_wp2_with fail
   refine I.mono ?_
   clear I
   rintro en wq⟨rfl,rfl⟩
   go_wp2_with fail
   go_meet
   exact⟨true,T,f1,rfl,F,hide ⟨Nat.le_refl _,fun _=>⟨Qa W,(Qa F).n0 (Qa W)⟩⟩⟩
  rw[decide_eq_false hy]at I
  clear hy
  go_wp2_with fail
  refine I.mono ?_
  clear I
  rintro en wq⟨rfl,rfl⟩
  go_wp2_with fail
  go_meet
  exact⟨false,T,f1,rfl,F,hide ⟨Nat.le_refl _,fun e=>by cases e⟩⟩
 obtain⟨b,Y,fX,rfl,N,H5⟩:=hcut
 obtain⟨wX,bk⟩:=JE wc
 subst bk
 cases b
 ·
  have a8:=Qbl (Qa N).r ⟨#[46]⟩
  go_wp2_with fail
  refine a8.mono ?_
  clear a8
  rintro en w9⟨_,a9,i9,y9,f9,rfl,rfl,⟨u,a0,M⟩,P,k9⟩
  rw[u]at P
  clear u
  have s:=(Qa N).call Qba (Qea _ _ _ _) k9 P a0 (fun e=>(M e).1)
  obtain⟨ak,af,al,aj,aq,xf⟩:=cl5 s.b.box
  obtain⟨au,aC,aB,aA,av,yf⟩:=cl5 s.b.res
  have HF:Hid (∀R G J D O,RA rb g cap l w d (clV rb a w) (CoY a i y) (.returned (.agg #[str j.rel,.slice n p o,Ji j.at_,.slice B k.length sc,Ji (t.at_:Int)])) (((((w9.setCell (Ja w.heap.size 0) R).setCell (Ja w.heap.size 1) G).setCell (Ja w.heap.size 2) J).setCell (Ja w.heap.size 3) D).setCell (Ja w.heap.size 4) O)):=fun R G J D O=>by
   obtain⟨R9,K9,E9,Q9⟩:=s.fin Qba (Qea _ _ _ _) (W':=(((((w9.setCell (Ja w.heap.size 0) R).setCell (Ja w.heap.size 1) G).setCell (Ja w.heap.size 2) J).setCell (Ja w.heap.size 3) D).setCell (Ja w.heap.size 4) O)) (by simp[World.setCell]) ⟨rfl,rfl,rfl⟩ (fun q C=>by rw[hpS C,hpS C,hpS C,hpS C,hpS C])
   have bf:=s.b.x1
   exact⟨_,_,_,_,_,rfl,⟨⟨j,k,t.at_⟩,⟨n,p,o,_,_,_,rfl,E9.mono Qaf (fun b _ S=>by omega),(Q9.ls Qba).mono Qba (fun b _ S=>by have aL:z+1<=b:=S;omega)⟩,szQ.of R9 (fun e=>by have G:=Qa SZ (M e).1;have:=(Qa H5).1;have:=(M e).2;show ltQs k+2*a<=2*a9;omega),Qa ao⟩,⟨rfl,s.le,s.y0⟩,R9,K9⟩
  clear a0 M P k9 s
  go_wp2_with fail
  refine bodyPost_ret (v:=.agg #[str j.rel,.slice n p o,Ji j.at_,.slice B k.length sc,Ji (t.at_:Int)]) (by simp[results,Tryz.results66,go_sem,au,aC,aB,aA,av]) rfl ?_
  exact Qa HF _ _ _ _ _
 have W:=hide ((Qa H5).2 rfl).1
 have ao:=hide ((Qa H5).2 rfl).2
 have U:=hide (Qa H5).1
 clear H5
 obtain⟨ak,af,al,aj,aq,xf⟩:=cl5 (Qa N).b.box
 go_upto_if 25 with fail
 go_cut [] from 13 to 34 (fun wc=>∃(yF fF:Int),Hid (Gx PLt 16 61 rb g cap l w d i a y z 45 #[Je,Jn,Ji 0,Jn,Ji 0] (clE w z (.slice n p o) j.args) wc #[str j.rel,.slice n p o,Ji j.at_,.slice B k.length sc,Ji (t.at_:Int)] Y yF fF (.slice B k.length sc) k)/\Hid (yF=0->Q=0))
 case first=>
  by_cases aT:16<=k.length
  ·
   have b2:(16:Int)<=(k.length:Int):=by omega
   have aW:=Qbe (Qa N).r (why:=3) (by decide)
   clear aT
   go_wp2_with fail
   refine aW.mono ?_
   clear aW
   rintro en wf⟨_,a3,i3,y3,f3,rfl,rfl,⟨ea,u,az⟩,h3,k3⟩
   rw[ea,u]at h3
   clear ea u
   have GF:=hide ((Qa N).call Qba (Qea _ _ _ _) k3 h3 (Nat.le_refl _) (fun e=>absurd e az))
   have b6:=hide az
   clear h3 k3 az
   go_wp2_with fail
   go_meet
   exact⟨_,_,GF,hide (fun e=>absurd e (Qa b6))⟩
  have b2:¬((16:Int)<=(k.length:Int)):=by omega
  clear aT
  go_wp2_with fail
  go_meet
  exact⟨_,_,N,hide (fun e=>e)⟩
 obtain⟨yF,fF,GF,bg⟩:=hcut
 obtain⟨wf,be⟩:=JE wc
 subst be
 clear ak af al aj aq xf N
 have V:=hide ((Qa GF).call Qba (Qea _ _ _ _) (W':=wf.drew) (Kp.of_below (Below.refl _ wf).drew) ((Qa GF).r.later (Below.refl _ wf).drew) (Nat.le_refl _) (fun e=>e))
 have aS:=Qsw (Qa V).r (Qa HD)
 go_wp2_with fail
 refine Qaq (m:=7) (ml:=[(0,1),(1,2),(2,1),(3,0),(4,0),(5,0),(6,1),(7,0)]) (fun ff w'=>ff=false->w'.heap[z]?=some (.cells #[str j.rel,.slice n p o,Ji j.at_,.slice B k.length sc,Ji (t.at_:Int)] 45 (0,0))) mixedO (by kernel_rfl) rfl (by rfl) (by kernel_rfl) (fun PP aU=>?_)
 refine Qae rfl (by kernel_rfl) (fun _ _ _=>by go_simp<;>rfl) ?_
 refine Qax (v:=?_) rfl (by kernel_rfl) (fun w' hw=>?_) ?_
 rotate_left
 ·(obtain⟨ak,af,al,aj,aq,xf⟩:=cl5 (hw rfl);go_simp<;>rfl)
 refine Qae rfl (by kernel_rfl) (fun _ _ _=>by go_simp<;>rfl) ?_
 refine Qab rfl (fun _=>(Qa V).b.box) (fun K A=>?_)
 go_simp
 refine aS.mono ?_
 clear aS
 rintro en w6⟨_,a6,i6,y6,f6,rfl,⟨x,c0,c1,c2,c3,c4,c5,c6,c7,c8,c9,aK,aP,aY,aJ,aN,aH,rfl,aD,aR⟩,⟨u,ah,H⟩,h6,k6⟩
 rw[u]at h6
 clear u
 have S6:=hide (show y6=0->ltQ x+2*Y<=2*a6 from fun e=>aR.at h6 e)
 clear aR
 show K _ _
 refine A _ _ ?_
 clear A K
 obtain⟨i0,hi,hz,aQ,aF⟩:=infoL
 obtain⟨ra,rc,w8,ar,b8,bj,ay,g8⟩:=(Qa V).more Qba (Qea _ _ _ _) (by kernel_rfl:Tryz.prog.underlying 43=some (.slice 61)) hi hz aQ aF rfl (by decide) (by decide) (cx:=[c0,c1,c2,c3,c4,c5,c6,c7,c8,c9,aK,aP,aY,aJ,aN,aH]) rfl (Qge aD) aD h6 k6 ah (fun e=>⟨(H e).1,(H e).2⟩) (by have:=Qa ao;omega) 3
 obtain⟨w7,ai⟩:=JE (w6.alloc (.cells #[c0,c1,c2,c3,c4,c5,c6,c7,c8,c9,aK,aP,aY,aJ,aN,aH] 61))
 have b7:Below w6.heap.size w6 w7:=by rw[ai];exact(Below.refl _ w6).alloc (Nat.le_refl _) _
 have ag:=k6.keep (Qa V).b.box (by have:=(Qa V).b.r1;have:=(Qa V).b.x1;omega)
 have bd:=hide ag
 have b5:=hide ((b7.block _ (Qaa ag)).trans ag)
 have ba:=hide ay
 obtain⟨bo,bm,bl,bn,bp,zf⟩:=cl5 ay
 have a5:(Builtin.append_ #[43,43] 43 #[.slice B k.length sc,.slice (Js w6.heap.size) 1 1]).run Tryz.prog w7 = .ok (.slice ra (k.length+1) rc) w8:=by rw[ai];exact ar
 have aO:=hide ai
 have ap:=Qan (Qa F).r l.length
 have ad:=Qan g8.r l.length
 have HM:=hide (Ya ap (Ya ad (Ya (Qa F).r.lt (Ya g8.r.lt (Ya ah H)))))
 have bh:=hide g8
 clear aD ah H h6 k6 hi hz aQ aF ar ai b7 ag ay g8 ap ad
 refine Qab rfl (fun _=>Qa bd) (fun K A=>?_)
 go_simp
 rw[<- Qa aO]
 clear aO
 refine A _ _ ?_
 clear A K
 refine Qab rfl (fun _=>Qa b5) (fun K A=>Qaj rfl _ _ 43 rfl _ _ rfl rfl a5 (A _ _ ?_))
 clear A K a5
 refine Qae rfl (by kernel_rfl) (fun _ _ _=>by go_simp<;>rfl) ?_
 refine Qab rfl (fun _=>Qa ba) (fun K A=>?_)
 go_simp
 refine A _ _ ?_
 clear A K
 refine Qat (fun h=>by cases h) (aU _ _ ?_)
 clear aU PP
 go_wp2_with fail
 go_roundw
 case rel=>exact⟨false,k++[x],a6,y6,f6,ra,rc,rfl,by simpa using b8,bj,hide (by simpa using Qa bh),hide (fun e=>by
   obtain⟨_,_,_,_,_,H⟩:=Qa HM
   have G:=Qa SZ (Qa bg (H e).1)
   have J:=Qa S6 e
   have D:=Qa U
   rw[Qga,Qsl]
   omega)⟩
 obtain⟨ap,ad,m1,m2,ah,H⟩:=Qa HM
 rw[ap,ad,if_pos (Qa W)]
 split
 ·
  rename_i e
  have:=H e
  have:=Qa U
  omega
 ·omega
def nmV(rb:Nat)(l:List Tok)(w':World)(v:Value):Prop:=∃x:Txt,v=str x/\(rdOk rb w'->NeT l->x≠[])
def tyV(rb:Nat)(l:List Tok)(w:World)(w':World)(v:Value):Prop:=∃x:Typ,VTy (fun b=>w.heap.size<=b) w' v x/\(rdOk rb w'->NeT l->(x.sub=[]↔x.ctors≠[]))
theorem Qsx{rb g cap a d i:Nat}{l:List Tok}{w:World}{y f:Int}(h:Rr rb g cap l w a d i y f):
  Calls Tryz.prog 65 #[.pointer (Js rb)] w fun en w'=>RA rb g cap l w d (nmV rb l) (CoY a i y) en w':=by
 obtain⟨t,v⟩:=h.tok
 have s:=Qao h v
 unfold tkA at s
 have H:=hide (Ya h v)
 clear h v
 go_enter Tryz.func65,Tryz.ntmps65
 go_wp2_with fail
 refine s.mono ?_
 clear s
 rintro en R⟨rfl,x⟩
 have r:=(Qa H).1.later x
 have u:=Qbe r (why:=10) (by decide)
 have c:=Qb r (Qa H).2
 unfold tkA at c
 have z:=hide (Ya r x)
 clear r x
 go_wp2_with fail
 rename_i j
 refine j _ _ ?_
 clear j
 by_cases n:t.kind=1
 ·
  have M:(t.kind != 1)=false:=by simpa using n
  have D:=hide ((Qa H).1.more (Qa H).2 (by omega))
  have K:=hide n
  clear n u
  go_wp2_with fail
  refine c.mono ?_
  clear c
  rintro en B⟨_,I,F,C,G,rfl,rfl,b,k,m⟩
  have p:=hide (Ya b (Ya k m))
  clear b k m
  go_wp2_with fail
  rename_i j
  refine j _ _ ?_
  clear j
  go_wp2_with fail
  go_ret
  obtain⟨⟨rfl,rfl,b⟩,k,m⟩:=Qa p
  refine⟨_,_,_,_,_,rfl,⟨_,rfl,fun _ A=>A t (List.mem_of_getElem? (Qa H).2) (Qa K)⟩,⟨rfl,?_,?_⟩,k,(Kp.of_below (Qa z).2).trans m⟩
  ·rcases b with ⟨_,_,rfl⟩|⟨rfl,_⟩<;>omega
  intro e
  rcases b with ⟨_,_,rfl⟩|⟨_,J⟩
  ·exact⟨e,by omega⟩
  ·exact absurd (Qa D) (J e)
 have M:(t.kind != 1)=true:=by simpa using n
 clear n c
 go_wp2_with fail
 refine u.mono ?_
 clear u
 rintro en B⟨_,P,Q,S,O,rfl,rfl,⟨rfl,rfl,b⟩,k,m⟩
 have c:=Qb k (Qa H).2
 unfold tkA at c
 have p:=hide (Ya b m)
 clear b k m
 go_wp2_with fail
 refine c.mono ?_
 clear c
 rintro en N⟨_,I,F,C,G,rfl,rfl,b,o,q⟩
 have L:=hide (Ya b (Ya o q))
 clear b o q
 go_wp2_with fail
 rename_i j
 refine j _ _ ?_
 clear j
 go_wp2_with fail
 go_ret
 obtain⟨⟨rfl,rfl,b⟩,o,q⟩:=Qa L
 refine⟨_,_,_,_,_,rfl,⟨_,rfl,fun E _=>absurd ((Rr.ok o).1 E) (Qa p).1⟩,⟨rfl,?_,fun e=>absurd e (Qa p).1⟩,o,((Kp.of_below (Qa z).2).trans (Qa p).2).trans q⟩
 rcases b with ⟨_,_,rfl⟩|⟨rfl,_⟩<;>omega
theorem Qqm{rb g cap a d i:Nat}{l:List Tok}{w:World}{y f:Int}(h:Rr rb g cap l w a d i y f)(at0:Int):
  Calls Tryz.prog 58 #[.pointer (Js rb),Ji at0] w fun en w'=>RA rb g cap l w d (tyV rb l w) (CoY a i y) en w':=by
 have b0:Below w.heap.size w (w.alloc (.cells #[Je,Je,Jn,Ji 0] 54)):=(Below.refl _ w).alloc (Nat.le_refl _) _
 have n0:(w.alloc (.cells #[Je,Je,Jn,Ji 0] 54)).heap[w.heap.size]?=some (.cells #[Je,Je,Jn,Ji 0] 54 (0,0)):=heap_alloc_new w _
 have s0:(w.alloc (.cells #[Je,Je,Jn,Ji 0] 54)).heap.size=w.heap.size+1:=by simp
 have a3:=Qcb (h.later b0)
 have HH:=hide (Ya (Qaa h.box) h.row.lt)
 have H0:=hide (Ya b0 (Ya n0 s0))
 clear h b0 n0 s0
 go_enter Tryz.func58,Tryz.ntmps58
 go_wp2_with fail
 refine a3.mono ?_
 clear a3
 rintro en w2⟨_,a2,i2,y2,f2,rfl,⟨D,rfl,-⟩,⟨m,ha2,hy2⟩,h2,k2⟩
 rw[m]at h2
 clear m
 obtain⟨b0,n0,s0⟩:=Qa H0
 obtain⟨g1,g2⟩:=Qa HH
 have aZ:=k2.size
 have n2:=k2.keep n0 (by omega)
 obtain⟨xb,ay⟩:=JF w2.heap.size
 obtain⟨w3,au⟩:=JE (w2.alloc (.cells #[str D,Je,Jn,Ji at0] 54))
 have b3:Below w2.heap.size w2 w3:=by rw[au];exact(Below.refl _ w2).alloc (Nat.le_refl _) _
 have n3:w3.heap[xb]?=some (.cells #[str D,Je,Jn,Ji at0] 54 (0,0)):=by rw[au,<- ay];exact heap_alloc_new w2 _
 have E:=(b3.block _ (by omega)).trans n2
 have G3:Hid (Gx PC 2 97 rb g cap l w d i a y xb 54 #[Je,Je,Jn,Ji 0] (fun _=>True) w3 #[str D,Je,Jn,Ji at0] a2 y2 f2 (Jn) []):=⟨h2.later b3,⟨((Kp.of_below b0).trans k2).trans (Kp.of_below b3),n3,E,g1,g2,by omega⟩,trivial,Qo.nil _,ha2,hy2,Nat.zero_le _,fun _=>Nat.zero_le _⟩
 have am:=Qbf (Qa G3).r ⟨#[60,58]⟩
 have aG:=hide (Ya au ay)
 clear b0 n0 s0 g1 g2 aZ n2 ay au b3 n3 E ha2 hy2 h2 k2 H0
 go_wp2_with fail
 rw[<- (Qa aG).1,(Qa aG).2]
 clear aG
 refine am.mono ?_
 clear am
 rintro en w4⟨b,a4,f4,rfl,S,ai,h4,k4⟩
 have G4:=hide ((Qa G3).call Qci (EK.none _ _) k4 h4 (by
  cases b with
  |true=>have:=(S rfl).2;omega
  |false=>have:=ai rfl;omega) (fun e=>e))
 clear S ai h4 k4 G3
 cases b
 ·
  have aN:=Qbl (Qa G4).r ⟨#[61]⟩
  go_wp2_with fail
  refine aN.mono ?_
  clear aN
  rintro en t⟨_,a5,i5,y5,f5,rfl,rfl,⟨m,o,c⟩,u,J⟩
  rw[m]at u
  clear m
  have G5:=hide ((Qa G4).call Qci (EK.none _ _) J u o (fun e=>(c e).1))
  clear o c u J G4
  go_wp2_with fail
  go_loopw [6] (fun fb wr=>∃(av:Bool) (x:List Ctr) (a1:Nat) (y1 f1:Int) (sa:Option Addr) (sc:Nat),fb = .bool av/\x.length<=sc/\sc<=maxLen/\Hid (Gx PC 2 97 rb g cap l w d i a y xb 54 #[Je,Je,Jn,Ji 0] (fun _=>True) wr #[str D,Je,.slice sa x.length sc,Ji at0] a1 y1 f1 (.slice sa x.length sc) x)/\Hid (av=false->x≠[])) (fun _ wr=>leftR rb l.length wr)
  case atStart=>exact⟨true,[],a5,y5,f5,none,0,rfl,Nat.le_refl _,by unfold maxLen;omega,G5,hide (fun e=>by cases e)⟩
  obtain⟨av,x,a1,y1,f1,sa,sc,rfl,b7,aT,s,b1⟩:=hrel
  unfold maxLen at aT
  clear G5
  have a6:=Qaw (Qa s).r
  by_cases hy:y1=0
  ·
   rw[decide_eq_true hy]at a6
   have HY:=hide hy
   clear hy
   cases av
   ·
    have am:=Qbf (Qa s).r ⟨#[124]⟩
    go_wp2_with fail
    refine a6.mono ?_
    clear a6
    rintro en wq⟨rfl,rfl⟩
    go_wp2_with fail
    refine am.mono ?_
    clear am
    rintro en WX⟨b,aM,fM,rfl,S,ai,hM,kM⟩
    have eM:a1<=aM:=by
     cases b with
     |true=>have:=(S rfl).2;omega
     |false=>have:=ai rfl;omega
    have GM:=hide ((Qa s).call Qci (EK.none _ _) kM hM eM (fun e=>e))
    have aJ:=hide (show x.length<=aM by have:=(Qa s).n0 (Qa HY);omega)
    have aA:=hide eM
    clear S ai hM kM eM
    cases b
    ·
     have j:=Qa GM
     obtain⟨ac,ab,ad,af,xf⟩:=cl4 j.b.box
     obtain⟨an,ak,aj,aq,yf⟩:=cl4 j.b.res
     have HF:Hid (∀M P O E,RA rb g cap l w d (tyV rb l w) (CoY a i y) (.returned (.agg #[str D,Je,.slice sa x.length sc,Ji at0])) ((((WX.setCell (Ja w.heap.size 0) M).setCell (Ja w.heap.size 1) P).setCell (Ja w.heap.size 2) O).setCell (Ja w.heap.size 3) E)):=fun M P O E=>by
      obtain⟨R9,K9,_,Q9⟩:=j.fin Qci (EK.none _ _) (W':=((((WX.setCell (Ja w.heap.size 0) M).setCell (Ja w.heap.size 1) P).setCell (Ja w.heap.size 2) O).setCell (Ja w.heap.size 3) E)) (by simp[World.setCell]) ⟨rfl,rfl,rfl⟩ (fun q p=>by rw[hpS p,hpS p,hpS p,hpS p])
      have az:=j.b.x1
      exact⟨_,_,_,_,_,rfl,⟨⟨D,[],x,at0⟩,⟨_,_,_,rfl,(Q9.ls Qci).mono Qci (fun b _ K=>by have ae:xb+1<=b:=K;omega)⟩,fun _ _=>⟨fun _=>Qa b1 (by trivial),fun _=>rfl⟩⟩,⟨rfl,j.le,j.y0⟩,R9,K9⟩
     clear j
     go_wp2_with fail
     refine bodyPost_ret (v:=.agg #[str D,Je,.slice sa x.length sc,Ji at0]) (by simp[results,Tryz.results58,go_sem,an,ak,aj,aq]) rfl ?_
     exact Qa HF _ _ _ _
    have a3:=Qcb (Qa GM).r
    go_wp2_with fail
    refine a3.mono ?_
    clear a3
    rintro en t⟨_,a5,i5,y5,f5,rfl,⟨k,rfl,-⟩,⟨m,o,c⟩,u,J⟩
    rw[m]at u
    clear m
    obtain⟨I,z⟩:=JF t.heap.size
    obtain⟨A,C⟩:=JE (t.alloc (.cells #[str k,Jn] 97))
    have b6:Below t.heap.size t A:=by rw[C];exact(Below.refl _ t).alloc (Nat.le_refl _) _
    have L:A.heap[I]?=some (.cells #[str k,Jn] 97 (0,0)):=by rw[C,<- z];exact heap_alloc_new t _
    have V:A.heap.size=I+1:=by rw[C,<- z];simp
    have al:=Qeg (u.later b6) ⟨#[123]⟩ ⟨#[125]⟩
    have K6:=hide (Ya (J.trans (Kp.of_below b6)) (Ya L (Ya V (Ya (show WX.heap.size<=I by have:=J.size;omega) (Ya o c)))))
    have a9:=hide (Ya C z)
    clear o c u J z C b6 L V
    go_wp2_with fail
    rw[<- (Qa a9).1,(Qa a9).2]
    clear a9
    refine al.mono ?_
    clear al
    rintro en X⟨_,a7,i7,y7,f7,rfl,⟨H,a8⟩,⟨m,aa,F⟩,h7,Y⟩
    rw[m]at h7
    clear m
    obtain⟨U,W,rfl⟩:=a8.sl
    obtain⟨k6,L,V,z,o,c⟩:=Qa K6
    have S:=(Qa GM).b.r1
    have aI:=(Qa GM).b.g1
    have aE:=(Qa GM).b.x1
    have aB:=Qaa (Qa GM).b.box
    have aF:=Y.size
    have n7:=Y.keep L (by omega)
    obtain⟨B,G⟩:=JE (X.setCell (Ja I 1) (.slice U H.length W))
    have n8:B.heap[I]?=some (.cells #[str k,.slice U H.length W] 97 (0,0)):=by rw[G];exact(Qah n7 1 _).trans rfl
    have Z:∀q,q≠I->B.heap[q]?=X.heap[q]?:=fun q p=>by rw[G,hpS p]
    have s8:B.heap.size=X.heap.size:=by rw[G];simp
    have h8:Rr rb g cap l B a7 d i y7 f7:=h7.move (by omega) (Z rb (by omega)) (Z g (by omega))
    have k8:Kp rb WX B:=by rw[G];exact(k6.trans Y).set2 z
    have ao:=k8.keep (Qa GM).b.box (by omega)
    have ap:PC (fun b=>WX.heap.size<=b) B [str k,.slice U H.length W] ⟨k,H⟩:=⟨_,_,_,rfl,(a8.same Qbb (by omega) (fun b K hl=>Z b (by have ae:A.heap.size<=b:=K;omega))).mono Qbb (fun b _ K=>by have ae:A.heap.size<=b:=K;omega)⟩
    obtain⟨i0,hi,hz,ar,ag⟩:=infoC
    obtain⟨ra,rc,w9,Q,aH,aC,ah,j⟩:=(Qa GM).more Qci (EK.none _ _) (by kernel_rfl:Tryz.prog.underlying 52=some (.slice 97)) hi hz ar ag rfl (by decide) (by decide) (cx:=[str k,.slice U H.length W]) rfl (by simp[Value.oneCell',str]) ap h8 k8 (by omega) (fun e=>⟨(c (F e).1).1,by have:=(c (F e).1).2;omega⟩) (by have:=Qa aJ;omega) 2
    obtain⟨ac,ab,ad,af,xf⟩:=cl4 ao
    obtain⟨aW,aO,uf⟩:=cl2 n7
    obtain⟨aD,ax,vf⟩:=cl2 n8
    obtain⟨aQ,aY,aX,aP,zf⟩:=cl4 ah
    have T:=Qan (Qa s).r l.length
    have R:=Qan j.r l.length
    have HM:=hide (Ya T (Ya R (Ya (Qa s).r.lt (Ya j.r.lt (Ya o (Ya c (Ya aa F)))))))
    rw[show B.heap.size=X.heap.size from s8]at Q
    rw[G]at Q ad aD ax
    have a0:=hide Q
    have aw:=hide j
    clear a8 h7 Y k6 L V z o c S aI aE aB aF n7 G n8 Z s8 h8 k8 ao ap hi hz ar ag Q ah j T R aa F ac ab af xf
    go_wp2_with (at_builtin;refine Qai _ rfl _ _ 52 rfl _ _ rfl rfl _ _ (Qa a0) ?_;clear a0)
    go_roundw
    case rel=>exact⟨false,x++[⟨k,H⟩],a7,y7,f7,ra,rc,rfl,by simpa using aH,aC,hide (by simpa using Qa aw),hide (fun _=>by simp)⟩
    obtain⟨T,R,m1,m2,o,c,aa,F⟩:=Qa HM
    rw[T,R,if_pos (Qa HY)]
    split
    ·
     rename_i e
     have e7:=F e
     have e5:=c e7.1
     have:=Qa aA
     omega
    ·omega
   go_wp2_with fail
   refine a6.mono ?_
   clear a6
   rintro en wq⟨rfl,rfl⟩
   have aJ:=hide ((Qa s).n0 (Qa HY))
   have aA:=hide (Nat.le_refl a1)
   have a3:=Qcb (Qa s).r
   go_wp2_with fail
   refine a3.mono ?_
   clear a3
   rintro en t⟨_,a5,i5,y5,f5,rfl,⟨k,rfl,-⟩,⟨m,o,c⟩,u,J⟩
   rw[m]at u
   clear m
   obtain⟨I,z⟩:=JF t.heap.size
   obtain⟨A,C⟩:=JE (t.alloc (.cells #[str k,Jn] 97))
   have b6:Below t.heap.size t A:=by rw[C];exact(Below.refl _ t).alloc (Nat.le_refl _) _
   have L:A.heap[I]?=some (.cells #[str k,Jn] 97 (0,0)):=by rw[C,<- z];exact heap_alloc_new t _
   have V:A.heap.size=I+1:=by rw[C,<- z];simp
   have al:=Qeg (u.later b6) ⟨#[123]⟩ ⟨#[125]⟩
   have K6:=hide (Ya (J.trans (Kp.of_below b6)) (Ya L (Ya V (Ya (show wq.heap.size<=I by have:=J.size;omega) (Ya o c)))))
   have a9:=hide (Ya C z)
   clear o c u J z C b6 L V
   go_wp2_with fail
   rw[<- (Qa a9).1,(Qa a9).2]
   clear a9
   refine al.mono ?_
   clear al
   rintro en X⟨_,a7,i7,y7,f7,rfl,⟨H,a8⟩,⟨m,aa,F⟩,h7,Y⟩
   rw[m]at h7
   clear m
   obtain⟨U,W,rfl⟩:=a8.sl
   obtain⟨k6,L,V,z,o,c⟩:=Qa K6
   have S:=(Qa s).b.r1
   have aI:=(Qa s).b.g1
   have aE:=(Qa s).b.x1
   have aB:=Qaa (Qa s).b.box
   have aF:=Y.size
   have n7:=Y.keep L (by omega)
   obtain⟨B,G⟩:=JE (X.setCell (Ja I 1) (.slice U H.length W))
   have n8:B.heap[I]?=some (.cells #[str k,.slice U H.length W] 97 (0,0)):=by rw[G];exact(Qah n7 1 _).trans rfl
   have Z:∀q,q≠I->B.heap[q]?=X.heap[q]?:=fun q p=>by rw[G,hpS p]
   have s8:B.heap.size=X.heap.size:=by rw[G];simp
   have h8:Rr rb g cap l B a7 d i y7 f7:=h7.move (by omega) (Z rb (by omega)) (Z g (by omega))
   have k8:Kp rb wq B:=by rw[G];exact(k6.trans Y).set2 z
   have ao:=k8.keep (Qa s).b.box (by omega)
   have ap:PC (fun b=>wq.heap.size<=b) B [str k,.slice U H.length W] ⟨k,H⟩:=⟨_,_,_,rfl,(a8.same Qbb (by omega) (fun b K hl=>Z b (by have ae:A.heap.size<=b:=K;omega))).mono Qbb (fun b _ K=>by have ae:A.heap.size<=b:=K;omega)⟩
   obtain⟨i0,hi,hz,ar,ag⟩:=infoC
   obtain⟨ra,rc,w9,Q,aH,aC,ah,j⟩:=(Qa s).more Qci (EK.none _ _) (by kernel_rfl:Tryz.prog.underlying 52=some (.slice 97)) hi hz ar ag rfl (by decide) (by decide) (cx:=[str k,.slice U H.length W]) rfl (by simp[Value.oneCell',str]) ap h8 k8 (by omega) (fun e=>⟨(c (F e).1).1,by have:=(c (F e).1).2;omega⟩) (by have:=Qa aJ;omega) 2
   obtain⟨ac,ab,ad,af,xf⟩:=cl4 ao
   obtain⟨aW,aO,uf⟩:=cl2 n7
   obtain⟨aD,ax,vf⟩:=cl2 n8
   obtain⟨aQ,aY,aX,aP,zf⟩:=cl4 ah
   have T:=Qan (Qa s).r l.length
   have R:=Qan j.r l.length
   have HM:=hide (Ya T (Ya R (Ya (Qa s).r.lt (Ya j.r.lt (Ya o (Ya c (Ya aa F)))))))
   rw[show B.heap.size=X.heap.size from s8]at Q
   rw[G]at Q ad aD ax
   have a0:=hide Q
   have aw:=hide j
   clear a8 h7 Y k6 L V z o c S aI aE aB aF n7 G n8 Z s8 h8 k8 ao ap hi hz ar ag Q ah j T R aa F ac ab af xf
   go_wp2_with (at_builtin;refine Qai _ rfl _ _ 52 rfl _ _ rfl rfl _ _ (Qa a0) ?_;clear a0)
   go_roundw
   case rel=>exact⟨false,x++[⟨k,H⟩],a7,y7,f7,ra,rc,rfl,by simpa using aH,aC,hide (by simpa using Qa aw),hide (fun _=>by simp)⟩
   obtain⟨T,R,m1,m2,o,c,aa,F⟩:=Qa HM
   rw[T,R,if_pos (Qa HY)]
   split
   ·
    rename_i e
    have e7:=F e
    have e5:=c e7.1
    have:=Qa aA
    omega
   ·omega
  rw[decide_eq_false hy]at a6
  have aU:=hide hy
  clear hy
  go_wp2_with fail
  refine a6.mono ?_
  clear a6
  rintro en wq⟨rfl,rfl⟩
  have j:=Qa s
  obtain⟨ac,ab,ad,af,xf⟩:=cl4 j.b.box
  obtain⟨an,ak,aj,aq,yf⟩:=cl4 j.b.res
  have HF:Hid (∀M P O E,RA rb g cap l w d (tyV rb l w) (CoY a i y) (.returned (.agg #[str D,Je,.slice sa x.length sc,Ji at0])) ((((wq.setCell (Ja w.heap.size 0) M).setCell (Ja w.heap.size 1) P).setCell (Ja w.heap.size 2) O).setCell (Ja w.heap.size 3) E)):=fun M P O E=>by
   obtain⟨R9,K9,_,Q9⟩:=j.fin Qci (EK.none _ _) (W':=((((wq.setCell (Ja w.heap.size 0) M).setCell (Ja w.heap.size 1) P).setCell (Ja w.heap.size 2) O).setCell (Ja w.heap.size 3) E)) (by simp[World.setCell]) ⟨rfl,rfl,rfl⟩ (fun q p=>by rw[hpS p,hpS p,hpS p,hpS p])
   have az:=j.b.x1
   exact⟨_,_,_,_,_,rfl,⟨⟨D,[],x,at0⟩,⟨_,_,_,rfl,(Q9.ls Qci).mono Qci (fun b _ K=>by have ae:xb+1<=b:=K;omega)⟩,fun ho _=>absurd ((Rr.ok R9).1 ho) (Qa aU)⟩,⟨rfl,j.le,j.y0⟩,R9,K9⟩
  clear j
  go_wp2_with fail
  refine bodyPost_ret (v:=.agg #[str D,Je,.slice sa x.length sc,Ji at0]) (by simp[results,Tryz.results58,go_sem,an,ak,aj,aq]) rfl ?_
  exact Qa HF _ _ _ _
 have aL:=Qsx (Qa G4).r
 go_wp2_with fail
 refine aL.mono ?_
 clear aL
 rintro en t⟨_,a5,i5,y5,f5,rfl,⟨k,rfl,aK⟩,⟨m,o,c⟩,u,J⟩
 rw[m]at u
 clear m
 have b2:=hide (show y5=0->NeT l->k≠[] from fun e=>aK ((Rr.ok u).2 e))
 clear aK
 have N:=(Qa G4).call Qci (EK.none _ _) J u o (fun e=>(c e).1)
 obtain⟨A,C⟩:=JE (t.setCell (Ja xb 1) (str k))
 have g6:Gx PC 2 97 rb g cap l w d i a y xb 54 #[Je,Je,Jn,Ji 0] (fun _=>True) A #[str D,str k,Jn,Ji at0] a5 y5 f5 (Jn) []:=by
  have az:=N.b.x1
  rw[C]
  exact⟨N.r.atBox ⟨by have:=N.b.r1;omega,by have:=N.b.g1;omega⟩ 1 _,N.b.set 1 _,trivial,Qo.nil _,N.le,N.y0,N.n,N.n0⟩
 obtain⟨aS,b5,b4,aR,wf⟩:=cl4 N.b.box
 obtain⟨ac,ab,ad,af,xf⟩:=cl4 g6.b.box
 obtain⟨an,ak,aj,aq,yf⟩:=cl4 g6.b.res
 have HF:Hid (∀M P O E,RA rb g cap l w d (tyV rb l w) (CoY a i y) (.returned (.agg #[str D,str k,Jn,Ji at0])) ((((A.setCell (Ja w.heap.size 0) M).setCell (Ja w.heap.size 1) P).setCell (Ja w.heap.size 2) O).setCell (Ja w.heap.size 3) E)):=fun M P O E=>by
  obtain⟨R9,K9,_,Q9⟩:=g6.fin Qci (EK.none _ _) (W':=((((A.setCell (Ja w.heap.size 0) M).setCell (Ja w.heap.size 1) P).setCell (Ja w.heap.size 2) O).setCell (Ja w.heap.size 3) E)) (by simp[World.setCell]) ⟨rfl,rfl,rfl⟩ (fun q p=>by rw[hpS p,hpS p,hpS p,hpS p])
  have az:=g6.b.x1
  exact⟨_,_,_,_,_,rfl,⟨⟨D,k,[],at0⟩,⟨_,_,_,rfl,(Q9.ls Qci).mono Qci (fun b _ K=>by have ae:xb+1<=b:=K;omega)⟩,fun ho aV=>⟨fun e=>absurd e (Qa b2 ((Rr.ok R9).1 ho) aV),fun e=>absurd rfl e⟩⟩,⟨rfl,g6.le,g6.y0⟩,R9,K9⟩
 clear u J o c N g6 aS b4 aR
 subst C
 go_wp2_with fail
 refine bodyPost_ret (v:=.agg #[str D,str k,Jn,Ji at0]) (by simp[results,Tryz.results58,go_sem,an,ak,aj,aq]) rfl ?_
 exact Qa HF _ _ _ _
end
end Go.Proofs.YtmfpbepifnedjaaGreat
