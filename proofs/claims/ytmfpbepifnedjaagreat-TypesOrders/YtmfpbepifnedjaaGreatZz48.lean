/- The document's reader by the tokens that are next. -/
import Derived.Test.YtmfpbepifnedjaaGreatZz01
import Derived.Test.YtmfpbepifnedjaaGreatZz47
import Derived.Test.YtmfpbepifnedjaaGreatZz28
set_option maxRecDepth 100000
set_option maxHeartbeats 32000000
namespace Go.Proofs.YtmfpbepifnedjaaGreat
section
open Go.RowKit Go.Maps
inductive It where
 |ty (x:Typ)
 |dc (x:Dcl)
 |co (x:Cp)
 |ini (x:Ini)
 |cl (x:Cls)
def addI(p:Pg):It->Pg
 | .ty x=>.mk (p.types++[x]) p.decls p.comps p.inits p.clauses
 | .dc x=>.mk p.types (p.decls++[x]) p.comps p.inits p.clauses
 | .co x=>.mk p.types p.decls (p.comps++[x]) p.inits p.clauses
 | .ini x=>.mk p.types p.decls p.comps (p.inits++[x]) p.clauses
 | .cl x=>.mk p.types p.decls p.comps p.inits (p.clauses++[x])
section
variable {p q:Pg}(h:eqPg p q=true)
include h
theorem Qou{x y:Typ}(e:eqTy x y=true):eqPg (.mk (p.types++[x]) p.decls p.comps p.inits p.clauses) (addI q (.ty y))=true:=by
 rw[Qex]at h ⊢
 simp only[Bool.and_eq_true,addI,Pg.types,Pg.decls,Pg.comps,Pg.inits,Pg.clauses]at h ⊢
 exact⟨⟨⟨⟨Qdr _ _ _ _ _ h.1.1.1.1 e,h.1.1.1.2⟩,h.1.1.2⟩,h.1.2⟩,h.2⟩
theorem Qov{x y:Dcl}(e:eqDc x y=true):eqPg (.mk p.types (p.decls++[x]) p.comps p.inits p.clauses) (addI q (.dc y))=true:=by
 rw[Qex]at h ⊢
 simp only[Bool.and_eq_true,addI,Pg.types,Pg.decls,Pg.comps,Pg.inits,Pg.clauses]at h ⊢
 exact⟨⟨⟨⟨h.1.1.1.1,Qdr _ _ _ _ _ h.1.1.1.2 e⟩,h.1.1.2⟩,h.1.2⟩,h.2⟩
theorem Qow{x y:Cls}(e:eqCl x y=true):eqPg (.mk p.types p.decls p.comps p.inits (p.clauses++[x])) (addI q (.cl y))=true:=by
 rw[Qex]at h ⊢
 simp only[Bool.and_eq_true,addI,Pg.types,Pg.decls,Pg.comps,Pg.inits,Pg.clauses]at h ⊢
 exact⟨⟨⟨⟨h.1.1.1.1,h.1.1.1.2⟩,h.1.1.2⟩,h.1.2⟩,Qdr _ _ _ _ _ h.2 e⟩
end
def YI(rb g cap:Nat)(l:List Tok)(d i m:Nat)(K r:List Tok):It->Prop
 | .ty x=>m=i /\ ∃K',K=sgQ [46,116,121,112,101] :: K' /\ ∀(w:World) (a:Nat) (at0:Int),Rr rb g cap l w a d i 0 0->Nxt l a (K'++r)->Calls Tryz.prog 58 #[.pointer (some ⟨rb,0,none⟩),.int .i64 at0] w fun en w'=>XB rb g cap l w d (fun w' v=>∃x',VTy (fun b=>w.heap.size<=b) w' v x'/\eqTy x' x=true) r i en w'
 | .dc x=>m=i /\ ∃K',K=sgQ [46,100,101,99,108] :: K' /\ ∀(w:World) (a:Nat) (at0:Int),Rr rb g cap l w a d i 0 0->Nxt l a (K'++r)->Calls Tryz.prog 59 #[.pointer (some ⟨rb,0,none⟩),.int .i64 at0] w fun en w'=>XB rb g cap l w d (fun w' v=>∃x',VDc (fun b=>w.heap.size<=b) w' v x'/\eqDc x' x=true) r i en w'
 | .co _=>False
 | .ini _=>False
 | .cl x=>m=i/\(∃s K',K=nmR s :: K') /\ ∀(w:World) (a:Nat),Rr rb g cap l w a d i 0 0->Nxt l a (K++r)->Calls Tryz.prog 66 #[.pointer (some ⟨rb,0,none⟩)] w fun en w'=>XB rb g cap l w d (fun w' v=>∃x',VCl (fun b=>w.heap.size<=b) w' v x'/\eqCl x' x=true) r i en w'
def YIs(rb g cap:Nat)(l:List Tok)(d j:Nat)(r:List Tok):List It->Nat->List Tok->Prop
 | [],i,K=>j=i/\K=[]
 |it :: its,i,K=>∃K1 K2 m,K=K1++K2/\i+1<=96/\YI rb g cap l d (i+1) m K1 (K2++r) it/\YIs rb g cap l d j r its m K2
theorem Qtn{rb g cap:Nat}{l:List Tok}{d i j:Nat}(hi:i<=96){K r:List Tok}{its:List It}(hY:YIs rb g cap l d j r its i K)(hr:∃t0 r0,r=t0 :: r0/\(t0.kind=0∨t0.kind≠0/\isSg t0 [125]=true)):YP rb g cap l d i j K r (its.foldl addI .none):=by
 intro w a h hA
 obtain⟨x0,aV⟩:=JF (its.foldl addI .none)
 rw[aV]
 obtain⟨Y,aD⟩:=JE (w.alloc (.cells #[Jn,Jn,Jn,Jn,Jn] 28))
 obtain⟨Z,aQ⟩:=JE (Y.alloc (.cells #[Jn,Jn,Jn,Jn,Jn] 28))
 obtain⟨P,aU⟩:=JF (w.heap.size+1)
 have D:Below w.heap.size w Y:=by rw[aD];exact(Below.refl _ w).alloc (Nat.le_refl _) _
 have n1:Y.heap[w.heap.size]?=some (.cells #[Jn,Jn,Jn,Jn,Jn] 28 (0,0)):=by rw[aD];exact heap_alloc_new w _
 have s1:Y.heap.size=w.heap.size+1:=by rw[aD];simp
 have C:Below Y.heap.size Y Z:=by rw[aQ];exact(Below.refl _ Y).alloc (Nat.le_refl _) _
 have n2:Z.heap[P]?=some (.cells #[Jn,Jn,Jn,Jn,Jn] 28 (0,0)):=by rw[aQ,<- aU,<- s1];exact heap_alloc_new Y _
 have T:Z.heap[w.heap.size]?=some (.cells #[Jn,Jn,Jn,Jn,Jn] 28 (0,0)):=(C.block _ (by omega)).trans n1
 have ai:Apt (Jn) (Jn):=fun b e _=>by cases e
 have aT:Below w.heap.size w Z:=D.trans (C.mono (by omega))
 have S0:Hid (StP rb g cap l w d i a 0 P Z (Jn) (Jn) (Jn) (Jn) (Jn) .none a i 0 0):=⟨h.later aT,⟨⟨n2,by omega,Row.nil _ _,Row.nil _ _,Row.nil _ _,Row.nil _ _,Row.nil _ _,ai,ai,ai,ai,ai,ai,ai,ai,ai,ai⟩,Kp.of_below aT,T,Qaa h.box,h.row.lt,by omega⟩,Nat.le_refl _,Nat.le_refl _,by omega,fun _=>⟨rfl,hi⟩,Nat.zero_le _⟩
 have HR:=hide hr
 have HA:=hide (Ya hY (Ya hA aV))
 have HW:=hide (Ya aQ (Ya aD aU))
 clear h hA aV hY hr aD aQ aU D n1 s1 C n2 T ai aT
 go_enter Tryz.func21,Tryz.ntmps21
 go_wp2_with fail
 rw[<- (Qa HW).2.1,<- (Qa HW).1,(Qa HW).2.2]
 clear HW
 go_loopw [4] (fun _ wr=>∃(p:Pg) (J L M N O:Option Addr) (E F G H I:Nat) (A n:Nat) (q:Pg) (js:List It) (KK:List Tok),Hid (StP rb g cap l w d i a 0 P wr (.slice J p.types.length E) (.slice L p.decls.length F) (.slice M p.comps.length G) (.slice N p.inits.length H) (.slice O p.clauses.length I) p A n 0 0)/\Hid (YIs rb g cap l d j r js n KK/\Nxt l A (KK++r)/\eqPg p q=true/\js.foldl addI q=x0)) (fun _ wr=>leftR rb l.length wr)
 case atStart=>exact⟨.none,none,none,none,none,none,0,0,0,0,0,a,i,.none,its,K,S0,hide ⟨(Qa HA).1,(Qa HA).2.1,by simp[Pg.none,Qex,Pg.types,Pg.decls,Pg.comps,Pg.inits,Pg.clauses,eqL],(Qa HA).2.2⟩⟩
 obtain⟨p,J,L,M,N,O,E,F,G,H,I,A,n,q,js,KK,R,HJ⟩:=hrel
 clear S0 HA its K
 have am:=Qaw (Qa R).r
 rw[decide_eq_true rfl]at am
 obtain⟨b8,a3,ae,a0⟩:=Qa HJ
 clear HJ
 cases js with
 |nil=>
  obtain⟨rfl,rfl⟩:=b8
  rw[List.nil_append]at a3
  have b3:=hide (Ya a3 (Ya ae (show q=x0 from a0)))
  obtain⟨t0,r0,b9,b6⟩:=Qa HR
  rw[b9]at a3
  obtain⟨t,ht,hz,_⟩:=a3.at
  have HT:=hide ht
  simp only[zk,Prod.mk.injEq]at hz
  have HZ:=hide hz
  clear ht hz a3 ae a0 b9
  have SI:=R
  go_wp2_with fail
  refine am.mono ?_
  clear am
  rintro u wq⟨rfl,rfl⟩
  have f:=Qao (Qa SI).r (Qa HT)
  unfold tkA at f
  go_wp2_with fail
  refine f.mono ?_
  clear f
  rintro u Y⟨rfl,D⟩
  have W:=hide ((Qa SI).call (Kp.of_below D) ((Qa SI).r.later D))
  clear D
  rcases b6 with hk|⟨hk,hs⟩
  ·
   have gu:(t.kind != 0)=false:=by rw[(Qa HZ).1,hk];rfl
   clear hk
   go_wp2_with fail
   rename_i c
   refine c _ _ ?_
   clear c
   have g9:=Qa W
   obtain⟨bs,bt,bu,bv,bw,xf⟩:=cl5 g9.b.p5.box
   obtain⟨aW,aX,aY,aZ,b0,yf⟩:=cl5 g9.b.res
   have HF:Hid (∀q0 X T q3 q4,XB rb g cap l w d (fun w' v=>∃x',pgX w w' v x'/\eqPg x' x0=true) r j (.returned (.agg #[.slice J p.types.length E,.slice L p.decls.length F,.slice M p.comps.length G,.slice N p.inits.length H,.slice O p.clauses.length I])) (((((Y.setCell (Ja w.heap.size 0) q0).setCell (Ja w.heap.size 1) X).setCell (Ja w.heap.size 2) T).setCell (Ja w.heap.size 3) q3).setCell (Ja w.heap.size 4) q4)):=fun q0 X T q3 q4=>by
    obtain⟨K9,P9⟩:=g9.b.fin (W':=(((((Y.setCell (Ja w.heap.size 0) q0).setCell (Ja w.heap.size 1) X).setCell (Ja w.heap.size 2) T).setCell (Ja w.heap.size 3) q3).setCell (Ja w.heap.size 4) q4)) (by simp[World.setCell]) ⟨rfl,rfl,rfl⟩ (fun q y=>by rw[hpS y,hpS y,hpS y,hpS y,hpS y])
    have ax:=g9.b.r1
    have br:=g9.b.g1
    have hb:∀q,q≠w.heap.size->(((((Y.setCell (Ja w.heap.size 0) q0).setCell (Ja w.heap.size 1) X).setCell (Ja w.heap.size 2) T).setCell (Ja w.heap.size 3) q3).setCell (Ja w.heap.size 4) q4).heap[q]?=Y.heap[q]?:=fun q y=>by rw[hpS y,hpS y,hpS y,hpS y,hpS y]
    obtain⟨f2,f3,f4⟩:=Qa b3
    exact⟨_,_,rfl,⟨p,⟨_,_,_,_,_,_,_,_,_,_,_,_,_,_,_,rfl,P9⟩,f4▸f3⟩,g9.r.move (by simp[World.setCell]) (hb rb (by omega)) (hb g (by omega)),K9,f2⟩
   clear g9
   go_wp2_with fail
   refine bodyPost_ret (v:=.agg #[.slice J p.types.length E,.slice L p.decls.length F,.slice M p.comps.length G,.slice N p.inits.length H,.slice O p.clauses.length I]) (by simp[results,Tryz.results21,go_sem,aW,aX,aY,aZ,b0]) rfl ?_
   exact Qa HF _ _ _ _ _
  have gu:(t.kind != 0)=true:=by rw[(Qa HZ).1];simpa using hk
  have B:=Qgo (Qa W).r (Qa HT) [125]
  rw[show isSg t [125]=true by rw[<- hs];exact Qg (by simp only[zk,Prod.mk.injEq];exact Qa HZ) _]at B
  clear hk hs
  go_wp2_with fail
  rename_i c
  refine c _ _ ?_
  clear c
  go_wp2_with fail
  refine B.mono ?_
  clear B
  rintro u Z⟨rfl,C⟩
  have o:=hide ((Qa W).call (Kp.of_below C) ((Qa W).r.later C))
  clear C
  have g9:=Qa o
  obtain⟨bs,bt,bu,bv,bw,xf⟩:=cl5 g9.b.p5.box
  obtain⟨aW,aX,aY,aZ,b0,yf⟩:=cl5 g9.b.res
  have HF:Hid (∀q0 X T q3 q4,XB rb g cap l w d (fun w' v=>∃x',pgX w w' v x'/\eqPg x' x0=true) r j (.returned (.agg #[.slice J p.types.length E,.slice L p.decls.length F,.slice M p.comps.length G,.slice N p.inits.length H,.slice O p.clauses.length I])) (((((Z.setCell (Ja w.heap.size 0) q0).setCell (Ja w.heap.size 1) X).setCell (Ja w.heap.size 2) T).setCell (Ja w.heap.size 3) q3).setCell (Ja w.heap.size 4) q4)):=fun q0 X T q3 q4=>by
   obtain⟨K9,P9⟩:=g9.b.fin (W':=(((((Z.setCell (Ja w.heap.size 0) q0).setCell (Ja w.heap.size 1) X).setCell (Ja w.heap.size 2) T).setCell (Ja w.heap.size 3) q3).setCell (Ja w.heap.size 4) q4)) (by simp[World.setCell]) ⟨rfl,rfl,rfl⟩ (fun q y=>by rw[hpS y,hpS y,hpS y,hpS y,hpS y])
   have ax:=g9.b.r1
   have br:=g9.b.g1
   have hb:∀q,q≠w.heap.size->(((((Z.setCell (Ja w.heap.size 0) q0).setCell (Ja w.heap.size 1) X).setCell (Ja w.heap.size 2) T).setCell (Ja w.heap.size 3) q3).setCell (Ja w.heap.size 4) q4).heap[q]?=Z.heap[q]?:=fun q y=>by rw[hpS y,hpS y,hpS y,hpS y,hpS y]
   obtain⟨f2,f3,f4⟩:=Qa b3
   exact⟨_,_,rfl,⟨p,⟨_,_,_,_,_,_,_,_,_,_,_,_,_,_,_,rfl,P9⟩,f4▸f3⟩,g9.r.move (by simp[World.setCell]) (hb rb (by omega)) (hb g (by omega)),K9,f2⟩
  clear g9
  go_wp2_with fail
  refine bodyPost_ret (v:=.agg #[.slice J p.types.length E,.slice L p.decls.length F,.slice M p.comps.length G,.slice N p.inits.length H,.slice O p.clauses.length I]) (by simp[results,Tryz.results21,go_sem,aW,aX,aY,aZ,b0]) rfl ?_
  exact Qa HF _ _ _ _ _
 |cons it its=>
  obtain⟨K1,K2,m,rfl,bx,aC,ad⟩:=b8
  rw[List.append_assoc]at a3
  cases it with
  |ty x0i=>
   obtain⟨rfl,K',rfl,aj⟩:=aC
   have ah:Nxt l A (sgQ [46,116,121,112,101] :: (K'++(K2++r))):=a3
   obtain⟨t,ht,hz,_⟩:=ah.at
   have gu:(t.kind != 0)=true:=by
    simp only[zk,sgQ,Prod.mk.injEq]at hz
    rw[hz.1];rfl
   have HT:=hide ht
   have ap:=hide (Ya a3 (show 0<(sgQ [46,116,121,112,101] :: K').length by simp))
   have a4:=hide (Ya (show n+1<=96 by omega) (Ya ad (Ya ae (show its.foldl addI (addI q (.ty x0i))=x0 from a0))))
   have ab:=hide ah
   clear ht hz a3 ad ae a0 ah
   have SI:=R
   go_wp2_with fail
   refine am.mono ?_
   clear am
   rintro u wq⟨rfl,rfl⟩
   have f:=Qao (Qa SI).r (Qa HT)
   unfold tkA at f
   go_wp2_with fail
   refine f.mono ?_
   clear f
   rintro u Y⟨rfl,D⟩
   have W:=hide ((Qa SI).call (Kp.of_below D) ((Qa SI).r.later D))
   clear D
   have B:=Qce (Qa W).r (Qa ab) [125]
   rw[show isSg (sgQ [46,116,121,112,101]) [125]=false by decide]at B
   go_wp2_with fail
   rename_i c
   refine c _ _ ?_
   clear c
   go_wp2_with fail
   refine B.mono ?_
   clear B
   rintro u Z⟨rfl,C⟩
   have o:=hide ((Qa W).call (Kp.of_below C) ((Qa W).r.later C))
   clear C
   obtain⟨aH,aI,aJ,aK,aL,aM,qf⟩:=cl6 (Qa o).r.box
   obtain⟨w3,a8⟩:=JE (Z.setCell (Ja rb 3) (Ji ((n:Int)+1)))
   have h3:Rr rb g cap l w3 A d (n+1) 0 0:=by rw[a8];exact(Qa o).r.setI (i':=n+1) (by omega)
   have G3:PgB rb g w P w3 (.slice J p.types.length E) (.slice L p.decls.length F) (.slice M p.comps.length G) (.slice N p.inits.length H) (.slice O p.clauses.length I) p:=by rw[a8];exact(Qa o).b.call (Kp.set _ _ _ _)
   have aB:=hide (Qa o).ln
   have aq:=hide a8
   have b5:¬((96:Int)<(n:Int)+1):=by omega
   have S3:Hid (StP rb g cap l w d i a 0 P w3 (.slice J p.types.length E) (.slice L p.decls.length F) (.slice M p.comps.length G) (.slice N p.inits.length H) (.slice O p.clauses.length I) p A (n+1) 0 0):=⟨h3,G3,(Qa o).le,by have:=(Qa o).ile;omega,by omega,fun _=>⟨rfl,by omega⟩,by have:=(Qa o).ln;omega⟩
   have f:=Qao (Qa S3).r (Qa HT)
   unfold tkA at f
   clear h3 G3 a8
   go_wp2_with fail
   rw[<- Qa aq]
   clear aq aH aI aJ aK aL aM qf
   refine f.mono ?_
   clear f
   rintro u w4⟨rfl,b4⟩
   have S4:=hide ((Qa S3).call (Kp.of_below b4) ((Qa S3).r.later b4))
   clear b4
   go_wp2_with fail
   rename_i c
   refine c _ _ ?_
   clear c
   have Q:=Qde (Qa S4).r (Qa ab)
   go_wp2_with fail
   refine Q.mono ?_
   clear Q
   rintro u w5⟨_,aN,rfl,rfl,a7,aw,V⟩
   have S:aN=A+1:=by
    have X:=(Qa ab).len
    have T:=V.len
    have q3:=(Qa S4).r.lt
    have q4:=a7.lt
    simp only[List.length_cons]at X
    omega
   rw[S]at a7 V
   clear S
   have S5:=hide ((Qa S4).mayT aw a7)
   have ao:=hide V
   clear a7 aw V
   have SD:=hide ((Qa S5).call (W':=w5.drew) (Kp.of_below (Below.refl _ w5).drew) ((Qa S5).r.later (Below.refl _ w5).drew))
   have f:=aj _ _ (t.at_:Int) (Qa SD).r (Qa ao)
   go_wp2_with fail
   refine Qaq (m:=8) (ml:=[(0,1),(1,2),(2,1),(3,1),(4,0),(5,0),(6,0),(7,1),(8,0)]) (fun ff w'=>ff=false->w'.heap[P]?=some (.cells #[.slice J p.types.length E,.slice L p.decls.length F,.slice M p.comps.length G,.slice N p.inits.length H,.slice O p.clauses.length I] 28 (0,0))) mixedO (by kernel_rfl) rfl (by rfl) (by kernel_rfl) (fun PP au=>?_)
   refine Qae rfl (by kernel_rfl) (fun _ _ _=>by go_simp<;>rfl) ?_
   refine Qax (v:=?_) rfl (by kernel_rfl) (fun w' hw=>?_) ?_
   rotate_left
   ·(obtain⟨bi,bj,bk,bl,bm,zf⟩:=cl5 (hw rfl);go_simp<;>rfl)
   refine Qae rfl (by kernel_rfl) (fun _ _ _=>by go_simp<;>rfl) ?_
   refine Qae rfl (by kernel_rfl) (fun _ _ _=>by go_simp<;>rfl) ?_
   refine Qab rfl (fun _=>(Qa SD).b.p5.box) (fun K c=>?_)
   go_simp
   refine f.mono ?_
   clear f
   rintro u U⟨_,a6,rfl,⟨x,⟨xa,xn,xc,rfl,hX⟩,heq⟩,h6,k6,n6⟩
   show K _ _
   refine c _ _ ?_
   clear c K
   have k:=Qa SD
   have aE:=k.b.x1
   have ax:=k.b.r1
   obtain⟨ga,gc,w8,af,ag,G9,R9⟩:=k.b.more0 k6 h6 (x:=x) (cs:=[str x.name,str x.sub,.slice xa xn xc,Ji x.at_]) rfl (by simp[Value.oneCell',str]) ⟨_,_,_,rfl,hX⟩ (by have:=k.i97;have:=k.ln;simp only[lenP]at this;omega)
   obtain⟨w7,a9⟩:=JE (U.alloc (.cells #[str x.name,str x.sub,.slice xa xn xc,Ji x.at_] 54))
   have b7:Below U.heap.size U w7:=by rw[a9];exact(Below.refl _ U).alloc (Nat.le_refl _) _
   have a5:=k6.keep k.b.p5.box (by omega)
   have ay:=hide a5
   have az:=hide ((b7.block _ (Qaa a5)).trans a5)
   have aA:=hide ag
   obtain⟨bd,be,bf,bg,bh,uf⟩:=cl5 ag
   have a2:(Builtin.append_ #[22,22] 22 #[.slice J p.types.length E,.slice (Js U.heap.size) 1 1]).run Tryz.prog w7 = .ok (.slice (Js ga) (p.types.length+1) gc) w8:=by rw[a9];exact af
   have ar:=hide a9
   have av:A<a6:=Nxt.lt2 (Qa ap).1 n6 (Qa R).r.lt (by have q:=(Qa ap).2;simp only[List.length_append,List.length_cons]at q ⊢;omega)
   have z:StP rb g cap l w d i a 0 P (w8.setCell (Ja P 0) (.slice (Js ga) (p.types.length+1) gc)) (.slice (Js ga) (p.types.length+1) gc) (.slice L p.decls.length F) (.slice M p.comps.length G) (.slice N p.inits.length H) (.slice O p.clauses.length I) (.mk (p.types++[x]) p.decls p.comps p.inits p.clauses) a6 (n+1) 0 0:=⟨R9,G9,by have:=(Qa R).le;omega,by have:=k.ile;omega,k.i97,fun _=>⟨rfl,(Qa a4).1⟩,by have:=Qa aB;simp[lenP,Pg.types,Pg.decls,Pg.comps,Pg.inits,Pg.clauses]at this ⊢;omega⟩
   have HE:=hide (Ya z (Ya av (Ya (Qa a4).2.1 (Ya n6 (Ya (Qou (Qa a4).2.2.1 heq) (Qa a4).2.2.2)))))
   clear hX heq av n6 h6 k6 af a9 b7 a5 ag G9 R9 z k aE ax
   refine Qab rfl (fun _=>Qa ay) (fun K c=>?_)
   go_simp
   rw[<- Qa ar]
   clear ar
   refine c _ _ ?_
   clear c K
   refine Qab rfl (fun _=>Qa az) (fun K c=>Qaj rfl _ _ 22 rfl _ _ rfl rfl a2 (c _ _ ?_))
   clear c K a2
   refine Qae rfl (by kernel_rfl) (fun _ _ _=>by go_simp<;>rfl) ?_
   refine Qab rfl (fun _=>Qa aA) (fun K c=>?_)
   go_simp
   refine c _ _ ?_
   clear c K
   refine Qat (fun h=>by cases h) (au _ _ ?_)
   clear au PP
   go_wp2_with fail
   go_roundw
   case rel=>
    obtain⟨z,m2,m3,m4,m5,m6⟩:=Qa HE
    exact⟨(.mk (p.types++[x]) p.decls p.comps p.inits p.clauses),_,_,_,_,_,_,_,_,_,_,a6,(n+1),_,its,K2,hide (by simpa[Pg.types,Pg.decls,Pg.comps,Pg.inits,Pg.clauses] using z),hide ⟨m3,m4,m5,m6⟩⟩
   obtain⟨z,m2,_⟩:=Qa HE
   rw[Qan (Qa R).r l.length,Qan z.r l.length,if_pos rfl,if_pos rfl]
   have X:=(Qa R).r.lt
   have T:=z.r.lt
   omega
  |dc x0i=>
   obtain⟨rfl,K',rfl,aj⟩:=aC
   have ah:Nxt l A (sgQ [46,100,101,99,108] :: (K'++(K2++r))):=a3
   obtain⟨t,ht,hz,_⟩:=ah.at
   have gu:(t.kind != 0)=true:=by
    simp only[zk,sgQ,Prod.mk.injEq]at hz
    rw[hz.1];rfl
   have HT:=hide ht
   have ap:=hide (Ya a3 (show 0<(sgQ [46,100,101,99,108] :: K').length by simp))
   have a4:=hide (Ya (show n+1<=96 by omega) (Ya ad (Ya ae (show its.foldl addI (addI q (.dc x0i))=x0 from a0))))
   have ab:=hide ah
   clear ht hz a3 ad ae a0 ah
   have SI:=R
   go_wp2_with fail
   refine am.mono ?_
   clear am
   rintro u wq⟨rfl,rfl⟩
   have f:=Qao (Qa SI).r (Qa HT)
   unfold tkA at f
   go_wp2_with fail
   refine f.mono ?_
   clear f
   rintro u Y⟨rfl,D⟩
   have W:=hide ((Qa SI).call (Kp.of_below D) ((Qa SI).r.later D))
   clear D
   have B:=Qce (Qa W).r (Qa ab) [125]
   rw[show isSg (sgQ [46,100,101,99,108]) [125]=false by decide]at B
   go_wp2_with fail
   rename_i c
   refine c _ _ ?_
   clear c
   go_wp2_with fail
   refine B.mono ?_
   clear B
   rintro u Z⟨rfl,C⟩
   have o:=hide ((Qa W).call (Kp.of_below C) ((Qa W).r.later C))
   clear C
   obtain⟨aH,aI,aJ,aK,aL,aM,qf⟩:=cl6 (Qa o).r.box
   obtain⟨w3,a8⟩:=JE (Z.setCell (Ja rb 3) (Ji ((n:Int)+1)))
   have h3:Rr rb g cap l w3 A d (n+1) 0 0:=by rw[a8];exact(Qa o).r.setI (i':=n+1) (by omega)
   have G3:PgB rb g w P w3 (.slice J p.types.length E) (.slice L p.decls.length F) (.slice M p.comps.length G) (.slice N p.inits.length H) (.slice O p.clauses.length I) p:=by rw[a8];exact(Qa o).b.call (Kp.set _ _ _ _)
   have aB:=hide (Qa o).ln
   have aq:=hide a8
   have b5:¬((96:Int)<(n:Int)+1):=by omega
   have S3:Hid (StP rb g cap l w d i a 0 P w3 (.slice J p.types.length E) (.slice L p.decls.length F) (.slice M p.comps.length G) (.slice N p.inits.length H) (.slice O p.clauses.length I) p A (n+1) 0 0):=⟨h3,G3,(Qa o).le,by have:=(Qa o).ile;omega,by omega,fun _=>⟨rfl,by omega⟩,by have:=(Qa o).ln;omega⟩
   have f:=Qao (Qa S3).r (Qa HT)
   unfold tkA at f
   clear h3 G3 a8
   go_wp2_with fail
   rw[<- Qa aq]
   clear aq aH aI aJ aK aL aM qf
   refine f.mono ?_
   clear f
   rintro u w4⟨rfl,b4⟩
   have S4:=hide ((Qa S3).call (Kp.of_below b4) ((Qa S3).r.later b4))
   clear b4
   go_wp2_with fail
   rename_i c
   refine c _ _ ?_
   clear c
   have Q:=Qdo (s:=[46,116,121,112,101]) (Qa S4).r (Qa ab) (by decide)
   go_wp2_with fail
   refine Q.mono ?_
   clear Q
   rintro u w5⟨_,aS,rfl,rfl,a7,aw,V⟩
   have S:aS=A:=Nat.le_antisymm (Nxt.le2 V (Qa ab) a7.lt (Nat.le_refl _)) (Nxt.le2 (Qa ab) V (Qa S4).r.lt (Nat.le_refl _))
   rw[S]at a7 V
   clear S
   have S5:=hide ((Qa S4).call aw a7)
   have ao:=hide V
   clear a7 aw V
   have Q:=Qde (Qa S5).r (Qa ao)
   go_wp2_with fail
   refine Q.mono ?_
   clear Q
   rintro u wD⟨_,aN,rfl,rfl,al,aF,ak⟩
   have S:aN=A+1:=by
    have X:=(Qa ao).len
    have T:=ak.len
    have q3:=(Qa S5).r.lt
    have q4:=al.lt
    simp only[List.length_cons]at X
    omega
   rw[S]at al ak
   clear S
   have S6:=hide ((Qa S5).mayT aF al)
   have aO:=hide ak
   clear al aF ak
   have SD:=hide ((Qa S6).call (W':=wD.drew) (Kp.of_below (Below.refl _ wD).drew) ((Qa S6).r.later (Below.refl _ wD).drew))
   have f:=aj _ _ (t.at_:Int) (Qa SD).r (Qa aO)
   go_wp2_with fail
   refine Qaq (m:=8) (ml:=[(0,1),(1,2),(2,1),(3,1),(4,0),(5,0),(6,0),(7,1),(8,0)]) (fun ff w'=>ff=false->w'.heap[P]?=some (.cells #[.slice J p.types.length E,.slice L p.decls.length F,.slice M p.comps.length G,.slice N p.inits.length H,.slice O p.clauses.length I] 28 (0,0))) mixedO (by kernel_rfl) rfl (by rfl) (by kernel_rfl) (fun PP au=>?_)
   refine Qae rfl (by kernel_rfl) (fun _ _ _=>by go_simp<;>rfl) ?_
   refine Qax (v:=?_) rfl (by kernel_rfl) (fun w' hw=>?_) ?_
   rotate_left
   ·(obtain⟨bi,bj,bk,bl,bm,zf⟩:=cl5 (hw rfl);go_simp<;>rfl)
   refine Qae rfl (by kernel_rfl) (fun _ _ _=>by go_simp<;>rfl) ?_
   refine Qae rfl (by kernel_rfl) (fun _ _ _=>by go_simp<;>rfl) ?_
   refine Qab rfl (fun _=>(Qa SD).b.p5.box) (fun K c=>?_)
   go_simp
   refine f.mono ?_
   clear f
   rintro u U⟨_,a6,rfl,⟨x,⟨xa,xn,xc,rfl,hX⟩,heq⟩,h6,k6,n6⟩
   show K _ _
   refine c _ _ ?_
   clear c K
   have k:=Qa SD
   have aE:=k.b.x1
   have ax:=k.b.r1
   obtain⟨ga,gc,w8,af,ag,G9,R9⟩:=k.b.more1 k6 h6 (x:=x) (cs:=[str x.name,.slice xa xn xc,.bool x.input,.bool x.output,Ji x.at_]) rfl (by simp[Value.oneCell',str]) ⟨_,_,_,rfl,hX⟩ (by have:=k.i97;have:=k.ln;simp only[lenP]at this;omega)
   obtain⟨w7,a9⟩:=JE (U.alloc (.cells #[str x.name,.slice xa xn xc,.bool x.input,.bool x.output,Ji x.at_] 63))
   have b7:Below U.heap.size U w7:=by rw[a9];exact(Below.refl _ U).alloc (Nat.le_refl _) _
   have a5:=k6.keep k.b.p5.box (by omega)
   have ay:=hide a5
   have az:=hide ((b7.block _ (Qaa a5)).trans a5)
   have aA:=hide ag
   obtain⟨bd,be,bf,bg,bh,uf⟩:=cl5 ag
   have a2:(Builtin.append_ #[23,23] 23 #[.slice L p.decls.length F,.slice (Js U.heap.size) 1 1]).run Tryz.prog w7 = .ok (.slice (Js ga) (p.decls.length+1) gc) w8:=by rw[a9];exact af
   have ar:=hide a9
   have av:A<a6:=Nxt.lt2 (Qa ap).1 n6 (Qa R).r.lt (by have q:=(Qa ap).2;simp only[List.length_append,List.length_cons]at q ⊢;omega)
   have z:StP rb g cap l w d i a 0 P (w8.setCell (Ja P 1) (.slice (Js ga) (p.decls.length+1) gc)) (.slice J p.types.length E) (.slice (Js ga) (p.decls.length+1) gc) (.slice M p.comps.length G) (.slice N p.inits.length H) (.slice O p.clauses.length I) (.mk p.types (p.decls++[x]) p.comps p.inits p.clauses) a6 (n+1) 0 0:=⟨R9,G9,by have:=(Qa R).le;omega,by have:=k.ile;omega,k.i97,fun _=>⟨rfl,(Qa a4).1⟩,by have:=Qa aB;simp[lenP,Pg.types,Pg.decls,Pg.comps,Pg.inits,Pg.clauses]at this ⊢;omega⟩
   have HE:=hide (Ya z (Ya av (Ya (Qa a4).2.1 (Ya n6 (Ya (Qov (Qa a4).2.2.1 heq) (Qa a4).2.2.2)))))
   clear hX heq av n6 h6 k6 af a9 b7 a5 ag G9 R9 z k aE ax
   refine Qab rfl (fun _=>Qa ay) (fun K c=>?_)
   go_simp
   rw[<- Qa ar]
   clear ar
   refine c _ _ ?_
   clear c K
   refine Qab rfl (fun _=>Qa az) (fun K c=>Qaj rfl _ _ 23 rfl _ _ rfl rfl a2 (c _ _ ?_))
   clear c K a2
   refine Qae rfl (by kernel_rfl) (fun _ _ _=>by go_simp<;>rfl) ?_
   refine Qab rfl (fun _=>Qa aA) (fun K c=>?_)
   go_simp
   refine c _ _ ?_
   clear c K
   refine Qat (fun h=>by cases h) (au _ _ ?_)
   clear au PP
   go_wp2_with fail
   go_roundw
   case rel=>
    obtain⟨z,m2,m3,m4,m5,m6⟩:=Qa HE
    exact⟨(.mk p.types (p.decls++[x]) p.comps p.inits p.clauses),_,_,_,_,_,_,_,_,_,_,a6,(n+1),_,its,K2,hide (by simpa[Pg.types,Pg.decls,Pg.comps,Pg.inits,Pg.clauses] using z),hide ⟨m3,m4,m5,m6⟩⟩
   obtain⟨z,m2,_⟩:=Qa HE
   rw[Qan (Qa R).r l.length,Qan z.r l.length,if_pos rfl,if_pos rfl]
   have X:=(Qa R).r.lt
   have T:=z.r.lt
   omega
  |co x0i=>exact aC.elim
  |ini x0i=>exact aC.elim
  |cl x0i=>
   obtain⟨rfl,⟨s,K',rfl⟩,aj⟩:=aC
   have ah:Nxt l A (nmR s :: (K'++(K2++r))):=a3
   obtain⟨t,ht,hz,_⟩:=ah.at
   have gu:(t.kind != 0)=true:=by
    simp only[zk,nmR,Prod.mk.injEq]at hz
    rw[hz.1];rfl
   have HT:=hide ht
   have ap:=hide (Ya a3 (show 0<(nmR s :: K').length by simp))
   have a4:=hide (Ya (show n+1<=96 by omega) (Ya ad (Ya ae (show its.foldl addI (addI q (.cl x0i))=x0 from a0))))
   have ab:=hide ah
   clear ht hz a3 ad ae a0 ah
   have SI:=R
   go_wp2_with fail
   refine am.mono ?_
   clear am
   rintro u wq⟨rfl,rfl⟩
   have f:=Qao (Qa SI).r (Qa HT)
   unfold tkA at f
   go_wp2_with fail
   refine f.mono ?_
   clear f
   rintro u Y⟨rfl,D⟩
   have W:=hide ((Qa SI).call (Kp.of_below D) ((Qa SI).r.later D))
   clear D
   have B:=Qce (Qa W).r (Qa ab) [125]
   rw[show isSg (nmR s) [125]=false from Qed _ _]at B
   go_wp2_with fail
   rename_i c
   refine c _ _ ?_
   clear c
   go_wp2_with fail
   refine B.mono ?_
   clear B
   rintro u Z⟨rfl,C⟩
   have o:=hide ((Qa W).call (Kp.of_below C) ((Qa W).r.later C))
   clear C
   obtain⟨aH,aI,aJ,aK,aL,aM,qf⟩:=cl6 (Qa o).r.box
   obtain⟨w3,a8⟩:=JE (Z.setCell (Ja rb 3) (Ji ((n:Int)+1)))
   have h3:Rr rb g cap l w3 A d (n+1) 0 0:=by rw[a8];exact(Qa o).r.setI (i':=n+1) (by omega)
   have G3:PgB rb g w P w3 (.slice J p.types.length E) (.slice L p.decls.length F) (.slice M p.comps.length G) (.slice N p.inits.length H) (.slice O p.clauses.length I) p:=by rw[a8];exact(Qa o).b.call (Kp.set _ _ _ _)
   have aB:=hide (Qa o).ln
   have aq:=hide a8
   have b5:¬((96:Int)<(n:Int)+1):=by omega
   have S3:Hid (StP rb g cap l w d i a 0 P w3 (.slice J p.types.length E) (.slice L p.decls.length F) (.slice M p.comps.length G) (.slice N p.inits.length H) (.slice O p.clauses.length I) p A (n+1) 0 0):=⟨h3,G3,(Qa o).le,by have:=(Qa o).ile;omega,by omega,fun _=>⟨rfl,by omega⟩,by have:=(Qa o).ln;omega⟩
   have f:=Qao (Qa S3).r (Qa HT)
   unfold tkA at f
   clear h3 G3 a8
   go_wp2_with fail
   rw[<- Qa aq]
   clear aq aH aI aJ aK aL aM qf
   refine f.mono ?_
   clear f
   rintro u w4⟨rfl,b4⟩
   have S4:=hide ((Qa S3).call (Kp.of_below b4) ((Qa S3).r.later b4))
   clear b4
   go_wp2_with fail
   rename_i c
   refine c _ _ ?_
   clear c
   have Q:=Qdo (s:=[46,116,121,112,101]) (Qa S4).r (Qa ab) (Qed _ _)
   go_wp2_with fail
   refine Q.mono ?_
   clear Q
   rintro u w5⟨_,aS,rfl,rfl,a7,aw,V⟩
   have S:aS=A:=Nat.le_antisymm (Nxt.le2 V (Qa ab) a7.lt (Nat.le_refl _)) (Nxt.le2 (Qa ab) V (Qa S4).r.lt (Nat.le_refl _))
   rw[S]at a7 V
   clear S
   have S5:=hide ((Qa S4).call aw a7)
   have ao:=hide V
   clear a7 aw V
   have Q:=Qdo (s:=[46,100,101,99,108]) (Qa S5).r (Qa ao) (Qed _ _)
   go_wp2_with fail
   refine Q.mono ?_
   clear Q
   rintro u wD⟨_,bp,rfl,rfl,al,aF,ak⟩
   have S:bp=A:=Nat.le_antisymm (Nxt.le2 ak (Qa ao) al.lt (Nat.le_refl _)) (Nxt.le2 (Qa ao) ak (Qa S5).r.lt (Nat.le_refl _))
   rw[S]at al ak
   clear S
   have S6:=hide ((Qa S5).call aF al)
   have aO:=hide ak
   clear al aF ak
   have B:=Qce (Qa S6).r (Qa aO) [46,99,111,109,112]
   rw[show isSg (nmR s) [46,99,111,109,112]=false from Qed _ _]at B
   go_wp2_with fail
   refine B.mono ?_
   clear B
   rintro u w7⟨rfl,b7⟩
   have S7:=hide ((Qa S6).call (Kp.of_below b7) ((Qa S6).r.later b7))
   have aR:=aO
   clear b7
   have Q:=Qdo (s:=[46,105,110,105,116]) (Qa S7).r (Qa aR) (Qed _ _)
   go_wp2_with fail
   refine Q.mono ?_
   clear Q
   rintro u wL⟨_,bq,rfl,rfl,aP,bb,aG⟩
   have S:bq=A:=Nat.le_antisymm (Nxt.le2 aG (Qa aR) aP.lt (Nat.le_refl _)) (Nxt.le2 (Qa aR) aG (Qa S7).r.lt (Nat.le_refl _))
   rw[S]at aP aG
   clear S
   have S8:=hide ((Qa S7).call bb aP)
   have bo:=hide aG
   clear aP bb aG
   have SD:=hide ((Qa S8).call (W':=wL.drew) (Kp.of_below (Below.refl _ wL).drew) ((Qa S8).r.later (Below.refl _ wL).drew))
   have f:=aj _ _ (Qa SD).r (Qa bo)
   go_wp2_with fail
   refine Qaq (m:=7) (ml:=[(0,1),(1,2),(2,1),(3,0),(4,0),(5,0),(6,1),(7,0)]) (fun ff w'=>ff=false->w'.heap[P]?=some (.cells #[.slice J p.types.length E,.slice L p.decls.length F,.slice M p.comps.length G,.slice N p.inits.length H,.slice O p.clauses.length I] 28 (0,0))) mixedO (by kernel_rfl) rfl (by rfl) (by kernel_rfl) (fun PP au=>?_)
   refine Qae rfl (by kernel_rfl) (fun _ _ _=>by go_simp<;>rfl) ?_
   refine Qax (v:=?_) rfl (by kernel_rfl) (fun w' hw=>?_) ?_
   rotate_left
   ·(obtain⟨bi,bj,bk,bl,bm,zf⟩:=cl5 (hw rfl);go_simp<;>rfl)
   refine Qae rfl (by kernel_rfl) (fun _ _ _=>by go_simp<;>rfl) ?_
   refine Qab rfl (fun _=>(Qa SD).b.p5.box) (fun K c=>?_)
   go_simp
   refine f.mono ?_
   clear f
   rintro u U⟨_,a6,rfl,⟨x,⟨aa,an,ac,ba,bn,bc,rfl,hX⟩,heq⟩,h6,k6,n6⟩
   show K _ _
   refine c _ _ ?_
   clear c K
   have k:=Qa SD
   have aE:=k.b.x1
   have ax:=k.b.r1
   obtain⟨ga,gc,w8,af,ag,G9,R9⟩:=k.b.more4 k6 h6 (x:=x) (cs:=[str x.head.rel,.slice aa an ac,Ji x.head.at_,.slice ba bn bc,Ji x.at_]) rfl (by simp[Value.oneCell',str]) ⟨_,_,_,_,_,_,rfl,hX.1,hX.2⟩ (by have:=k.i97;have:=k.ln;simp only[lenP]at this;omega)
   obtain⟨w7,a9⟩:=JE (U.alloc (.cells #[str x.head.rel,.slice aa an ac,Ji x.head.at_,.slice ba bn bc,Ji x.at_] 45))
   have b7:Below U.heap.size U w7:=by rw[a9];exact(Below.refl _ U).alloc (Nat.le_refl _) _
   have a5:=k6.keep k.b.p5.box (by omega)
   have ay:=hide a5
   have az:=hide ((b7.block _ (Qaa a5)).trans a5)
   have aA:=hide ag
   obtain⟨bd,be,bf,bg,bh,uf⟩:=cl5 ag
   have a2:(Builtin.append_ #[26,26] 26 #[.slice O p.clauses.length I,.slice (Js U.heap.size) 1 1]).run Tryz.prog w7 = .ok (.slice (Js ga) (p.clauses.length+1) gc) w8:=by rw[a9];exact af
   have ar:=hide a9
   have av:A<a6:=Nxt.lt2 (Qa ap).1 n6 (Qa R).r.lt (by have q:=(Qa ap).2;simp only[List.length_append,List.length_cons]at q ⊢;omega)
   have z:StP rb g cap l w d i a 0 P (w8.setCell (Ja P 4) (.slice (Js ga) (p.clauses.length+1) gc)) (.slice J p.types.length E) (.slice L p.decls.length F) (.slice M p.comps.length G) (.slice N p.inits.length H) (.slice (Js ga) (p.clauses.length+1) gc) (.mk p.types p.decls p.comps p.inits (p.clauses++[x])) a6 (n+1) 0 0:=⟨R9,G9,by have:=(Qa R).le;omega,by have:=k.ile;omega,k.i97,fun _=>⟨rfl,(Qa a4).1⟩,by have:=Qa aB;simp[lenP,Pg.types,Pg.decls,Pg.comps,Pg.inits,Pg.clauses]at this ⊢;omega⟩
   have HE:=hide (Ya z (Ya av (Ya (Qa a4).2.1 (Ya n6 (Ya (Qow (Qa a4).2.2.1 heq) (Qa a4).2.2.2)))))
   clear hX heq av n6 h6 k6 af a9 b7 a5 ag G9 R9 z k aE ax
   refine Qab rfl (fun _=>Qa ay) (fun K c=>?_)
   go_simp
   rw[<- Qa ar]
   clear ar
   refine c _ _ ?_
   clear c K
   refine Qab rfl (fun _=>Qa az) (fun K c=>Qaj rfl _ _ 26 rfl _ _ rfl rfl a2 (c _ _ ?_))
   clear c K a2
   refine Qae rfl (by kernel_rfl) (fun _ _ _=>by go_simp<;>rfl) ?_
   refine Qab rfl (fun _=>Qa aA) (fun K c=>?_)
   go_simp
   refine c _ _ ?_
   clear c K
   refine Qat (fun h=>by cases h) (au _ _ ?_)
   clear au PP
   go_wp2_with fail
   go_roundw
   case rel=>
    obtain⟨z,m2,m3,m4,m5,m6⟩:=Qa HE
    exact⟨(.mk p.types p.decls p.comps p.inits (p.clauses++[x])),_,_,_,_,_,_,_,_,_,_,a6,(n+1),_,its,K2,hide (by simpa[Pg.types,Pg.decls,Pg.comps,Pg.inits,Pg.clauses] using z),hide ⟨m3,m4,m5,m6⟩⟩
   obtain⟨z,m2,_⟩:=Qa HE
   rw[Qan (Qa R).r l.length,Qan z.r l.length,if_pos rfl,if_pos rfl]
   have X:=(Qa R).r.lt
   have T:=z.r.lt
   omega
end
end Go.Proofs.YtmfpbepifnedjaaGreat
