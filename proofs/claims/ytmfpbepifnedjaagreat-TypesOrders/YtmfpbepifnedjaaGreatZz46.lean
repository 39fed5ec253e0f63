/- The document's reader by the tokens that are next. -/
import Derived.Test.YtmfpbepifnedjaaGreatZz01
import Derived.Test.YtmfpbepifnedjaaGreatZz45
import Derived.Test.YtmfpbepifnedjaaGreatZz14
import Derived.Test.YtmfpbepifnedjaaGreatZz15
import Derived.Test.YtmfpbepifnedjaaGreatZz25
set_option maxRecDepth 100000
set_option maxHeartbeats 32000000
namespace Go.Proofs.YtmfpbepifnedjaaGreat
section
open Go.RowKit Go.Maps
theorem eqA_of{t s:Txt}{ks xs:List Ex}{a b:Int}(h:t=s)(h2:eqL eqE ks xs=true):eqA ⟨t,ks,a⟩ ⟨s,xs,b⟩=true:=by
 unfold eqA
 simp[h,h2]
theorem Qki{rb g cap a d i:Nat}{l:List Tok}{w:World}(h:Rr rb g cap l w a d i 0 0){s:Txt}{K:Ex->List Tok}{xs:List Ex}(hx:∀x∈xs,YE 108 rb g cap l d Fole (K x) x /\ ∃t0 ks,K x=t0 :: ks/\isSg t0 [41]=false)(hm:xs.length<=8){rest:List Tok}(hA:Nxt l a (nmR s :: sgQ [40] :: (joinQ (xs.map K)++sgQ [41] :: rest))):
  Calls Tryz.prog 93 #[.pointer (Js rb)] w fun en w'=>XB rb g cap l w d (fun w' v=>∃x:Atm,VAm (fun b=>w.heap.size<=b) w' v x/\eqA x ⟨s,xs,0⟩=true) rest i en w':=by
 have o:Below w.heap.size w (w.alloc (.cells #[Je,Jn,Ji 0] 42)):=(Below.refl _ w).alloc (Nat.le_refl _) _
 have y:(w.alloc (.cells #[Je,Jn,Ji 0] 42)).heap[w.heap.size]?=some (.cells #[Je,Jn,Ji 0] 42 (0,0)):=heap_alloc_new w _
 have H:(w.alloc (.cells #[Je,Jn,Ji 0] 42)).heap.size=w.heap.size+1:=by simp
 obtain⟨t,U,hz,hn⟩:=hA.at
 simp only[zk,Prod.mk.injEq]at hz
 obtain⟨a6,a8,af⟩:=hz
 have P:=hide (Ya a6 (Ya a8 hn))
 have HT:=hide U
 have a9:Hid (∀w',Below w.heap.size w w'->Calls Tryz.prog 22 #[.pointer (Js rb)] w' fun en f=>en = .returned (.agg #[Ji t.kind,str t.text,Ji t.num,Ji (t.at_:Int)])/\Below w'.heap.size w' f):=fun w' bb=>Qao (h.later bb) U
 have O:=hide h
 have HX:=hide (Ya hx hm)
 have H0:=hide (Ya o (Ya y H))
 clear h U a6 a8 af hn hA hx hm o y H
 go_enter Tryz.func93,Tryz.ntmps93
 go_wp2_with fail
 refine(Qa a9 _ (Qa H0).1).mono ?_
 rintro en w1⟨rfl,E⟩
 obtain⟨o,y,H⟩:=Qa H0
 have M:=o.trans (E.mono (by omega))
 have z:=(E.block _ (by omega)).trans y
 have a5:=Qkg ((Qa O).later M) (Qa HT) (Qa P).1
 have ab:=Qaa (Qa O).box
 have aa:=(Qa O).row.lt
 have ac:=E.size
 have K1:=hide (Ya (Kp.of_below (rb:=rb) M) (Ya z (show rb<w.heap.size/\g<w.heap.size/\w.heap.size<w1.heap.size by omega)))
 clear E o y H M z ab aa ac
 go_wp2_with fail
 rename_i hK
 refine hK _ _ ?_
 clear hK
 go_wp2_with fail
 refine a5.mono ?_
 clear a5
 rintro en f⟨_,rfl,rfl,h2,G⟩
 obtain⟨k1,z,Q,R,S⟩:=Qa K1
 have ad:=G.size
 have n2:=G.keep z (by omega)
 obtain⟨k,D⟩:=JF f.heap.size
 obtain⟨j,m⟩:=JE (f.alloc (.cells #[str t.text,Jn,Ji (t.at_:Int)] 42))
 have F:Below f.heap.size f j:=by rw[m];exact(Below.refl _ f).alloc (Nat.le_refl _) _
 have A:j.heap[k]?=some (.cells #[str t.text,Jn,Ji (t.at_:Int)] 42 (0,0)):=by rw[m,<- D];exact heap_alloc_new f _
 have I:j.heap.size=k+1:=by rw[m,<- D];simp
 have C:=(F.block _ (by omega)).trans n2
 have a3:=Qod (h2.later F) Qha Qnc (Qa HX).1 (Qa HX).2 (Qa P).2.2
 have K3:=hide (Ya ((k1.trans G).trans (Kp.of_below F)) (Ya A (Ya C (Ya (show rb<w.heap.size/\g<w.heap.size/\w.heap.size<k by omega) I))))
 have L:=hide (Ya m D)
 clear k1 z Q R S ad n2 D m F A I C h2 G K1
 go_wp2_with fail
 rw[<- (Qa L).1,(Qa L).2]
 clear L
 refine a3.mono ?_
 clear a3
 rintro en Z⟨_,a7,rfl,⟨ks,N,heq⟩,h7,p,a0⟩
 obtain⟨r,u,rfl⟩:=N.sl
 obtain⟨k3,A,C,⟨Q,R,S⟩,I⟩:=Qa K3
 have ae:=p.size
 have V:=p.keep A (by omega)
 have q7:=p.keep C (by omega)
 have a4:w.heap.size≠k:=by omega
 obtain⟨e,n⟩:=JE (Z.setCell (Ja k 1) (.slice r ks.length u))
 have n8:e.heap[k]?=some (.cells #[str t.text,.slice r ks.length u,Ji (t.at_:Int)] 42 (0,0)):=by rw[n];exact(Qah V 1 _).trans rfl
 have B:∀q,q≠k->e.heap[q]?=Z.heap[q]?:=fun q hq=>by rw[n,hpS hq]
 have s8:e.heap.size=Z.heap.size:=by rw[n];simp
 have q8:=(B _ a4).trans q7
 have k8:Kp rb w e:=by rw[n];exact(k3.trans p).set2 (by omega)
 have h8:=h7.move (w':=e) (by omega) (B rb (by omega)) (B g (by omega))
 have a1:LsAt PE 5 (fun b=>j.heap.size<=b) e (.slice r ks.length u) ks:=N.same Qaf (by omega) (fun b c hl=>B b (by have a2:j.heap.size<=b:=c;omega))
 have T:=Ya heq a0
 obtain⟨ag,aj,ah,xf⟩:=cl3 V
 obtain⟨z0,z1,z2,zf⟩:=cl3 n8
 obtain⟨y0,y1,ai,yf⟩:=cl3 q8
 have HF:Hid (∀W X Y,XB rb g cap l w d (fun w' v=>∃x:Atm,VAm (fun b=>w.heap.size<=b) w' v x/\eqA x ⟨s,xs,0⟩=true) rest i (.returned (.agg #[str t.text,.slice r ks.length u,Ji (t.at_:Int)])) (((e.setCell (Ja w.heap.size 0) W).setCell (Ja w.heap.size 1) X).setCell (Ja w.heap.size 2) Y)):=fun W X Y=>by
  have J:∀b,b≠w.heap.size->(((e.setCell (Ja w.heap.size 0) W).setCell (Ja w.heap.size 1) X).setCell (Ja w.heap.size 2) Y).heap[b]?=e.heap[b]?:=fun b c=>by
   rw[hpS c,hpS c,hpS c]
  exact⟨_,_,rfl,⟨⟨t.text,ks,t.at_⟩,⟨_,_,_,rfl,(a1.same Qaf (by simp[World.setCell]) (fun b c hl=>J b (by have a2:j.heap.size<=b:=c;omega))).mono Qaf (fun b _ c=>by have a2:j.heap.size<=b:=c;omega)⟩,eqA_of (Qa P).2.1 T.1⟩,h8.move (by simp[World.setCell]) (J rb (by omega)) (J g (by omega)),((k8.set2 (by omega)).set2 (by omega)).set2 (by omega),T.2⟩
 clear h7 p N heq a0 k3 A C Q R S I ae V q7 n8 B s8 q8 k8 h8 a1 T K3 ag ah zf a4
 subst n
 go_wp2_with fail
 refine bodyPost_ret (v:=.agg #[str t.text,.slice r ks.length u,Ji t.at_]) (by simp[results,Tryz.results93,go_sem,y0,y1,ai]) rfl ?_
 exact Qa HF _ _ _
def ltX(w:World)(w':World)(v:Value)(x:Lt):Prop:=∃(c0 c1 c2 c3 c4 c5 c6 c7 c8 c9 c10 c11 c12 c13 c14 c15:Value),v = .agg #[c0,c1,c2,c3,c4,c5,c6,c7,c8,c9,c10,c11,c12,c13,c14,c15]/\PLt (fun b=>w.heap.size<=b) w' [c0,c1,c2,c3,c4,c5,c6,c7,c8,c9,c10,c11,c12,c13,c14,c15] x
theorem eqLt_of{am:Atm}{s:Txt}{xs:List Ex}(k:Int)(p:Int)(h:eqA am ⟨s,xs,0⟩=true):eqLt ⟨k,am,[],.none,.none,p⟩ ⟨k,⟨s,xs,0⟩,[],.none,.none,0⟩=true:=by
 unfold eqLt
 rw[h]
 simp[Ex.none,eqE,eqEs]
theorem Qed(s t:Txt):isSg (nmR s) t=false:=by simp[isSg,nmR]
attribute [local go_sem ↓] Qbh Qbo
theorem Qrv{rb g cap a d i:Nat}{l:List Tok}{w:World}(h:Rr rb g cap l w a d i 0 0){s:Txt}{K:Ex->List Tok}{xs:List Ex}(hx:∀x∈xs,YE 108 rb g cap l d Fole (K x) x /\ ∃t0 ks,K x=t0 :: ks/\isSg t0 [41]=false)(hm:xs.length<=8){rest:List Tok}(hA:Nxt l a (nmR s :: sgQ [40] :: (joinQ (xs.map K)++sgQ [41] :: rest))):
  Calls Tryz.prog 94 #[.pointer (Js rb)] w fun en w'=>XB rb g cap l w d (fun w' v=>∃x:Lt,ltX w w' v x/\eqLt x ⟨1,⟨s,xs,0⟩,[],.none,.none,0⟩=true) rest i en w':=by
 have I:Below w.heap.size w (w.alloc (.cells #[Ji 0,Je,Jn,Ji 0,Je,Ji 0,Ji 0,Je,Jn,Ji 0,Ji 0,Ji 0,Je,Jn,Ji 0,Ji 0] 61)):=(Below.refl _ w).alloc (Nat.le_refl _) _
 have U:(w.alloc (.cells #[Ji 0,Je,Jn,Ji 0,Je,Ji 0,Ji 0,Je,Jn,Ji 0,Ji 0,Ji 0,Je,Jn,Ji 0,Ji 0] 61)).heap[w.heap.size]?=some (.cells #[Ji 0,Je,Jn,Ji 0,Je,Ji 0,Ji 0,Je,Jn,Ji 0,Ji 0,Ji 0,Je,Jn,Ji 0,Ji 0] 61 (0,0)):=heap_alloc_new w _
 have s0:(w.alloc (.cells #[Ji 0,Je,Jn,Ji 0,Je,Ji 0,Ji 0,Je,Jn,Ji 0,Ji 0,Ji 0,Je,Jn,Ji 0,Ji 0] 61)).heap.size=w.heap.size+1:=by simp
 obtain⟨t,ht,hz,hn⟩:=hA.at
 have HA:=hide hA
 have ad:=Qao (h.later I) ht
 unfold tkA at ad
 have b6:=Qaa h.box
 have b4:=h.row.lt
 have HH:=hide h
 have HT:=hide ht
 have HX:=hide (Ya hx hm)
 have H0:=hide (Ya I (Ya U s0))
 clear h ht hz hn hA hx hm I U s0
 go_enter Tryz.func94,Tryz.ntmps94
 go_wp2_with fail
 refine ad.mono ?_
 clear ad
 rintro en m⟨rfl,b1⟩
 obtain⟨I,U,s0⟩:=Qa H0
 obtain⟨O,X⟩:=JE (m.alloc (.cells #[Ji 1,Je,Jn,Ji 0,Je,Ji 0,Ji 0,Je,Jn,Ji 0,Ji 0,Ji 0,Je,Jn,Ji 0,Ji (t.at_:Int)] 61))
 have aO:=b1.size
 have b3:Below m.heap.size m O:=by rw[X];exact(Below.refl _ m).alloc (Nat.le_refl _) _
 have m3:O.heap[m.heap.size]?=some (.cells #[Ji 1,Je,Jn,Ji 0,Je,Ji 0,Ji 0,Je,Jn,Ji 0,Ji 0,Ji 0,Je,Jn,Ji 0,Ji (t.at_:Int)] 61 (0,0)):=by rw[X];exact heap_alloc_new m _
 have z3:O.heap[w.heap.size]?=some (.cells #[Ji 0,Je,Jn,Ji 0,Je,Ji 0,Ji 0,Je,Jn,Ji 0,Ji 0,Ji 0,Je,Jn,Ji 0,Ji 0] 61 (0,0)):=((b3.block _ (by omega)).trans (b1.block _ (by omega))).trans U
 have a7:Below w.heap.size w O:=(I.trans (b1.mono (by omega))).trans (b3.mono (by omega))
 have S3:(ltStore (.pointer (Js m.heap.size)) (.agg #[Ji 1,Je,Jn,Ji 0,Je,Ji 0,Ji 0,Je,Jn,Ji 0,Ji 0,Ji 0,Je,Jn,Ji 0,Ji (t.at_:Int)])).run Tryz.prog (m.alloc (.cells #[Ji 0,Je,Jn,Ji 0,Je,Ji 0,Ji 0,Je,Jn,Ji 0,Ji 0,Ji 0,Je,Jn,Ji 0,Ji 0] 61)) = .ok () O:=by rw[X];exact run_storeAt_new m 61 _ _ Qdn rfl (by simp[Value.oneCell'])
 obtain⟨ne,ab⟩:=JF m.heap.size
 have al:=Qdo (s:=[33]) ((Qa HH).later a7) (Qa HA) (Qed _ _)
 rw[ab]at m3
 have Z:=hide (Ya (Kp.of_below (rb:=rb) a7) (Ya m3 z3))
 have A:=hide (show rb<w.heap.size/\g<w.heap.size/\w.heap.size<ne by omega)
 have HW:=hide ab
 clear I U s0 b1 X aO b3 m3 z3 a7 ab H0
 go_wp2_with fail
 rename_i j
 refine j _ _ ?_
 clear j
 go_wp2_with fail
 rw[Qa HW]
 clear S3
 refine al.mono ?_
 clear al
 rintro en w4⟨_,a4,rfl,rfl,h4,k4,n4⟩
 have aJ:=Qa A
 have m4:=k4.keep (Qa Z).2.1 (by omega)
 have H:=hide (Ya h4 (Ya ((Qa Z).1.trans k4) (Ya m4 (Ya (k4.keep (Qa Z).2.2 (by omega)) (Qaa m4)))))
 have ae:=hide n4
 clear h4 k4 aJ m4 n4 Z
 obtain⟨u,hu,zu,nu⟩:=(Qa ae).at
 obtain⟨v,J,D,_⟩:=nu.at
 simp only[zk,nmR,Prod.mk.injEq]at zu
 simp only[zk,sgQ,Prod.mk.injEq]at D
 have gu:(u.kind==1)=true:=by rw[zu.1];rfl
 have gv:(v.kind==4)=true:=by rw[D.1];rfl
 have gt:(v.text==[40])=true:=by rw[D.2.1];rfl
 have ao:l[min (a4+1) (l.length - 1)]?=some v:=by
  have hl:=(List.getElem?_eq_some_iff.1 J).1
  rw[Nat.min_eq_left (by omega)];exact J
 have HU:=hide hu
 have HV:=hide ao
 clear hu J ao zu D nu
 go_upto_region 6 with fail
 go_cut [32] from 17 to 32 (fun c wc=>c = .bool true/\Hid (Rr rb g cap l wc a4 d i 0 0/\Kp rb w wc/\wc.heap[ne]?=some (.cells #[Ji 1,Je,Jn,Ji 0,Je,Ji 0,Ji 0,Je,Jn,Ji 0,Ji 0,Ji 0,Je,Jn,Ji 0,Ji (t.at_:Int)] 61 (0,0))/\wc.heap[w.heap.size]?=some (.cells #[Ji 0,Je,Jn,Ji 0,Je,Ji 0,Ji 0,Je,Jn,Ji 0,Ji 0,Ji 0,Je,Jn,Ji 0,Ji 0] 61 (0,0))/\ne<wc.heap.size))
 case first=>
  have f:=Qao (Qa H).1 (Qa HU)
  unfold tkA at f
  go_wp2_with fail
  refine f.mono ?_
  clear f
  rintro en w5⟨rfl,P⟩
  have aK:=Qa A
  have m5:=(Kp.of_below (rb:=rb) P).keep (Qa H).2.2.1 (by omega)
  have z:=hide (Ya ((Qa H).1.later P) (Ya ((Qa H).2.1.trans (Kp.of_below P)) (Ya m5 (Ya ((Kp.of_below (rb:=rb) P).keep (Qa H).2.2.2.1 (by omega)) (Qaa m5)))))
  clear P aK m5
  go_wp2_with fail
  rename_i j
  refine j _ _ ?_
  clear j
  have f:=Qbx (Qa z).1 (Qa HV)
  unfold tkA at f
  go_wp2_with fail
  refine f.mono ?_
  clear f
  rintro en w7⟨rfl,Q⟩
  have a8:=Qa A
  have C:=(Kp.of_below (rb:=rb) Q).keep (Qa z).2.2.1 (by omega)
  have N:=hide (Ya ((Qa z).1.later Q) (Ya ((Qa z).2.1.trans (Kp.of_below Q)) (Ya C (Ya ((Kp.of_below (rb:=rb) Q).keep (Qa z).2.2.2.1 (by omega)) (Qaa C)))))
  clear Q a8 C
  go_wp2_with fail
  rename_i j
  refine j _ _ ?_
  clear j
  have f:=Qbx (Qa N).1 (Qa HV)
  unfold tkA at f
  go_wp2_with fail
  refine f.mono ?_
  clear f
  rintro en w8⟨rfl,R⟩
  have aL:=Qa A
  have m8:=(Kp.of_below (rb:=rb) R).keep (Qa N).2.2.1 (by omega)
  have H8:=hide (Ya ((Qa N).1.later R) (Ya ((Qa N).2.1.trans (Kp.of_below R)) (Ya m8 (Ya ((Kp.of_below (rb:=rb) R).keep (Qa N).2.2.2.1 (by omega)) (Qaa m8)))))
  clear R aL m8
  go_wp2_with fail
  rename_i j
  refine j _ _ ?_
  clear j
  go_wp2_with fail
  go_meet
  exact⟨rfl,H8⟩
 obtain⟨rfl,z⟩:=hcut
 obtain⟨w5,aP⟩:=JE wc
 subst aP
 clear H
 have a8:=Qa A
 obtain⟨h7,G,C,z7,aI⟩:=Qa z
 obtain⟨ap,aq,ar,au,av,aw,ax,ay,az,aA,a0,a1,a2,a3,a5,a6,xf⟩:=cl16 C
 obtain⟨n,o⟩:=JE w5
 have T:n.heap[ne]?=some (.cells #[Ji 1,Je,Jn,Ji 0,Je,Ji 0,Ji 0,Je,Jn,Ji 0,Ji 0,Ji 0,Je,Jn,Ji 0,Ji (t.at_:Int)] 61 (0,0)):=by rw[o];exact C
 have V:∀q,q≠ne->n.heap[q]?=w5.heap[q]?:=fun q _=>by rw[o]
 have sB:n.heap.size=w5.heap.size:=by rw[o]
 have ag:=h7.move (w':=n) (by omega) (V rb (by omega)) (V g (by omega))
 have S:Kp rb w n:=⟨by rw[o];exact G.os,by rw[o];exact G.tape,by rw[o];exact G.output,by rw[sB];exact G.size,fun q k hn=>(V q (by omega)).trans (G.block q k hn)⟩
 have ai:=Qki ag (Qa HX).1 (Qa HX).2 (Qa ae)
 have aH:=hide (Ya S (Ya T (Ya ((V _ (by omega)).trans z7) (show ne<n.heap.size by omega))))
 have af:=hide o
 clear h7 G C z7 aI a8 o T V sB ag S
 go_wp2_with fail
 rw[<- Qa af]
 clear af ap aq ar au av aw ax ay az aA a0 a1 a2 a3 a5 a6 xf
 refine ai.mono ?_
 clear ai
 rintro en w9⟨_,a9,rfl,⟨e,⟨p,y,r,rfl,aj⟩,heq⟩,J,k9,n9⟩
 obtain⟨S,T,zB,ak⟩:=Qa aH
 have aM:=Qa A
 have kv:=S.trans k9
 have mv:=k9.keep T (by omega)
 have D:=k9.keep zB (by omega)
 have hC:=Ya (eqLt_of 1 t.at_ heq) n9
 have E:=hide (Ya aj ak)
 clear S T zB ak aM k9 aj heq n9
 obtain⟨ap,aq,ar,au,av,aw,ax,ay,az,aA,a0,a1,a2,a3,a5,a6,xf⟩:=cl16 mv
 obtain⟨B,M⟩:=JE ((((w9.setCell (Ja ne 1) (str e.rel)).setCell (Ja ne 2) (.slice p y r)).setCell (Ja ne 3) (Ji e.at_)))
 have mX:B.heap[ne]?=some (.cells #[Ji 1,str e.rel,.slice p y r,Ji e.at_,Je,Ji 0,Ji 0,Je,Jn,Ji 0,Ji 0,Ji 0,Je,Jn,Ji 0,Ji (t.at_:Int)] 61 (0,0)):=by rw[M];exact(Qah (Qah (Qah mv 1 _) 2 _) 3 _).trans rfl
 have W:∀q,q≠ne->B.heap[q]?=w9.heap[q]?:=fun q k=>by rw[M,hpS k,hpS k,hpS k]
 have sX:B.heap.size=w9.heap.size:=by rw[M];simp
 obtain⟨e1,e2,e4⟩:=Qa A
 have zX:=(W w.heap.size (by omega)).trans D
 have L5:=Qkx mX
 have S5:=Qme (new:=#[Ji 1,str e.rel,.slice p y r,Ji e.at_,Je,Ji 0,Ji 0,Je,Jn,Ji 0,Ji 0,Ji 0,Je,Jn,Ji 0,Ji (t.at_:Int)]) zX rfl rfl (by simp[Value.oneCell',str])
 obtain⟨L,F⟩:=JE (B.setRow w.heap.size #[Ji 1,str e.rel,.slice p y r,Ji e.at_,Je,Ji 0,Ji 0,Je,Jn,Ji 0,Ji 0,Ji 0,Je,Jn,Ji 0,Ji (t.at_:Int)])
 rw[<- F]at S5
 have o6:∀q,q≠w.heap.size->L.heap[q]?=B.heap[q]?:=fun q k=>by rw[F];exact setRow_other _ _ _ _ k
 have s6:L.heap.size=B.heap.size:=by rw[F,size_setRow]
 have z6:L.heap[w.heap.size]?=some (.cells #[Ji 1,str e.rel,.slice p y r,Ji e.at_,Je,Ji 0,Ji 0,Je,Jn,Ji 0,Ji 0,Ji 0,Je,Jn,Ji 0,Ji (t.at_:Int)] 61 (0,0)):=by rw[F];exact setRow_heap _ _ _ _ _ _ zX
 have h6:=J.move (w':=L) (by omega) ((o6 rb (by omega)).trans (W rb (by omega))) ((o6 g (by omega)).trans (W g (by omega)))
 have kX:Kp rb w B:=by rw[M];exact(((kv.set2 (by omega)).set2 (by omega)).set2 (by omega))
 have k6:Kp rb w L:=by rw[F];exact kX.row (Nat.le_refl _)
 have Y:PLt (fun b=>w.heap.size<=b) L [Ji 1,str e.rel,.slice p y r,Ji e.at_,Je,Ji 0,Ji 0,Je,Jn,Ji 0,Ji 0,Ji 0,Je,Jn,Ji 0,Ji (t.at_:Int)] (⟨1,e,[],.none,.none,t.at_⟩):=⟨p,y,r,none,0,0,none,0,0,rfl,((Qa E).1.same Qaf (by have:=(Qa E).2;omega) (fun q k _=>(o6 q (by have aN:n.heap.size<=q:=k;have:=(Qa E).2;omega)).trans (W q (by have aN:n.heap.size<=q:=k;have:=(Qa E).2;omega)))).mono Qaf (fun b _ hb=>by have b2:n.heap.size<=b:=hb;have:=(Qa E).2;omega),Qds _ _,Qds _ _⟩
 have HF:=hide (Ya h6 (Ya k6 (Ya z6 (Ya Y (hC)))))
 clear J kv mv D mX W sX e1 e2 e4 zX F o6 s6 z6 h6 kX k6 Y hC E
 subst M
 go_wp2_with fail
 obtain⟨h6,k6,z6,Y,ah⟩:=Qa HF
 obtain⟨aQ,aR,aS,aT,aU,aV,aW,aX,aY,aZ,aB,aC,aD,aE,aF,aG,zf⟩:=cl16 z6
 refine bodyPost_ret (v:=.agg #[Ji 1,str e.rel,.slice p y r,Ji e.at_,Je,Ji 0,Ji 0,Je,Jn,Ji 0,Ji 0,Ji 0,Je,Jn,Ji 0,Ji (t.at_:Int)]) (by simp[results,Tryz.results94,go_sem,aQ,aR,aS,aT,aU,aV,aW,aX,aY,aZ,aB,aC,aD,aE,aF,aG]) rfl ?_
 exact⟨_,_,rfl,⟨_,⟨_,_,_,_,_,_,_,_,_,_,_,_,_,_,_,_,rfl,Y⟩,ah.1⟩,h6,k6,ah.2⟩
end
section
open Go.RowKit Go.Maps
theorem Nxt.le2{l:List Tok}{a b:Nat}{ks rs:List Tok}(h:Nxt l a ks)(h2:Nxt l b rs)(ha:a<l.length)(hl:rs.length<=ks.length):a<=b:=by
 have:=h.len
 have:=h2.len
 omega
theorem Nxt.lt2{l:List Tok}{a b:Nat}{ks rs:List Tok}(h:Nxt l a ks)(h2:Nxt l b rs)(ha:a<l.length)(hl:rs.length<ks.length):a<b:=by
 have:=h.len
 have:=h2.len
 omega
theorem Qsd(r:List Tok):Fole (sgQ [46] :: r):=Qkr (by decide) (by decide)
theorem eqCl_of{am:Atm}{s:Txt}{xs:List Ex}{acc ls:List Lt}{p:Int}(h:eqA am ⟨s,xs,0⟩=true)(h2:eqL eqLt acc ls=true):eqCl ⟨am,acc,p⟩ ⟨⟨s,xs,0⟩,ls,0⟩=true:=by
 unfold eqCl
 simp[h,h2]
def YL(rb g cap:Nat)(l:List Tok)(d:Nat)(K:List Tok)(x:Lt):Prop:=∀(w:World) (a i:Nat) (r:List Tok),Rr rb g cap l w a d i 0 0->Nxt l a (K++r)->Fole r ->
 Calls Tryz.prog 94 #[.pointer (some ⟨rb,0,none⟩)] w fun en w'=>XB rb g cap l w d (fun w' v=>∃x',ltX w w' v x'/\eqLt x' x=true) r i en w'
theorem Qgq{rb g cap a d i:Nat}{l:List Tok}{w:World}(h:Rr rb g cap l w a d i 0 0){s:Txt}{K:Ex->List Tok}{xs:List Ex}(hx:∀x∈xs,YE 108 rb g cap l d Fole (K x) x /\ ∃t0 ks,K x=t0 :: ks/\isSg t0 [41]=false)(hm:xs.length<=8){KL:Lt->List Tok}{ls:List Lt}(hl:∀x∈ls,YL rb g cap l d (KL x) x/\0<(KL x).length)(hl0:ls≠[])(hl16:ls.length<=16){rest:List Tok}(hA:Nxt l a (nmR s :: sgQ [40] :: (joinQ (xs.map K)++sgQ [41] :: sgQ [58,45] :: (joinQ (ls.map KL)++sgQ [46] :: rest)))):
  Calls Tryz.prog 66 #[.pointer (Js rb)] w fun en w'=>XB rb g cap l w d (fun w' v=>∃x:Cls,VCl (fun b=>w.heap.size<=b) w' v x/\eqCl x ⟨⟨s,xs,0⟩,ls,0⟩=true) rest i en w':=by
 have V:Below w.heap.size w (w.alloc (.cells #[Je,Jn,Ji 0,Jn,Ji 0] 45)):=(Below.refl _ w).alloc (Nat.le_refl _) _
 have Z:(w.alloc (.cells #[Je,Jn,Ji 0,Jn,Ji 0] 45)).heap[w.heap.size]?=some (.cells #[Je,Jn,Ji 0,Jn,Ji 0] 45 (0,0)):=heap_alloc_new w _
 have s0:(w.alloc (.cells #[Je,Jn,Ji 0,Jn,Ji 0] 45)).heap.size=w.heap.size+1:=by simp
 obtain⟨t,ht,hz,_⟩:=hA.at
 have HA:=hide hA
 have b4:=hide h.lt
 have aC:Hid (∀w',Below w.heap.size w w'->Calls Tryz.prog 22 #[.pointer (Js rb)] w' fun en G=>en = .returned (.agg #[Ji t.kind,str t.text,Ji t.num,Ji (t.at_:Int)])/\Below w'.heap.size w' G):=fun w' bb=>Qao (h.later bb) ht
 have HH:=hide h
 have HX:=hide (Ya hx hm)
 have HL:=hide (Ya hl hl0)
 obtain⟨n,hn⟩:=JF ls.length
 have H:=hide hn
 rw[hn]at hl16
 have H0:=hide (Ya V (Ya Z s0))
 clear h ht hz hA hx hm hl hl0 hn V Z s0
 go_enter Tryz.func66,Tryz.ntmps66
 go_wp2_with fail
 refine(Qa aC _ (Qa H0).1).mono ?_
 rintro en w1⟨rfl,b1⟩
 obtain⟨V,Z,s0⟩:=Qa H0
 have ap:=V.trans (b1.mono (by omega))
 have n1:=(b1.block _ (by omega)).trans Z
 have aN:=Qki ((Qa HH).later ap) (Qa HX).1 (Qa HX).2 (Qa HA)
 have be:=Qaa (Qa HH).box
 have ba:=(Qa HH).row.lt
 have bf:=b1.size
 have K1:=hide (Ya (Kp.of_below (rb:=rb) ap) (Ya n1 (show rb<w.heap.size/\g<w.heap.size/\w.heap.size<w1.heap.size by omega)))
 clear b1 V Z s0 ap n1 be ba bf aC H0
 go_wp2_with fail
 rename_i p
 refine p _ _ ?_
 clear p
 go_wp2_with fail
 refine aN.mono ?_
 clear aN
 rintro en G⟨_,a2,rfl,⟨k,⟨z,B,A,rfl,aR⟩,heq⟩,h2,k2,af⟩
 have ao:a<a2:=Nxt.lt2 (Qa HA) af (Qa b4) (by simp;omega)
 have HQ:=hide heq
 obtain⟨k1,n1,g1,g2,g3⟩:=Qa K1
 have bg:=k2.size
 have n2:=k2.keep n1 (by omega)
 obtain⟨C,ar⟩:=JF G.heap.size
 obtain⟨w3,ad⟩:=JE (G.alloc (.cells #[str k.rel,.slice z B A,Ji k.at_,Jn,Ji (t.at_:Int)] 45))
 have Q:Below G.heap.size G w3:=by rw[ad];exact(Below.refl _ G).alloc (Nat.le_refl _) _
 have n3:w3.heap[C]?=some (.cells #[str k.rel,.slice z B A,Ji k.at_,Jn,Ji (t.at_:Int)] 45 (0,0)):=by rw[ad,<- ar];exact heap_alloc_new G _
 have R:=(Q.block _ (by omega)).trans n2
 have aK:clE w C (.slice z B A) k.args w3:=LsAt.same Qaf (aR.mono Qaf (fun b hl hb=>(⟨by have b8:w1.heap.size<=b:=hb;omega,by omega⟩:w.heap.size<b/\b<C))) Q.size (fun q _ hl=>Q.block q hl)
 have G3:Hid (Gx PLt 16 61 rb g cap l w d i a 0 C 45 #[Je,Jn,Ji 0,Jn,Ji 0] (clE w C (.slice z B A) k.args) w3 #[str k.rel,.slice z B A,Ji k.at_,Jn,Ji (t.at_:Int)] a2 0 0 (Jn) []):=⟨h2.later Q,⟨(k1.trans k2).trans (Kp.of_below Q),n3,R,g1,g2,by omega⟩,aK,Qo.nil _,Nat.le_of_lt ao,fun _=>⟨rfl,ao⟩,Nat.zero_le _,fun _=>Nat.zero_le _⟩
 have F:=Qde (Qa G3).r af
 have aA:=hide af
 have ak:=hide (Ya ad ar)
 clear k1 n1 g1 g2 g3 bg n2 ar ad Q n3 R aK aR heq ao af h2 k2 K1
 go_wp2_with fail
 rw[<- (Qa ak).1,(Qa ak).2]
 clear ak
 refine F.mono ?_
 clear F
 rintro en w4⟨_,a4,rfl,rfl,h4,k4,n4⟩
 have e4:a2<=a4:=Nat.le_of_lt (Nxt.lt2 (Qa aA) n4 (Qa G3).r.lt (by simp))
 have G4:=hide ((Qa G3).call Qba (Qea _ _ _ _) k4 h4 e4 (fun e=>e))
 have aB:=hide n4
 clear h4 k4 n4 e4 G3 aA
 go_wp2_with fail
 go_loopw [4] (fun fb wr=>∃(a7:Bool) (f:List Lt) (N:Nat) (E:Option Addr) (sc:Nat),fb = .bool a7/\f.length<=sc/\sc<=maxLen/\f.length<=n/\Hid (Gx PLt 16 61 rb g cap l w d i a 0 C 45 #[Je,Jn,Ji 0,Jn,Ji 0] (clE w C (.slice z B A) k.args) wr #[str k.rel,.slice z B A,Ji k.at_,.slice E f.length sc,Ji (t.at_:Int)] N 0 0 (.slice E f.length sc) f)/\Hid (Nxt l N (leftQ KL ls f.length++sgQ [46] :: rest)/\a7=decide (f.length=0)/\eqL eqLt f (ls.take f.length)=true)) (fun _ wr=>leftR rb l.length wr)
 case atStart=>exact⟨true,[],a4,none,0,rfl,Nat.le_refl _,by unfold maxLen;omega,Nat.zero_le _,G4,hide ⟨Qa aB,rfl,rfl⟩⟩
 obtain⟨a7,f,N,E,sc,rfl,bo,b9,bp,D,M⟩:=hrel
 unfold maxLen at b9
 clear G4 aB
 go_upto_region 4 with fail
 go_cut [21] from 13 to 34 (fun c wc=>∃(y:Nat),c = .bool (decide (f.length<n))/\Hid (Gx PLt 16 61 rb g cap l w d i a 0 C 45 #[Je,Jn,Ji 0,Jn,Ji 0] (clE w C (.slice z B A) k.args) wc #[str k.rel,.slice z B A,Ji k.at_,.slice E f.length sc,Ji (t.at_:Int)] y 0 0 (.slice E f.length sc) f)/\Hid (N<=y/\(f.length<n -> ∃x,ls[f.length]?=some x/\Nxt l y (KL x++(leftQ KL ls (f.length+1)++sgQ [46] :: rest)))/\(¬f.length<n->Nxt l y (sgQ [46] :: rest))))
 case first=>
  have I:=Qaw (Qa D).r
  rw[decide_eq_true rfl]at I
  cases a7
  ·
   have P:f.length≠0:=by simpa using (Qa M).2.1.symm
   by_cases o:f.length<n
   ·
    obtain⟨x,u⟩:∃x,ls[f.length]?=some x:=⟨ls[f.length]'(by rw[Qa H];exact o),List.getElem?_eq_getElem _⟩
    have j:=(Qa M).1
    rw[Qcy KL P u]at j
    simp only[List.cons_append,List.append_assoc]at j
    have F:=Qde (Qa D).r j
    have a3:=hide (Ya u j)
    clear j u P
    go_wp2_with fail
    refine I.mono ?_
    clear I
    rintro en wq⟨rfl,rfl⟩
    go_wp2_with fail
    refine F.mono ?_
    clear F
    rintro en WX⟨_,y,rfl,rfl,X,Y,j⟩
    have O:N<=y:=Nat.le_of_lt (Nxt.lt2 (Qa a3).2 j (Qa D).r.lt (by simp))
    have G7:=hide ((Qa D).call Qba (Qea _ _ _ _) Y X O (fun e=>e))
    have U:=hide (Ya O j)
    clear X Y j O
    go_wp2_with fail
    go_meet
    exact⟨y,by rw[decide_eq_true o],G7,hide ⟨(Qa U).1,fun _=>⟨x,(Qa a3).1,(Qa U).2⟩,fun e=>absurd o e⟩⟩
   have j:=(Qa M).1
   rw[show leftQ KL ls f.length=[] by rw[show f.length=n by omega,<- Qa H,Qcp],List.nil_append]at j
   have F:=Qdo (s:=[44]) (Qa D).r j (by decide)
   have a3:=hide j
   clear j P
   go_wp2_with fail
   refine I.mono ?_
   clear I
   rintro en wq⟨rfl,rfl⟩
   go_wp2_with fail
   refine F.mono ?_
   clear F
   rintro en WX⟨_,y,rfl,rfl,X,Y,j⟩
   have O:N<=y:=Nxt.le2 (Qa a3) j (Qa D).r.lt (Nat.le_refl _)
   have G7:=hide ((Qa D).call Qba (Qea _ _ _ _) Y X O (fun e=>e))
   have U:=hide (Ya O j)
   clear X Y j O
   go_wp2_with fail
   go_meet
   exact⟨y,by rw[decide_eq_false o],G7,hide ⟨(Qa U).1,fun e=>absurd e o,fun _=>(Qa U).2⟩⟩
  have P:f.length=0:=by simpa using (Qa M).2.1.symm
  have o:f.length<n:=by
   rw[P,<- Qa H]
   exact List.length_pos_iff.2 (Qa HL).2
  obtain⟨x,u⟩:∃x,ls[f.length]?=some x:=⟨ls[f.length]'(by rw[Qa H];exact o),List.getElem?_eq_getElem _⟩
  have j:=(Qa M).1
  rw[show leftQ KL ls f.length=KL x++leftQ KL ls (f.length+1) by rw[P]at u ⊢;exact Qf KL u,List.append_assoc]at j
  have b5:=hide (Ya u j)
  clear j u P
  go_wp2_with fail
  refine I.mono ?_
  clear I
  rintro en wq⟨rfl,rfl⟩
  go_wp2_with fail
  go_meet
  exact⟨N,by rw[decide_eq_true o],D,hide ⟨Nat.le_refl _,fun _=>⟨x,Qa b5⟩,fun e=>absurd o e⟩⟩
 obtain⟨y,rfl,J,T⟩:=hcut
 obtain⟨wX,bh⟩:=JE wc
 subst bh
 by_cases o:f.length<n
 ·
  rw[decide_eq_true o]
  obtain⟨x,u,j⟩:=(Qa T).2.1 o
  have aV:=hide (Qa T).1
  have aU:ls.take (f.length+1)=ls.take f.length++[x]:=by rw[List.take_add_one,u];rfl
  have ag:Fole (leftQ KL ls (f.length+1)++sgQ [46] :: rest):=by
   by_cases h1:f.length+1<n
   ·
    rw[Qcy KL (by omega) (List.getElem?_eq_getElem (show f.length+1<ls.length by rw[Qa H];exact h1))]
    exact Qha _
   rw[show leftQ KL ls (f.length+1)=[] by rw[show f.length+1=n by omega,<- Qa H,Qcp]]
   exact Qsd _
  obtain⟨au,av,aw,ax,ay,xf⟩:=cl5 (Qa J).b.box
  have bn:¬((16:Int)<=(f.length:Int)):=by omega
  have L:=hide ((Qa J).call Qba (Qea _ _ _ _) (W':=wX.drew) (Kp.of_below (Below.refl _ wX).drew) ((Qa J).r.later (Below.refl _ wX).drew) (Nat.le_refl _) (fun e=>e))
  have aP:=((Qa HL).1 x (List.mem_of_getElem? u)).1 _ _ _ _ (Qa L).r j ag
  have ah:=((Qa HL).1 x (List.mem_of_getElem? u)).2
  have aj:=hide (Ya aU (Ya j ah))
  clear u j aU ag ah T
  go_wp2_with fail
  clear au av aw ax ay xf
  refine Qaq (m:=7) (ml:=[(0,1),(1,2),(2,1),(3,0),(4,0),(5,0),(6,1),(7,0)]) (fun ff w'=>ff=false->w'.heap[C]?=some (.cells #[str k.rel,.slice z B A,Ji k.at_,.slice E f.length sc,Ji (t.at_:Int)] 45 (0,0))) mixedO (by kernel_rfl) rfl (by rfl) (by kernel_rfl) (fun PP aL=>?_)
  refine Qae rfl (by kernel_rfl) (fun _ _ _=>by go_simp<;>rfl) ?_
  refine Qax (v:=?_) rfl (by kernel_rfl) (fun w' hw=>?_) ?_
  rotate_left
  ·(obtain⟨au,av,aw,ax,ay,xf⟩:=cl5 (hw rfl);go_simp<;>rfl)
  refine Qae rfl (by kernel_rfl) (fun _ _ _=>by go_simp<;>rfl) ?_
  refine Qab rfl (fun _=>(Qa L).b.box) (fun K p=>?_)
  go_simp
  refine aP.mono ?_
  clear aP
  rintro en w6⟨_,a6,rfl,⟨x6,⟨c0,c1,c2,c3,c4,c5,c6,c7,c8,c9,aE,aF,aG,aH,aI,aJ,rfl,aq⟩,aQ⟩,h6,k6,n6⟩
  have S:y<a6:=Nxt.lt2 (Qa aj).2.1 n6 (Qa J).r.lt (by have:=(Qa aj).2.2;simp;omega)
  show K _ _
  refine p _ _ ?_
  clear p K
  obtain⟨i0,hi,hz,aT,aO⟩:=infoL
  obtain⟨ra,rc,w8,ai,bc,bd,al,g8⟩:=(Qa L).more Qba (Qea _ _ _ _) (by kernel_rfl:Tryz.prog.underlying 43=some (.slice 61)) hi hz aT aO rfl (by decide) (by decide) (cx:=[c0,c1,c2,c3,c4,c5,c6,c7,c8,c9,aE,aF,aG,aH,aI,aJ]) rfl (Qge aq) aq h6 k6 (Nat.le_of_lt S) (fun _=>⟨rfl,S⟩) ((Qa L).n0 rfl) 3
  obtain⟨w7,ae⟩:=JE (w6.alloc (.cells #[c0,c1,c2,c3,c4,c5,c6,c7,c8,c9,aE,aF,aG,aH,aI,aJ] 61))
  have b7:Below w6.heap.size w6 w7:=by rw[ae];exact(Below.refl _ w6).alloc (Nat.le_refl _) _
  have a5:=k6.keep (Qa L).b.box (by have:=(Qa L).b.r1;have:=(Qa L).b.x1;omega)
  have aW:=hide a5
  have aY:=hide ((b7.block _ (Qaa a5)).trans a5)
  have aZ:=hide al
  obtain⟨br,bs,bt,bu,bv,zf⟩:=cl5 al
  have a0:(Builtin.append_ #[43,43] 43 #[.slice E f.length sc,.slice (Js w6.heap.size) 1 1]).run Tryz.prog w7 = .ok (.slice ra (f.length+1) rc) w8:=by rw[ae];exact ai
  have aD:=hide ae
  have a8:=Qan (Qa D).r l.length
  have ab:=Qan g8.r l.length
  have HM:=hide (Ya a8 (Ya ab (Ya (Qa D).r.lt (Ya g8.r.lt S))))
  have az:=hide (Ya n6 (show eqL eqLt (f++[x6]) (ls.take (f.length+1))=true by rw[(Qa aj).1];exact Qdr eqLt _ _ _ _ (Qa M).2.2 aQ))
  have b2:=hide g8
  clear aq S h6 k6 aQ n6 hi hz aT aO ai ae b7 a5 al g8 a8 ab
  refine Qab rfl (fun _=>Qa aW) (fun K p=>?_)
  go_simp
  rw[<- Qa aD]
  clear aD
  refine p _ _ ?_
  clear p K
  refine Qab rfl (fun _=>Qa aY) (fun K p=>Qaj rfl _ _ 43 rfl _ _ rfl rfl a0 (p _ _ ?_))
  clear p K a0
  refine Qae rfl (by kernel_rfl) (fun _ _ _=>by go_simp<;>rfl) ?_
  refine Qab rfl (fun _=>Qa aZ) (fun K p=>?_)
  go_simp
  refine p _ _ ?_
  clear p K
  refine Qat (fun h=>by cases h) (aL _ _ ?_)
  clear aL PP
  go_wp2_with fail
  go_roundw
  case rel=>
   refine⟨false,f++[x6],a6,ra,rc,rfl,by simpa using bc,bd,by simp;omega,hide (by simpa using Qa b2),hide ?_⟩
   rw[show(f++[x6]).length=f.length+1 by simp]
   exact⟨(Qa az).1,by simp,(Qa az).2⟩
  obtain⟨a8,ab,m1,m2,S⟩:=Qa HM
  rw[a8,ab,if_pos rfl,if_pos rfl]
  have:=Qa aV
  omega
 rw[decide_eq_false o]
 have j:=(Qa T).2.2 o
 have ej:f.length=n:=by omega
 have HE:=hide (show eqL eqLt f ls=true by have q:=(Qa M).2.2;rw[ej,<- Qa H,List.take_length]at q;exact q)
 have aS:=Qda (Qa J).r j
 have b6:=hide j
 clear j ej T
 go_wp2_with fail
 refine aS.mono ?_
 clear aS
 rintro en w9⟨_,a9,rfl,rfl,h9,k9,n9⟩
 have aM:y<=a9:=Nat.le_of_lt (Nxt.lt2 (Qa b6) n9 (Qa J).r.lt (by simp))
 have W:=(Qa J).call Qba (Qea _ _ _ _) k9 h9 aM (fun e=>e)
 obtain⟨au,av,aw,ax,ay,xf⟩:=cl5 W.b.box
 obtain⟨bi,bj,bk,bl,bm,yf⟩:=cl5 W.b.res
 have HF:Hid (∀q0 q1 q2 R q4,XB rb g cap l w d (fun w' v=>∃x:Cls,VCl (fun b=>w.heap.size<=b) w' v x/\eqCl x ⟨⟨s,xs,0⟩,ls,0⟩=true) rest i (.returned (.agg #[str k.rel,.slice z B A,Ji k.at_,.slice E f.length sc,Ji (t.at_:Int)])) (((((w9.setCell (Ja w.heap.size 0) q0).setCell (Ja w.heap.size 1) q1).setCell (Ja w.heap.size 2) q2).setCell (Ja w.heap.size 3) R).setCell (Ja w.heap.size 4) q4)):=fun q0 q1 q2 R q4=>by
  obtain⟨R9,K9,E9,Q9⟩:=W.fin Qba (Qea _ _ _ _) (W':=(((((w9.setCell (Ja w.heap.size 0) q0).setCell (Ja w.heap.size 1) q1).setCell (Ja w.heap.size 2) q2).setCell (Ja w.heap.size 3) R).setCell (Ja w.heap.size 4) q4)) (by simp[World.setCell]) ⟨rfl,rfl,rfl⟩ (fun q j=>by rw[hpS j,hpS j,hpS j,hpS j,hpS j])
  have bq:=W.b.x1
  exact⟨_,_,rfl,⟨⟨k,f,t.at_⟩,⟨z,B,A,_,_,_,rfl,E9.mono Qaf (fun b _ hb=>by omega),(Q9.ls Qba).mono Qba (fun b _ hb=>by have b8:C+1<=b:=hb;omega)⟩,eqCl_of (Qa HQ) (Qa HE)⟩,R9,K9,n9⟩
 clear aM h9 k9 n9 W
 go_wp2_with fail
 refine bodyPost_ret (v:=.agg #[str k.rel,.slice z B A,Ji k.at_,.slice E f.length sc,Ji (t.at_:Int)]) (by simp[results,Tryz.results66,go_sem,bi,bj,bk,bl,bm]) rfl ?_
 exact Qa HF _ _ _ _ _
end
end Go.Proofs.YtmfpbepifnedjaaGreat
