/- The document's reader by the tokens that are next. -/
import Derived.Test.YtmfpbepifnedjaaGreatZz01
import Derived.Test.YtmfpbepifnedjaaGreatZz46
import Derived.Test.YtmfpbepifnedjaaGreatZz25
import Derived.Test.YtmfpbepifnedjaaGreatZz26
import Derived.Test.YtmfpbepifnedjaaGreatZz27
set_option maxRecDepth 100000
set_option maxHeartbeats 32000000
namespace Go.Proofs.YtmfpbepifnedjaaGreat
section
open Go.RowKit Go.Maps
theorem Qrt{rb g cap a d i:Nat}{l:List Tok}{w:World}(h:Rr rb g cap l w a d i 0 0)(at0:Int){s t:Txt}(hw:wordP s=true)(hs:s≠[95]){rest:List Tok}(hA:Nxt l a (nmR s :: sgQ [60,58] :: nmR t :: rest)):
  Calls Tryz.prog 58 #[.pointer (Js rb),Ji at0] w fun en w'=>XB rb g cap l w d (fun w' v=>∃x:Typ,VTy (fun b=>w.heap.size<=b) w' v x/\eqTy x ⟨s,t,[],0⟩=true) rest i en w':=by
 have f:Below w.heap.size w (w.alloc (.cells #[Je,Je,Jn,Ji 0] 54)):=(Below.refl _ w).alloc (Nat.le_refl _) _
 have o:(w.alloc (.cells #[Je,Je,Jn,Ji 0] 54)).heap[w.heap.size]?=some (.cells #[Je,Je,Jn,Ji 0] 54 (0,0)):=heap_alloc_new w _
 have D:(w.alloc (.cells #[Je,Je,Jn,Ji 0] 54)).heap.size=w.heap.size+1:=by simp
 have W:=Qgr (h.later f) hA hw hs
 have HH:=hide (Ya (Qaa h.box) h.row.lt)
 have X:=hide (Ya f (Ya o D))
 have Y:=hide (Ya hA h.lt)
 clear h hA hw hs f o D
 go_enter Tryz.func58,Tryz.ntmps58
 go_wp2_with fail
 refine W.mono ?_
 clear W
 rintro en k⟨_,I,rfl,rfl,h2,C,y⟩
 have F:a<I:=Nxt.lt2 (Qa Y).1 y (Qa Y).2 (by simp)
 obtain⟨f,o,D⟩:=Qa X
 obtain⟨g1,g2⟩:=Qa HH
 have a0:=C.size
 have n2:=C.keep o (by omega)
 obtain⟨p,G⟩:=JF k.heap.size
 obtain⟨O,u⟩:=JE (k.alloc (.cells #[str s,Je,Jn,Ji at0] 54))
 have A:Below k.heap.size k O:=by rw[u];exact(Below.refl _ k).alloc (Nat.le_refl _) _
 have n3:O.heap[p]?=some (.cells #[str s,Je,Jn,Ji at0] 54 (0,0)):=by rw[u,<- G];exact heap_alloc_new k _
 have j:=(A.block _ (by omega)).trans n2
 have z:Hid (Gx PC 2 97 rb g cap l w d i a 0 p 54 #[Je,Je,Jn,Ji 0] (fun _=>True) O #[str s,Je,Jn,Ji at0] I 0 0 (Jn) []):=⟨h2.later A,⟨((Kp.of_below f).trans C).trans (Kp.of_below A),n3,j,g1,g2,by omega⟩,trivial,Qo.nil _,Nat.le_of_lt F,fun _=>⟨rfl,F⟩,Nat.zero_le _,fun _=>Nat.zero_le _⟩
 have T:=Qde (Qa z).r y
 have Q:=hide y
 have E:=hide (Ya u G)
 clear f o D g1 g2 a0 n2 G u A n3 j F y h2 C X
 go_wp2_with fail
 rw[<- (Qa E).1,(Qa E).2]
 clear E
 refine T.mono ?_
 clear T
 rintro en w4⟨_,Z,rfl,rfl,h4,k4,J⟩
 have e4:I<=Z:=Nat.le_of_lt (Nxt.lt2 (Qa Q) J (Qa z).r.lt (by simp))
 have H:=hide ((Qa z).call Qci (EK.none _ _) k4 h4 e4 (fun e=>e))
 have R:=hide J
 clear h4 k4 J e4 z Q
 have U:=Qkj (Qa H).r (Qa R)
 go_wp2_with fail
 refine U.mono ?_
 clear U
 rintro en w5⟨_,a5,rfl,rfl,h5,k5,K⟩
 have S:Z<=a5:=Nat.le_of_lt (Nxt.lt2 (Qa R) K (Qa H).r.lt (by simp))
 have c:=(Qa H).call Qci (EK.none _ _) k5 h5 S (fun e=>e)
 obtain⟨P,V⟩:=JE (w5.setCell (Ja p 1) (str t))
 have m:Gx PC 2 97 rb g cap l w d i a 0 p 54 #[Je,Je,Jn,Ji 0] (fun _=>True) P #[str s,str t,Jn,Ji at0] a5 0 0 (Jn) []:=by
  have a1:=c.b.x1
  rw[V]
  exact⟨c.r.atBox ⟨by have:=c.b.r1;omega,by have:=c.b.g1;omega⟩ 1 _,c.b.set 1 _,trivial,Qo.nil _,c.le,c.y0,c.n,c.n0⟩
 obtain⟨a3,ad,a6,a7,wf⟩:=cl4 c.b.box
 obtain⟨ae,af,ag,ah,xf⟩:=cl4 m.b.box
 obtain⟨a8,a9,aa,ab,yf⟩:=cl4 m.b.res
 have HF:Hid (∀L M N j,XB rb g cap l w d (fun w' v=>∃x:Typ,VTy (fun b=>w.heap.size<=b) w' v x/\eqTy x ⟨s,t,[],0⟩=true) rest i (.returned (.agg #[str s,str t,Jn,Ji at0])) ((((P.setCell (Ja w.heap.size 0) L).setCell (Ja w.heap.size 1) M).setCell (Ja w.heap.size 2) N).setCell (Ja w.heap.size 3) j)):=fun L M N j=>by
  obtain⟨R9,K9,_,Q9⟩:=m.fin Qci (EK.none _ _) (W':=((((P.setCell (Ja w.heap.size 0) L).setCell (Ja w.heap.size 1) M).setCell (Ja w.heap.size 2) N).setCell (Ja w.heap.size 3) j)) (by simp[World.setCell]) ⟨rfl,rfl,rfl⟩ (fun q B=>by rw[hpS B,hpS B,hpS B,hpS B])
  have a1:=m.b.x1
  exact⟨_,_,rfl,⟨⟨s,t,[],at0⟩,⟨_,_,_,rfl,(Q9.ls Qci).mono Qci (fun b _ hb=>by have ac:p+1<=b:=hb;omega)⟩,by simp[eqTy,eqL]⟩,R9,K9,K⟩
 clear h5 k5 S K c m a3 a6 a7
 subst V
 go_wp2_with fail
 refine bodyPost_ret (v:=.agg #[str s,str t,Jn,Ji at0]) (by simp[results,Tryz.results58,go_sem,a8,a9,aa,ab]) rfl ?_
 exact Qa HF _ _ _ _
def Fol2(r:List Tok):Prop:=∃t0 r0,r=t0 :: r0/\(t0.kind=1->t0.text≠[105,110,112,117,116]/\t0.text≠[111,117,116,112,117,116])
theorem Qjf:∀fs:List Fld,eqL eqFd fs fs=true
 | []=>rfl
 |f :: fs=>by rw[Qdq,Qjf fs];simp[eqFd]
theorem Qje(s:Txt)(fs:List Fld)(p q:Int):eqDc ⟨s,fs,false,false,p⟩ ⟨s,fs,false,false,q⟩=true:=by
 unfold eqDc
 simp[Qjf]
theorem Qln{rb g cap a d i:Nat}{l:List Tok}{w:World}(h:Rr rb g cap l w a d i 0 0)(at0:Int){s:Txt}(hw:wordP s=true)(hs:s≠[95]){fs:List Fld}(hx:∀f∈fs,wordP f.name=true/\f.name≠[95])(hm:fs.length<=8){rest:List Tok}(hA:Nxt l a (nmR s :: sgQ [40] :: (joinQ (fs.map fdQ)++sgQ [41] :: rest)))(hF:Fol2 rest):
  Calls Tryz.prog 59 #[.pointer (Js rb),Ji at0] w fun en w'=>XB rb g cap l w d (fun w' v=>∃x:Dcl,VDc (fun b=>w.heap.size<=b) w' v x/\eqDc x ⟨s,fs,false,false,0⟩=true) rest i en w':=by
 have F:Below w.heap.size w (w.alloc (.cells #[Je,Jn,.bool false,.bool false,Ji 0] 63)):=(Below.refl _ w).alloc (Nat.le_refl _) _
 have M:(w.alloc (.cells #[Je,Jn,.bool false,.bool false,Ji 0] 63)).heap[w.heap.size]?=some (.cells #[Je,Jn,.bool false,.bool false,Ji 0] 63 (0,0)):=heap_alloc_new w _
 have T:(w.alloc (.cells #[Je,Jn,.bool false,.bool false,Ji 0] 63)).heap.size=w.heap.size+1:=by simp
 have ak:=Qgr (h.later F) hA hw hs
 have HH:=hide (Ya (Qaa h.box) h.row.lt)
 have H0:=hide (Ya F (Ya M T))
 have HA:=hide (Ya hA h.lt)
 have HX:=hide (Ya hx hm)
 clear h hA hw hs hx hm F M T
 go_enter Tryz.func59,Tryz.ntmps59
 go_wp2_with fail
 refine ak.mono ?_
 clear ak
 rintro en G⟨_,a2,rfl,rfl,h2,S,A⟩
 have N:a<a2:=Nxt.lt2 (Qa HA).1 A (Qa HA).2 (by simp)
 have al:=hide h2.lt
 obtain⟨F,M,T⟩:=Qa H0
 obtain⟨g1,g2⟩:=Qa HH
 have an:=S.size
 have n2:=S.keep M (by omega)
 obtain⟨t,O⟩:=JF G.heap.size
 obtain⟨z,I⟩:=JE (G.alloc (.cells #[str s,Jn,.bool false,.bool false,Ji at0] 63))
 have y:Below G.heap.size G z:=by rw[I];exact(Below.refl _ G).alloc (Nat.le_refl _) _
 have n3:z.heap[t]?=some (.cells #[str s,Jn,.bool false,.bool false,Ji at0] 63 (0,0)):=by rw[I,<- O];exact heap_alloc_new G _
 have U:z.heap.size=t+1:=by rw[I,<- O];simp
 have p:=(y.block _ (by omega)).trans n2
 have ai:=Qlo (so:=[40]) (se:=[41]) (h2.later y) (by decide) (Qa HX).1 (Qa HX).2 A
 have H3:=hide (Ya (show Bx rb g w t 63 #[Je,Jn,.bool false,.bool false,Ji 0] #[str s,Jn,.bool false,.bool false,Ji at0] z from ⟨((Kp.of_below F).trans S).trans (Kp.of_below y),n3,p,g1,g2,by omega⟩) (Ya U (Ya N A)))
 have X:=hide (Ya I O)
 clear F M T g1 g2 an n2 O I y n3 U p N A h2 S H0
 go_wp2_with fail
 rw[<- (Qa X).1,(Qa X).2]
 clear X
 refine ai.mono ?_
 clear ai
 rintro en w4⟨_,J,rfl,Z,h5,k5,n5⟩
 obtain⟨n,o,rfl⟩:=Z.sl
 obtain⟨B3,U,N,A⟩:=Qa H3
 have am:a2<J:=Nxt.lt2 A n5 (Qa al) (by simp;omega)
 have W:=hide n5
 have B4:=B3.call k5
 obtain⟨a3,a4,a6,a7,a8,xf⟩:=cl5 B4.box
 obtain⟨V,a0⟩:=JE (w4.setCell (Ja t 1) (.slice n fs.length o))
 have Q:Hid (Dx rb g cap l w d i a 0 t 63 #[Je,Jn,.bool false,.bool false,Ji 0] V #[str s,.slice n fs.length o,.bool false,.bool false,Ji at0] J 0 0 (.slice n fs.length o) fs):=by
  have d4:Dx rb g cap l w d i a 0 t 63 #[Je,Jn,.bool false,.bool false,Ji 0] w4 #[str s,Jn,.bool false,.bool false,Ji at0] J 0 0 (.slice n fs.length o) fs:=⟨h5,B4,Z.mono Qbb (fun b _ K=>by have ah:z.heap.size<=b:=K;omega),by omega,fun _=>⟨rfl,by omega⟩⟩
  rw[a0]
  exact d4.set 1 _
 have ae:=hide a0
 clear Z am n5 h5 k5 B3 U N A B4 a0 H3
 go_wp2_with fail
 rw[<- Qa ae]
 clear ae a3 a4 a6 a7 a8 xf
 go_loopw [13] (fun _ wr=>Hid (Dx rb g cap l w d i a 0 t 63 #[Je,Jn,.bool false,.bool false,Ji 0] wr #[str s,.slice n fs.length o,.bool false,.bool false,Ji at0] J 0 0 (.slice n fs.length o) fs)) (fun _ _=>0)
 case atStart=>exact Q
 have R:=hrel
 clear hrel Q
 have a1:=Qaw (Qa R).r
 rw[decide_eq_true rfl]at a1
 obtain⟨t0,r0,aj,Y⟩:=hF
 obtain⟨u,hu,H,_⟩:=(show Nxt l J (t0 :: r0) by rw[<- aj];exact Qa W).at
 simp only[zk,Prod.mk.injEq]at H
 have HU:=hide hu
 clear hu aj
 go_wp2_with fail
 refine a1.mono ?_
 clear a1
 rintro en wq⟨rfl,rfl⟩
 have c:=Qao (Qa R).r (Qa HU)
 unfold tkA at c
 go_wp2_with fail
 refine c.mono ?_
 clear c
 rintro en z⟨rfl,y⟩
 have P:=hide ((Qa R).call (Kp.of_below y) ((Qa R).r.later y) (Nat.le_refl _) (fun e=>e))
 clear y
 by_cases L:u.kind=1
 ·
  have gu:(u.kind==1)=true:=beq_iff_eq.2 L
  obtain⟨af,ag⟩:=Y (by rw[<- H.1];exact L)
  have gx:(u.text==[105,110,112,117,116])=false:=by rw[H.2.1];simpa using af
  have gO:(u.text==[111,117,116,112,117,116])=false:=by rw[H.2.1];simpa using ag
  clear L H Y af ag
  go_wp2_with fail
  rename_i k
  refine k _ _ ?_
  clear k
  have c:=Qao (Qa P).r (Qa HU)
  unfold tkA at c
  go_wp2_with fail
  refine c.mono ?_
  clear c
  rintro en w4⟨rfl,b4⟩
  have G4:=hide ((Qa P).call (Kp.of_below b4) ((Qa P).r.later b4) (Nat.le_refl _) (fun e=>e))
  clear b4
  go_wp2_with fail
  rename_i k
  refine k _ _ ?_
  clear k
  have c:=Qao (Qa G4).r (Qa HU)
  unfold tkA at c
  go_wp2_with fail
  refine c.mono ?_
  clear c
  rintro en V⟨rfl,b5⟩
  have Q:=hide ((Qa G4).call (Kp.of_below b5) ((Qa G4).r.later b5) (Nat.le_refl _) (fun e=>e))
  clear b5
  go_wp2_with fail
  rename_i k
  refine k _ _ ?_
  clear k
  have j:=Qa Q
  obtain⟨a3,a4,a6,a7,a8,xf⟩:=cl5 j.b.box
  obtain⟨a9,aa,ab,ac,ad,yf⟩:=cl5 j.b.res
  have HF:Hid (∀B C D p E,XB rb g cap l w d (fun w' v=>∃x:Dcl,VDc (fun b=>w.heap.size<=b) w' v x/\eqDc x ⟨s,fs,false,false,0⟩=true) rest i (.returned (.agg #[str s,.slice n fs.length o,.bool false,.bool false,Ji at0])) (((((V.setCell (Ja w.heap.size 0) B).setCell (Ja w.heap.size 1) C).setCell (Ja w.heap.size 2) D).setCell (Ja w.heap.size 3) p).setCell (Ja w.heap.size 4) E)):=fun B C D p E=>by
   obtain⟨R9,K9,Q9⟩:=j.fin (W':=(((((V.setCell (Ja w.heap.size 0) B).setCell (Ja w.heap.size 1) C).setCell (Ja w.heap.size 2) D).setCell (Ja w.heap.size 3) p).setCell (Ja w.heap.size 4) E)) (by simp[World.setCell]) ⟨rfl,rfl,rfl⟩ (fun q m=>by rw[hpS m,hpS m,hpS m,hpS m,hpS m])
   have ao:=j.b.x1
   exact⟨_,_,rfl,⟨⟨s,fs,false,false,at0⟩,⟨_,_,_,rfl,Q9.mono Qbb (fun b _ K=>by have ah:t<b:=K;omega)⟩,Qje _ _ _ _⟩,R9,K9,Qa W⟩
  clear j
  go_wp2_with fail
  refine bodyPost_ret (v:=.agg #[str s,.slice n fs.length o,.bool false,.bool false,Ji at0]) (by simp[results,Tryz.results59,go_sem,a9,aa,ab,ac,ad]) rfl ?_
  exact Qa HF _ _ _ _ _
 have gu:(u.kind==1)=false:=beq_eq_false_iff_ne.2 L
 clear L H Y
 go_wp2_with fail
 rename_i k
 refine k _ _ ?_
 clear k
 have j:=Qa P
 obtain⟨a3,a4,a6,a7,a8,xf⟩:=cl5 j.b.box
 obtain⟨a9,aa,ab,ac,ad,yf⟩:=cl5 j.b.res
 have HF:Hid (∀B C D p E,XB rb g cap l w d (fun w' v=>∃x:Dcl,VDc (fun b=>w.heap.size<=b) w' v x/\eqDc x ⟨s,fs,false,false,0⟩=true) rest i (.returned (.agg #[str s,.slice n fs.length o,.bool false,.bool false,Ji at0])) (((((z.setCell (Ja w.heap.size 0) B).setCell (Ja w.heap.size 1) C).setCell (Ja w.heap.size 2) D).setCell (Ja w.heap.size 3) p).setCell (Ja w.heap.size 4) E)):=fun B C D p E=>by
  obtain⟨R9,K9,Q9⟩:=j.fin (W':=(((((z.setCell (Ja w.heap.size 0) B).setCell (Ja w.heap.size 1) C).setCell (Ja w.heap.size 2) D).setCell (Ja w.heap.size 3) p).setCell (Ja w.heap.size 4) E)) (by simp[World.setCell]) ⟨rfl,rfl,rfl⟩ (fun q m=>by rw[hpS m,hpS m,hpS m,hpS m,hpS m])
  have ao:=j.b.x1
  exact⟨_,_,rfl,⟨⟨s,fs,false,false,at0⟩,⟨_,_,_,rfl,Q9.mono Qbb (fun b _ K=>by have ah:t<b:=K;omega)⟩,Qje _ _ _ _⟩,R9,K9,Qa W⟩
 clear j
 go_wp2_with fail
 refine bodyPost_ret (v:=.agg #[str s,.slice n fs.length o,.bool false,.bool false,Ji at0]) (by simp[results,Tryz.results59,go_sem,a9,aa,ab,ac,ad]) rfl ?_
 exact Qa HF _ _ _ _ _
def pgX(w:World)(w':World)(v:Value)(x:Pg):Prop:=∃(p0:Option Addr) (m0 o0:Nat) (p1:Option Addr) (m1 o1:Nat) (p2:Option Addr) (m2 o2:Nat) (p3:Option Addr) (m3 o3:Nat) (p4:Option Addr) (m4 o4:Nat),v = .agg #[.slice p0 m0 o0,.slice p1 m1 o1,.slice p2 m2 o2,.slice p3 m3 o3,.slice p4 m4 o4]/\PgS (fun b=>w.heap.size<=b) w' [.slice p0 m0 o0,.slice p1 m1 o1,.slice p2 m2 o2,.slice p3 m3 o3,.slice p4 m4 o4] x
def YP(rb g cap:Nat)(l:List Tok)(d i j:Nat)(K r:List Tok)(x:Pg):Prop:=∀(w:World) (a:Nat),Rr rb g cap l w a d i 0 0->Nxt l a (K++r) ->
 Calls Tryz.prog 21 #[.pointer (some ⟨rb,0,none⟩)] w fun en w'=>XB rb g cap l w d (fun w' v=>∃x',pgX w w' v x'/\eqPg x' x=true) r j en w'
attribute [local go_sem ↓] Qd Qdj
end
end Go.Proofs.YtmfpbepifnedjaaGreat
