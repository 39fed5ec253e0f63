/- types. -/
import Derived.Test.YtmfpbepifnedjaaGreatZz01
import Derived.Test.YtmfpbepifnedjaaGreatZz32
import Derived.Laws.EntriesVeiled
import Derived.Test.YtmfpbepifnedjaaGreatZz07
set_option maxRecDepth 100000
set_option maxHeartbeats 32000000
namespace Go.Proofs.YtmfpbepifnedjaaGreat
section
open Go.RowKit Go.Maps
theorem Qdi(p:Pg):∀(ls ms:List Lt) (vs:List Fld),litsP p (ls++ms) vs=match litsP p ls vs with | .error e=>.error e | .ok vs'=>litsP p ms vs'
 | [],ms,vs=>rfl
 |l :: ls,ms,vs=>by
  rw[List.cons_append,litsP,litsP]
  cases litP2 p l vs with
  |error e=>rfl
  |ok v=>simp only;exact Qdi p ls ms v
theorem Qng(p:Pg){ls:List Lt}{j:Nat}{y:Lt}(h:ls[j]?=some y){vs v':List Fld}{vs0:List Fld}(h1:litsP p (ls.take j) vs0 = .ok vs)(h2:litP2 p y vs = .ok v'):litsP p (ls.take (j+1)) vs0 = .ok v':=by
 rw[List.take_add_one,h,Qdi,h1]
 simp[litsP,h2]
theorem Qpm(p:Pg){ls:List Lt}{j:Nat}{y:Lt}(h:ls[j]?=some y){vs:List Fld}{e:Flt}{vs0:List Fld}(h1:litsP p (ls.take j) vs0 = .ok vs)(h2:litP2 p y vs = .error e):litsP p ls vs0 = .error e:=by
 have b:=(List.getElem?_eq_some_iff.1 h).1
 rw[<- List.take_append_drop j ls,Qdi,h1,List.drop_eq_getElem_cons b,(List.getElem?_eq_some_iff.1 h).2]
 simp[litsP,h2]
section
variable {n0 n1:Nat}{p:Pg}{c:CatP}{wb mb:Nat}{sl:Value}{w:World}
attribute [local go_sem ↓] Qbh Qbo
theorem Qop(h:Wk n0 n1 p c wb mb sl [] w)(x:Cls){aa ba:Option Addr}{an ac bn bc:Nat}(hA:LsAt PE 5 (fun b=>b<n0) w (.slice aa an ac) x.head.args)(hB:LsAt PLt 16 (fun b=>b<n0) w (.slice ba bn bc) x.body)
  (hlit:∀(j:Nat) (y:Lt) (vs:List Fld),x.body[j]?=some y->litsP p (x.body.take j) [] = .ok vs->(watP p x.head).1=0/\(watsP p x.body).1=0 -> ∀(W:World) (sl':Value) (pa xa ya:Option Addr) (pn pc xn xc yn yc:Nat),Wk n0 n1 p c wb mb sl' vs W->LsAt PE 5 (fun b=>b<n0) W (.slice pa pn pc) y.atom.args->ExS (fun b=>b<n0) W [Ji y.l.kind,Ji y.l.num,str y.l.txt,.slice xa xn xc,Ji y.l.at_] y.l->ExS (fun b=>b<n0) W [Ji y.r.kind,Ji y.r.num,str y.r.txt,.slice ya yn yc,Ji y.r.at_] y.r->Calls Tryz.prog 100 #[.pointer (Js wb),.agg #[Ji y.kind,str y.atom.rel,.slice pa pn pc,Ji y.atom.at_,str y.op,Ji y.l.kind,Ji y.l.num,str y.l.txt,.slice xa xn xc,Ji y.l.at_,Ji y.r.kind,Ji y.r.num,str y.r.txt,.slice ya yn yc,Ji y.r.at_,Ji y.at_]] W fun en w'=>LkA n0 n1 p c wb mb sl' W (litP2 p y vs) en w')
  (hhead:∀(vs:List Fld),litsP p x.body [] = .ok vs->(watP p x.head).1=0/\(watsP p x.body).1=0 -> ∀(W:World) (sl':Value),Wk n0 n1 p c wb mb sl' vs W->LsAt PE 5 (fun b=>b<n0) W (.slice aa an ac) x.head.args->Calls Tryz.prog 101 #[.pointer (Js wb),.agg #[str x.head.rel,.slice aa an ac,Ji x.head.at_],.func (.func 102) #[.pointer (Js wb)] #[]] W fun en w'=>LkA n0 n1 p c wb mb sl' W (match fitsP p vs x.head.args (colsP p x.head) with | .error e=>.error e | .ok _=>.ok vs) en w'):
  Calls Tryz.prog 80 #[.pointer (Js wb),.agg #[str x.head.rel,.slice aa an ac,Ji x.head.at_,.slice ba bn bc,Ji x.at_]] w fun en w'=>LkA n0 n1 p c wb mb sl w (infP p x) en w':=by
 obtain⟨w2,aM,u,X,Z,s2⟩:=Qas w #[str x.head.rel,.slice aa an ac,Ji x.head.at_,.slice ba bn bc,Ji x.at_] 45
 have z:=Qgw (h.later u) x (hA.same Qaf u.size (fun q _ d=>u.block q d)) (hB.same Qba u.size (fun q _ d=>u.block q d))
 obtain⟨ab,af,a7,a6,a4,xf⟩:=cl5 X
 obtain⟨R,U⟩:=JF (infP p x)
 rw[U]
 obtain⟨F,i⟩:=JF ((if (watP p x.head).1≠0 then watP p x.head else watsP p x.body))
 rw[i]at z
 unfold ftV at z
 have E:x.body.length=bn:=by obtain⟨_,_,e⟩:=hB.sl;cases e;rfl
 have b0:=hB.cap rfl
 have aZ:=h.n1le
 have HW:=hide aM
 have HH:=hide (Ya u (Ya X (Ya Z (Ya s2 (Ya h (Ya U (Ya hA (Ya hB (Ya E i)))))))))
 have HF:=hide (Ya hlit hhead)
 clear aM u X Z s2 h hA hB U i E hlit hhead
 go_enter Tryz.func80,Tryz.ntmps80
 go_upto_region 1 with fail
 rw[<- Qa HW]
 go_wp2_with fail
 refine z.mono ?_
 clear z ab af a7 a6 a4 xf
 rintro en w3⟨rfl,b3⟩
 obtain⟨u,X,Z,s2,h,U,hA,hB,E,i⟩:=Qa HH
 obtain⟨w4,ae⟩:=JE (w3.alloc (.cells #[Ji F.1,Ji F.2] 31))
 have b4:=bnw ae
 have n4:=nnw ae
 have a3:=b3.trans (b4.mono b3.size)
 have J:=(a3.block _ (by omega)).trans X
 have A:=(a3.block _ (by omega)).trans Z
 have m:=u.trans (a3.mono u.size)
 obtain⟨ab,af,a7,a6,a4,xf⟩:=cl5 J
 obtain⟨aB,aO,kf⟩:=cl2 n4
 have n:=h.later m
 have aE:=hide ae
 by_cases N:F.1=0
 ·
  have g0:(F.1 != 0)=false:=by simp[N]
  have ai:(watP p x.head).1=0/\(watsP p x.body).1=0:=by
   by_cases e:(watP p x.head).1=0
   ·rw[if_neg (by simp[e])]at i;rw[i];exact⟨e,N⟩
   ·rw[if_pos e]at i;rw[i]at e;exact absurd N e
  have t:R=match litsP p x.body [] with | .error e=>.error e | .ok vs=>match fitsP p vs x.head.args (colsP p x.head) with | .error e=>.error e | .ok _=>.ok vs:=by
   rw[<- U];unfold infP;rw[if_neg (by simp[ai.1]),if_neg (by simp[ai.2])];rfl
  have H4:=hide (Ya m (Ya J (Ya A (Ya n (Ya (hA.same Qaf m.size (fun q _ d=>m.block q d)) (Ya (hB.same Qba m.size (fun q _ d=>m.block q d)) (Ya E (Ya t h))))))))
  have aD:=hide ai
  clear u X Z s2 h U hA hB E b3 ae b4 n4 a3 J A m N HH i ai t n
  go_upto_region 2 with fail
  rw[<- Qa aE]
  go_wp2_with fail
  clear ab af a7 a6 a4 xf aB aO kf
  go_loopw [19] (fun v wr=>∃(j:Nat),v = Ji (j:Int)/\j<=bn/\Hid (∃sl' vs,Wk n0 n1 p c wb mb sl' vs wr/\Kw wb mb sl sl' w4 wr/\litsP p (x.body.take j) [] = .ok vs)) (fun v _=>bn - (intOf v).toNat)
  case atStart=>exact⟨0,rfl,Nat.zero_le _,hide ⟨sl,[],(Qa H4).2.2.2.1,Kw.of_below (Below.refl _ _),rfl⟩⟩
  obtain⟨j,rfl,hj,HI⟩:=hrel
  obtain⟨sl',vs,S,G,s⟩:=Qa HI
  obtain⟨m,J,A,n,ak,ar,E,t,h⟩:=Qa H4
  have low:∀b,b<n0->b<w4.heap.size->wr.heap[b]?=w4.heap[b]?:=fun b hb d=>G.block b d (n.low hb).1 (n.low hb).2.1 (n.low hb).2.2
  have aq:=G.keep J (n.offT J (by decide) (by decide))
  have H:=G.keep A (n.offT A (by decide) (by decide))
  have au:=ak.same Qaf G.size (fun q g d=>low q g d)
  have ao:=ar.same Qba G.size (fun q g d=>low q g d)
  have T:=(Kw.of_below (wb:=wb) (mb:=mb) (sl:=sl) m).trans G
  have M:=T.size
  by_cases b1:j<bn
  ·
   obtain⟨y,I⟩:∃y,x.body[j]?=some y:=⟨x.body[j]'(by omega),List.getElem?_eq_getElem _⟩
   obtain⟨gb,cap,cs,f,aT,aU,al,aA,aG⟩:=ao.elem I
   simp only[Value.slice.injEq]at f
   obtain⟨rfl,-,rfl⟩:=f
   have aj:=Qge aA
   obtain⟨pa,pn,pc,xa,xn,xc,ya,yn,yc,rfl,aQ,aN,aK⟩:=aA
   have L1:=Quc rfl aG
   have N1:=Qpv wr rfl aj
   obtain⟨w5,ah⟩:=JE (wr.alloc (.cells #[Ji y.kind,str y.atom.rel,.slice pa pn pc,Ji y.atom.at_,str y.op,Ji y.l.kind,Ji y.l.num,str y.l.txt,.slice xa xn xc,Ji y.l.at_,Ji y.r.kind,Ji y.r.num,str y.r.txt,.slice ya yn yc,Ji y.r.at_,Ji y.at_] 61))
   have B:=bnw ah
   have n5:=nnw ah
   have aS:(ltStore (.pointer (Js wr.heap.size)) (.agg #[Ji y.kind,str y.atom.rel,.slice pa pn pc,Ji y.atom.at_,str y.op,Ji y.l.kind,Ji y.l.num,str y.l.txt,.slice xa xn xc,Ji y.l.at_,Ji y.r.kind,Ji y.r.num,str y.r.txt,.slice ya yn yc,Ji y.r.at_,Ji y.at_])).run Tryz.prog (wr.alloc (.cells #[Ji 0,Je,Jn,Ji 0,Je,Ji 0,Ji 0,Je,Jn,Ji 0,Ji 0,Ji 0,Je,Jn,Ji 0,Ji 0] 61)) = .ok () w5:=by rw[ah];exact N1
   have aV:(ltLoad (.pointer (some (Ja gb (j*16))))).run Tryz.prog wr = .ok (.agg #[Ji y.kind,str y.atom.rel,.slice pa pn pc,Ji y.atom.at_,str y.op,Ji y.l.kind,Ji y.l.num,str y.l.txt,.slice xa xn xc,Ji y.l.at_,Ji y.r.kind,Ji y.r.num,str y.r.txt,.slice ya yn yc,Ji y.r.at_,Ji y.at_]) wr:=L1
   have L5:(ltLoad (.pointer (Js wr.heap.size))).run Tryz.prog w5 = .ok (.agg #[Ji y.kind,str y.atom.rel,.slice pa pn pc,Ji y.atom.at_,str y.op,Ji y.l.kind,Ji y.l.num,str y.l.txt,.slice xa xn xc,Ji y.l.at_,Ji y.r.kind,Ji y.r.num,str y.r.txt,.slice ya yn yc,Ji y.r.at_,Ji y.at_]) w5:=Qkx n5
   have V:=S.later B
   have z:=(Qa HF).1 j y vs I s (Qa aD) w5 sl' pa xa ya pn pc xn xc yn yc V (aQ.same Qaf B.size (fun q _ d=>B.block q d)) (Qaf.same _ _ _ _ _ aN B.size (fun q _ d=>B.block q d)) (Qaf.same _ _ _ _ _ aK B.size (fun q _ d=>B.block q d))
   have L:=(B.block _ (Qaa H)).trans H
   obtain⟨lb,ap⟩:=JF wr.heap.size
   rw[ap]at L5
   have aR:=hide ap
   have HK:=hide (Ya V (Ya L (Ya (T.trans (Kw.of_below B)) (Ya (G.trans (Kw.of_below B)) (Ya I (Ya s (Ya t M)))))))
   clear S G s m J A n ak ar E t h low aq H au ao T M I aT aU al aG aj aQ aN aK L1 N1 ah B n5 V L ap
   go_upto_region 7 with fail
   rw[Qa aR]
   go_wp2_with fail
   refine z.mono ?_
   clear z aV aS L5
   rintro en w6 ad
   obtain⟨aX,am,ft,rfl,h6,k6,D⟩:=ad.ft
   clear ad
   obtain⟨V,L,ay,av,I,s,t,M⟩:=Qa HK
   obtain⟨w7,a8⟩:=JE (w6.alloc (.cells #[Ji ft.1,Ji ft.2] 31))
   have Y:=bnw a8
   have n7:=nnw a8
   have a9:=(Y.block _ (Qaa (k6.keep L (V.offT L (by decide) (by decide))))).trans (k6.keep L (V.offT L (by decide) (by decide)))
   have h7:=h6.later Y
   have ax:=(ay.trans k6).trans (Kw.of_below Y)
   have aw:=(av.trans k6).trans (Kw.of_below Y)
   obtain⟨aB,aO,kf⟩:=cl2 n7
   have aP:=hide a8
   unfold ftV
   by_cases f:ft.1=0
   ·
    have g4:(ft.1 != 0)=false:=by simp[f]
    have g:litP2 p y vs = .ok am:=by
     cases g:litP2 p y vs with
     |ok v=>rw[g]at D;rw[D.2]
     |error e=>rw[g]at D;exact absurd f D.2
    have HG:=hide (show ∃sl' vs,Wk n0 n1 p c wb mb sl' vs w7/\Kw wb mb sl sl' w4 w7/\litsP p (x.body.take (j+1)) [] = .ok vs from ⟨aX,am,h7,aw,Qng p I s g⟩)
    clear h6 k6 D V L ay av I s t M a8 Y n7 a9 h7 ax aw f g
    go_upto_region 8 with fail
    rw[<- Qa aP]
    go_wp2_with fail
    go_roundw
    case rel=>exact⟨j+1,by simp,by omega,HG⟩
    case measure=>simp[intOf];omega
   have g4:(ft.1 != 0)=true:=by simp[f]
   have g:litP2 p y vs = .error ft:=by
    cases g:litP2 p y vs with
    |ok v=>rw[g]at D;exact absurd (by rw[D.1]) f
    |error e=>rw[g]at D;rw[D.1]
   have a1:FtR R ft am:=by rw[t,Qpm p I s g];exact⟨rfl,f⟩
   obtain⟨W7,O,sc⟩:=sc2 a9 (Ji ft.1) (Ji ft.2)
   obtain⟨aI,aJ,yf⟩:=cl2 a9
   have HE:=hide (Ya (Wk.sc h7 sc (by omega) (Wk.offT h7 a9 (by decide) (by decide))) (Ya (Kw.sc ax sc (by omega)) (Ya sc.box a1)))
   have a2:=hide O
   clear h6 k6 D V L ay av I s t M a8 Y n7 a9 h7 ax aw f g a1 O sc
   go_upto_region 8 with fail
   rw[<- Qa aP]
   go_wp2_with fail
   rw[<- Qa a2]
   obtain⟨f,e2,e3,e4⟩:=Qa HE
   obtain⟨a5,a0,zf⟩:=cl2 e3
   refine bodyPost_ret (v:=ftV ft) (by simp[results,Tryz.results80,go_sem,a5,a0,ftV]) rfl ?_
   exact LkA.of f e2 e4
  have aH:j=bn:=by omega
  rw[aH,<- E,List.take_length]at s
  rw[s]at t
  have z:=(Qa HF).2 vs s (Qa aD) wr sl' S au
  obtain⟨ab,af,a7,a6,a4,xf⟩:=cl5 aq
  have aF:R=(match fitsP p vs x.head.args (colsP p x.head) with | .error e=>.error e | .ok _=>.ok vs):=t
  rw[<- aF]at z
  have HK:=hide (Ya S (Ya H (Ya T M)))
  clear S G s m J A n ak ar E t aF h low aq H au ao T M aH
  go_wp2_with fail
  refine z.mono ?_
  clear z ab af a7 a6 a4 xf
  rintro en w9 ad
  obtain⟨b6,aY,ft,rfl,h9,k9,az⟩:=ad.ft
  clear ad
  obtain⟨S,H,T,M⟩:=Qa HK
  have ag:=k9.keep H (S.offT H (by decide) (by decide))
  have aL:=T.trans k9
  unfold ftV
  obtain⟨W7,O,sc⟩:=sc2 ag (Ji ft.1) (Ji ft.2)
  obtain⟨aI,aJ,yf⟩:=cl2 ag
  have HE:=hide (Ya (Wk.sc h9 sc (by omega) (Wk.offT h9 ag (by decide) (by decide))) (Ya (Kw.sc aL sc (by omega)) (Ya sc.box az)))
  have a2:=hide O
  clear h9 k9 az S H T M ag aL O sc
  go_wp2_with fail
  rw[<- Qa a2]
  obtain⟨f,e2,e3,e4⟩:=Qa HE
  obtain⟨a5,a0,zf⟩:=cl2 e3
  refine bodyPost_ret (v:=ftV ft) (by simp[results,Tryz.results80,go_sem,a5,a0,ftV]) rfl ?_
  exact LkA.of f e2 e4
 have g0:(F.1 != 0)=true:=by simp[N]
 obtain⟨ft,aW⟩:=JF F
 subst aW
 have a1:FtR R F []:=by
  rw[<- U]
  unfold infP
  by_cases e:(watP p x.head).1=0
  ·
   rw[if_neg (by simp[e])]at i ⊢
   rw[i,if_pos N];exact⟨rfl,N⟩
  rw[if_pos e]at i ⊢
  rw[i];exact⟨rfl,N⟩
 have aC:=Kw.of_below (wb:=wb) (mb:=mb) (sl:=sl) m
 obtain⟨W7,O,sc⟩:=sc2 A (Ji F.1) (Ji F.2)
 obtain⟨aI,aJ,yf⟩:=cl2 A
 have HE:=hide (Ya (Wk.sc n sc (by omega) (Wk.offT n A (by decide) (by decide))) (Ya (Kw.sc aC sc (by omega)) (Ya sc.box a1)))
 have a2:=hide O
 clear u X Z s2 h U hA hB E b3 ae b4 n4 a3 J A m N HH i a1 aC n O sc
 go_upto_region 2 with fail
 rw[<- Qa aE]
 go_wp2_with fail
 rw[<- Qa a2]
 obtain⟨f,e2,e3,e4⟩:=Qa HE
 obtain⟨a5,a0,zf⟩:=cl2 e3
 refine bodyPost_ret (v:=ftV F) (by simp[results,Tryz.results80,go_sem,a5,a0,ftV]) rfl ?_
 exact LkA.of f e2 e4
end
def InfA(R:Except Flt (List Fld))(w:World)(en:Ending)(w':World):Prop:=Below w.heap.size w w'/\match R with
 | .ok vs=>∃sl,en = .returned (.tuple #[sl,ftV (0,0)])/\w'.ownsRow w.heap.size 67 2 sl vs.length (fdCells vs)
 | .error f=>en = .returned (.tuple #[.slice none 0 0,ftV f])/\f.1≠0
section
variable {n0:Nat}{p:Pg}{c:CatP}{w:World}
theorem Qsg(h:Cs n0 p c w)(x:Cls){aa ba:Option Addr}{an ac bn bc:Nat}(hA:LsAt PE 5 (fun b=>b<n0) w (.slice aa an ac) x.head.args)(hB:LsAt PLt 16 (fun b=>b<n0) w (.slice ba bn bc) x.body)
  (hcl:∀(n1 wb mb:Nat) (W:World),Wk n0 n1 p c wb mb (Jn) [] W->LsAt PE 5 (fun b=>b<n0) W (.slice aa an ac) x.head.args->LsAt PLt 16 (fun b=>b<n0) W (.slice ba bn bc) x.body->Calls Tryz.prog 80 #[.pointer (Js wb),.agg #[str x.head.rel,.slice aa an ac,Ji x.head.at_,.slice ba bn bc,Ji x.at_]] W fun en w'=>LkA n0 n1 p c wb mb (Jn) W (infP p x) en w'):
  Calls Tryz.prog 42 #[.pointer (Js c.cb),.agg #[str x.head.rel,.slice aa an ac,Ji x.head.at_,.slice ba bn bc,Ji x.at_]] w fun en w'=>InfA (infP p x) w en w':=by
 obtain⟨V,a2,b2,nx,nf,J⟩:=Qas w #[str x.head.rel,.slice aa an ac,Ji x.head.at_,.slice ba bn bc,Ji x.at_] 45
 obtain⟨I,m⟩:=JE (V.alloc (.map #[] 0))
 obtain⟨Z,u⟩:=JE (I.alloc (.cells #[.func (.func 47) #[.pointer (Js c.cb)] #[],.func (.func 48) #[.pointer (Js c.cb)] #[],.func (.func 78) #[.pointer (Js c.cb)] #[],.func (.func 79) #[.pointer (Js c.cb)] #[],Jn,.map (some (w.heap.size+2))] 143))
 have S:=bnw m
 have U:=bnw u
 have s3:I.heap.size=w.heap.size+3:=by rw[m];simp;omega
 have m3:MpS I (w.heap.size+2) []:=by rw[m,<- J];exact MpS.new V
 have Y:=nnw u
 rw[s3]at Y
 have G:=S.trans (U.mono S.size)
 have d:=b2.trans (G.mono b2.size)
 have A:Z.heap.size=w.heap.size+4:=by rw[u];simp;omega
 have ag:=h.l0
 have a7:=Qaa h.box
 have lt2:=h.row.lt
 have af:=h.mt.lt
 have ad:=h.md.lt
 have au:=h.mc.lt
 have j:Wk n0 w.heap.size p c (w.heap.size+3) (w.heap.size+2) (Jn) [] Z:=
  ⟨Ct.later h d,Y,World.ownsRow_nil _ _ _ _,⟨[],m3.keep (U.block _ (by omega)),fun t=>rfl⟩,by omega,by simp⟩
 have N:=hcl w.heap.size (w.heap.size+3) (w.heap.size+2) Z j (hA.same Qaf d.size (fun q _ hl=>d.block q hl)) (hB.same Qba d.size (fun q _ hl=>d.block q hl))
 have a0:=(G.block _ (by omega)).trans nx
 have g:=(G.block _ (by omega)).trans nf
 obtain⟨am,av,a9,a8,aq,xf⟩:=cl5 a0
 obtain⟨R,hR⟩:=JF (infP p x)
 rw[hR]at N ⊢
 have ai:(Instr.makeMap 125 none).run Tryz.prog V = .ok (.map (some (w.heap.size+2))) I:=by
  rw[m,<- J]
  rfl
 have ak:=hide a2
 have ay:=hide (Ya m J)
 have a3:=hide (Ya u s3)
 have X:=hide (Ya d (Ya g (Ya j A)))
 clear a2 b2 nx nf J m u S U s3 m3 Y G d A ag a7 lt2 af ad au j a0 g h hA hB hcl hR
 go_enter Tryz.func42,Tryz.ntmps42
 go_upto_region 1 with fail
 rw[<- Qa ak]
 go_upto_region 2 with fail
 rw[(Qa a3).2,<- (Qa a3).1]
 go_wp2_with fail
 refine N.mono ?_
 clear N am av a9 a8 aq xf ai
 rintro en w5 a5
 obtain⟨aj,ar,ft,rfl,h5,E,n⟩:=a5.ft
 clear a5
 obtain⟨d,g,j,A⟩:=Qa X
 obtain⟨w6,s⟩:=JE (w5.alloc (.cells #[Ji ft.1,Ji ft.2] 31))
 have D:=bnw s
 have T:=nnw s
 have z:=h5.later D
 have H:=E.keep g (j.offT g (by decide) (by decide))
 have i:=(D.block _ (Qaa H)).trans H
 have a1:=E.size
 have F:Below w.heap.size w w6:=by
  have B:=E.trans (Kw.of_below D)
  refine d.trans ⟨B.os,B.tape,B.output,B.size,fun q r=>B.block q (by omega) (by omega) (by omega) (by simp[Value.ownBlock])⟩
 obtain⟨aw,az,kf⟩:=cl2 T
 have a4:=hide s
 unfold ftV
 by_cases l:ft.1=0
 ·
  have g4:(ft.1 != 0)=false:=by simp[l]
  have r:R = .ok ar:=by
   cases R with
   |ok v=>rw[n.2]
   |error e=>exact absurd l n.2
  obtain⟨W7,y,sc⟩:=sc2 i (Ji 0) (Ji 0)
  obtain⟨a6,ab,yf⟩:=cl2 i
  obtain⟨ap,al,ah,ae,ax,ao,qf⟩:=cl6 z.box
  have h7:=z.sc sc (by omega) (z.offT i (by decide) (by decide))
  have f:=hide (Ya (sc.below F (by omega)) (Ya sc.box (Ya h7.row r)))
  have M:=hide y
  clear d g j A s D T h5 E n z H i a1 F l r y sc h7 ap al ah ae ao X
  go_upto_region 3 with fail
  rw[<- Qa a4]
  go_wp2_with fail
  rw[<- Qa M]
  obtain⟨O,L,zf⟩:=cl2 (Qa f).2.1
  refine bodyPost_ret (v:=.tuple #[aj,ftV (0,0)]) (by simp[results,Tryz.results42,go_sem,O,L,ftV]) rfl ?_
  refine⟨(Qa f).1,?_⟩
  rw[(Qa f).2.2.2]
  exact⟨_,rfl,(Qa f).2.2.1⟩
 have g4:(ft.1 != 0)=true:=by simp[l]
 have r:R = .error ft:=by
  cases R with
  |ok v=>exact absurd (by rw[n.1]) l
  |error e=>rw[n.1]
 obtain⟨W7,y,sc⟩:=sc2 i (Ji ft.1) (Ji ft.2)
 obtain⟨a6,ab,yf⟩:=cl2 i
 have f:=hide (Ya (sc.below F (by omega)) (Ya sc.box (Ya r l)))
 have M:=hide y
 clear d g j A s D T h5 E n z H i a1 F l r y sc X
 go_upto_region 3 with fail
 rw[<- Qa a4]
 go_wp2_with fail
 go_region
 rw[<- Qa M]
 go_wp2_with fail
 obtain⟨O,L,zf⟩:=cl2 (Qa f).2.1
 refine bodyPost_ret (v:=.tuple #[Jn,ftV ft]) (by simp[results,Tryz.results42,go_sem,O,L,ftV]) rfl ?_
 refine⟨(Qa f).1.drew,?_⟩
 rw[(Qa f).2.2.1]
 exact⟨rfl,(Qa f).2.2.2⟩
end
structure Ms(w1:World)(o1 o2 o3:Option (Nat×List (Txt×Value)))(W:World):Prop where
 bel:Below w1.heap.size w1 W
 m1:∀q∈o1,w1.heap.size<=q.1/\MpS W q.1 q.2
 m2:∀q∈o2,w1.heap.size<=q.1/\MpS W q.1 q.2
 m3:∀q∈o3,w1.heap.size<=q.1/\MpS W q.1 q.2
 n12:∀q∈o1,∀r∈o2,q.1≠r.1
 n13:∀q∈o1,∀r∈o3,q.1≠r.1
 n23:∀q∈o2,∀r∈o3,q.1≠r.1
section
variable {w1 W:World}{o1 o2 o3:Option (Nat×List (Txt×Value))}
theorem Ms.start(w1:World):Ms w1 none none none w1:=⟨Below.refl _ _,by simp,by simp,by simp,by simp,by simp,by simp⟩
theorem Ms.later{W':World}(h:Ms w1 o1 o2 o3 W)(b:Below W.heap.size W W'):Ms w1 o1 o2 o3 W':=
 ⟨h.bel.trans (b.mono h.bel.size),fun q d=>⟨(h.m1 q d).1,(h.m1 q d).2.keep (b.block _ (h.m1 q d).2.lt)⟩,fun q d=>⟨(h.m2 q d).1,(h.m2 q d).2.keep (b.block _ (h.m2 q d).2.lt)⟩,fun q d=>⟨(h.m3 q d).1,(h.m3 q d).2.keep (b.block _ (h.m3 q d).2.lt)⟩,h.n12,h.n13,h.n23⟩
theorem Ms.mk1(h:Ms w1 none o2 o3 W):Ms w1 (some (W.heap.size,[])) o2 o3 (W.alloc (.map #[] 0)):=by
 have b:=(Below.refl W.heap.size W).alloc (Nat.le_refl _) (.map #[] 0)
 have e:=h.later b
 refine⟨e.bel,fun q d=>?_,e.m2,e.m3,fun q d r f=>?_,fun q d r f=>?_,h.n23⟩
 ·cases d;exact⟨h.bel.size,MpS.new W⟩
 ·cases d;have:=(h.m2 r f).2.lt;show W.heap.size≠r.1;omega
 ·cases d;have:=(h.m3 r f).2.lt;show W.heap.size≠r.1;omega
theorem Ms.mk2(h:Ms w1 o1 none o3 W):Ms w1 o1 (some (W.heap.size,[])) o3 (W.alloc (.map #[] 0)):=by
 have b:=(Below.refl W.heap.size W).alloc (Nat.le_refl _) (.map #[] 0)
 have e:=h.later b
 refine⟨e.bel,e.m1,fun q d=>?_,e.m3,fun q d r f=>?_,h.n13,fun q d r f=>?_⟩
 ·cases d;exact⟨h.bel.size,MpS.new W⟩
 ·cases f;have:=(h.m1 q d).2.lt;show q.1≠W.heap.size;omega
 ·cases d;have:=(h.m3 r f).2.lt;show W.heap.size≠r.1;omega
theorem Ms.mk3(h:Ms w1 o1 o2 none W):Ms w1 o1 o2 (some (W.heap.size,[])) (W.alloc (.map #[] 0)):=by
 have b:=(Below.refl W.heap.size W).alloc (Nat.le_refl _) (.map #[] 0)
 have e:=h.later b
 refine⟨e.bel,e.m1,e.m2,fun q d=>?_,h.n12,fun q d r f=>?_,fun q d r f=>?_⟩
 ·cases d;exact⟨h.bel.size,MpS.new W⟩
 ·cases f;have:=(h.m1 q d).2.lt;show q.1≠W.heap.size;omega
 ·cases f;have:=(h.m2 q d).2.lt;show q.1≠W.heap.size;omega
theorem Ms.ins{m:Nat}{ms:List (Txt×Value)}(h:Ms w1 (some (m,ms)) o2 o3 W)(t:Txt)(v:Value)(hn:asc ms t=none):∃W',(Instr.mapUpdate 125 (.map (some m)) (str t) v).run Tryz.prog W = .ok () W'/\Ms w1 (some (m,ms++[(t,v)])) o2 o3 W':=by
 obtain⟨f,n⟩:=h.m1 _ rfl
 obtain⟨W',d,g,l,s,i,j,e⟩:=Qqv uS mI W m ms t v n hn
 refine⟨W',d,⟨⟨s.trans h.bel.os,i.trans h.bel.tape,j.trans h.bel.output,by rw[l];exact h.bel.size,fun q b=>(e q (by have u:w1.heap.size<=m:=f;omega)).trans (h.bel.block q b)⟩,fun q b=>?_,fun q b=>?_,fun q b=>?_,fun q b r d=>?_,fun q b r d=>?_,h.n23⟩⟩
 ·cases b;exact⟨f,g⟩
 ·exact⟨(h.m2 q b).1,(h.m2 q b).2.keep (e _ (Ne.symm (h.n12 _ rfl q b)))⟩
 ·exact⟨(h.m3 q b).1,(h.m3 q b).2.keep (e _ (Ne.symm (h.n13 _ rfl q b)))⟩
 ·cases b;exact h.n12 _ rfl r d
 ·cases b;exact h.n13 _ rfl r d
end
theorem Qky{M KT ET:TypeId}(hM:Tryz.prog.underlying M=some (.map KT ET))(w:World)(k:Int):(Instr.makeMap M (some (Ji k))).run Tryz.prog w = .ok (.map (some w.heap.size)) (w.alloc (.map #[] 0)):=by
 unfold Instr.makeMap
 simp only[Sem.run_bind,run_underlying hM,Result.andThen_ok]
 rfl
section
variable {P:Program}{ops:Array Oper}{Q:Exit->Act->World->Prop}{C:World->Prop}{K:Act->World->Prop}{k:Nat}{o:Oper}{a:Act}{w W':World}{v:Value}
theorem Qit(ho:ops[k]?=some o)(hw:Region.wanted o (yielded ops a.tmps)=true)(hr:(execOp a.eval o).run P w = .ok (.value v) W')(h:K (a.put o.dst v) W'):wpOp P ops Q k K a w:=
 wpOp_step ho (fun d b=>by rw[if_pos hw];unfold Oper.wp;rw[hr];exact b _ _ h)
theorem Qke(ho:ops[k]?=some o)(hw:Region.wanted o (yielded ops a.tmps)=true)(hr:(execOp a.eval o).run P w = .ok .skip W')(h:K (a.put o.dst undef) W'):wpOp P ops Q k K a w:=
 wpOp_step ho (fun d b=>by rw[if_pos hw];unfold Oper.wp;rw[hr];exact b _ _ h)
def wpTk(P:Program)(ops:Array Oper)(C:World->Prop)(K:Act->World->Prop):List Nat->Act->World->Prop
 | [],a,w=>K a w
 |k :: r,a,w=>∃o v,ops[k]?=some o/\(∀w,C w->YieldsAt P ops w o v a)/\wpTk P ops C K r (a.put o.dst v) w
def okTk(md:Region.Mode)(ops:Array Oper):List Nat->Array Bool->Bool
 | [],_=>true
 |k :: r,listed=>(Region.ready md ops listed).contains k&&Region.free md ops listed k&&okTk md ops r (listed.setIfInBounds k true)
theorem Qkd{md:Region.Mode}(hsel:Region.noSelect ops=true)(hL:¬LetsOut Q)(hQ:∀c (a:Act) d v w,Q (.panic c) (a.put d v) w->Q (.panic c) a w)(n:Nat):∀(ks:List Nat) (listed:Array Bool) (a:Act) (w:World),okTk md ops ks listed=true->wpTk P ops C (wpAnyC P md ops C Q n (ks.foldl (fun l k=>l.setIfInBounds k true) listed)) ks a w->wpAnyC P md ops C Q (n+ks.length) listed a w
 | [],listed,a,w,_,h=>h
 |k :: r,listed,a,w,hB,h=>by
  simp only[okTk,Bool.and_eq_true]at hB
  obtain⟨⟨hr,hf⟩,hB'⟩:=hB
  obtain⟨o,v,b,e,f⟩:=h
  exact Qbr b (Region.noSelect_spec hsel) hL hQ (n+r.length) listed a w (Region.free_spec b hf) (by simpa using hr) e (Qkd hsel hL hQ n r _ _ _ hB' f)
theorem Qrp{r:List Nat}(ho:ops[k]?=some o)(hw:Region.wanted o (yielded ops a.tmps)=true)(hy:∀w',C w'->(execOp a.eval o).run P w' = .ok (.value v) w')(h:wpTk P ops C K r (a.put o.dst v) w):wpTk P ops C K (k :: r) a w:=⟨o,v,ho,fun w' b=>.inl ⟨hw,.inl (hy w' b)⟩,h⟩
def Lf(b1 b2 b3 b4 x y:Bool):Array Bool:=#[true,b1,b2,b3,b4,true,true,true,x,true,true,true,y,false,false,false]
def rst(x y:Bool):List Nat:=(bif x then [] else [8])++(bif y then [] else [12])
theorem cat_any{o4:Oper}(J:Nat->Bool->Bool->Act->World->Prop)(hsel:Region.noSelect ops=true)(hL:¬LetsOut Q)(hQ:∀c (a:Act) d v w,Q (.panic c) (a.put d v) w->Q (.panic c) a w)(ho4:ops[4]?=some o4)(hC:∀m x y a w,J m x y a w->C w)
  (r0:∀x y,Region.ready .any ops (Lf false false false false x y)=[1]++rst x y)
  (r1:∀x y,Region.ready .any ops (Lf true false false false x y)=[2,3]++rst x y)
  (r2:∀x y,Region.ready .any ops (Lf true true false false x y)=[3]++rst x y)
  (r3:∀x y,Region.ready .any ops (Lf true false true false x y)=[2]++rst x y)
  (r4:∀x y,(x&&y)=false->Region.ready .any ops (Lf true true true true x y)=rst x y)
  (r5:∀x y,(Region.ready .any ops (Lf true true true false x y)).contains 4=true/\Region.free .any ops (Lf true true true false x y) 4=true)
  (h1_0:∀x y a w,J 0 x y a w->wpOp P ops Q 1 (J 1 x y) a w)
  (h2_1:∀x y a w,J 1 x y a w->wpOp P ops Q 2 (J 2 x y) a w)
  (h2_3:∀x y a w,J 3 x y a w->wpOp P ops Q 2 (J 5 x y) a w)
  (h3_1:∀x y a w,J 1 x y a w->wpOp P ops Q 3 (J 3 x y) a w)
  (h3_2:∀x y a w,J 2 x y a w->wpOp P ops Q 3 (J 5 x y) a w)
  (h4:∀x y a w,J 5 x y a w -> ∃v,(∀w,C w->YieldsAt P ops w o4 v a)/\J 4 x y (a.put o4.dst v) w)
  (h8:∀m y a w,J m false y a w->wpOp P ops Q 8 (J m true y) a w)
  (h12:∀m x a w,J m x false a w->wpOp P ops Q 12 (J m x true) a w)
  (hE:∀a w,J 4 true true a w->wpAnyC P .any ops C Q 3 (Lf true true true true true true) a w)
  : ∀a w,J 0 false false a w->wpAnyC P .any ops C Q 9 (Lf false false false false false false) a w:=by
 have q:=hE
 have A:∀a w,J 5 true true a w->wpAnyC P .any ops C Q 4 (Lf true true true false true true) a w:=fun a w h=>by
  obtain⟨v,n,b⟩:=h4 _ _ _ _ h
  exact Qbr ho4 (Region.noSelect_spec hsel) hL hQ 3 _ a w (Region.free_spec ho4 (r5 true true).2) (by simpa using (r5 true true).1) n (q _ _ b)
 have s:∀a w,J 2 true true a w->wpAnyC P .any ops C Q 5 (Lf true true false false true true) a w:=fun a w h=>by
  have e:Region.ready .any ops (Lf true true false false true true)=[3]:=r2 true true
  refine⟨hC _ _ _ _ _ h,fun l=>(by rw[e]at l;cases l),fun i j=>?_⟩
  rw[e]at j
  simp only[List.mem_cons,List.not_mem_nil,or_false]at j
  subst j
  exact wpOp_mono (fun g f b=>A g f b) (h3_2 _ _ _ _ h)
 have t:∀a w,J 3 true true a w->wpAnyC P .any ops C Q 5 (Lf true false true false true true) a w:=fun a w h=>by
  have e:Region.ready .any ops (Lf true false true false true true)=[2]:=r3 true true
  refine⟨hC _ _ _ _ _ h,fun l=>(by rw[e]at l;cases l),fun i j=>?_⟩
  rw[e]at j
  simp only[List.mem_cons,List.not_mem_nil,or_false]at j
  subst j
  exact wpOp_mono (fun g f b=>A g f b) (h2_3 _ _ _ _ h)
 have r:∀a w,J 1 true true a w->wpAnyC P .any ops C Q 6 (Lf true false false false true true) a w:=fun a w h=>by
  have e:Region.ready .any ops (Lf true false false false true true)=[2,3]:=r1 true true
  refine⟨hC _ _ _ _ _ h,fun l=>(by rw[e]at l;cases l),fun i j=>?_⟩
  rw[e]at j
  simp only[List.mem_cons,List.not_mem_nil,or_false]at j
  rcases j with rfl|rfl
  ·exact wpOp_mono (fun g f b=>s g f b) (h2_1 _ _ _ _ h)
  ·exact wpOp_mono (fun g f b=>t g f b) (h3_1 _ _ _ _ h)
 have H:∀a w,J 0 true true a w->wpAnyC P .any ops C Q 7 (Lf false false false false true true) a w:=fun a w h=>by
  have e:Region.ready .any ops (Lf false false false false true true)=[1]:=r0 true true
  refine⟨hC _ _ _ _ _ h,fun l=>(by rw[e]at l;cases l),fun i j=>?_⟩
  rw[e]at j
  simp only[List.mem_cons,List.not_mem_nil,or_false]at j
  subst j
  exact wpOp_mono (fun g f b=>r g f b) (h1_0 _ _ _ _ h)
 have F:∀a w,J 4 false true a w->wpAnyC P .any ops C Q 4 (Lf true true true true false true) a w:=fun a w h=>by
  have e:Region.ready .any ops (Lf true true true true false true)=[8]:=r4 false true rfl
  refine⟨hC _ _ _ _ _ h,fun l=>(by rw[e]at l;cases l),fun i j=>?_⟩
  rw[e]at j
  simp only[List.mem_cons,List.not_mem_nil,or_false]at j
  subst j
  exact wpOp_mono (fun g f b=>q g f b) (h8 _ _ _ _ h)
 have B:∀a w,J 5 false true a w->wpAnyC P .any ops C Q 5 (Lf true true true false false true) a w:=fun a w h=>by
  obtain⟨v,n,b⟩:=h4 _ _ _ _ h
  exact Qbr ho4 (Region.noSelect_spec hsel) hL hQ 4 _ a w (Region.free_spec ho4 (r5 false true).2) (by simpa using (r5 false true).1) n (F _ _ b)
 have I:∀a w,J 2 false true a w->wpAnyC P .any ops C Q 6 (Lf true true false false false true) a w:=fun a w h=>by
  have e:Region.ready .any ops (Lf true true false false false true)=[3,8]:=r2 false true
  refine⟨hC _ _ _ _ _ h,fun l=>(by rw[e]at l;cases l),fun i j=>?_⟩
  rw[e]at j
  simp only[List.mem_cons,List.not_mem_nil,or_false]at j
  rcases j with rfl|rfl
  ·exact wpOp_mono (fun g f b=>B g f b) (h3_2 _ _ _ _ h)
  ·exact wpOp_mono (fun g f b=>s g f b) (h8 _ _ _ _ h)
 have z:∀a w,J 3 false true a w->wpAnyC P .any ops C Q 6 (Lf true false true false false true) a w:=fun a w h=>by
  have e:Region.ready .any ops (Lf true false true false false true)=[2,8]:=r3 false true
  refine⟨hC _ _ _ _ _ h,fun l=>(by rw[e]at l;cases l),fun i j=>?_⟩
  rw[e]at j
  simp only[List.mem_cons,List.not_mem_nil,or_false]at j
  rcases j with rfl|rfl
  ·exact wpOp_mono (fun g f b=>B g f b) (h2_3 _ _ _ _ h)
  ·exact wpOp_mono (fun g f b=>t g f b) (h8 _ _ _ _ h)
 have M:∀a w,J 1 false true a w->wpAnyC P .any ops C Q 7 (Lf true false false false false true) a w:=fun a w h=>by
  have e:Region.ready .any ops (Lf true false false false false true)=[2,3,8]:=r1 false true
  refine⟨hC _ _ _ _ _ h,fun l=>(by rw[e]at l;cases l),fun i j=>?_⟩
  rw[e]at j
  simp only[List.mem_cons,List.not_mem_nil,or_false]at j
  rcases j with rfl|rfl|rfl
  ·exact wpOp_mono (fun g f b=>I g f b) (h2_1 _ _ _ _ h)
  ·exact wpOp_mono (fun g f b=>z g f b) (h3_1 _ _ _ _ h)
  ·exact wpOp_mono (fun g f b=>r g f b) (h8 _ _ _ _ h)
 have U:∀a w,J 0 false true a w->wpAnyC P .any ops C Q 8 (Lf false false false false false true) a w:=fun a w h=>by
  have e:Region.ready .any ops (Lf false false false false false true)=[1,8]:=r0 false true
  refine⟨hC _ _ _ _ _ h,fun l=>(by rw[e]at l;cases l),fun i j=>?_⟩
  rw[e]at j
  simp only[List.mem_cons,List.not_mem_nil,or_false]at j
  rcases j with rfl|rfl
  ·exact wpOp_mono (fun g f b=>M g f b) (h1_0 _ _ _ _ h)
  ·exact wpOp_mono (fun g f b=>H g f b) (h8 _ _ _ _ h)
 have E:∀a w,J 4 true false a w->wpAnyC P .any ops C Q 4 (Lf true true true true true false) a w:=fun a w h=>by
  have e:Region.ready .any ops (Lf true true true true true false)=[12]:=r4 true false rfl
  refine⟨hC _ _ _ _ _ h,fun l=>(by rw[e]at l;cases l),fun i j=>?_⟩
  rw[e]at j
  simp only[List.mem_cons,List.not_mem_nil,or_false]at j
  subst j
  exact wpOp_mono (fun g f b=>q g f b) (h12 _ _ _ _ h)
 have L:∀a w,J 5 true false a w->wpAnyC P .any ops C Q 5 (Lf true true true false true false) a w:=fun a w h=>by
  obtain⟨v,n,b⟩:=h4 _ _ _ _ h
  exact Qbr ho4 (Region.noSelect_spec hsel) hL hQ 4 _ a w (Region.free_spec ho4 (r5 true false).2) (by simpa using (r5 true false).1) n (E _ _ b)
 have u:∀a w,J 2 true false a w->wpAnyC P .any ops C Q 6 (Lf true true false false true false) a w:=fun a w h=>by
  have e:Region.ready .any ops (Lf true true false false true false)=[3,12]:=r2 true false
  refine⟨hC _ _ _ _ _ h,fun l=>(by rw[e]at l;cases l),fun i j=>?_⟩
  rw[e]at j
  simp only[List.mem_cons,List.not_mem_nil,or_false]at j
  rcases j with rfl|rfl
  ·exact wpOp_mono (fun g f b=>L g f b) (h3_2 _ _ _ _ h)
  ·exact wpOp_mono (fun g f b=>s g f b) (h12 _ _ _ _ h)
 have G:∀a w,J 3 true false a w->wpAnyC P .any ops C Q 6 (Lf true false true false true false) a w:=fun a w h=>by
  have e:Region.ready .any ops (Lf true false true false true false)=[2,12]:=r3 true false
  refine⟨hC _ _ _ _ _ h,fun l=>(by rw[e]at l;cases l),fun i j=>?_⟩
  rw[e]at j
  simp only[List.mem_cons,List.not_mem_nil,or_false]at j
  rcases j with rfl|rfl
  ·exact wpOp_mono (fun g f b=>L g f b) (h2_3 _ _ _ _ h)
  ·exact wpOp_mono (fun g f b=>t g f b) (h12 _ _ _ _ h)
 have D:∀a w,J 1 true false a w->wpAnyC P .any ops C Q 7 (Lf true false false false true false) a w:=fun a w h=>by
  have e:Region.ready .any ops (Lf true false false false true false)=[2,3,12]:=r1 true false
  refine⟨hC _ _ _ _ _ h,fun l=>(by rw[e]at l;cases l),fun i j=>?_⟩
  rw[e]at j
  simp only[List.mem_cons,List.not_mem_nil,or_false]at j
  rcases j with rfl|rfl|rfl
  ·exact wpOp_mono (fun g f b=>u g f b) (h2_1 _ _ _ _ h)
  ·exact wpOp_mono (fun g f b=>G g f b) (h3_1 _ _ _ _ h)
  ·exact wpOp_mono (fun g f b=>r g f b) (h12 _ _ _ _ h)
 have R:∀a w,J 0 true false a w->wpAnyC P .any ops C Q 8 (Lf false false false false true false) a w:=fun a w h=>by
  have e:Region.ready .any ops (Lf false false false false true false)=[1,12]:=r0 true false
  refine⟨hC _ _ _ _ _ h,fun l=>(by rw[e]at l;cases l),fun i j=>?_⟩
  rw[e]at j
  simp only[List.mem_cons,List.not_mem_nil,or_false]at j
  rcases j with rfl|rfl
  ·exact wpOp_mono (fun g f b=>D g f b) (h1_0 _ _ _ _ h)
  ·exact wpOp_mono (fun g f b=>H g f b) (h12 _ _ _ _ h)
 have S:∀a w,J 4 false false a w->wpAnyC P .any ops C Q 5 (Lf true true true true false false) a w:=fun a w h=>by
  have e:Region.ready .any ops (Lf true true true true false false)=[8,12]:=r4 false false rfl
  refine⟨hC _ _ _ _ _ h,fun l=>(by rw[e]at l;cases l),fun i j=>?_⟩
  rw[e]at j
  simp only[List.mem_cons,List.not_mem_nil,or_false]at j
  rcases j with rfl|rfl
  ·exact wpOp_mono (fun g f b=>E g f b) (h8 _ _ _ _ h)
  ·exact wpOp_mono (fun g f b=>F g f b) (h12 _ _ _ _ h)
 have N:∀a w,J 5 false false a w->wpAnyC P .any ops C Q 6 (Lf true true true false false false) a w:=fun a w h=>by
  obtain⟨v,n,b⟩:=h4 _ _ _ _ h
  exact Qbr ho4 (Region.noSelect_spec hsel) hL hQ 5 _ a w (Region.free_spec ho4 (r5 false false).2) (by simpa using (r5 false false).1) n (S _ _ b)
 have V:∀a w,J 2 false false a w->wpAnyC P .any ops C Q 7 (Lf true true false false false false) a w:=fun a w h=>by
  have e:Region.ready .any ops (Lf true true false false false false)=[3,8,12]:=r2 false false
  refine⟨hC _ _ _ _ _ h,fun l=>(by rw[e]at l;cases l),fun i j=>?_⟩
  rw[e]at j
  simp only[List.mem_cons,List.not_mem_nil,or_false]at j
  rcases j with rfl|rfl|rfl
  ·exact wpOp_mono (fun g f b=>N g f b) (h3_2 _ _ _ _ h)
  ·exact wpOp_mono (fun g f b=>u g f b) (h8 _ _ _ _ h)
  ·exact wpOp_mono (fun g f b=>I g f b) (h12 _ _ _ _ h)
 have T:∀a w,J 3 false false a w->wpAnyC P .any ops C Q 7 (Lf true false true false false false) a w:=fun a w h=>by
  have e:Region.ready .any ops (Lf true false true false false false)=[2,8,12]:=r3 false false
  refine⟨hC _ _ _ _ _ h,fun l=>(by rw[e]at l;cases l),fun i j=>?_⟩
  rw[e]at j
  simp only[List.mem_cons,List.not_mem_nil,or_false]at j
  rcases j with rfl|rfl|rfl
  ·exact wpOp_mono (fun g f b=>N g f b) (h2_3 _ _ _ _ h)
  ·exact wpOp_mono (fun g f b=>G g f b) (h8 _ _ _ _ h)
  ·exact wpOp_mono (fun g f b=>z g f b) (h12 _ _ _ _ h)
 have O:∀a w,J 1 false false a w->wpAnyC P .any ops C Q 8 (Lf true false false false false false) a w:=fun a w h=>by
  have e:Region.ready .any ops (Lf true false false false false false)=[2,3,8,12]:=r1 false false
  refine⟨hC _ _ _ _ _ h,fun l=>(by rw[e]at l;cases l),fun i j=>?_⟩
  rw[e]at j
  simp only[List.mem_cons,List.not_mem_nil,or_false]at j
  rcases j with rfl|rfl|rfl|rfl
  ·exact wpOp_mono (fun g f b=>V g f b) (h2_1 _ _ _ _ h)
  ·exact wpOp_mono (fun g f b=>T g f b) (h3_1 _ _ _ _ h)
  ·exact wpOp_mono (fun g f b=>D g f b) (h8 _ _ _ _ h)
  ·exact wpOp_mono (fun g f b=>M g f b) (h12 _ _ _ _ h)
 have X:∀a w,J 0 false false a w->wpAnyC P .any ops C Q 9 (Lf false false false false false false) a w:=fun a w h=>by
  have e:Region.ready .any ops (Lf false false false false false false)=[1,8,12]:=r0 false false
  refine⟨hC _ _ _ _ _ h,fun l=>(by rw[e]at l;cases l),fun i j=>?_⟩
  rw[e]at j
  simp only[List.mem_cons,List.not_mem_nil,or_false]at j
  rcases j with rfl|rfl|rfl
  ·exact wpOp_mono (fun g f b=>O g f b) (h1_0 _ _ _ _ h)
  ·exact wpOp_mono (fun g f b=>R g f b) (h8 _ _ _ _ h)
  ·exact wpOp_mono (fun g f b=>U g f b) (h12 _ _ _ _ h)
 exact X
end
end
end Go.Proofs.YtmfpbepifnedjaaGreat
