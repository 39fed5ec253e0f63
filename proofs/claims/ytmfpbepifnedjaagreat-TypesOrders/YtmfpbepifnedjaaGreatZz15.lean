/- The document's reader. -/
import Derived.Test.YtmfpbepifnedjaaGreatZz01
import Derived.Test.YtmfpbepifnedjaaGreatZz14
import Derived.Deep.Cut
import Derived.Deep.CutRange
set_option maxRecDepth 100000
set_option maxHeartbeats 32000000
namespace Go.Proofs.YtmfpbepifnedjaaGreat
section
open Go.RowKit Go.Maps
theorem Qkx{w:World}{b:Nat}{v0 v1 v2 v3 v4 v5 v6 v7 v8 v9 v10 v11 v12 v13 v14 v15:Value}(h:w.heap[b]?=some (.cells #[v0,v1,v2,v3,v4,v5,v6,v7,v8,v9,v10,v11,v12,v13,v14,v15] 61 (0,0))):(ltLoad (.pointer (Js b))).run Tryz.prog w = .ok (.agg #[v0,v1,v2,v3,v4,v5,v6,v7,v8,v9,v10,v11,v12,v13,v14,v15]) w:=
 run_loadAt_mid w b 0 61 [v0,v1,v2,v3,v4,v5,v6,v7,v8,v9,v10,v11,v12,v13,v14,v15] _ (fun q v a=>by rw[Qad h,Nat.zero_add];simpa using a) Tryz.underlying61 rfl Qdn
theorem Qme{w:World}{b:Nat}{old new:Array Value}(hb:w.heap[b]?=some (.cells old 61 (0,0)))(h0:old.size=16)(hn:new.size=16)(h1:new.all (·.oneCell')=true):(ltStore (.pointer (Js b)) (.agg new)).run Tryz.prog w = .ok () (w.setRow b new):=by
 unfold ltStore
 simp only[Instr.storeAt,Instr.sureAddr,Sem.run_bind,Sem.run_pure,Result.andThen_ok]
 exact run_storeVar_row w b 61 61 old new hb (by rw[hn];kernel_rfl) (by rw[h0,hn]) h1
theorem Kp.row{rb b:Nat}{w w':World}{cs:Array Value}(h:Kp rb w w')(hb:w.heap.size<=b):Kp rb w (w'.setRow b cs):=⟨h.os,h.tape,h.output,by rw[size_setRow];exact h.size,fun q c a=>(setRow_other _ _ _ _ (by omega)).trans (h.block q c a)⟩
theorem lsZ(S:Nat->Prop)(w:World):LsAt PE 5 S w (Jn) []:=⟨none,0,[],rfl,Nat.le_refl _,by unfold maxLen;omega,⟨rfl,fun j x c a b=>by simp at a⟩,fun h=>absurd rfl h⟩
def ltV(rb a:Nat)(w:World)(w':World)(v:Value):Prop:=∃(x:Lt) (c0 c1 c2 c3 c4 c5 c6 c7 c8 c9 c10 c11 c12 c13 c14 c15:Value),v = .agg #[c0,c1,c2,c3,c4,c5,c6,c7,c8,c9,c10,c11,c12,c13,c14,c15]/\PLt (fun b=>w.heap.size<=b) w' [c0,c1,c2,c3,c4,c5,c6,c7,c8,c9,c10,c11,c12,c13,c14,c15] x/\szQ rb a (ltQ x) w'
def LtI(rb g cap:Nat)(l:List Tok)(w:World)(d i a:Nat)(y:Int)(ne ns:Nat)(sg:List Txt)(t:Tok)(xl:Ex)(la:Option Addr)(ln lc:Nat)(ot:Txt)(wr:World)(aX:Nat)(yX fX:Int):Prop:=Rr rb g cap l wr aX d i yX fX/\Kp rb w wr/\wr.heap[ne]?=some (.cells #[.int .i64 3,.string ⟨#[]⟩,.slice none 0 0,.int .i64 0,str ot,.int .i64 xl.kind,.int .i64 xl.num,str xl.txt,.slice la ln lc,.int .i64 xl.at_,.int .i64 0,.int .i64 0,.string ⟨#[]⟩,.slice none 0 0,.int .i64 0,.int .i64 (t.at_:Int)] 61 (0,0))/\wr.heap[w.heap.size]?=some (.cells #[.int .i64 0,.string ⟨#[]⟩,.slice none 0 0,.int .i64 0,.string ⟨#[]⟩,.int .i64 0,.int .i64 0,.string ⟨#[]⟩,.slice none 0 0,.int .i64 0,.int .i64 0,.int .i64 0,.string ⟨#[]⟩,.slice none 0 0,.int .i64 0,.int .i64 0] 61 (0,0))/\ExS (fun b=>ne<b/\b<ns) wr [.int .i64 xl.kind,.int .i64 xl.num,str xl.txt,.slice la ln lc,.int .i64 xl.at_] xl/\(∀(j:Nat) (t:Txt),sg[j]?=some t->wr.cell? ⟨ns,j,none⟩=some (str t))/\a<=aX/\(yX=0->y=0/\a<aX)/\(ot≠[]->yX=0/\aX+1<l.length)
theorem LtI.mk{rb g cap:Nat}{l:List Tok}{w:World}{d i a:Nat}{y:Int}{ne ns:Nat}{sg:List Txt}{t:Tok}{xl:Ex}{la:Option Addr}{ln lc:Nat}{ot:Txt}{wr w':World}{aX:Nat}{yX fX:Int}(h:LtI rb g cap l w d i a y ne ns sg t xl la ln lc ot wr aX yX fX)(b:Below wr.heap.size wr w'):LtI rb g cap l w d i a y ne ns sg t xl la ln lc ot w' aX yX fX:=by
 obtain⟨n,r,c,f,m,o,k⟩:=h
 refine⟨n.later b,r.trans (Kp.of_below b),(b.block _ (Qaa c)).trans c,(b.block _ (Qaa f)).trans f,Qaf.same _ _ _ _ _ m b.size (fun q _ u=>b.block q u),fun j t s=>?_,k⟩
 have:=o j t s
 by_cases e:ns<wr.heap.size
 ·exact(b.cell (p:=(Ja ns j)) e).trans this
 ·rw[show wr.cell? (Ja ns j)=none by simp[World.cell?,Array.getElem?_eq_none (Nat.le_of_not_lt e)]]at this;cases this
theorem LtI.set{rb g cap:Nat}{l:List Tok}{w:World}{d i a:Nat}{y:Int}{ne ns:Nat}{sg:List Txt}{t:Tok}{xl:Ex}{la:Option Addr}{ln lc:Nat}{ot:Txt}{wr:World}{aX:Nat}{yX fX:Int}(h:LtI rb g cap l w d i a y ne ns sg t xl la ln lc ot wr aX yX fX)(hn:ne<ns)(hr:rb<ne/\g<ne/\w.heap.size<ne){st:Txt}(hs:yX=0/\aX+1<l.length):LtI rb g cap l w d i a y ne ns sg t xl la ln lc st (wr.setCell (Ja ne 4) (str st)) aX yX fX:=by
 obtain⟨n,r,k,m,e,p,c,f,_⟩:=h
 have o:∀q,q≠ne->(wr.setCell (Ja ne 4) (str st)).heap[q]?=wr.heap[q]?:=fun q b=>hpS b
 refine⟨n.move (by simp) (o rb (by omega)) (o g (by omega)),r.set2 (by omega),(Qah k 4 _).trans rfl,(o _ (by omega)).trans m,Qaf.same _ _ _ _ _ e (by simp) (fun q b _=>o q (by omega)),fun j t s=>?_,c,f,fun _=>hs⟩
 have:=p j t s
 simp only[World.cell?]at this ⊢
 rw[o ns (by omega)];exact this
attribute [local go_sem ↓] Qbh Qbo
theorem Qsw{rb g cap a d i:Nat}{l:List Tok}{w:World}{y f:Int}(h:Rr rb g cap l w a d i y f)(hd:d<=63):
  Calls Tryz.prog 94 #[.pointer (Js rb)] w fun en w'=>RA rb g cap l w d (ltV rb a w) (CoY a i y) en w':=by
 have b0:Below w.heap.size w (w.alloc (.cells #[Ji 0,Je,Jn,Ji 0,Je,Ji 0,Ji 0,Je,Jn,Ji 0,Ji 0,Ji 0,Je,Jn,Ji 0,Ji 0] 61)):=(Below.refl _ w).alloc (Nat.le_refl _) _
 have n0:(w.alloc (.cells #[Ji 0,Je,Jn,Ji 0,Je,Ji 0,Ji 0,Je,Jn,Ji 0,Ji 0,Ji 0,Je,Jn,Ji 0,Ji 0] 61)).heap[w.heap.size]?=some (.cells #[Ji 0,Je,Jn,Ji 0,Je,Ji 0,Ji 0,Je,Jn,Ji 0,Ji 0,Ji 0,Je,Jn,Ji 0,Ji 0] 61 (0,0)):=heap_alloc_new w _
 have s0:(w.alloc (.cells #[Ji 0,Je,Jn,Ji 0,Je,Ji 0,Ji 0,Je,Jn,Ji 0,Ji 0,Ji 0,Je,Jn,Ji 0,Ji 0] 61)).heap.size=w.heap.size+1:=by simp
 obtain⟨t,ht⟩:=h.tok
 have bn:=Qao (h.later b0) ht
 unfold tkA at bn
 have cp:=Qaa h.box
 have co:=h.row.lt
 have HH:=hide h
 have HT:=hide ht
 have HD:=hide hd
 have H0:=hide (Ya b0 (Ya n0 s0))
 clear h ht hd b0 n0 s0
 go_enter Tryz.func94,Tryz.ntmps94
 go_wp2_with fail
 refine bn.mono ?_
 clear bn
 rintro en w1⟨rfl,b1⟩
 obtain⟨b0,n0,s0⟩:=Qa H0
 obtain⟨W3,bd⟩:=JE (w1.alloc (.cells #[Ji 1,Je,Jn,Ji 0,Je,Ji 0,Ji 0,Je,Jn,Ji 0,Ji 0,Ji 0,Je,Jn,Ji 0,Ji (t.at_:Int)] 61))
 have c2:=b1.size
 have b3:Below w1.heap.size w1 W3:=by rw[bd];exact(Below.refl _ w1).alloc (Nat.le_refl _) _
 have m3:W3.heap[w1.heap.size]?=some (.cells #[Ji 1,Je,Jn,Ji 0,Je,Ji 0,Ji 0,Je,Jn,Ji 0,Ji 0,Ji 0,Je,Jn,Ji 0,Ji (t.at_:Int)] 61 (0,0)):=by rw[bd];exact heap_alloc_new w1 _
 have z3:W3.heap[w.heap.size]?=some (.cells #[Ji 0,Je,Jn,Ji 0,Je,Ji 0,Ji 0,Je,Jn,Ji 0,Ji 0,Ji 0,Je,Jn,Ji 0,Ji 0] 61 (0,0)):=((b3.block _ (by omega)).trans (b1.block _ (by omega))).trans n0
 have bw:Below w.heap.size w W3:=(b0.trans (b1.mono (by omega))).trans (b3.mono (by omega))
 have S3:(ltStore (.pointer (Js w1.heap.size)) (.agg #[Ji 1,Je,Jn,Ji 0,Je,Ji 0,Ji 0,Je,Jn,Ji 0,Ji 0,Ji 0,Je,Jn,Ji 0,Ji (t.at_:Int)])).run Tryz.prog (w1.alloc (.cells #[Ji 0,Je,Jn,Ji 0,Je,Ji 0,Ji 0,Je,Jn,Ji 0,Ji 0,Ji 0,Je,Jn,Ji 0,Ji 0] 61)) = .ok () W3:=by rw[bd];exact run_storeAt_new w1 61 _ _ Qdn rfl (by simp[Value.oneCell'])
 obtain⟨ne,bt⟩:=JF w1.heap.size
 have bU:=Qbf ((Qa HH).later bw) ⟨#[33]⟩
 rw[bt]at m3
 have H3:=hide (Ya (Kp.of_below (rb:=rb) bw) (Ya m3 z3))
 have H:=hide (show rb<w.heap.size/\g<w.heap.size/\w.heap.size<ne by omega)
 have HW:=hide bt
 clear b0 n0 s0 b1 bd c2 b3 m3 z3 bw bt H0
 go_wp2_with fail
 rename_i B
 refine B _ _ ?_
 clear B
 go_wp2_with fail
 rw[Qa HW]
 clear S3
 refine bU.mono ?_
 clear bU
 rintro en w4⟨b,a4,f4,rfl,bW,bz,h4,k4⟩
 have c9:=Qa H
 have ao:=hide (show a<=a4 by
  cases b with
  |true=>have:=(bW rfl).2;omega
  |false=>have:=bz rfl;omega)
 have m4:=k4.keep (Qa H3).2.1 (by omega)
 have H4:=hide (Ya h4 (Ya ((Qa H3).1.trans k4) (Ya m4 (Ya (k4.keep (Qa H3).2.2 (by omega)) (Qaa m4)))))
 clear bW bz h4 k4 c9 m4 H3
 cases b
 ·
  obtain⟨u,hu⟩:=(Qa H4).1.tok
  have HU:=hide hu
  clear hu
  go_upto_region 6 with fail
  go_cut [32] from 17 to 32 (fun c wc=>∃b:Bool,c = .bool b/\Hid (Rr rb g cap l wc a4 d i y f4/\Kp rb w wc/\wc.heap[ne]?=some (.cells #[Ji 1,Je,Jn,Ji 0,Je,Ji 0,Ji 0,Je,Jn,Ji 0,Ji 0,Ji 0,Je,Jn,Ji 0,Ji (t.at_:Int)] 61 (0,0))/\wc.heap[w.heap.size]?=some (.cells #[Ji 0,Je,Jn,Ji 0,Je,Ji 0,Ji 0,Je,Jn,Ji 0,Ji 0,Ji 0,Je,Jn,Ji 0,Ji 0] 61 (0,0))/\ne<wc.heap.size))
  case first=>
   have E:=Qao (Qa H4).1 (Qa HU)
   unfold tkA at E
   go_wp2_with fail
   refine E.mono ?_
   clear E
   rintro en w5⟨rfl,b5⟩
   have cg:=Qa H
   have m5:=(Kp.of_below (rb:=rb) b5).keep (Qa H4).2.2.1 (by omega)
   have H5:=hide (Ya ((Qa H4).1.later b5) (Ya ((Qa H4).2.1.trans (Kp.of_below b5)) (Ya m5 (Ya ((Kp.of_below (rb:=rb) b5).keep (Qa H4).2.2.2.1 (by omega)) (Qaa m5)))))
   clear b5 cg m5
   by_cases ku:u.kind=1
   ·
    have gu:(u.kind==1)=true:=beq_iff_eq.2 ku
    clear ku
    obtain⟨v,P⟩:∃v,l[min (a4+1) (l.length - 1)]?=some v:=⟨l[min (a4+1) (l.length - 1)]'(by have:=(Qa H4).1.lt;omega),List.getElem?_eq_getElem _⟩
    have HV:=hide P
    clear P
    go_wp2_with fail
    rename_i B
    refine B _ _ ?_
    clear B
    have E:=Qbx (Qa H5).1 (Qa HV)
    unfold tkA at E
    go_wp2_with fail
    refine E.mono ?_
    clear E
    rintro en w7⟨rfl,b7⟩
    have ax:=Qa H
    have V:=(Kp.of_below (rb:=rb) b7).keep (Qa H5).2.2.1 (by omega)
    have H7:=hide (Ya ((Qa H5).1.later b7) (Ya ((Qa H5).2.1.trans (Kp.of_below b7)) (Ya V (Ya ((Kp.of_below (rb:=rb) b7).keep (Qa H5).2.2.2.1 (by omega)) (Qaa V)))))
    clear b7 ax V
    by_cases kv:v.kind=4
    ·
     have gv:(v.kind==4)=true:=beq_iff_eq.2 kv
     clear kv
     go_wp2_with fail
     rename_i B
     refine B _ _ ?_
     clear B
     have E:=Qbx (Qa H7).1 (Qa HV)
     unfold tkA at E
     go_wp2_with fail
     refine E.mono ?_
     clear E
     rintro en w8⟨rfl,b8⟩
     have cc:=Qa H
     have m8:=(Kp.of_below (rb:=rb) b8).keep (Qa H7).2.2.1 (by omega)
     have H8:=hide (Ya ((Qa H7).1.later b8) (Ya ((Qa H7).2.1.trans (Kp.of_below b8)) (Ya m8 (Ya ((Kp.of_below (rb:=rb) b8).keep (Qa H7).2.2.2.1 (by omega)) (Qaa m8)))))
     clear b8 cc m8
     by_cases kt:v.text=[40]
     ·
      have gt:(v.text==[40])=true:=by simpa using kt
      clear kt
      go_wp2_with fail
      rename_i B
      refine B _ _ ?_
      clear B
      go_wp2_with fail
      go_meet
      exact⟨true,rfl,H8⟩
     have gt:(v.text==[40])=false:=by simpa using kt
     clear kt
     go_wp2_with fail
     rename_i B
     refine B _ _ ?_
     clear B
     go_wp2_with fail
     go_meet
     exact⟨false,rfl,H8⟩
    have gv:(v.kind==4)=false:=beq_eq_false_iff_ne.2 kv
    clear kv
    go_wp2_with fail
    rename_i B
    refine B _ _ ?_
    clear B
    go_wp2_with fail
    go_meet
    exact⟨false,rfl,H7⟩
   have gu:(u.kind==1)=false:=beq_eq_false_iff_ne.2 ku
   clear ku
   go_wp2_with fail
   rename_i B
   refine B _ _ ?_
   clear B
   go_wp2_with fail
   go_meet
   exact⟨false,rfl,H5⟩
  obtain⟨b,rfl,H5⟩:=hcut
  obtain⟨w5,c6⟩:=JE wc
  subst c6
  clear H4
  cases b
  ·
   have ax:=Qa H
   obtain⟨h7,A,V,z7,aP⟩:=Qa H5
   obtain⟨a7,a3,af,a6,ag,ab,a2,ad,a8,a5,X,Y,a1,a0,W,Z,xf⟩:=cl16 V
   obtain⟨p,r⟩:=JE ((w5.setCell (Ja ne 0) (Ji 3)))
   have G:p.heap[ne]?=some (.cells #[Ji 3,Je,Jn,Ji 0,Je,Ji 0,Ji 0,Je,Jn,Ji 0,Ji 0,Ji 0,Je,Jn,Ji 0,Ji (t.at_:Int)] 61 (0,0)):=by rw[r];exact(Qah V 0 _).trans rfl
   have M:∀q,q≠ne->p.heap[q]?=w5.heap[q]?:=fun q m=>by rw[r,hpS m]
   have sB:p.heap.size=w5.heap.size:=by rw[r];simp
   have au:=h7.move (w':=p) (by omega) (M rb (by omega)) (M g (by omega))
   have I:Kp rb w p:=⟨by rw[r];exact A.os,by rw[r];exact A.tape,by rw[r];exact A.output,by rw[sB];exact A.size,fun q m hn=>(M q (by omega)).trans (A.block q m hn)⟩
   have E:=Qqj (Qa HD) p a4 i y f4 au
   have aA:=hide (Ya I (Ya G (Ya ((M _ (by omega)).trans z7) (show ne<p.heap.size by omega))))
   have ar:=hide r
   clear h7 A V z7 aP ax r G M sB au I
   go_wp2_with fail
   rw[<- Qa ar]
   clear ar a7 a3 af a6 ag ab a2 ad a8 a5 X Y a1 a0 W Z xf
   refine E.mono ?_
   clear E
   rintro en w9⟨_,a9,i9,y9,f9,rfl,⟨k,⟨_,rfl,⟨Q,R,T,rfl⟩,bT⟩,-⟩,⟨F,aQ,ai⟩,h9,U⟩
   rw[F]at h9
   clear F
   obtain⟨I,G,zB,ay⟩:=Qa aA
   have aO:=Qa H
   have c7:=U.size
   have m9:=U.keep G (by omega)
   have z9:=U.keep zB (by omega)
   obtain⟨a7,a3,af,a6,ag,ab,a2,ad,a8,a5,X,Y,a1,a0,W,Z,xf⟩:=cl16 m9
   obtain⟨WC,ap⟩:=JE ((((((w9.setCell (Ja ne 5) (Ji k.kind)).setCell (Ja ne 6) (Ji k.num)).setCell (Ja ne 7) (str k.txt)).setCell (Ja ne 8) (.slice Q R T)).setCell (Ja ne 9) (Ji k.at_)))
   have mC:WC.heap[ne]?=some (.cells #[Ji 3,Je,Jn,Ji 0,Je,Ji k.kind,Ji k.num,str k.txt,.slice Q R T,Ji k.at_,Ji 0,Ji 0,Je,Jn,Ji 0,Ji (t.at_:Int)] 61 (0,0)):=by rw[ap];exact(Qah (Qah (Qah (Qah (Qah m9 5 _) 6 _) 7 _) 8 _) 9 _).trans rfl
   have oC:∀q,q≠ne->WC.heap[q]?=w9.heap[q]?:=fun q m=>by rw[ap,hpS m,hpS m,hpS m,hpS m,hpS m]
   have sC:WC.heap.size=w9.heap.size:=by rw[ap];simp
   obtain⟨ns,bc⟩:=JF WC.heap.size
   obtain⟨WD,aJ⟩:=JE (WC.alloc (.cells #[.string ⟨#[61]⟩,.string ⟨#[33,61]⟩,.string ⟨#[60]⟩,.string ⟨#[60,61]⟩,.string ⟨#[62]⟩,.string ⟨#[62,61]⟩] 9))
   have bD:Below WC.heap.size WC WD:=by rw[aJ];exact(Below.refl _ WC).alloc (Nat.le_refl _) _
   have gD:WD.heap[ns]?=some (.cells #[.string ⟨#[61]⟩,.string ⟨#[33,61]⟩,.string ⟨#[60]⟩,.string ⟨#[60,61]⟩,.string ⟨#[62]⟩,.string ⟨#[62,61]⟩] 9):=by rw[aJ,<- bc];exact heap_alloc_new WC _
   have sD:WD.heap.size=ns+1:=by rw[aJ,<- bc];simp
   have bI:=h9.move (w':=WC) (by omega) (oC rb (by omega)) (oC g (by omega))
   have aE:=I.trans U
   have kC:Kp rb w WC:=⟨by rw[ap];exact aE.os,by rw[ap];exact aE.tape,by rw[ap];exact aE.output,by rw[sC];exact aE.size,fun q m hn=>(oC q (by omega)).trans (aE.block q m hn)⟩
   have bP:ExS (fun b=>ne<b/\b<ns) WD [Ji k.kind,Ji k.num,str k.txt,.slice Q R T,Ji k.at_] k:=Qaf.mono _ _ _ _ _ (Qaf.same _ _ WD _ _ (Qaf.mono _ (fun b=>p.heap.size<=b/\b<w9.heap.size) _ _ _ bT (fun b hl hb=>⟨hb,hl⟩)) (by omega) (fun q m hl=>(bD.block q (by omega)).trans (oC q (by omega)))) (fun b _ hb=>⟨by omega,by omega⟩)
   have zC:=(bD.block _ (by omega)).trans ((oC _ (by omega)).trans z9)
   have mD:=(bD.block _ (by omega)).trans mC
   obtain⟨sg,bk⟩:∃sg:List Txt,sg=[[61],[33,61],[60],[60,61],[62],[62,61]]:=⟨_,rfl⟩
   have q1:∀(j:Nat) (t:Txt),sg[j]?=some t->WD.cell? (Ja ns j)=some (str t):=fun j t O=>by
    rw[Qad gD]
    rw[bk]at O
    match j,O with
    | 0,O=>cases O;rfl
    | 1,O=>cases O;rfl
    | 2,O=>cases O;rfl
    | 3,O=>cases O;rfl
    | 4,O=>cases O;rfl
    | 5,O=>cases O;rfl
    |j+6,O=>simp at O
   have cb:=hide (show sg.length=6 by rw[bk];rfl)
   have bK:Hid (LtI rb g cap l w d i a y ne ns sg t k Q R T [] WD a9 y9 f9):=⟨bI.later bD,kC.trans (Kp.of_below bD),mD,zC,bP,q1,by have:=Qa ao;omega,fun e=>⟨(ai e).1,by have:=(ai e).2;have:=Qa ao;omega⟩,fun e=>absurd rfl e⟩
   have c0:=hide (show ne<ns by omega)
   have bV:=hide ap
   have bx:=hide (Ya aJ (sC.symm.trans bc))
   clear I G zB ay aO c7 m9 z9 ap mC oC sC bc aJ bD gD sD bI aE kC bP zC mD bk q1 bT aQ ai h9 U
   go_wp2_with fail
   rw[<- Qa bV,<- (Qa bx).1,(Qa bx).2]
   clear bV bx a7 a3 af a6 ag ab a2 ad a8 a5 X Y a1 a0 W Z xf aA
   go_loopw [5,43] (fun _ bl wr=>∃(ot:Txt) (j:Nat),bl = Ji (j:Int)/\j<=6/\Hid (LtI rb g cap l w d i a y ne ns sg t k Q R T ot wr a9 y9 f9)) (fun _ bl _=>6 - (intOf bl).toNat)
   case atStart=>exact⟨[],0,rfl,Nat.zero_le _,bK⟩
   obtain⟨ot,j,rfl,O,HI⟩:=hrel
   clear bK
   by_cases ch:j<6
   ·
    obtain⟨st,bR⟩:∃st,sg[j]?=some st:=⟨sg[j]'(by rw[Qa cb];exact ch),List.getElem?_eq_getElem _⟩
    have c1:=(Qa HI).2.2.2.2.2.1 j st bR
    have bp:=Qcj (Qa HI).1 ⟨st.toArray⟩
    rw[show(Value.string ⟨st.toArray⟩)=str st from rfl]at bp
    clear bR
    go_wp2_with fail
    refine bp.mono ?_
    clear bp
    rintro en cn⟨b,rfl,hb,bF⟩
    have br:=hide ((Qa HI).mk bF)
    have HB:=hide hb
    clear hb bF c1 HI
    cases b
    ·
     go_wp2_with fail
     go_roundw
     case rel=>exact⟨ot,j+1,by go_num,by omega,br⟩
     case measure=>simp[intOf];omega
    obtain⟨a7,a3,af,a6,ag,ab,a2,ad,a8,a5,X,Y,a1,a0,W,Z,xf⟩:=cl16 (Qa br).2.2.1
    go_wp2_with fail
    go_roundw
    case rel=>exact⟨st,j+1,by go_num,by omega,hide ((Qa br).set (Qa c0) (by have:=Qa H;omega) (Qa HB (by trivial)))⟩
    case measure=>simp[intOf];omega
   obtain⟨a7,a3,af,a6,ag,ab,a2,ad,a8,a5,X,Y,a1,a0,W,Z,xf⟩:=cl16 (Qa HI).2.2.1
   obtain⟨ob,cj⟩:=JF ((ot==[]))
   go_upto_if 55 with fail
   go_cut [] from 53 to 57 (fun wc=>∃yS fS:Int,Hid (Rr rb g cap l wc a9 d i yS fS/\Kp rb w wc/\wc.heap[ne]?=some (.cells #[Ji 3,Je,Jn,Ji 0,str ot,Ji k.kind,Ji k.num,str k.txt,.slice Q R T,Ji k.at_,Ji 0,Ji 0,Je,Jn,Ji 0,Ji (t.at_:Int)] 61 (0,0))/\wc.heap[w.heap.size]?=some (.cells #[Ji 0,Je,Jn,Ji 0,Je,Ji 0,Ji 0,Je,Jn,Ji 0,Ji 0,Ji 0,Je,Jn,Ji 0,Ji 0] 61 (0,0))/\ExS (fun b=>ne<b/\b<ns) wc [Ji k.kind,Ji k.num,str k.txt,.slice Q R T,Ji k.at_] k/\a<=a9/\(yS=0->y=0/\a<a9)))
   case first=>
    cases ob
    ·
     obtain⟨be,b9,b2,aT,aS,bq,aW,bb,bo⟩:=Qa HI
     have HS:=hide (Ya be (Ya b9 (Ya b2 (Ya aT (Ya aS (Ya aW bb))))))
     clear be b9 b2 aT aS bq aW bb bo
     go_wp2_with fail
     go_meet
     exact⟨_,_,HS⟩
    have bY:=Qbe (Qa HI).1 (why:=10) (by decide)
    go_wp2_with fail
    clear a7 a3 af a6 ag ab a2 ad a8 a5 X Y a1 a0 W Z xf
    refine bY.mono ?_
    clear bY
    rintro en c3⟨_,cq,ct,ca,ck,rfl,rfl,⟨ea,F,bi⟩,bv,az⟩
    rw[ea,F]at bv
    clear ea F
    have bS:=Qa H
    obtain⟨be,b9,b2,aT,aS,bq,aW,bb,bo⟩:=Qa HI
    have HS:=hide (Ya bv (Ya (b9.trans az) (Ya (az.keep b2 (by omega)) (Ya (az.keep aT (by omega)) (Ya (Qaf.same _ _ c3 _ _ aS az.size (fun q m hl=>az.block q hl (by omega))) (Ya aW (show ca=0->y=0/\a<a9 from fun e=>absurd e bi)))))))
    clear bS be b9 b2 aT aS bq aW bb bo bv az bi
    go_wp2_with fail
    go_meet
    exact⟨_,_,HS⟩
   obtain⟨yS,fS,HS⟩:=hcut
   clear cj HI a7 a3 af a6 ag ab a2 ad a8 a5 X Y a1 a0 W Z xf
   obtain⟨u2,bB⟩:=(Qa HS).1.tok
   have bZ:=Qb (Qa HS).1 bB
   clear bB
   go_wp2_with fail
   refine bZ.mono ?_
   clear bZ
   rintro en aG⟨_,bf,cm,cl,ce,rfl,rfl,⟨F,ey,bj⟩,bm,aD⟩
   rw[F,ey]at bm
   clear F ey
   have bE:=Qa H
   obtain⟨cd,bM,bA,bG,bO,cf,bs⟩:=Qa HS
   have bu:=aD.keep bA (by omega)
   have bh:=aD.size
   have bN:a9<=bf:=by rcases bj with ⟨_,_,e⟩|⟨e,_⟩<;>omega
   have bg:ExS (fun b=>ne<b/\b<ns) aG [Ji k.kind,Ji k.num,str k.txt,.slice Q R T,Ji k.at_] k:=Qaf.same _ _ _ _ _ bO bh (fun q m hl=>aD.block q hl (by omega))
   have E:=Qqj (Qa HD) aG bf i yS ce bm
   have ci:=hide (Ya (bM.trans aD) (Ya bu (Ya (aD.keep bG (by omega)) (Ya bg (Ya (show a<=bf by omega) (Ya (show yS=0->y=0/\a<bf from fun e=>⟨(bs e).1,by have:=(bs e).2;omega⟩) (Qaa bu)))))))
   clear bE cd bM bA bG bO cf bs bu bh bN bg bm aD bj
   go_wp2_with fail
   refine E.mono ?_
   clear E
   rintro en ba⟨_,c5,cr,c8,cs,rfl,⟨o,⟨_,rfl,⟨ra,rn,rc,rfl⟩,bQ⟩,-⟩,⟨F,ha13,hy13⟩,P,k13⟩
   rw[F]at P
   clear F
   have bC:=Qa H
   obtain⟨kq,mq,zq,bX,c4,bL,bJ⟩:=Qa ci
   have kv:=kq.trans k13
   have mv:=k13.keep mq (by omega)
   have zv:=k13.keep zq (by omega)
   have hC:CoY a i y c5 i c8:=⟨rfl,by omega,fun e=>⟨(bL (hy13 e).1).1,by omega⟩⟩
   have aB:=hide (Ya (Qaf.same _ _ ba _ _ bX k13.size (fun q m hl=>k13.block q hl (by omega))) (Ya bQ bJ))
   clear bC kq mq zq bX c4 bL bJ bQ ha13 hy13 k13
   obtain⟨a7,a3,af,a6,ag,ab,a2,ad,a8,a5,X,Y,a1,a0,W,Z,xf⟩:=cl16 mv
   obtain⟨s,D⟩:=JE ((((((ba.setCell (Ja ne 10) (Ji o.kind)).setCell (Ja ne 11) (Ji o.num)).setCell (Ja ne 12) (str o.txt)).setCell (Ja ne 13) (.slice ra rn rc)).setCell (Ja ne 14) (Ji o.at_)))
   have mX:s.heap[ne]?=some (.cells #[Ji 3,Je,Jn,Ji 0,str ot,Ji k.kind,Ji k.num,str k.txt,.slice Q R T,Ji k.at_,Ji o.kind,Ji o.num,str o.txt,.slice ra rn rc,Ji o.at_,Ji (t.at_:Int)] 61 (0,0)):=by rw[D];exact(Qah (Qah (Qah (Qah (Qah mv 10 _) 11 _) 12 _) 13 _) 14 _).trans rfl
   have C:∀q,q≠ne->s.heap[q]?=ba.heap[q]?:=fun q m=>by rw[D,hpS m,hpS m,hpS m,hpS m,hpS m]
   have sX:s.heap.size=ba.heap.size:=by rw[D];simp
   obtain⟨e1,e2,e4⟩:=Qa H
   have zX:=(C w.heap.size (by omega)).trans zv
   have L5:=Qkx mX
   have S5:=Qme (new:=#[Ji 3,Je,Jn,Ji 0,str ot,Ji k.kind,Ji k.num,str k.txt,.slice Q R T,Ji k.at_,Ji o.kind,Ji o.num,str o.txt,.slice ra rn rc,Ji o.at_,Ji (t.at_:Int)]) zX rfl rfl (by simp[Value.oneCell',str])
   obtain⟨x,z⟩:=JE (s.setRow w.heap.size #[Ji 3,Je,Jn,Ji 0,str ot,Ji k.kind,Ji k.num,str k.txt,.slice Q R T,Ji k.at_,Ji o.kind,Ji o.num,str o.txt,.slice ra rn rc,Ji o.at_,Ji (t.at_:Int)])
   rw[<- z]at S5
   have S:∀q,q≠w.heap.size->x.heap[q]?=s.heap[q]?:=fun q m=>by rw[z];exact setRow_other _ _ _ _ m
   have s6:x.heap.size=s.heap.size:=by rw[z,size_setRow]
   have z6:x.heap[w.heap.size]?=some (.cells #[Ji 3,Je,Jn,Ji 0,str ot,Ji k.kind,Ji k.num,str k.txt,.slice Q R T,Ji k.at_,Ji o.kind,Ji o.num,str o.txt,.slice ra rn rc,Ji o.at_,Ji (t.at_:Int)] 61 (0,0)):=by rw[z];exact setRow_heap _ _ _ _ _ _ zX
   have K:=P.move (w':=x) (by omega) ((S rb (by omega)).trans (C rb (by omega))) ((S g (by omega)).trans (C g (by omega)))
   have kX:Kp rb w s:=by rw[D];exact(((((kv.set2 (by omega)).set2 (by omega)).set2 (by omega)).set2 (by omega)).set2 (by omega))
   have k6:Kp rb w x:=by rw[z];exact kX.row (Nat.le_refl _)
   have ae:PLt (fun b=>w.heap.size<=b) x [Ji 3,Je,Jn,Ji 0,str ot,Ji k.kind,Ji k.num,str k.txt,.slice Q R T,Ji k.at_,Ji o.kind,Ji o.num,str o.txt,.slice ra rn rc,Ji o.at_,Ji (t.at_:Int)] (⟨3,.none,ot,k,o,t.at_⟩):=⟨none,0,0,Q,R,T,ra,rn,rc,rfl,lsZ _ _,Qaf.mono _ _ _ _ _ (Qaf.same _ _ x _ _ (Qa aB).1 (by omega) (fun q m _=>(S q (by omega)).trans (C q (by omega)))) (fun b _ hb=>by omega),Qaf.mono _ _ _ _ _ (Qaf.same _ _ x _ _ (Qa aB).2.1 (by omega) (fun q m _=>(S q (by have b4:aG.heap.size<=q:=m;have:=(Qa aB).2.2;omega)).trans (C q (by have b4:aG.heap.size<=q:=m;have:=(Qa aB).2.2;omega)))) (fun b _ hb=>by have bH:aG.heap.size<=b:=hb;have:=(Qa aB).2.2;omega)⟩
   have HF:=hide (Ya K (Ya k6 (Ya z6 (Ya ae (hC)))))
   clear P kv mv zv mX C sX e1 e2 e4 zX z S s6 z6 K kX k6 ae hC aB
   subst D
   go_wp2_with fail
   obtain⟨K,k6,z6,ae,aC⟩:=Qa HF
   obtain⟨aK,aH,aF,aI,aM,aR,aV,b6,aX,aY,aj,aw,ak,aq,al,av,zf⟩:=cl16 z6
   refine bodyPost_ret (v:=.agg #[Ji 3,Je,Jn,Ji 0,str ot,Ji k.kind,Ji k.num,str k.txt,.slice Q R T,Ji k.at_,Ji o.kind,Ji o.num,str o.txt,.slice ra rn rc,Ji o.at_,Ji (t.at_:Int)]) (by simp[results,Tryz.results94,go_sem,aK,aH,aF,aI,aM,aR,aV,b6,aX,aY,aj,aw,ak,aq,al,av]) rfl ?_
   exact⟨_,_,_,_,_,rfl,⟨(⟨3,.none,ot,k,o,t.at_⟩),_,_,_,_,_,_,_,_,_,_,_,_,_,_,_,_,rfl,ae,szQ.of K (fun e=>by obtain⟨_,_,q⟩:=aC;have:=(q e).2;show exQs []+1+lngQ []+2*a<=_;rw[exQs,Qpn (Nat.zero_le _)];omega)⟩,aC,K,k6⟩
  have ax:=Qa H
  obtain⟨h7,A,V,z7,aP⟩:=Qa H5
  obtain⟨a7,a3,af,a6,ag,ab,a2,ad,a8,a5,X,Y,a1,a0,W,Z,xf⟩:=cl16 V
  obtain⟨p,r⟩:=JE w5
  have G:p.heap[ne]?=some (.cells #[Ji 1,Je,Jn,Ji 0,Je,Ji 0,Ji 0,Je,Jn,Ji 0,Ji 0,Ji 0,Je,Jn,Ji 0,Ji (t.at_:Int)] 61 (0,0)):=by rw[r];exact V
  have M:∀q,q≠ne->p.heap[q]?=w5.heap[q]?:=fun q _=>by rw[r]
  have sB:p.heap.size=w5.heap.size:=by rw[r]
  have au:=h7.move (w':=p) (by omega) (M rb (by omega)) (M g (by omega))
  have I:Kp rb w p:=⟨by rw[r];exact A.os,by rw[r];exact A.tape,by rw[r];exact A.output,by rw[sB];exact A.size,fun q m hn=>(M q (by omega)).trans (A.block q m hn)⟩
  have aL:=Qgf au (Qa HD)
  have aA:=hide (Ya I (Ya G (Ya ((M _ (by omega)).trans z7) (show ne<p.heap.size by omega))))
  have ar:=hide r
  clear h7 A V z7 aP ax r G M sB au I
  go_wp2_with fail
  rw[<- Qa ar]
  clear ar a7 a3 af a6 ag ab a2 ad a8 a5 X Y a1 a0 W Z xf
  refine aL.mono ?_
  clear aL
  rintro en w9⟨_,a9,i9,y9,f9,rfl,⟨n,⟨J,N,L,rfl,aN⟩,aU,aZ⟩,⟨F,aQ,ai⟩,P,U⟩
  rw[F]at P
  clear F
  have SB:=hide (show y9=0->exQs n.args+1+lngQ n.rel+2*a<=2*a9 from fun e=>by have q1:=aU.at P e;have q2:=Qpn aZ;have:=Qa ao;omega)
  clear aU aZ
  obtain⟨I,G,zB,ay⟩:=Qa aA
  have aO:=Qa H
  have kv:=I.trans U
  have mv:=U.keep G (by omega)
  have zv:=U.keep zB (by omega)
  have hC:CoY a i y a9 i y9:=⟨rfl,by have:=Qa ao;omega,fun e=>⟨(ai e).1,by have:=(ai e).2;have:=Qa ao;omega⟩⟩
  have ah:=hide (Ya aN ay)
  clear I G zB ay aO aQ ai U aN
  obtain⟨a7,a3,af,a6,ag,ab,a2,ad,a8,a5,X,Y,a1,a0,W,Z,xf⟩:=cl16 mv
  obtain⟨s,D⟩:=JE ((((w9.setCell (Ja ne 1) (str n.rel)).setCell (Ja ne 2) (.slice J N L)).setCell (Ja ne 3) (Ji n.at_)))
  have mX:s.heap[ne]?=some (.cells #[Ji 1,str n.rel,.slice J N L,Ji n.at_,Je,Ji 0,Ji 0,Je,Jn,Ji 0,Ji 0,Ji 0,Je,Jn,Ji 0,Ji (t.at_:Int)] 61 (0,0)):=by rw[D];exact(Qah (Qah (Qah mv 1 _) 2 _) 3 _).trans rfl
  have C:∀q,q≠ne->s.heap[q]?=w9.heap[q]?:=fun q m=>by rw[D,hpS m,hpS m,hpS m]
  have sX:s.heap.size=w9.heap.size:=by rw[D];simp
  obtain⟨e1,e2,e4⟩:=Qa H
  have zX:=(C w.heap.size (by omega)).trans zv
  have L5:=Qkx mX
  have S5:=Qme (new:=#[Ji 1,str n.rel,.slice J N L,Ji n.at_,Je,Ji 0,Ji 0,Je,Jn,Ji 0,Ji 0,Ji 0,Je,Jn,Ji 0,Ji (t.at_:Int)]) zX rfl rfl (by simp[Value.oneCell',str])
  obtain⟨x,z⟩:=JE (s.setRow w.heap.size #[Ji 1,str n.rel,.slice J N L,Ji n.at_,Je,Ji 0,Ji 0,Je,Jn,Ji 0,Ji 0,Ji 0,Je,Jn,Ji 0,Ji (t.at_:Int)])
  rw[<- z]at S5
  have S:∀q,q≠w.heap.size->x.heap[q]?=s.heap[q]?:=fun q m=>by rw[z];exact setRow_other _ _ _ _ m
  have s6:x.heap.size=s.heap.size:=by rw[z,size_setRow]
  have z6:x.heap[w.heap.size]?=some (.cells #[Ji 1,str n.rel,.slice J N L,Ji n.at_,Je,Ji 0,Ji 0,Je,Jn,Ji 0,Ji 0,Ji 0,Je,Jn,Ji 0,Ji (t.at_:Int)] 61 (0,0)):=by rw[z];exact setRow_heap _ _ _ _ _ _ zX
  have K:=P.move (w':=x) (by omega) ((S rb (by omega)).trans (C rb (by omega))) ((S g (by omega)).trans (C g (by omega)))
  have kX:Kp rb w s:=by rw[D];exact(((kv.set2 (by omega)).set2 (by omega)).set2 (by omega))
  have k6:Kp rb w x:=by rw[z];exact kX.row (Nat.le_refl _)
  have ae:PLt (fun b=>w.heap.size<=b) x [Ji 1,str n.rel,.slice J N L,Ji n.at_,Je,Ji 0,Ji 0,Je,Jn,Ji 0,Ji 0,Ji 0,Je,Jn,Ji 0,Ji (t.at_:Int)] (⟨1,n,[],.none,.none,t.at_⟩):=⟨J,N,L,none,0,0,none,0,0,rfl,((Qa ah).1.same Qaf (by have:=(Qa ah).2;omega) (fun q m _=>(S q (by have b4:p.heap.size<=q:=m;have:=(Qa ah).2;omega)).trans (C q (by have b4:p.heap.size<=q:=m;have:=(Qa ah).2;omega)))).mono Qaf (fun b _ hb=>by have bH:p.heap.size<=b:=hb;have:=(Qa ah).2;omega),Qds _ _,Qds _ _⟩
  have HF:=hide (Ya K (Ya k6 (Ya z6 (Ya ae (hC)))))
  clear P kv mv zv mX C sX e1 e2 e4 zX z S s6 z6 K kX k6 ae hC ah
  subst D
  go_wp2_with fail
  obtain⟨K,k6,z6,ae,aC⟩:=Qa HF
  obtain⟨aK,aH,aF,aI,aM,aR,aV,b6,aX,aY,aj,aw,ak,aq,al,av,zf⟩:=cl16 z6
  refine bodyPost_ret (v:=.agg #[Ji 1,str n.rel,.slice J N L,Ji n.at_,Je,Ji 0,Ji 0,Je,Jn,Ji 0,Ji 0,Ji 0,Je,Jn,Ji 0,Ji (t.at_:Int)]) (by simp[results,Tryz.results94,go_sem,aK,aH,aF,aI,aM,aR,aV,b6,aX,aY,aj,aw,ak,aq,al,av]) rfl ?_
  exact⟨_,_,_,_,_,rfl,⟨(⟨1,n,[],.none,.none,t.at_⟩),_,_,_,_,_,_,_,_,_,_,_,_,_,_,_,_,rfl,ae,szQ.of K (Qa SB)⟩,aC,K,k6⟩
 have ax:=Qa H
 obtain⟨h7,A,V,z7,aP⟩:=Qa H4
 obtain⟨a7,a3,af,a6,ag,ab,a2,ad,a8,a5,X,Y,a1,a0,W,Z,xf⟩:=cl16 V
 obtain⟨p,r⟩:=JE ((w4.setCell (Ja ne 0) (Ji 2)))
 have G:p.heap[ne]?=some (.cells #[Ji 2,Je,Jn,Ji 0,Je,Ji 0,Ji 0,Je,Jn,Ji 0,Ji 0,Ji 0,Je,Jn,Ji 0,Ji (t.at_:Int)] 61 (0,0)):=by rw[r];exact(Qah V 0 _).trans rfl
 have M:∀q,q≠ne->p.heap[q]?=w4.heap[q]?:=fun q m=>by rw[r,hpS m]
 have sB:p.heap.size=w4.heap.size:=by rw[r];simp
 have au:=h7.move (w':=p) (by omega) (M rb (by omega)) (M g (by omega))
 have I:Kp rb w p:=⟨by rw[r];exact A.os,by rw[r];exact A.tape,by rw[r];exact A.output,by rw[sB];exact A.size,fun q m hn=>(M q (by omega)).trans (A.block q m hn)⟩
 have aL:=Qgf au (Qa HD)
 have aA:=hide (Ya I (Ya G (Ya ((M _ (by omega)).trans z7) (show ne<p.heap.size by omega))))
 have ar:=hide r
 clear h7 A V z7 aP ax r G M sB au I
 go_wp2_with fail
 rw[<- Qa ar]
 clear ar a7 a3 af a6 ag ab a2 ad a8 a5 X Y a1 a0 W Z xf
 refine aL.mono ?_
 clear aL
 rintro en w9⟨_,a9,i9,y9,f9,rfl,⟨n,⟨J,N,L,rfl,aN⟩,aU,aZ⟩,⟨F,aQ,ai⟩,P,U⟩
 rw[F]at P
 clear F
 have SB:=hide (show y9=0->exQs n.args+1+lngQ n.rel+2*a<=2*a9 from fun e=>by have q1:=aU.at P e;have q2:=Qpn aZ;have:=Qa ao;omega)
 clear aU aZ
 obtain⟨I,G,zB,ay⟩:=Qa aA
 have aO:=Qa H
 have kv:=I.trans U
 have mv:=U.keep G (by omega)
 have zv:=U.keep zB (by omega)
 have hC:CoY a i y a9 i y9:=⟨rfl,by have:=Qa ao;omega,fun e=>⟨(ai e).1,by have:=(ai e).2;have:=Qa ao;omega⟩⟩
 have ah:=hide (Ya aN ay)
 clear I G zB ay aO aQ ai U aN
 obtain⟨a7,a3,af,a6,ag,ab,a2,ad,a8,a5,X,Y,a1,a0,W,Z,xf⟩:=cl16 mv
 obtain⟨s,D⟩:=JE ((((w9.setCell (Ja ne 1) (str n.rel)).setCell (Ja ne 2) (.slice J N L)).setCell (Ja ne 3) (Ji n.at_)))
 have mX:s.heap[ne]?=some (.cells #[Ji 2,str n.rel,.slice J N L,Ji n.at_,Je,Ji 0,Ji 0,Je,Jn,Ji 0,Ji 0,Ji 0,Je,Jn,Ji 0,Ji (t.at_:Int)] 61 (0,0)):=by rw[D];exact(Qah (Qah (Qah mv 1 _) 2 _) 3 _).trans rfl
 have C:∀q,q≠ne->s.heap[q]?=w9.heap[q]?:=fun q m=>by rw[D,hpS m,hpS m,hpS m]
 have sX:s.heap.size=w9.heap.size:=by rw[D];simp
 obtain⟨e1,e2,e4⟩:=Qa H
 have zX:=(C w.heap.size (by omega)).trans zv
 have L5:=Qkx mX
 have S5:=Qme (new:=#[Ji 2,str n.rel,.slice J N L,Ji n.at_,Je,Ji 0,Ji 0,Je,Jn,Ji 0,Ji 0,Ji 0,Je,Jn,Ji 0,Ji (t.at_:Int)]) zX rfl rfl (by simp[Value.oneCell',str])
 obtain⟨x,z⟩:=JE (s.setRow w.heap.size #[Ji 2,str n.rel,.slice J N L,Ji n.at_,Je,Ji 0,Ji 0,Je,Jn,Ji 0,Ji 0,Ji 0,Je,Jn,Ji 0,Ji (t.at_:Int)])
 rw[<- z]at S5
 have S:∀q,q≠w.heap.size->x.heap[q]?=s.heap[q]?:=fun q m=>by rw[z];exact setRow_other _ _ _ _ m
 have s6:x.heap.size=s.heap.size:=by rw[z,size_setRow]
 have z6:x.heap[w.heap.size]?=some (.cells #[Ji 2,str n.rel,.slice J N L,Ji n.at_,Je,Ji 0,Ji 0,Je,Jn,Ji 0,Ji 0,Ji 0,Je,Jn,Ji 0,Ji (t.at_:Int)] 61 (0,0)):=by rw[z];exact setRow_heap _ _ _ _ _ _ zX
 have K:=P.move (w':=x) (by omega) ((S rb (by omega)).trans (C rb (by omega))) ((S g (by omega)).trans (C g (by omega)))
 have kX:Kp rb w s:=by rw[D];exact(((kv.set2 (by omega)).set2 (by omega)).set2 (by omega))
 have k6:Kp rb w x:=by rw[z];exact kX.row (Nat.le_refl _)
 have ae:PLt (fun b=>w.heap.size<=b) x [Ji 2,str n.rel,.slice J N L,Ji n.at_,Je,Ji 0,Ji 0,Je,Jn,Ji 0,Ji 0,Ji 0,Je,Jn,Ji 0,Ji (t.at_:Int)] (⟨2,n,[],.none,.none,t.at_⟩):=⟨J,N,L,none,0,0,none,0,0,rfl,((Qa ah).1.same Qaf (by have:=(Qa ah).2;omega) (fun q m _=>(S q (by have b4:p.heap.size<=q:=m;have:=(Qa ah).2;omega)).trans (C q (by have b4:p.heap.size<=q:=m;have:=(Qa ah).2;omega)))).mono Qaf (fun b _ hb=>by have bH:p.heap.size<=b:=hb;have:=(Qa ah).2;omega),Qds _ _,Qds _ _⟩
 have HF:=hide (Ya K (Ya k6 (Ya z6 (Ya ae (hC)))))
 clear P kv mv zv mX C sX e1 e2 e4 zX z S s6 z6 K kX k6 ae hC ah
 subst D
 go_wp2_with fail
 obtain⟨K,k6,z6,ae,aC⟩:=Qa HF
 obtain⟨aK,aH,aF,aI,aM,aR,aV,b6,aX,aY,aj,aw,ak,aq,al,av,zf⟩:=cl16 z6
 refine bodyPost_ret (v:=.agg #[Ji 2,str n.rel,.slice J N L,Ji n.at_,Je,Ji 0,Ji 0,Je,Jn,Ji 0,Ji 0,Ji 0,Je,Jn,Ji 0,Ji (t.at_:Int)]) (by simp[results,Tryz.results94,go_sem,aK,aH,aF,aI,aM,aR,aV,b6,aX,aY,aj,aw,ak,aq,al,av]) rfl ?_
 exact⟨_,_,_,_,_,rfl,⟨(⟨2,n,[],.none,.none,t.at_⟩),_,_,_,_,_,_,_,_,_,_,_,_,_,_,_,_,rfl,ae,szQ.of K (Qa SB)⟩,aC,K,k6⟩
end
end Go.Proofs.YtmfpbepifnedjaaGreat
