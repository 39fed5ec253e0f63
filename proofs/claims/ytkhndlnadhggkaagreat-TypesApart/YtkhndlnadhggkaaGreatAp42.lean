/- types. -/
import Derived.Test.YtkhndlnadhggkaaGreatAp01
import Derived.Test.YtkhndlnadhggkaaGreatAp41
import Derived.Test.YtkhndlnadhggkaaGreatAp08
set_option maxRecDepth 100000
set_option maxHeartbeats 32000000
namespace Go.Proofs.YtkhndlnadhggkaaGreat
section
open Go.RowKit Go.Maps
theorem Qhs:∀xs:List Ex,szL exQ xs=exQs xs
 | []=>rfl
 |x :: xs=>by rw[exQs];show exQ x+szL exQ xs=_;rw[Qhs xs]
def patS(p:Pg)(x:Ex)(t:Txt)(vs:List Fld):Except Flt (List Fld):=patP p x t vs
theorem Qi(p:Pg):∀(xs:List Ex) (fs vs:List Fld),patsP p xs fs vs=eachP (patS p) xs fs vs
 | [],fs,vs=>by cases fs<;>rfl
 |x :: xs,[],vs=>rfl
 |x :: xs,f :: fs,vs=>by
  show(match patP p x f.type vs with | .error e=>Except.error e | .ok vs'=>patsP p xs fs vs')=(match patS p x f.type vs with | .error e=>Except.error e | .ok vs'=>eachP (patS p) xs fs vs')
  show _=(match patP p x f.type vs with | .error e=>Except.error e | .ok vs'=>eachP (patS p) xs fs vs')
  cases patP p x f.type vs with
  |error e=>rfl
  |ok vs'=>exact Qi p xs fs vs'
def apaP(p:Pg)(vs:List Fld)(x:Ex)(t:Txt):Except Flt (List Fld):=match ctorP2 p x.txt with
 |none=>.error (6,x.at_)
 |some (d,sum)=>if hasP p t sum=false then .error (13,x.at_) else if x.kids.length≠d.fields.length then .error (14,x.at_) else patsP p x.kids d.fields vs
section
variable {n0 n1:Nat}{p:Pg}{c:CatP}{wb mb:Nat}{sl:Value}{vs:List Fld}{w:World}
theorem Qs(h:Wk n0 n1 p c wb mb sl vs w)(x:Ex){xa:Option Addr}{xn xc:Nat}(hE:ExA n0 w x xa xn xc){N:Nat}(hP:LkF 113 n0 n1 p c wb mb N exQ (patS p) x.kids)(hsz:vs.length+szL exQ x.kids<=N)(t:Txt):
  Calls Tryz.prog 125 #[.pointer (Js wb),.agg #[Ji x.kind,Ji x.num,str x.txt,.slice xa xn xc,Ji x.at_],str t] w fun en w'=>LkA n0 n1 p c wb mb sl w (apaP p vs x t) en w':=by
 obtain⟨E,H⟩:=hE.kids;obtain⟨f,aC,i,k,n,J⟩:=Qat w #[Ji x.kind,Ji x.num,str x.txt,.slice xa xn xc,Ji x.at_] 59;have C:Hid (∀W:World,Below f.heap.size f W->W.heap[w.heap.size]?=some (.cells #[Ji x.kind,Ji x.num,str x.txt,.slice xa xn xc,Ji x.at_] 59 (0,0))/\W.cell? (Ja wb 3)=some (.func (.func 79) #[.pointer (Js c.cb)] #[])):=fun W bW=>⟨(bW.block _ (Qaa k)).trans k,(cl6 (h.later (i.trans (bW.mono i.size))).box).2.2.2.1⟩;have aj:Hid (∀W:World,Below f.heap.size f W->Calls Tryz.prog 79 #[.pointer (Js c.cb),str x.txt] W fun en w'=>∃v,en = .returned v/\CtA (fun b=>b<n0) w' (ctorP2 p x.txt) v/\Below W.heap.size W w'):=fun W bW=>Qiv (Ct.later h.cat (i.trans (bW.mono i.size))) x.txt;have a5:=h.n1le;have aE:=h.lo.1;have HB:=hide (show n0<=f.heap.size by omega);obtain⟨R,hR⟩:=JF (apaP p vs x t);rw[hR];unfold apaP at hR;have HW:=hide aC;have HH:=hide (Ya i (Ya k (Ya n (Ya J (Ya h (Ya E H))))));have H5:=hide (Ya hP hsz);clear aC i k n J h hE E H a5 aE hP hsz;go_enter Tryz.func125,Tryz.ntmps125;go_upto_region 1 with fail;rw[<- Qa HW]
 cases ho:ctorP2 p x.txt with
 |none=>
  rw[ho]at hR aj;have HR:=hide hR;clear hR ho;go_cut [7,8,9] from 10 (fun u6 u7 u8 wc=>∃(db:Nat),u6 = .pointer (Js db)/\u7 = Je/\u8 = .bool false/\Hid (Below f.heap.size f wc/\True))
  case first=>
   go_wp2_with fail;refine Qas (tr:=(.take 0 (.take 1 (.take 2 (.take 3 (.take 4 (.take 5 (.two 6 11 (.take 7 (.take 8 (.take 9 (.take 10 (.one 11 (.one 12 (.take 13 (.take 14 .nil)))))))) (.one 6 (.take 7 (.take 8 (.take 9 (.take 10 (.one 12 (.take 13 (.take 14 .nil)))))))))))))))) (fun W=>W.heap[w.heap.size]?=some (.cells #[Ji x.kind,Ji x.num,str x.txt,.slice xa xn xc,Ji x.at_] 59 (0,0))/\W.cell? (Ja wb 3)=some (.func (.func 79) #[.pointer (Js c.cb)] #[])) mixedO (by kernel_rfl) rfl (by kernel_rfl) (fun PP a1=>?_);refine tT (v:=?_) (fun w' hw=>?_) ?_;rotate_left
   ·(obtain⟨j,T⟩:=hw;obtain⟨M,O,P,Q,S,Y⟩:=cl5 j;go_simp<;>rfl)
   refine tT (v:=?_) (fun w' hw=>?_) ?_;rotate_left
   ·(obtain⟨j,T⟩:=hw;obtain⟨M,O,P,Q,S,Y⟩:=cl5 j;go_simp<;>rfl)
   refine tT (v:=?_) (fun w' hw=>?_) ?_;rotate_left
   ·(obtain⟨j,T⟩:=hw;obtain⟨M,O,P,Q,S,Y⟩:=cl5 j;go_simp<;>rfl)
   refine tT (v:=?_) (fun w' hw=>?_) ?_;rotate_left
   ·(obtain⟨j,T⟩:=hw;obtain⟨M,O,P,Q,S,Y⟩:=cl5 j;go_simp<;>rfl)
   refine tT (v:=?_) (fun w' hw=>?_) ?_;rotate_left
   ·(obtain⟨j,T⟩:=hw;obtain⟨M,O,P,Q,S,Y⟩:=cl5 j;go_simp<;>rfl)
   refine tT (v:=?_) (fun w' hw=>?_) ?_;rotate_left
   ·(obtain⟨j,T⟩:=hw;obtain⟨M,O,P,Q,S,Y⟩:=cl5 j;go_simp<;>rfl)
   have G:=(Below.refl f.heap.size f).drew;refine Qbr rfl rfl (Qa C f.drew G) (fun K a=>?_) (fun K a=>?_)
   ·
    go_simp;refine(Qa aj f.drew G).mono ?_;rintro en s⟨v5,rfl,a8,F⟩;obtain rfl:v5=_:=a8;show K _ _;refine a _ _ ?_;clear a K;have l:Below f.heap.size f s:=G.trans (F.mono G.size)
    iterate 4 (refine tT (v:=?_) (fun w' hw=>?_) ?_;rotate_left;· (go_simp<;>rfl))
    refine Qaf rfl (Qa C s l) (fun K a=>?_);go_simp;refine a _ _ ?_;clear a K;have Z:Below s.heap.size s (s.alloc (.cells #[Je,Jn] 97)):=(Below.refl _ s).alloc (Nat.le_refl _) _;refine Qaf rfl (Qa C _ (l.trans (Z.mono l.size))) (fun K a=>?_);go_simp;refine a _ _ ?_;clear a K;obtain⟨W7,g⟩:=JE (s.alloc (.cells #[Je,Jn] 97));have b7:=bnw g;have n7:=nnw g;rw[<- g];have A:=l.trans (b7.mono l.size)
    iterate 2 (refine tT (v:=?_) (fun w' hw=>?_) ?_;rotate_left;· (go_simp<;>rfl))
    refine Qan (Qa C _ A) (a1 _ _ ?_);clear a1 PP;have a0:=hide (Ya A trivial);clear G F l Z g b7 n7 A;go_wp2_with fail;go_meet;exact⟨_,rfl,rfl,rfl,a0⟩
   go_simp;refine a _ _ ?_;clear a K;obtain⟨w4,a3⟩:=JE ((f.alloc (.cells #[Je,Jn] 97)).drew);have V:Below f.heap.size f w4:=by rw[a3];exact((Below.refl _ _).alloc (Nat.le_refl _) _).drew
   have n4:w4.heap[f.heap.size]?=some (.cells #[Je,Jn] 97 (0,0)):=by rw[a3];exact heap_alloc_new f _
   rw[<- a3];clear a3;refine Qaf rfl (Qa C w4 V) (fun K a=>?_);go_simp;refine(Qa aj w4 V).mono ?_;rintro en s⟨v5,rfl,a8,F⟩;obtain rfl:v5=_:=a8;show K _ _;refine a _ _ ?_;clear a K;have l:=V.trans (F.mono V.size);have n5:=(F.block _ (Qaa n4)).trans n4
   iterate 4 (refine tT (v:=?_) (fun w' hw=>?_) ?_;rotate_left;· (go_simp<;>rfl))
   obtain⟨W7,g,sc⟩:=sc2 n5 (Je) (Jn);obtain⟨ae,af,yf⟩:=cl2 n5;refine Qaf rfl (Qa C s l) (fun K a=>?_);go_simp;rw[<- g];refine a _ _ ?_;clear a K;have A:=sc.below l (Nat.le_refl _)
   iterate 2 (refine tT (v:=?_) (fun w' hw=>?_) ?_;rotate_left;· (go_simp<;>rfl))
   refine Qan (Qa C _ A) (a1 _ _ ?_);clear a1 PP;have a0:=hide (Ya A trivial);clear G V n4 F l n5 g sc A ae af yf;go_wp2_with fail;go_meet;exact⟨_,rfl,rfl,rfl,a0⟩
  obtain⟨db,rfl,rfl,rfl,r⟩:=hcut;obtain⟨WX,au⟩:=JE wc;subst au;have m:=(Qa r).1;obtain⟨i,k,n,J,h,E,H⟩:=Qa HH;have U:=(m.block _ (Qaa k)).trans k;have I:=(m.block _ (Qaa n)).trans n;have D:=i.trans (m.mono i.size);have a6:=Qbd WX 6 x.kind x.num x.txt (.slice xa xn xc) ⟨_,_,_,rfl⟩ x.at_;obtain⟨a9,aa,ab,ac,ad,xf⟩:=cl5 U;have HN:=hide (Ya I (Ya D h));clear r i k n J h E H U I D m;go_wp2_with fail;refine a6.mono ?_;clear a6 a9 aa ab ac ad xf;rintro en w9⟨rfl,X⟩;obtain⟨B,z,h⟩:=Qa HN;have y:=(X.block _ (Qaa B)).trans B;have L:=z.trans (X.mono z.size);have al:=h.later L;have a5:=h.n1le;obtain⟨W7,g,sc⟩:=sc2 y (Ji 6) (Ji x.at_);obtain⟨ae,af,yf⟩:=cl2 y;have r:=hide (Ya (sc.below L (by omega)) (Ya sc.box h));have a7:=hide g;clear B z h y L al X g sc a5;go_wp2_with fail;rw[<- Qa a7];obtain⟨ag,ah,zf⟩:=cl2 (Qa r).2.1;refine bodyPost_ret (v:=ftV (6,x.at_)) (by simp[results,Tryz.results125,go_sem,ag,ah,ftV]) rfl ?_;rw[<- Qa HR];exact OpA.lk (R:=.error (6,x.at_)) ⟨_,rfl,⟨rfl,(by show(6:Int)≠0;decide)⟩,(Qa r).1⟩ (Qa r).2.2 (fun u e=>by cases e) (fun e he=>by cases he;rfl)
 |some o=>
  obtain⟨d,nm⟩:=o;rw[ho]at hR aj;have HR:=hide hR;clear hR ho;go_cut [7,8,9] from 10 (fun u6 u7 u8 wc=>∃(db:Nat) (ca:Option Addr) (cc:Nat),u6 = .pointer (Js db)/\u7=str nm/\u8 = .bool true/\Hid (Below f.heap.size f wc/\wc.heap[db]?=some (.cells #[str d.name,.slice ca d.fields.length cc] 97 (0,0))/\LsAt PF 2 (fun b=>b<n0) wc (.slice ca d.fields.length cc) d.fields))
  case first=>
   go_wp2_with fail;refine Qas (tr:=(.take 0 (.take 1 (.take 2 (.take 3 (.take 4 (.take 5 (.two 6 11 (.take 7 (.take 8 (.take 9 (.take 10 (.one 11 (.one 12 (.take 13 (.take 14 .nil)))))))) (.one 6 (.take 7 (.take 8 (.take 9 (.take 10 (.one 12 (.take 13 (.take 14 .nil)))))))))))))))) (fun W=>W.heap[w.heap.size]?=some (.cells #[Ji x.kind,Ji x.num,str x.txt,.slice xa xn xc,Ji x.at_] 59 (0,0))/\W.cell? (Ja wb 3)=some (.func (.func 79) #[.pointer (Js c.cb)] #[])) mixedO (by kernel_rfl) rfl (by kernel_rfl) (fun PP a1=>?_);refine tT (v:=?_) (fun w' hw=>?_) ?_;rotate_left
   ·(obtain⟨j,T⟩:=hw;obtain⟨M,O,P,Q,S,Y⟩:=cl5 j;go_simp<;>rfl)
   refine tT (v:=?_) (fun w' hw=>?_) ?_;rotate_left
   ·(obtain⟨j,T⟩:=hw;obtain⟨M,O,P,Q,S,Y⟩:=cl5 j;go_simp<;>rfl)
   refine tT (v:=?_) (fun w' hw=>?_) ?_;rotate_left
   ·(obtain⟨j,T⟩:=hw;obtain⟨M,O,P,Q,S,Y⟩:=cl5 j;go_simp<;>rfl)
   refine tT (v:=?_) (fun w' hw=>?_) ?_;rotate_left
   ·(obtain⟨j,T⟩:=hw;obtain⟨M,O,P,Q,S,Y⟩:=cl5 j;go_simp<;>rfl)
   refine tT (v:=?_) (fun w' hw=>?_) ?_;rotate_left
   ·(obtain⟨j,T⟩:=hw;obtain⟨M,O,P,Q,S,Y⟩:=cl5 j;go_simp<;>rfl)
   refine tT (v:=?_) (fun w' hw=>?_) ?_;rotate_left
   ·(obtain⟨j,T⟩:=hw;obtain⟨M,O,P,Q,S,Y⟩:=cl5 j;go_simp<;>rfl)
   have G:=(Below.refl f.heap.size f).drew;refine Qbr rfl rfl (Qa C f.drew G) (fun K a=>?_) (fun K a=>?_)
   ·
    go_simp;refine(Qa aj f.drew G).mono ?_;rintro en s⟨v5,rfl,a8,F⟩;obtain⟨am,an,rfl,hL⟩:=a8;show K _ _;refine a _ _ ?_;clear a K;have l:Below f.heap.size f s:=G.trans (F.mono G.size)
    iterate 4 (refine tT (v:=?_) (fun w' hw=>?_) ?_;rotate_left;· (go_simp<;>rfl))
    refine Qaf rfl (Qa C s l) (fun K a=>?_);go_simp;refine a _ _ ?_;clear a K;have Z:Below s.heap.size s (s.alloc (.cells #[Je,Jn] 97)):=(Below.refl _ s).alloc (Nat.le_refl _) _;refine Qaf rfl (Qa C _ (l.trans (Z.mono l.size))) (fun K a=>?_);go_simp;refine a _ _ ?_;clear a K;obtain⟨W7,g⟩:=JE (s.alloc (.cells #[str d.name,.slice am d.fields.length an] 97));have b7:=bnw g;have n7:=nnw g;rw[<- g];have A:=l.trans (b7.mono l.size)
    iterate 2 (refine tT (v:=?_) (fun w' hw=>?_) ?_;rotate_left;· (go_simp<;>rfl))
    refine Qan (Qa C _ A) (a1 _ _ ?_);clear a1 PP;have a0:=hide (Ya A (Ya n7 (hL.later Qbb b7)));clear G F l Z g b7 n7 A hL;go_wp2_with fail;go_meet;exact⟨_,am,an,rfl,rfl,rfl,a0⟩
   go_simp;refine a _ _ ?_;clear a K;obtain⟨w4,a3⟩:=JE ((f.alloc (.cells #[Je,Jn] 97)).drew);have V:Below f.heap.size f w4:=by rw[a3];exact((Below.refl _ _).alloc (Nat.le_refl _) _).drew
   have n4:w4.heap[f.heap.size]?=some (.cells #[Je,Jn] 97 (0,0)):=by rw[a3];exact heap_alloc_new f _
   rw[<- a3];clear a3;refine Qaf rfl (Qa C w4 V) (fun K a=>?_);go_simp;refine(Qa aj w4 V).mono ?_;rintro en s⟨v5,rfl,a8,F⟩;obtain⟨am,an,rfl,hL⟩:=a8;show K _ _;refine a _ _ ?_;clear a K;have l:=V.trans (F.mono V.size);have n5:=(F.block _ (Qaa n4)).trans n4
   iterate 4 (refine tT (v:=?_) (fun w' hw=>?_) ?_;rotate_left;· (go_simp<;>rfl))
   obtain⟨W7,g,sc⟩:=sc2 n5 (str d.name) (.slice am d.fields.length an);obtain⟨ae,af,yf⟩:=cl2 n5;refine Qaf rfl (Qa C s l) (fun K a=>?_);go_simp;rw[<- g];refine a _ _ ?_;clear a K;have A:=sc.below l (Nat.le_refl _)
   iterate 2 (refine tT (v:=?_) (fun w' hw=>?_) ?_;rotate_left;· (go_simp<;>rfl))
   refine Qan (Qa C _ A) (a1 _ _ ?_);clear a1 PP;have a0:=hide (Ya A (Ya sc.box (hL.same Qbb (by rw[sc.size];exact Nat.le_refl _) (fun q hq _=>sc.oth q (by have aF:q<n0:=hq;have:=Qa HB;omega)))));clear G V n4 F l n5 g sc A ae af yf hL;go_wp2_with fail;go_meet;exact⟨_,am,an,rfl,rfl,rfl,a0⟩
  obtain⟨db,ca,cc,rfl,rfl,rfl,r⟩:=hcut;obtain⟨WX,au⟩:=JE wc;subst au;obtain⟨m,nX,a4⟩:=Qa r;obtain⟨ao,ak,df⟩:=cl2 nX;obtain⟨fn,a2⟩:=JF d.fields.length;rw[a2]at ak;obtain⟨i,k,n,J,h,E,H⟩:=Qa HH;have aw:=Qfr (h.later (i.trans (m.mono i.size))) t nm;obtain⟨hb,av⟩:=JF (hasP p t nm);rw[av]at aw;have aq:=hide av;have HX:=hide (Ya m (Ya nX (Ya a4 a2)));clear i k n J h E H av m nX a4 r a2 ao ak df;go_wp2_with fail;refine aw.mono ?_;clear aw;rintro en w6⟨rfl,Z⟩;obtain⟨ar,ax,ap,a2⟩:=Qa HX;have m:=ar.trans (Z.mono ar.size);have nX:=(Z.block _ (Qaa ax)).trans ax;have a4:=ap.later Qbb Z;obtain⟨ao,ak,df⟩:=cl2 nX;rw[a2]at ak;clear ar ax ap Z HX;cases hb
  ·
   clear nX a4 a2 ao ak df;obtain⟨i,k,n,J,h,E,H⟩:=Qa HH;have U:=(m.block _ (Qaa k)).trans k;have I:=(m.block _ (Qaa n)).trans n;have D:=i.trans (m.mono i.size);have a6:=Qbd w6 13 x.kind x.num x.txt (.slice xa xn xc) ⟨_,_,_,rfl⟩ x.at_;obtain⟨a9,aa,ab,ac,ad,xf⟩:=cl5 U;have HN:=hide (Ya I (Ya D h));clear i k n J h E H U I D m;go_wp2_with fail;refine a6.mono ?_;clear a6 a9 aa ab ac ad xf;rintro en w9⟨rfl,X⟩;obtain⟨B,z,h⟩:=Qa HN;have y:=(X.block _ (Qaa B)).trans B;have L:=z.trans (X.mono z.size);have al:=h.later L;have a5:=h.n1le;obtain⟨W7,g,sc⟩:=sc2 y (Ji 13) (Ji x.at_);obtain⟨ae,af,yf⟩:=cl2 y;have r:=hide (Ya (sc.below L (by omega)) (Ya sc.box h));have a7:=hide g;clear B z h y L al X g sc a5;go_wp2_with fail;rw[<- Qa a7];obtain⟨ag,ah,zf⟩:=cl2 (Qa r).2.1;refine bodyPost_ret (v:=ftV (13,x.at_)) (by simp[results,Tryz.results125,go_sem,ag,ah,ftV]) rfl ?_;rw[<- Qa HR];rw[if_pos (Qa aq)];exact OpA.lk (R:=.error (13,x.at_)) ⟨_,rfl,⟨rfl,(by show(13:Int)≠0;decide)⟩,(Qa r).1⟩ (Qa r).2.2 (fun u e=>by cases e) (fun e he=>by cases he;rfl)
  by_cases aB:xn=fn
  ·
   subst aB;obtain⟨i,k,n,J,h,E,H⟩:=Qa HH;have U:=(m.block _ (Qaa k)).trans k;have I:=(m.block _ (Qaa n)).trans n;have D:=i.trans (m.mono i.size);rw[a2]at a4;have az:=Qlo (h.later D) (Qa H5).1 (Qa H5).2 (by omega) (E.later Qag D) a4;obtain⟨a9,aa,ab,ac,ad,xf⟩:=cl5 U;have a5:=h.n1le;have HN:=hide (Ya I (Ya D (Ya (show ¬(x.kids.length≠d.fields.length) by omega) (Ya h (show w.heap.size+1<w6.heap.size from Qaa I)))));clear i k n J h E H U I D m nX a4 a2;go_wp2_with fail;refine az.mono ?_;clear az a9 aa ab ac ad xf ao ak df;rintro en w9 aA;obtain⟨aG,aH,ft,rfl,h9,k9,ay⟩:=aA.ft;clear aA;obtain⟨B,z,ai,h,_⟩:=Qa HN;have y:=k9.keep B ((h.later z).offT B (by decide) (by decide));obtain⟨W7,g,sc⟩:=sc2 y (Ji ft.1) (Ji ft.2);obtain⟨ae,af,yf⟩:=cl2 y;have r:=hide (Ya (h9.sc sc (by omega) (h9.offT y (by decide) (by decide))) (Ya (((Kw.of_below z).trans k9).sc sc (by omega)) (Ya sc.box (Ya ay ai))));have a7:=hide g;clear B z y h h9 k9 ay g sc ai;unfold ftV;go_wp2_with fail;rw[<- Qa a7];obtain⟨e1,e2,e3,e4,ai⟩:=Qa r;obtain⟨ag,ah,zf⟩:=cl2 e3;refine bodyPost_ret (v:=ftV ft) (by simp[results,Tryz.results125,go_sem,ag,ah,ftV]) rfl ?_;refine LkA.of e1 e2 ?_;rw[<- Qa HR,if_neg (by rw[Qa aq];decide),if_neg ai,Qi];exact e4
  have g2:((xn:Int) != (fn:Int))=true:=by simpa using (by omega:¬((xn:Int)=(fn:Int)))
  have g3:¬((xn:Int)=(fn:Int)):=by omega
  have aD:Hid (x.kids.length≠d.fields.length):=by have:=(Qa HH).2.2.2.2.2.2;exact hide (by omega)
  clear nX a4 a2 aB;obtain⟨i,k,n,J,h,E,H⟩:=Qa HH;have U:=(m.block _ (Qaa k)).trans k;have I:=(m.block _ (Qaa n)).trans n;have D:=i.trans (m.mono i.size);have a6:=Qbd w6 14 x.kind x.num x.txt (.slice xa xn xc) ⟨_,_,_,rfl⟩ x.at_;obtain⟨a9,aa,ab,ac,ad,xf⟩:=cl5 U;have HN:=hide (Ya I (Ya D h));clear i k n J h E H U I D m;go_wp2_with fail;refine a6.mono ?_;clear a6 a9 aa ab ac ad xf;rintro en w9⟨rfl,X⟩;obtain⟨B,z,h⟩:=Qa HN;have y:=(X.block _ (Qaa B)).trans B;have L:=z.trans (X.mono z.size);have al:=h.later L;have a5:=h.n1le;obtain⟨W7,g,sc⟩:=sc2 y (Ji 14) (Ji x.at_);obtain⟨ae,af,yf⟩:=cl2 y;have r:=hide (Ya (sc.below L (by omega)) (Ya sc.box h));have a7:=hide g;clear B z h y L al X g sc a5;go_wp2_with fail;rw[<- Qa a7];obtain⟨ag,ah,zf⟩:=cl2 (Qa r).2.1;refine bodyPost_ret (v:=ftV (14,x.at_)) (by simp[results,Tryz.results125,go_sem,ag,ah,ftV]) rfl ?_;rw[<- Qa HR];rw[if_neg (by rw[Qa aq];decide),if_pos (Qa aD)];exact OpA.lk (R:=.error (14,x.at_)) ⟨_,rfl,⟨rfl,(by show(14:Int)≠0;decide)⟩,(Qa r).1⟩ (Qa r).2.2 (fun u e=>by cases e) (fun e he=>by cases he;rfl)
end
section
variable {n0 n1:Nat}{p:Pg}{c:CatP}{wb mb:Nat}{sl:Value}{vs:List Fld}{w:World}
theorem Qjg(h:Wk n0 n1 p c wb mb sl vs w)(x:Ex)(hk:x.kind=4)(xa:Option Addr)(xn xc:Nat)(t:Txt):
  Calls Tryz.prog 113 #[.pointer (Js wb),.agg #[Ji x.kind,Ji x.num,str x.txt,.slice xa xn xc,Ji x.at_],str t] w fun en w'=>OpA w (.ok ()) en w':=by
 obtain⟨G,f,b,j,i,k⟩:=Qat w #[Ji x.kind,Ji x.num,str x.txt,.slice xa xn xc,Ji x.at_] 59;have q:=h.later b;have D:(x.kind==1)=false:=by rw[hk];rfl
 have E:(x.kind==4)=true:=beq_iff_eq.2 hk;obtain⟨r,s,u,y,z,H⟩:=cl5 j;have a:=i;have d:=b;have o:=hide f;have F:=k;clear f b j i k h q hk;go_enter Tryz.func113,Tryz.ntmps113;go_upto_region 1 with fail;rw[<- Qa o];obtain⟨C,e,sc⟩:=sc2 a (Ji 0) (Ji 0);obtain⟨A,B,I⟩:=cl2 a;have g:=hide (Ya (sc.below d (by omega)) sc.box);have l:=hide e;clear a d e sc;go_wp2_with fail;rw[<- Qa l];obtain⟨m,n,J⟩:=cl2 (Qa g).2;refine bodyPost_ret (v:=ftV (0,0)) (by simp[results,Tryz.results113,go_sem,m,n,ftV]) rfl ?_;exact⟨_,rfl,rfl,(Qa g).1⟩
theorem Qkw(h:Wk n0 n1 p c wb mb sl vs w)(x:Ex)(hk:x.kind≠1/\x.kind≠4/\x.kind≠2/\x.kind≠3/\x.kind≠5/\x.kind≠6)(xa:Option Addr)(xn xc:Nat)(t:Txt):
  Calls Tryz.prog 113 #[.pointer (Js wb),.agg #[Ji x.kind,Ji x.num,str x.txt,.slice xa xn xc,Ji x.at_],str t] w fun en w'=>OpA w (.error (1,x.at_)) en w':=by
 obtain⟨D,j,a,n,b,f⟩:=Qat w #[Ji x.kind,Ji x.num,str x.txt,.slice xa xn xc,Ji x.at_] 59;have C:=h.later a;have I:(x.kind==1)=false:=beq_eq_false_iff_ne.2 hk.1;have L:(x.kind==4)=false:=beq_eq_false_iff_ne.2 hk.2.1;have J:(x.kind==2)=false:=beq_eq_false_iff_ne.2 hk.2.2.1;have K:(x.kind==3)=false:=beq_eq_false_iff_ne.2 hk.2.2.2.1;have M:(x.kind==5)=false:=beq_eq_false_iff_ne.2 hk.2.2.2.2.1;have N:(x.kind==6)=false:=beq_eq_false_iff_ne.2 hk.2.2.2.2.2;have k:=Qbd D 1 x.kind x.num x.txt (.slice xa xn xc) ⟨_,_,_,rfl⟩ x.at_;obtain⟨q,r,s,u,y,E⟩:=cl5 n;have m:=hide (Ya a (Ya b f));have B:=hide j;clear j a n b f h C hk;go_enter Tryz.func113,Tryz.ntmps113;go_upto_region 1 with fail;rw[<- Qa B];go_wp2_with fail;refine k.mono ?_;clear k q r s u y E;rintro en O⟨rfl,e⟩;obtain⟨a,b,f⟩:=Qa m;have d:=(e.block _ (Qaa b)).trans b;have g:=a.trans (e.mono a.size);clear a b e m;obtain⟨H,i,sc⟩:=sc2 d (Ji 1) (Ji x.at_);obtain⟨F,G,P⟩:=cl2 d;have l:=hide (Ya (sc.below g (by omega)) sc.box);have o:=hide i;clear d g i sc;go_wp2_with fail;rw[<- Qa o];obtain⟨z,A,Q⟩:=cl2 (Qa l).2;refine bodyPost_ret (v:=ftV (1,x.at_)) (by simp[results,Tryz.results113,go_sem,z,A,ftV]) rfl ?_;exact⟨_,rfl,⟨rfl,(by show(1:Int)≠0;decide)⟩,(Qa l).1⟩
theorem Qky(h:Wk n0 n1 p c wb mb sl vs w)(x:Ex)(hk:x.kind=2)(xa:Option Addr)(xn xc:Nat)(t:Txt):
  Calls Tryz.prog 113 #[.pointer (Js wb),.agg #[Ji x.kind,Ji x.num,str x.txt,.slice xa xn xc,Ji x.at_],str t] w fun en w'=>OpA w (if hasP p t tNum=true then .ok () else .error (13,x.at_)) en w':=by
 obtain⟨O,m,a,r,b,j⟩:=Qat w #[Ji x.kind,Ji x.num,str x.txt,.slice xa xn xc,Ji x.at_] 59;have q:=h.later a;have L:(x.kind==1)=false:=by rw[hk];rfl
 have N:(x.kind==4)=false:=by rw[hk];rfl
 have M:(x.kind==2)=true:=beq_iff_eq.2 hk;have d:=Qee q x (.slice xa xn xc) ⟨_,_,_,rfl⟩ t tNum;obtain⟨ft,e⟩:∃ft:Flt,(if hasP p t tNum=true then ((0,0):Flt) else (13,x.at_))=ft:=⟨_,rfl⟩;rw[e]at d;have s:=hide e;obtain⟨R,i⟩:∃R:Except Flt Unit,(if hasP p t tNum=true then .ok () else .error (13,x.at_))=R:=⟨_,rfl⟩;rw[i];have F:=hide i;obtain⟨y,z,A,B,C,H⟩:=cl5 r;have o:=hide (Ya a (Ya b j));have G:=hide m;clear m a r b j h q hk e i;go_enter Tryz.func113,Tryz.ntmps113;go_upto_region 1 with fail;rw[<- Qa G];go_wp2_with fail;refine d.mono ?_;clear d y z A B C H;rintro en P⟨rfl,g⟩;obtain⟨a,b,j⟩:=Qa o;have f:=(g.block _ (Qaa b)).trans b;have k:=a.trans (g.mono a.size);clear a b g o;unfold ftV;obtain⟨K,l,sc⟩:=sc2 f (Ji ft.1) (Ji ft.2);obtain⟨I,J,Q⟩:=cl2 f;have n:=hide (Ya (sc.below k (by omega)) sc.box);have u:=hide l;clear f k l sc;go_wp2_with fail;rw[<- Qa u];obtain⟨D,E,S⟩:=cl2 (Qa n).2;refine bodyPost_ret (v:=ftV (ft.1,ft.2)) (by simp[results,Tryz.results113,go_sem,D,E,ftV]) rfl ?_
 exact⟨_,rfl,(by
  rw[<- Qa F,<- Qa s];split
  ·rfl
  ·exact⟨rfl,(by show(13:Int)≠0;decide)⟩),(Qa n).1⟩
theorem Qjh(h:Wk n0 n1 p c wb mb sl vs w)(x:Ex)(hk:x.kind=3)(xa:Option Addr)(xn xc:Nat)(t:Txt):
  Calls Tryz.prog 113 #[.pointer (Js wb),.agg #[Ji x.kind,Ji x.num,str x.txt,.slice xa xn xc,Ji x.at_],str t] w fun en w'=>OpA w (if hasP p t tSym=true then .ok () else .error (13,x.at_)) en w':=by
 obtain⟨P,m,a,r,b,j⟩:=Qat w #[Ji x.kind,Ji x.num,str x.txt,.slice xa xn xc,Ji x.at_] 59;have q:=h.later a;have L:(x.kind==1)=false:=by rw[hk];rfl
 have O:(x.kind==4)=false:=by rw[hk];rfl
 have M:(x.kind==2)=false:=by rw[hk];rfl
 have N:(x.kind==3)=true:=beq_iff_eq.2 hk;have d:=Qee q x (.slice xa xn xc) ⟨_,_,_,rfl⟩ t tSym;obtain⟨ft,e⟩:∃ft:Flt,(if hasP p t tSym=true then ((0,0):Flt) else (13,x.at_))=ft:=⟨_,rfl⟩;rw[e]at d;have s:=hide e;obtain⟨R,i⟩:∃R:Except Flt Unit,(if hasP p t tSym=true then .ok () else .error (13,x.at_))=R:=⟨_,rfl⟩;rw[i];have F:=hide i;obtain⟨y,z,A,B,C,H⟩:=cl5 r;have o:=hide (Ya a (Ya b j));have G:=hide m;clear m a r b j h q hk e i;go_enter Tryz.func113,Tryz.ntmps113;go_upto_region 1 with fail;rw[<- Qa G];go_wp2_with fail;refine d.mono ?_;clear d y z A B C H;rintro en Q⟨rfl,g⟩;obtain⟨a,b,j⟩:=Qa o;have f:=(g.block _ (Qaa b)).trans b;have k:=a.trans (g.mono a.size);clear a b g o;unfold ftV;obtain⟨K,l,sc⟩:=sc2 f (Ji ft.1) (Ji ft.2);obtain⟨I,J,S⟩:=cl2 f;have n:=hide (Ya (sc.below k (by omega)) sc.box);have u:=hide l;clear f k l sc;go_wp2_with fail;rw[<- Qa u];obtain⟨D,E,T⟩:=cl2 (Qa n).2;refine bodyPost_ret (v:=ftV (ft.1,ft.2)) (by simp[results,Tryz.results113,go_sem,D,E,ftV]) rfl ?_
 exact⟨_,rfl,(by
  rw[<- Qa F,<- Qa s];split
  ·rfl
  ·exact⟨rfl,(by show(13:Int)≠0;decide)⟩),(Qa n).1⟩
theorem Qnk(h:Wk n0 n1 p c wb mb sl vs w)(x:Ex)(hk:x.kind=5)(xa:Option Addr)(xn xc:Nat)(t:Txt)(hE:ExA n0 w x xa xn xc)(hV:∀y∈x.kids,VlF n0 n1 p c wb mb sl vs y):
  Calls Tryz.prog 113 #[.pointer (Js wb),.agg #[Ji x.kind,Ji x.num,str x.txt,.slice xa xn xc,Ji x.at_],str t] w fun en w'=>OpA w (if hasP p t tNum=true then oprP p vs x else .error (13,x.at_)) en w':=by
 obtain⟨w2,Q,a,g,b,Z⟩:=Qat w #[Ji x.kind,Ji x.num,str x.txt,.slice xa xn xc,Ji x.at_] 59;have W:=h.later a;have g1:(x.kind==1)=false:=by rw[hk];rfl
 have g4:(x.kind==4)=false:=by rw[hk];rfl
 have g2:(x.kind==2)=false:=by rw[hk];rfl
 have g3:(x.kind==3)=false:=by rw[hk];rfl
 have g5:(x.kind==5)=true:=beq_iff_eq.2 hk;have d:=Qee W x (.slice xa xn xc) ⟨_,_,_,rfl⟩ t tNum;obtain⟨X,P⟩:=JF (hasP p t tNum);rw[P]at d ⊢;clear P;obtain⟨R,N⟩:=JF ((if X=true then oprP p vs x else .error (13,x.at_)));rw[N];have V:=hide N;clear N;obtain⟨A,B,C,D,E,G⟩:=cl5 g;have F:=hide (Ya a (Ya b (Ya g (Ya h (Ya hE hV)))));have HW:=hide Q;have hs:=Z;clear Q a g b Z h W hk hE hV;go_enter Tryz.func113,Tryz.ntmps113;go_upto_region 1 with fail;rw[<- Qa HW];cases X
 ·
  rw[if_neg (by decide)]at d;unfold ftV at d;go_wp2_with fail;refine d.mono ?_;clear d A B C D E G;rintro en z⟨rfl,m⟩;obtain⟨a,b,g,h,hE,hV⟩:=Qa F;obtain⟨w4,f⟩:=JE (z.alloc (.cells #[Ji 13,Ji x.at_] 31));obtain⟨fb,k⟩:=JF z.heap.size;have u:=bnw f;have n:=nnw f;rw[k]at n;have j:=m.trans (u.mono m.size);have l:=(j.block _ (Qaa b)).trans b;have q:=a.trans (j.mono a.size);obtain⟨S,T,Y⟩:=cl2 n;have o:=hide (Ya f k);clear a b g h hE hV m f k u n j F;go_upto_region 12 with fail;rw[<- (Qa o).1,(Qa o).2];obtain⟨W7,r,sc⟩:=sc2 l (Ji 13) (Ji x.at_);obtain⟨a1,a2,yf⟩:=cl2 l;have s:=hide (Ya (sc.below q (by omega)) sc.box);have H:=hide r;clear l q r sc;go_wp2_with fail;rw[<- Qa H];obtain⟨K,L,zf⟩:=cl2 (Qa s).2;refine bodyPost_ret (v:=ftV (13,x.at_)) (by simp[results,Tryz.results113,go_sem,K,L,ftV]) rfl ?_;exact⟨_,rfl,(by have e:=Qa V;rw[if_neg (by decide)]at e;rw[<- e];exact⟨rfl,(by show(13:Int)≠0;decide)⟩),(Qa s).1⟩
 rw[if_pos rfl]at d;unfold ftV at d;go_wp2_with fail;refine d.mono ?_;clear d A B C D E G;rintro en z⟨rfl,m⟩;obtain⟨a,b,g,h,hE,hV⟩:=Qa F;obtain⟨w4,f⟩:=JE (z.alloc (.cells #[Ji 0,Ji 0] 31));obtain⟨fb,k⟩:=JF z.heap.size;have u:=bnw f;have n:=nnw f;rw[k]at n;have j:=m.trans (u.mono m.size);have i:=a.trans (j.mono a.size);have I:=Qfx (h.later i) x (hE.later i) hV;obtain⟨A,B,C,D,E,G⟩:=cl5 ((j.block _ (Qaa g)).trans g);obtain⟨S,T,Y⟩:=cl2 n;have U:=hide (Ya i ((j.block _ (Qaa b)).trans b));have o:=hide (Ya f k);rw[show oprP p vs x=R by have e:=Qa V;rw[if_pos trivial]at e;exact e]at I;clear a b g h hE hV m f k u n j i F;go_upto_region 12 with fail;rw[<- (Qa o).1,(Qa o).2];go_wp2_with fail;refine I.mono ?_;clear I A B C D E G S T Y;rintro en w9⟨ft,rfl,O,M⟩;obtain⟨i,J⟩:=Qa U;have l:=(M.block _ (Qaa J)).trans J;have q:=i.trans (M.mono i.size);have a0:=hide O;clear i J M U O;unfold ftV;obtain⟨W7,r,sc⟩:=sc2 l (Ji ft.1) (Ji ft.2);obtain⟨a1,a2,yf⟩:=cl2 l;have s:=hide (Ya (sc.below q (by omega)) sc.box);have H:=hide r;clear l q r sc;go_wp2_with fail;rw[<- Qa H];obtain⟨K,L,zf⟩:=cl2 (Qa s).2;refine bodyPost_ret (v:=ftV (ft.1,ft.2)) (by simp[results,Tryz.results113,go_sem,K,L,ftV]) rfl ?_;exact⟨_,rfl,Qa a0,(Qa s).1⟩
theorem Qkx(h:Wk n0 n1 p c wb mb sl vs w)(x:Ex)(hk:x.kind=6)(xa:Option Addr)(xn xc:Nat)(t:Txt){R:Except Flt (List Fld)}(hC:∀W,Below w.heap.size w W->Calls Tryz.prog 125 #[.pointer (Js wb),.agg #[Ji x.kind,Ji x.num,str x.txt,.slice xa xn xc,Ji x.at_],str t] W fun en w'=>LkA n0 n1 p c wb mb sl W R en w'):
  Calls Tryz.prog 113 #[.pointer (Js wb),.agg #[Ji x.kind,Ji x.num,str x.txt,.slice xa xn xc,Ji x.at_],str t] w fun en w'=>LkA n0 n1 p c wb mb sl w R en w':=by
 obtain⟨J,n,a,q,b,f⟩:=Qat w #[Ji x.kind,Ji x.num,str x.txt,.slice xa xn xc,Ji x.at_] 59;have d:=h.later a;have S:(x.kind==1)=false:=by rw[hk];rfl
 have V:(x.kind==4)=false:=by rw[hk];rfl
 have T:(x.kind==2)=false:=by rw[hk];rfl
 have U:(x.kind==3)=false:=by rw[hk];rfl
 have X:(x.kind==5)=false:=by rw[hk];rfl
 have Y:(x.kind==6)=true:=beq_iff_eq.2 hk;have l:=hC J a;obtain⟨s,u,y,z,A,K⟩:=cl5 q;have L:=h.n1le;have E:=hide n;have o:=hide (Ya a (Ya b (Ya f d)));clear n a q b f h d hk hC;go_enter Tryz.func113,Tryz.ntmps113;go_upto_region 1 with fail;rw[<- Qa E];go_wp2_with fail;refine l.mono ?_;clear l s u y z A K;rintro en Z m;obtain⟨M,N,ft,rfl,g,i,j⟩:=m.ft;clear m;obtain⟨a,b,f,d⟩:=Qa o;have e:=i.keep b (d.offT b (by decide) (by decide));obtain⟨Q,k,sc⟩:=sc2 e (Ji ft.1) (Ji ft.2);obtain⟨O,P,yf⟩:=cl2 e;have D:=hide (Ya (g.sc sc (by omega) (g.offT e (by decide) (by decide))) (Ya (((Kw.of_below a).trans i).sc sc (by omega)) (Ya sc.box j)));have r:=hide k;clear a b f d g i j e k sc o;unfold ftV;go_wp2_with fail;rw[<- Qa r];obtain⟨F,G,H,I⟩:=Qa D;obtain⟨B,C,zf⟩:=cl2 H;refine bodyPost_ret (v:=ftV ft) (by simp[results,Tryz.results113,go_sem,B,C,ftV]) rfl ?_;exact LkA.of F G I
end
mutual
theorem Qhz(p:Pg):∀(x:Ex) (t:Txt) (vs vs':List Fld),patP p x t vs = .ok vs'->vs'.length<=vs.length+exQ x
 | .mk k n s ks a,t,vs,vs',h=>by
  rw[exQ];rw[patP]at h;split at h
  ·have:=Qso h;omega
  ·
   split at h
   ·cases h;omega
   ·
    split at h
    ·
     split at h
     ·cases h;omega
     ·cases h
    ·
     split at h
     ·
      split at h
      ·cases h;omega
      ·cases h
     ·
      split at h
      ·
       split at h
       ·
        split at h
        ·cases h
        ·
         split at h
         ·cases h;omega
         ·cases h
       ·cases h
      ·
       split at h
       ·
        split at h
        ·cases h
        ·
         split at h
         ·cases h
         ·
          split at h
          ·cases h
          ·have:=Qfy p ks _ vs vs' h;omega
       ·cases h
theorem Qfy(p:Pg):∀(xs:List Ex) (fs vs vs':List Fld),patsP p xs fs vs = .ok vs'->vs'.length<=vs.length+exQs xs
 | [],fs,vs,vs',h=>by
  rw[patsP]at h;cases h;omega
 |x :: xs,[],vs,vs',h=>by
  rw[patsP]at h;cases h;omega
 |x :: xs,f :: fs,vs,vs',h=>by
  rw[patsP]at h;rw[exQs]
  cases hq:patP p x f.type vs with
  |error e=>rw[hq]at h;cases h
  |ok us=>
   rw[hq]at h;have h1:=Qhz p x f.type vs us hq;have a:=Qfy p xs fs us vs' h;omega
end
section
variable {n0 n1:Nat}{p:Pg}{c:CatP}{wb mb:Nat}
theorem Qfz(x:Ex):∀(sl:Value) (vs:List Fld) (W:World) (xa:Option Addr) (xn xc:Nat) (t:Txt),Wk n0 n1 p c wb mb sl vs W->ExA n0 W x xa xn xc->vs.length+exQ x<=1000000000 ->
  Calls Tryz.prog 113 #[.pointer (Js wb),.agg #[Ji x.kind,Ji x.num,str x.txt,.slice xa xn xc,Ji x.at_],str t] W fun en w'=>LkA n0 n1 p c wb mb sl W (patS p x t vs) en w':=
 match x with
 | .mk k n s ks a=>fun sl vs W xa xn xc t g D Q=>by
  unfold patS;by_cases i:k=1
  ·
   have e:patP p (.mk k n s ks a) t vs=narP p vs (.mk k n s ks a) t:=by rw[patP,if_pos i]
   rw[e];exact Qkz g (by omega) (.mk k n s ks a) i xa xn xc t
  by_cases l:k=4
  ·
   have e:patP p (.mk k n s ks a) t vs = .ok vs:=by rw[patP,if_neg i,if_pos l]
   rw[e];exact(Qjg g (.mk k n s ks a) l xa xn xc t).mono fun en w' h=>h.lk g (fun u _=>rfl) (fun e d=>by cases d)
  by_cases m:k=2
  ·
   have e:patP p (.mk k n s ks a) t vs=(if hasP p t tNum=true then .ok vs else .error (13,a)):=by rw[patP,if_neg i,if_neg l,if_pos m]
   rw[e];refine(Qky g (.mk k n s ks a) m xa xn xc t).mono fun en w' h=>h.lk g (fun u d=>?_) (fun e d=>?_)
   ·
    split at d
    ·rename_i j;rw[if_pos j]
    ·cases d
   split at d
   ·cases d
   ·rename_i j;rw[if_neg j];cases d;rfl
  by_cases q:k=3
  ·
   have e:patP p (.mk k n s ks a) t vs=(if hasP p t tSym=true then .ok vs else .error (13,a)):=by rw[patP,if_neg i,if_neg l,if_neg m,if_pos q]
   rw[e];refine(Qjh g (.mk k n s ks a) q xa xn xc t).mono fun en w' h=>h.lk g (fun u d=>?_) (fun e d=>?_)
   ·
    split at d
    ·rename_i j;rw[if_pos j]
    ·cases d
   split at d
   ·cases d
   ·rename_i j;rw[if_neg j];cases d;rfl
  by_cases z:k=5
  ·
   subst z
   have e:patP p (.mk 5 n s ks a) t vs=(match (if hasP p t tNum=true then oprP p vs (.mk 5 n s ks a) else .error (13,a)) with | .ok _=>Except.ok vs | .error f=>Except.error f):=by
    rw[patP,if_neg (by decide),if_neg (by decide),if_neg (by decide),if_neg (by decide),if_pos rfl]
    cases hasP p t tNum with
    |false=>rfl
    |true=>
     rw[if_pos rfl,if_pos rfl];unfold oprP;by_cases r:ks.length≠2∨s∉opsA
     ·
      rw[if_pos r,if_pos (show(Ex.mk 5 n s ks a).kids.length≠2∨(Ex.mk 5 n s ks a).txt∉opsA from r)];rfl
     rw[if_neg r,if_neg (show ¬((Ex.mk 5 n s ks a).kids.length≠2∨(Ex.mk 5 n s ks a).txt∉opsA) from r)]
     show _=(match opnP p vs ks with | .ok _=>Except.ok vs | .error f=>Except.error f);cases opnP p vs ks<;>rfl
   rw[e];refine(Qnk g (.mk 5 n s ks a) rfl xa xn xc t D (fun y _=>Qcp y sl vs)).mono fun en w' h=>h.lk g (fun u d=>?_) (fun e d=>?_)
   ·rw[show(if hasP p t tNum=true then oprP p vs (.mk 5 n s ks a) else .error (13,a)) = .ok u from d]
   ·rw[show(if hasP p t tNum=true then oprP p vs (.mk 5 n s ks a) else .error (13,a)) = .error e from d]
  by_cases A:k=6
  ·
   subst A;have e:patP p (.mk 6 n s ks a) t vs=apaP p vs (.mk 6 n s ks a) t:=by
    rw[patP,if_neg (by decide),if_neg (by decide),if_neg (by decide),if_neg (by decide),if_neg (by decide),if_pos rfl];unfold apaP;have e:(Ex.mk 6 n s ks a).txt=s:=rfl;rw[e]
    cases ctorP2 p s with
    |none=>rfl
    |some o=>rfl
   rw[e];have R:exQ (.mk 6 n s ks a)=exQs ks+1:=by rw[exQ]
   refine Qkx g (.mk 6 n s ks a) rfl xa xn xc t (fun P b=>Qs (N:=1000000000) (g.later b) (.mk 6 n s ks a) (D.later b) ⟨?_,?_⟩ ?_ t)
   ·
    intro y B O J v L I M C G E F;have H:y∈ks:=B;exact Qfz y J v O L I M C G E F
   ·
    intro y C v K B;exact Qhz p y C v K B
   show vs.length+szL exQ ks<=_;rw[Qhs];omega
  have e:patP p (.mk k n s ks a) t vs = .error (1,a):=by rw[patP,if_neg i,if_neg l,if_neg m,if_neg q,if_neg z,if_neg A]
  rw[e];exact(Qkw g (.mk k n s ks a) ⟨i,l,m,q,z,A⟩ xa xn xc t).mono fun en w' h=>h.lk g (fun u d=>by cases d) (fun e d=>by cases d;rfl)
termination_by SizeOf.sizeOf x
decreasing_by
 have:=List.sizeOf_lt_of_mem H;simp only[Ex.mk.sizeOf_spec];omega
end
end
end Go.Proofs.YtkhndlnadhggkaaGreat
