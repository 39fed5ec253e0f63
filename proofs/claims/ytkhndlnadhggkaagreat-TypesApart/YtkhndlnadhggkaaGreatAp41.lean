/- types. -/
import Derived.Test.YtkhndlnadhggkaaGreatAp01
import Derived.Test.YtkhndlnadhggkaaGreatAp40
import Derived.Test.YtkhndlnadhggkaaGreatAp31
import Derived.Test.YtkhndlnadhggkaaGreatAp38
set_option maxRecDepth 100000
set_option maxHeartbeats 32000000
namespace Go.Proofs.YtkhndlnadhggkaaGreat
section
open Go.RowKit Go.Maps
def madeP(p:Pg)(vs:List Fld)(x:Ex):Except Flt Txt:=match ctorP2 p x.txt with
 |none=>.error (6,x.at_)
 |some (d,sum)=>if x.kids.length≠d.fields.length then .error (14,x.at_) else match fitsP p vs x.kids d.fields with | .ok _=>.ok sum | .error f=>.error f
section
variable {n0 n1:Nat}{p:Pg}{c:CatP}{wb mb:Nat}{sl:Value}{vs:List Fld}{w:World}
theorem made_of(h:Wk n0 n1 p c wb mb sl vs w)(x:Ex){xa:Option Addr}{xn xc:Nat}(hE:ExA n0 w x xa xn xc)(hV:∀y∈x.kids,∀(W:World) (xa:Option Addr) (xn xc:Nat) (t:Txt),Wk n0 n1 p c wb mb sl vs W->ExA n0 W y xa xn xc->Calls Tryz.prog 102 #[.pointer (Js wb),.agg #[Ji y.kind,Ji y.num,str y.txt,.slice xa xn xc,Ji y.at_],str t] W fun en w'=>OpA W (fitP p vs y t) en w'):
  Calls Tryz.prog 131 #[.pointer (Js wb),.agg #[Ji x.kind,Ji x.num,str x.txt,.slice xa xn xc,Ji x.at_]] w fun en w'=>VlA w (madeP p vs x) en w':=by
 obtain⟨T,Y⟩:=hE.kids;obtain⟨f,ar,l,n,z,s2⟩:=Qat w #[Ji x.kind,Ji x.num,str x.txt,.slice xa xn xc,Ji x.at_] 59;have s:Hid (∀W:World,Below f.heap.size f W->W.heap[w.heap.size]?=some (.cells #[Ji x.kind,Ji x.num,str x.txt,.slice xa xn xc,Ji x.at_] 59 (0,0))/\W.cell? (Ja wb 3)=some (.func (.func 79) #[.pointer (Js c.cb)] #[])):=fun W bW=>⟨(bW.block _ (Qaa n)).trans n,(cl6 (h.later (l.trans (bW.mono l.size))).box).2.2.2.1⟩;have a5:Hid (∀W:World,Below f.heap.size f W->Calls Tryz.prog 79 #[.pointer (Js c.cb),str x.txt] W fun en w'=>∃v,en = .returned v/\CtA (fun b=>b<n0) w' (ctorP2 p x.txt) v/\Below W.heap.size W w'):=fun W bW=>Qiv (Ct.later h.cat (l.trans (bW.mono l.size))) x.txt;have a9:=h.n1le;have aw:=h.lo.1;have HB:=hide (show n0<=f.heap.size by omega);obtain⟨R,hR⟩:=JF (madeP p vs x);rw[hR];unfold madeP at hR;have HW:=hide ar;have HH:=hide (Ya l (Ya n (Ya z (Ya s2 (Ya h (Ya T Y))))));have H5:=hide hV;clear ar l n z s2 h hE T Y a9 aw hV;go_enter Tryz.func131,Tryz.ntmps131;go_upto_region 1 with fail;rw[<- Qa HW]
 cases ho:ctorP2 p x.txt with
 |none=>
  rw[ho]at hR a5;have HR:=hide hR;clear hR ho;go_cut [6,7,8] from 9 (fun u6 u7 u8 wc=>∃(db:Nat),u6 = .pointer (Js db)/\u7 = Je/\u8 = .bool false/\Hid (Below f.heap.size f wc/\True))
  case first=>
   go_wp2_with fail;refine Qas (tr:=(.take 0 (.take 1 (.take 2 (.take 3 (.take 4 (.take 5 (.two 6 11 (.take 7 (.take 8 (.take 9 (.take 10 (.one 11 (.one 12 (.take 13 (.take 14 .nil)))))))) (.one 6 (.take 7 (.take 8 (.take 9 (.take 10 (.one 12 (.take 13 (.take 14 .nil)))))))))))))))) (fun W=>W.heap[w.heap.size]?=some (.cells #[Ji x.kind,Ji x.num,str x.txt,.slice xa xn xc,Ji x.at_] 59 (0,0))/\W.cell? (Ja wb 3)=some (.func (.func 79) #[.pointer (Js c.cb)] #[])) mixedO (by kernel_rfl) rfl (by kernel_rfl) (fun PP U=>?_);refine tT (v:=?_) (fun w' hw=>?_) ?_;rotate_left
   ·(obtain⟨i,J⟩:=hw;obtain⟨E,F,G,H,I,P⟩:=cl5 i;go_simp<;>rfl)
   refine tT (v:=?_) (fun w' hw=>?_) ?_;rotate_left
   ·(obtain⟨i,J⟩:=hw;obtain⟨E,F,G,H,I,P⟩:=cl5 i;go_simp<;>rfl)
   refine tT (v:=?_) (fun w' hw=>?_) ?_;rotate_left
   ·(obtain⟨i,J⟩:=hw;obtain⟨E,F,G,H,I,P⟩:=cl5 i;go_simp<;>rfl)
   refine tT (v:=?_) (fun w' hw=>?_) ?_;rotate_left
   ·(obtain⟨i,J⟩:=hw;obtain⟨E,F,G,H,I,P⟩:=cl5 i;go_simp<;>rfl)
   refine tT (v:=?_) (fun w' hw=>?_) ?_;rotate_left
   ·(obtain⟨i,J⟩:=hw;obtain⟨E,F,G,H,I,P⟩:=cl5 i;go_simp<;>rfl)
   refine tT (v:=?_) (fun w' hw=>?_) ?_;rotate_left
   ·(obtain⟨i,J⟩:=hw;obtain⟨E,F,G,H,I,P⟩:=cl5 i;go_simp<;>rfl)
   have C:=(Below.refl f.heap.size f).drew;refine Qbr rfl rfl (Qa s f.drew C) (fun K a=>?_) (fun K a=>?_)
   ·
    go_simp;refine(Qa a5 f.drew C).mono ?_;rintro en k⟨v5,rfl,a3,A⟩;obtain rfl:v5=_:=a3;show K _ _;refine a _ _ ?_;clear a K;have j:Below f.heap.size f k:=C.trans (A.mono C.size)
    iterate 4 (refine tT (v:=?_) (fun w' hw=>?_) ?_;rotate_left;· (go_simp<;>rfl))
    refine Qaf rfl (Qa s k j) (fun K a=>?_);go_simp;refine a _ _ ?_;clear a K;have b6:Below k.heap.size k (k.alloc (.cells #[Je,Jn] 97)):=(Below.refl _ k).alloc (Nat.le_refl _) _;refine Qaf rfl (Qa s _ (j.trans (b6.mono j.size))) (fun K a=>?_);go_simp;refine a _ _ ?_;clear a K;obtain⟨W7,g⟩:=JE (k.alloc (.cells #[Je,Jn] 97));have b7:=bnw g;have n7:=nnw g;rw[<- g];have r:=j.trans (b7.mono j.size)
    iterate 2 (refine tT (v:=?_) (fun w' hw=>?_) ?_;rotate_left;· (go_simp<;>rfl))
    refine Qan (Qa s _ r) (U _ _ ?_);clear U PP;have a0:=hide (Ya r trivial);clear C A j b6 g b7 n7 r;go_wp2_with fail;go_meet;exact⟨_,rfl,rfl,rfl,a0⟩
   go_simp;refine a _ _ ?_;clear a K;obtain⟨X,V⟩:=JE ((f.alloc (.cells #[Je,Jn] 97)).drew);have N:Below f.heap.size f X:=by rw[V];exact((Below.refl _ _).alloc (Nat.le_refl _) _).drew
   have n4:X.heap[f.heap.size]?=some (.cells #[Je,Jn] 97 (0,0)):=by rw[V];exact heap_alloc_new f _
   rw[<- V];clear V;refine Qaf rfl (Qa s X N) (fun K a=>?_);go_simp;refine(Qa a5 X N).mono ?_;rintro en k⟨v5,rfl,a3,A⟩;obtain rfl:v5=_:=a3;show K _ _;refine a _ _ ?_;clear a K;have j:=N.trans (A.mono N.size);have n5:=(A.block _ (Qaa n4)).trans n4
   iterate 4 (refine tT (v:=?_) (fun w' hw=>?_) ?_;rotate_left;· (go_simp<;>rfl))
   obtain⟨W7,g,sc⟩:=sc2 n5 (Je) (Jn);obtain⟨a6,a7,yf⟩:=cl2 n5;refine Qaf rfl (Qa s k j) (fun K a=>?_);go_simp;rw[<- g];refine a _ _ ?_;clear a K;have r:=sc.below j (Nat.le_refl _)
   iterate 2 (refine tT (v:=?_) (fun w' hw=>?_) ?_;rotate_left;· (go_simp<;>rfl))
   refine Qan (Qa s _ r) (U _ _ ?_);clear U PP;have a0:=hide (Ya r trivial);clear C N n4 A j n5 g sc r a6 a7 yf;go_wp2_with fail;go_meet;exact⟨_,rfl,rfl,rfl,a0⟩
  obtain⟨db,rfl,rfl,rfl,m⟩:=hcut;obtain⟨WX,am⟩:=JE wc;subst am;have B:=(Qa m).1;obtain⟨l,n,z,s2,h,T,Y⟩:=Qa HH;have a1:=(B.block _ (Qaa n)).trans n;have Z:=(B.block _ (Qaa z)).trans z;have S:=l.trans (B.mono l.size);have aa:=Qbd WX 6 x.kind x.num x.txt (.slice xa xn xc) ⟨_,_,_,rfl⟩ x.at_;obtain⟨ab,ac,ad,ae,af,xf⟩:=cl5 a1;have HN:=hide (Ya Z (Ya S h));clear m l n z s2 h T Y a1 Z S B;go_wp2_with fail;refine aa.mono ?_;clear aa ab ac ad ae af xf;rintro en w9⟨rfl,O⟩;obtain⟨L,D,h⟩:=Qa HN;have M:=(O.block _ (Qaa L)).trans L;have Q:=D.trans (O.mono D.size);have an:=h.later Q;have a9:=h.n1le;obtain⟨W7,g,sc⟩:=sc2 M (Ji 6) (Ji x.at_);obtain⟨a6,a7,yf⟩:=cl2 M;have m:=hide (Ya (sc.below Q (by omega)) (Ya sc.box h));have a8:=hide g;clear L D h M Q an O g sc a9;go_wp2_with fail;rw[<- Qa a8];obtain⟨ai,aj,zf⟩:=cl2 (Qa m).2.1;refine bodyPost_ret (v:=.tuple #[Je,ftV (6,x.at_)]) (by simp[results,Tryz.results131,go_sem,ai,aj,ftV]) rfl ?_;rw[<- Qa HR];exact⟨[],_,rfl,⟨rfl,(by show(6:Int)≠0;decide)⟩,(Qa m).1⟩
 |some o=>
  obtain⟨d,nm⟩:=o;rw[ho]at hR a5;have HR:=hide hR;clear hR ho;go_cut [6,7,8] from 9 (fun u6 u7 u8 wc=>∃(db:Nat) (ca:Option Addr) (cc:Nat),u6 = .pointer (Js db)/\u7=str nm/\u8 = .bool true/\Hid (Below f.heap.size f wc/\wc.heap[db]?=some (.cells #[str d.name,.slice ca d.fields.length cc] 97 (0,0))/\LsAt PF 2 (fun b=>b<n0) wc (.slice ca d.fields.length cc) d.fields))
  case first=>
   go_wp2_with fail;refine Qas (tr:=(.take 0 (.take 1 (.take 2 (.take 3 (.take 4 (.take 5 (.two 6 11 (.take 7 (.take 8 (.take 9 (.take 10 (.one 11 (.one 12 (.take 13 (.take 14 .nil)))))))) (.one 6 (.take 7 (.take 8 (.take 9 (.take 10 (.one 12 (.take 13 (.take 14 .nil)))))))))))))))) (fun W=>W.heap[w.heap.size]?=some (.cells #[Ji x.kind,Ji x.num,str x.txt,.slice xa xn xc,Ji x.at_] 59 (0,0))/\W.cell? (Ja wb 3)=some (.func (.func 79) #[.pointer (Js c.cb)] #[])) mixedO (by kernel_rfl) rfl (by kernel_rfl) (fun PP U=>?_);refine tT (v:=?_) (fun w' hw=>?_) ?_;rotate_left
   ·(obtain⟨i,J⟩:=hw;obtain⟨E,F,G,H,I,P⟩:=cl5 i;go_simp<;>rfl)
   refine tT (v:=?_) (fun w' hw=>?_) ?_;rotate_left
   ·(obtain⟨i,J⟩:=hw;obtain⟨E,F,G,H,I,P⟩:=cl5 i;go_simp<;>rfl)
   refine tT (v:=?_) (fun w' hw=>?_) ?_;rotate_left
   ·(obtain⟨i,J⟩:=hw;obtain⟨E,F,G,H,I,P⟩:=cl5 i;go_simp<;>rfl)
   refine tT (v:=?_) (fun w' hw=>?_) ?_;rotate_left
   ·(obtain⟨i,J⟩:=hw;obtain⟨E,F,G,H,I,P⟩:=cl5 i;go_simp<;>rfl)
   refine tT (v:=?_) (fun w' hw=>?_) ?_;rotate_left
   ·(obtain⟨i,J⟩:=hw;obtain⟨E,F,G,H,I,P⟩:=cl5 i;go_simp<;>rfl)
   refine tT (v:=?_) (fun w' hw=>?_) ?_;rotate_left
   ·(obtain⟨i,J⟩:=hw;obtain⟨E,F,G,H,I,P⟩:=cl5 i;go_simp<;>rfl)
   have C:=(Below.refl f.heap.size f).drew;refine Qbr rfl rfl (Qa s f.drew C) (fun K a=>?_) (fun K a=>?_)
   ·
    go_simp;refine(Qa a5 f.drew C).mono ?_;rintro en k⟨v5,rfl,a3,A⟩;obtain⟨ag,ah,rfl,hL⟩:=a3;show K _ _;refine a _ _ ?_;clear a K;have j:Below f.heap.size f k:=C.trans (A.mono C.size)
    iterate 4 (refine tT (v:=?_) (fun w' hw=>?_) ?_;rotate_left;· (go_simp<;>rfl))
    refine Qaf rfl (Qa s k j) (fun K a=>?_);go_simp;refine a _ _ ?_;clear a K;have b6:Below k.heap.size k (k.alloc (.cells #[Je,Jn] 97)):=(Below.refl _ k).alloc (Nat.le_refl _) _;refine Qaf rfl (Qa s _ (j.trans (b6.mono j.size))) (fun K a=>?_);go_simp;refine a _ _ ?_;clear a K;obtain⟨W7,g⟩:=JE (k.alloc (.cells #[str d.name,.slice ag d.fields.length ah] 97));have b7:=bnw g;have n7:=nnw g;rw[<- g];have r:=j.trans (b7.mono j.size)
    iterate 2 (refine tT (v:=?_) (fun w' hw=>?_) ?_;rotate_left;· (go_simp<;>rfl))
    refine Qan (Qa s _ r) (U _ _ ?_);clear U PP;have a0:=hide (Ya r (Ya n7 (hL.later Qbb b7)));clear C A j b6 g b7 n7 r hL;go_wp2_with fail;go_meet;exact⟨_,ag,ah,rfl,rfl,rfl,a0⟩
   go_simp;refine a _ _ ?_;clear a K;obtain⟨X,V⟩:=JE ((f.alloc (.cells #[Je,Jn] 97)).drew);have N:Below f.heap.size f X:=by rw[V];exact((Below.refl _ _).alloc (Nat.le_refl _) _).drew
   have n4:X.heap[f.heap.size]?=some (.cells #[Je,Jn] 97 (0,0)):=by rw[V];exact heap_alloc_new f _
   rw[<- V];clear V;refine Qaf rfl (Qa s X N) (fun K a=>?_);go_simp;refine(Qa a5 X N).mono ?_;rintro en k⟨v5,rfl,a3,A⟩;obtain⟨ag,ah,rfl,hL⟩:=a3;show K _ _;refine a _ _ ?_;clear a K;have j:=N.trans (A.mono N.size);have n5:=(A.block _ (Qaa n4)).trans n4
   iterate 4 (refine tT (v:=?_) (fun w' hw=>?_) ?_;rotate_left;· (go_simp<;>rfl))
   obtain⟨W7,g,sc⟩:=sc2 n5 (str d.name) (.slice ag d.fields.length ah);obtain⟨a6,a7,yf⟩:=cl2 n5;refine Qaf rfl (Qa s k j) (fun K a=>?_);go_simp;rw[<- g];refine a _ _ ?_;clear a K;have r:=sc.below j (Nat.le_refl _)
   iterate 2 (refine tT (v:=?_) (fun w' hw=>?_) ?_;rotate_left;· (go_simp<;>rfl))
   refine Qan (Qa s _ r) (U _ _ ?_);clear U PP;have a0:=hide (Ya r (Ya sc.box (hL.same Qbb (by rw[sc.size];exact Nat.le_refl _) (fun q hq _=>sc.oth q (by have ax:q<n0:=hq;have:=Qa HB;omega)))));clear C N n4 A j n5 g sc r a6 a7 yf hL;go_wp2_with fail;go_meet;exact⟨_,ag,ah,rfl,rfl,rfl,a0⟩
  obtain⟨db,ca,cc,rfl,rfl,rfl,m⟩:=hcut;obtain⟨WX,am⟩:=JE wc;subst am;obtain⟨B,nX,ak⟩:=Qa m;obtain⟨av,ao,df⟩:=cl2 nX;obtain⟨fn,al⟩:=JF d.fields.length;rw[al]at ao;by_cases aq:xn=fn
  ·
   subst aq;obtain⟨l,n,z,s2,h,T,Y⟩:=Qa HH;have a1:=(B.block _ (Qaa n)).trans n;have Z:=(B.block _ (Qaa z)).trans z;have S:=l.trans (B.mono l.size);rw[al]at ak;have ap:=Qiw (h.later S) (Qa H5) (by omega) (T.later Qag S) ak;obtain⟨ab,ac,ad,ae,af,xf⟩:=cl5 a1;have HN:=hide (Ya Z (Ya S (show ¬(x.kids.length≠d.fields.length) by omega)));clear l n z s2 h T Y a1 Z S B nX ak al m;go_wp2_with fail;refine ap.mono ?_;clear ap ab ac ad ae af xf av ao df;rintro en w9⟨ft,rfl,a2,O⟩;obtain⟨L,D,a4⟩:=Qa HN;have M:=(O.block _ (Qaa L)).trans L;have Q:=D.trans (O.mono D.size);obtain⟨W7,g,sc⟩:=sc2 M (Ji ft.1) (Ji ft.2);obtain⟨a6,a7,yf⟩:=cl2 M;have m:=hide (Ya (sc.below Q (by omega)) (Ya sc.box (Ya a2 a4)));have a8:=hide g;clear L D M Q O g sc a2 a4;unfold ftV;go_wp2_with fail;rw[<- Qa a8];obtain⟨ai,aj,zf⟩:=cl2 (Qa m).2.1;refine bodyPost_ret (v:=.tuple #[str nm,ftV ft]) (by simp[results,Tryz.results131,go_sem,ai,aj,ftV]) rfl ?_;refine⟨nm,ft,rfl,?_,(Qa m).1⟩;obtain⟨_,_,a2,a4⟩:=Qa m;rw[<- Qa HR,if_neg a4]
   cases hq:fitsP p vs x.kids d.fields with
   |ok u=>rw[hq]at a2;exact⟨rfl,a2⟩
   |error e=>rw[hq]at a2;exact a2
  have g2:((xn:Int) != (fn:Int))=true:=by simpa using (by omega:¬((xn:Int)=(fn:Int)))
  have g3:¬((xn:Int)=(fn:Int)):=by omega
  have au:Hid (x.kids.length≠d.fields.length):=by have:=(Qa HH).2.2.2.2.2.2;exact hide (by omega)
  clear nX ak al m aq;obtain⟨l,n,z,s2,h,T,Y⟩:=Qa HH;have a1:=(B.block _ (Qaa n)).trans n;have Z:=(B.block _ (Qaa z)).trans z;have S:=l.trans (B.mono l.size);have aa:=Qbd WX 14 x.kind x.num x.txt (.slice xa xn xc) ⟨_,_,_,rfl⟩ x.at_;obtain⟨ab,ac,ad,ae,af,xf⟩:=cl5 a1;have HN:=hide (Ya Z (Ya S h));clear l n z s2 h T Y a1 Z S B;go_wp2_with fail;refine aa.mono ?_;clear aa ab ac ad ae af xf;rintro en w9⟨rfl,O⟩;obtain⟨L,D,h⟩:=Qa HN;have M:=(O.block _ (Qaa L)).trans L;have Q:=D.trans (O.mono D.size);have an:=h.later Q;have a9:=h.n1le;obtain⟨W7,g,sc⟩:=sc2 M (Ji 14) (Ji x.at_);obtain⟨a6,a7,yf⟩:=cl2 M;have m:=hide (Ya (sc.below Q (by omega)) (Ya sc.box h));have a8:=hide g;clear L D h M Q an O g sc a9;go_wp2_with fail;rw[<- Qa a8];obtain⟨ai,aj,zf⟩:=cl2 (Qa m).2.1;refine bodyPost_ret (v:=.tuple #[Je,ftV (14,x.at_)]) (by simp[results,Tryz.results131,go_sem,ai,aj,ftV]) rfl ?_;rw[<- Qa HR];rw[if_pos (Qa au)];exact⟨[],_,rfl,⟨rfl,(by show(14:Int)≠0;decide)⟩,(Qa m).1⟩
end
section
variable {n0 n1:Nat}{p:Pg}{c:CatP}{wb mb:Nat}{sl:Value}{vs:List Fld}{w:World}
theorem Qlo(h:Wk n0 n1 p c wb mb sl vs w){N:Nat}{sz:Ex->Nat}{step:Ex->Txt->List Fld->Except Flt (List Fld)}{xs:List Ex}{fs:List Fld}(hF:LkF 113 n0 n1 p c wb mb N sz step xs)(hsz:vs.length+szL sz xs<=N)(hlen:xs.length<=fs.length)
  {la fa:Option Addr}{ln lc fn fc:Nat}(hX:LsAt PE 5 (fun b=>b<n0) w (.slice la ln lc) xs)(hFs:LsAt PF 2 (fun b=>b<n0) w (.slice fa fn fc) fs):
  Calls Tryz.prog 116 #[.slice la ln lc,.slice fa fn fc,.func (.func 113) #[.pointer (Js wb)] #[]] w fun en w'=>LkA n0 n1 p c wb mb sl w (eachP step xs fs vs) en w':=by
 obtain⟨w1,ah⟩:=JE (w.alloc (.cells #[Ji 0,Ji 0] 31));have U:=bnw ah;have Y:=nnw ah;have s1:w1.heap.size=w.heap.size+1:=by rw[ah];simp
 obtain⟨_,_,el⟩:=hX.sl;cases el
 obtain⟨_,_,el⟩:=hFs.sl;cases el
 have b3:=hX.cap rfl;have aW:=hFs.cap rfl;obtain⟨n,O⟩:=JF xs.length;obtain⟨m,M⟩:=JF fs.length;obtain⟨RR,au⟩:=JF (eachP step xs fs vs);rw[au];rw[O]at b3 hlen ⊢;rw[M]at aW hlen ⊢;have be:=Qaa h.box;have H1:=hide (Ya U (Ya Y (Ya s1 h)));have HX:=hide (Ya hX (Ya hFs (Ya O (Ya M (Ya hF (Ya hsz au))))));have aK:=hide ah;have aG:=h.n1le;clear h hF hsz hX hFs O M au ah U Y s1;go_enter Tryz.func116,Tryz.ntmps116;go_upto_region 1 with fail;rw[<- Qa aK];go_wp2_with fail;go_loopw [12] (fun v wr=>∃(j:Nat),v = Ji (j:Int)/\j<=n/\Hid (∃i a,Wk n0 n1 p c wb mb i a wr/\Kw wb mb sl i w wr/\wr.heap[w.heap.size]?=some (.cells #[Ji 0,Ji 0] 31 (0,0))/\a.length+szL sz (xs.drop j)<=N/\RR=eachP step (xs.drop j) (fs.drop j) a)) (fun v _=>n - (intOf v).toNat)
 case atStart=>
  obtain⟨U,Y,s1,h⟩:=Qa H1;exact⟨0,rfl,Nat.zero_le _,hide ⟨sl,vs,h.later U,Kw.of_below U,Y,(Qa HX).2.2.2.2.2.1,(Qa HX).2.2.2.2.2.2.symm⟩⟩
 obtain⟨j,rfl,hj,HI⟩:=hrel;by_cases bd:j<n
 rotate_left
 ·
  obtain⟨i,a,d,o,C,hsz,r⟩:=Qa HI;have aE:xs.drop j=[]:=List.drop_eq_nil_of_le (by have:=(Qa HX).2.2.1;omega);have ab:RR = .ok a:=by rw[r,aE];rfl
  obtain⟨J,I,sc⟩:=sc2 C (Ji 0) (Ji 0);obtain⟨aI,aJ,yf⟩:=cl2 C;have V:=d.offT C (by decide) (by decide);have HG:=hide (Ya (d.sc sc aG V) (Ya (o.sc sc (Nat.le_refl _)) (Ya sc.box ab)));have aq:=hide I;clear d o C hsz r aE ab I sc V;go_wp2_with fail;rw[<- Qa aq];obtain⟨h1,h2,h3,h4⟩:=Qa HG;obtain⟨az,aA,zf⟩:=cl2 h3;refine bodyPost_ret (v:=ftV (0,0)) (by simp[results,Tryz.results116,go_sem,az,aA,ftV]) rfl ?_;refine⟨_,_,h1,h2,?_⟩;rw[h4];exact⟨rfl,rfl⟩
 obtain⟨i,a,d,o,C,hsz,r⟩:=Qa HI;obtain⟨hX,hFs,O,M,hF,_,_⟩:=Qa HX;obtain⟨U,Y,s1,h⟩:=Qa H1;obtain⟨x,G⟩:∃x,xs[j]?=some x:=⟨xs[j]'(by omega),List.getElem?_eq_getElem _⟩;obtain⟨f,R⟩:∃f,fs[j]?=some f:=⟨fs[j]'(by omega),List.getElem?_eq_getElem _⟩;have ag:∀b,b<n0->b<w.heap.size->wr.heap[b]?=w.heap[b]?:=fun b k l=>o.block b l (h.low k).1 (h.low k).2.1 (h.low k).2.2;have aD:=hX.same Qag o.size (fun b k l=>ag b k l);have aC:=hFs.same Qbb o.size (fun b k l=>ag b k l);obtain⟨gb,cap,cs,e1,aZ,aY,aV,a0,aw⟩:=aD.elem G;obtain⟨ar,b8,bb,e2,af,ae,_,aX,aF⟩:=aC.elem R;simp only[Value.slice.injEq]at e1 e2;obtain⟨rfl,-,rfl⟩:=e1;obtain⟨rfl,-,rfl⟩:=e2;obtain⟨xv,aR,⟨xa,xc,aS⟩,_⟩:=a0.cells;subst aS;subst aR;obtain⟨xn,aH⟩:=JF x.kids.length;rw[aH]at a0 aw;clear aH;subst aX;obtain⟨aL,aM,aN,aO,aP⟩:=cs5 aw;have aQ:=aF 1 _ rfl;obtain⟨t,ak⟩:=JE (wr.alloc (.cells #[Ji x.kind,Ji x.num,str x.txt,.slice xa xn xc,Ji x.at_] 59));obtain⟨H,S⟩:=JF wr.heap.size;have A:=bnw ak;have D:=nnw ak;rw[S]at D;have aa:=hide (Ya ak S);have H2:=hide (Ya A (Ya D (Ya a0 (Ya G (Ya R (Ya af ae))))));clear d o C hsz r hX hFs O M hF U Y s1 h ag aD aC aZ aY aV a0 aw af ae aF ak S A D G R;go_upto_region 4 with fail;rw[<- (Qa aa).1,(Qa aa).2];clear aL aM aN aO aP;go_cut [9,12] from 12 to 29 (fun u v wc=>∃(fb:Nat) (ft:Flt),u = .pointer (Js fb)/\v = Ji (j:Int)/\Hid (∃i a,Wk n0 n1 p c wb mb i a wr/\Kw wb mb sl i w wr/\a.length+szL sz (xs.drop j)<=N/\RR=eachP step (xs.drop j) (fs.drop j) a/\EaI n0 n1 p c wb mb i wr fb ft (step x f.type a) wc/\wc.heap[w.heap.size]?=some (.cells #[Ji 0,Ji 0] 31 (0,0))))
 case first=>
  obtain⟨i,a,d,o,C,hsz,r⟩:=Qa HI;obtain⟨hX,hFs,O,M,hF,_,_⟩:=Qa HX;obtain⟨A,D,a0,G,R,af,ae⟩:=Qa H2;obtain⟨U,Y,s1,h⟩:=Qa H1;have b5:=A.size;have aT:=o.size;have s2:t.heap.size=H+1:=by rw[(Qa aa).1,<- (Qa aa).2];simp
  have S:wr.heap.size=H:=(Qa aa).2;have ad:∀W,Below wr.heap.size wr W->Calls Tryz.prog 113 #[.pointer (Js wb),.agg #[Ji x.kind,Ji x.num,str x.txt,.slice xa xn xc,Ji x.at_],str f.type] W fun en w'=>LkA n0 n1 p c wb mb i W (step x f.type a) en w':=fun W bW=>
   hF.call x (List.mem_of_getElem? G) W i a xa xn xc f.type (d.later bW) (Qag.same _ _ _ _ _ a0 bW.size (fun q _ l=>bW.block q l)) (by rw[Qie sz xs j x G]at hsz;omega)
  have aB:=hide ad;have BD:Below wr.heap.size wr t.drew:=A.drew
  have cE:∀W:World,W.heap[H]?=some (.cells #[Ji x.kind,Ji x.num,str x.txt,.slice xa xn xc,Ji x.at_] 59 (0,0))->(∀b,b<n0->b<wr.heap.size->W.heap[b]?=wr.heap[b]?)->W.heap[H]?=some (.cells #[Ji x.kind,Ji x.num,str x.txt,.slice xa xn xc,Ji x.at_] 59 (0,0))/\W.cell? (Ja ar (j*2+1))=some (str f.type):=fun W k l=>⟨k,by
   have:=aQ;simp only[World.cell?]at this ⊢
   rw[l ar ae af];exact this⟩
  have Z:=hide cE;have L:t.heap[w.heap.size]?=some (.cells #[Ji 0,Ji 0] 31 (0,0)):=(A.block _ (Qaa C)).trans C;have HF:=hide (Ya d (Ya o (Ya C (Ya hsz (Ya r (Ya A (Ya D (Ya L (Ya s2 S)))))))));clear hX hFs O M hF a0 G R af ae U Y s1 h b5 aT ad cE d o C hsz r A D L s2 S;have bc:j<m:=by omega
  go_wp2_with fail;refine Qas (tr:=(.take 0 (.take 1 (.take 2 (.take 3 (.take 4 (.take 5 (.take 6 (.two 7 8 (.one 8 (.one 9 .nil)) (.one 7 (.one 9 .nil)))))))))) ) (fun W=>W.heap[H]?=some (.cells #[Ji x.kind,Ji x.num,str x.txt,.slice xa xn xc,Ji x.at_] 59 (0,0))/\W.cell? (Ja ar (j*2+1))=some (str f.type)) mixedO (by kernel_rfl) rfl (by kernel_rfl) (fun PP aj=>?_);refine tT (v:=?_) (fun w' hw=>?_) ?_;rotate_left
  ·(obtain⟨E,a7⟩:=hw;obtain⟨a2,a3,a4,a5,a6,kf⟩:=cl5 E;go_simp<;>rfl)
  refine tT (v:=?_) (fun w' hw=>?_) ?_;rotate_left
  ·(obtain⟨E,a7⟩:=hw;obtain⟨a2,a3,a4,a5,a6,kf⟩:=cl5 E;go_simp<;>rfl)
  refine tT (v:=?_) (fun w' hw=>?_) ?_;rotate_left
  ·(obtain⟨E,a7⟩:=hw;obtain⟨a2,a3,a4,a5,a6,kf⟩:=cl5 E;go_simp<;>rfl)
  refine tT (v:=?_) (fun w' hw=>?_) ?_;rotate_left
  ·(obtain⟨E,a7⟩:=hw;obtain⟨a2,a3,a4,a5,a6,kf⟩:=cl5 E;go_simp<;>rfl)
  refine tT (v:=?_) (fun w' hw=>?_) ?_;rotate_left
  ·(obtain⟨E,a7⟩:=hw;obtain⟨a2,a3,a4,a5,a6,kf⟩:=cl5 E;go_simp<;>rfl)
  refine tT (v:=?_) (fun w' hw=>?_) ?_;rotate_left
  ·(obtain⟨E,a7⟩:=hw;obtain⟨a2,a3,a4,a5,a6,kf⟩:=cl5 E;go_simp<;>rfl)
  refine tT (v:=?_) (fun w' hw=>?_) ?_;rotate_left
  ·(obtain⟨E,a7⟩:=hw;obtain⟨a2,a3,a4,a5,a6,kf⟩:=cl5 E;go_simp<;>rfl)
  obtain⟨d,o,C,hsz,r,A,D,L,s2,S⟩:=Qa HF;refine Qbr rfl rfl (Qa Z t.drew D (fun b _ l=>A.block b l)) (fun K z=>?_) (fun K z=>?_)
  ·
   go_simp;refine(Qa aB t.drew BD).mono ?_;rintro en B⟨ai,T,F,y,g⟩
   obtain⟨ft,ax,ac⟩:∃ft:Flt,en = .returned (ftV ft)/\match step x f.type a with | .ok v=>ft=(0,0)/\T=v | .error e=>ft=e/\ft.1≠0:=by
    cases s:step x f.type a with
    |ok v=>rw[s]at g;exact⟨(0,0),g.1,rfl,g.2⟩
    |error e=>rw[s]at g;exact⟨e,g.1,rfl,g.2⟩
   subst ax;show K _ _;refine z _ _ ?_;clear z K;have P:=y.keep (show t.drew.heap[H]?=_ from D) ((d.later BD).offT (show t.drew.heap[H]?=_ from D) (by decide) (by decide));have a8:=y.keep (show t.drew.heap[w.heap.size]?=_ from L) ((d.later BD).offT (show t.drew.heap[w.heap.size]?=_ from L) (by decide) (by decide));have X:∀b,b<n0->b<wr.heap.size->B.heap[b]?=wr.heap[b]?:=fun b k l=>(y.block b (by have:t.drew.heap.size=t.heap.size:=rfl;omega) (d.low k).1 (d.low k).2.1 (d.low k).2.2).trans (A.block b l);refine Qaf rfl (Qa Z B P X) (fun K z=>?_);go_simp;refine z _ _ ?_;clear z K;have b6:Below B.heap.size B (B.alloc (.cells #[Ji 0,Ji 0] 31)):=(Below.refl _ B).alloc (Nat.le_refl _) _;refine Qaf rfl (Qa Z _ ((b6.block _ (Qaa P)).trans P) (fun b k l=>(b6.block b (by have:=y.size;have:t.drew.heap.size=t.heap.size:=rfl;omega)).trans (X b k l))) (fun K z=>?_);unfold ftV;go_simp;refine z _ _ ?_;clear z K;obtain⟨J,I,b7,n7⟩:∃J,J=B.alloc (.cells #[Ji ft.1,Ji ft.2] 31)/\Below B.heap.size B J/\J.heap[B.heap.size]?=some (.cells #[Ji ft.1,Ji ft.2] 31 (0,0)):=⟨_,rfl,(Below.refl _ B).alloc (Nat.le_refl _) _,heap_alloc_new B _⟩;rw[<- I];refine Qan (Qa Z _ ((b7.block _ (Qaa P)).trans P) (fun b k l=>(b7.block b (by have:=y.size;have:t.drew.heap.size=t.heap.size:=rfl;omega)).trans (X b k l))) (aj _ _ ?_);clear aj PP;have a9:=hide (show ∃i a,Wk n0 n1 p c wb mb i a wr/\Kw wb mb sl i w wr/\a.length+szL sz (xs.drop j)<=N/\RR=eachP step (xs.drop j) (fs.drop j) a/\EaI n0 n1 p c wb mb i wr B.heap.size ft (step x f.type a) J/\J.heap[w.heap.size]?=some (.cells #[Ji 0,Ji 0] 31 (0,0)) from ⟨i,a,d,o,hsz,r,⟨⟨ai,T,F.later b7,((Kw.of_below (A.drew)).trans y).trans (Kw.of_below b7),ac⟩,n7⟩,(b7.block _ (Qaa a8)).trans a8⟩);clear d o C hsz r A D L s2 S F y g ac P a8 X b6 I b7 n7;go_wp2_with fail;go_meet
   exact⟨_,ft,rfl,rfl,a9⟩
  go_simp;refine z _ _ ?_;clear z K;obtain⟨w4,al⟩:=JE ((t.alloc (.cells #[Ji 0,Ji 0] 31)).drew);have b4:Below t.heap.size t w4:=by rw[al];exact((Below.refl _ _).alloc (Nat.le_refl _) _).drew
  have n4:w4.heap[t.heap.size]?=some (.cells #[Ji 0,Ji 0] 31 (0,0)):=by rw[al];exact heap_alloc_new t _
  have Q:Below wr.heap.size wr w4:=A.trans (b4.mono A.size);have an:w4.heap[H]?=some (.cells #[Ji x.kind,Ji x.num,str x.txt,.slice xa xn xc,Ji x.at_] 59 (0,0)):=(b4.block _ (Qaa D)).trans D;have ay:w4.heap[w.heap.size]?=some (.cells #[Ji 0,Ji 0] 31 (0,0)):=(b4.block _ (Qaa L)).trans L;rw[<- al];rw[s2]at n4;clear al;refine Qaf rfl (Qa Z w4 an (fun b k l=>Q.block b l)) (fun K z=>?_);go_simp;refine(Qa aB w4 Q).mono ?_;rintro en B⟨ai,T,F,y,g⟩
  obtain⟨ft,ax,ac⟩:∃ft:Flt,en = .returned (ftV ft)/\match step x f.type a with | .ok v=>ft=(0,0)/\T=v | .error e=>ft=e/\ft.1≠0:=by
   cases s:step x f.type a with
   |ok v=>rw[s]at g;exact⟨(0,0),g.1,rfl,g.2⟩
   |error e=>rw[s]at g;exact⟨e,g.1,rfl,g.2⟩
  subst ax;show K _ _;refine z _ _ ?_;clear z K;have P:=y.keep an ((d.later Q).offT an (by decide) (by decide));have a8:=y.keep ay ((d.later Q).offT ay (by decide) (by decide));have am:=y.keep n4 ((d.later Q).offT n4 (by decide) (by decide));have X:∀b,b<n0->b<wr.heap.size->B.heap[b]?=wr.heap[b]?:=fun b k l=>(y.block b (by have:=Q.size;omega) (d.low k).1 (d.low k).2.1 (d.low k).2.2).trans (Q.block b l);obtain⟨J,I,sc⟩:=sc2 am (Ji ft.1) (Ji ft.2);obtain⟨aI,aJ,yf⟩:=cl2 am;refine Qaf rfl (Qa Z B P X) (fun K z=>?_);unfold ftV;go_simp;rw[<- I];refine z _ _ ?_;clear z K;have ao:H≠H+1:=by omega
  have ap:w.heap.size≠H+1:=by have:=Qaa L;omega
  refine Qan (Qa Z _ ((sc.oth _ ao).trans P) (fun b k l=>(sc.oth b (by omega)).trans (X b k l))) (aj _ _ ?_);clear aj PP;have V:=F.offT am (by decide) (by decide);have a9:=hide (show ∃i a,Wk n0 n1 p c wb mb i a wr/\Kw wb mb sl i w wr/\a.length+szL sz (xs.drop j)<=N/\RR=eachP step (xs.drop j) (fs.drop j) a/\EaI n0 n1 p c wb mb i wr (H+1) ft (step x f.type a) J/\J.heap[w.heap.size]?=some (.cells #[Ji 0,Ji 0] 31 (0,0)) from ⟨i,a,d,o,hsz,r,⟨⟨ai,T,F.sc sc (by have:=d.n1le;omega) V,((Kw.of_below Q).trans y).sc sc (by omega),ac⟩,sc.box⟩,(sc.oth _ ap).trans a8⟩);clear d o C hsz r A D L s2 S F y g ac P a8 am X b4 n4 Q an ay I sc ao ap V;go_wp2_with fail;go_meet;exact⟨_,ft,rfl,rfl,a9⟩
 obtain⟨fb,ft,rfl,rfl,HE⟩:=hcut;obtain⟨WX,aU⟩:=JE wc;subst aU;obtain⟨i,a,d,o,hsz,r,⟨⟨ai,T,F,y,g⟩,av⟩,a1⟩:=Qa HE;obtain⟨b9,ba,bf⟩:=cl2 av;obtain⟨_,_,O,M,hF,_,_⟩:=Qa HX;obtain⟨_,_,_,G,R,_⟩:=Qa H2;rw[Qmy step G R]at r;by_cases e0:ft.1=0
 ·
  have g0:(ft.1 != 0)=false:=by simp[e0]
  have s:∃v,step x f.type a = .ok v/\T=v:=by
   cases s:step x f.type a with
   |ok v=>rw[s]at g;exact⟨v,rfl,g.2⟩
   |error e=>rw[s]at g;exact absurd e0 g.2
  obtain⟨v,s,rfl⟩:=s;rw[s]at r;have b0:=hF.grow x f.type a T s;rw[Qie sz xs j x G]at hsz;have HG:=hide (show ∃i a,Wk n0 n1 p c wb mb i a WX/\Kw wb mb sl i w WX/\WX.heap[w.heap.size]?=some (.cells #[Ji 0,Ji 0] 31 (0,0))/\a.length+szL sz (xs.drop (j+1))<=N/\RR=eachP step (xs.drop (j+1)) (fs.drop (j+1)) a from ⟨ai,T,F,o.trans y,a1,by omega,r⟩);clear d o hsz r F y g av a1 O M hF G R s b0 e0;go_wp2_with fail;go_roundw
  case rel=>exact⟨j+1,by simp,by omega,HG⟩
  case measure=>simp[intOf];omega
 have g0:(ft.1 != 0)=true:=by simp[e0]
 have s:step x f.type a = .error ft:=by
  cases s:step x f.type a with
  |ok v=>rw[s]at g;exact absurd (by rw[g.1]) e0
  |error e=>rw[s]at g;rw[g.1]
 rw[s]at r;have ab:RR = .error ft:=r;obtain⟨J,I,sc⟩:=sc2 a1 (Ji ft.1) (Ji ft.2);obtain⟨aI,aJ,yf⟩:=cl2 a1;have V:=F.offT a1 (by decide) (by decide);have HG:=hide (Ya (F.sc sc aG V) (Ya ((o.trans y).sc sc (Nat.le_refl _)) (Ya sc.box (Ya ab e0))));have aq:=hide I;clear d o hsz r ab F y g av a1 O M hF G R s e0 I sc V;go_wp2_with fail;rw[<- Qa aq];obtain⟨h1,h2,h3,h4,h5⟩:=Qa HG;obtain⟨az,aA,zf⟩:=cl2 h3;refine bodyPost_ret (v:=ftV ft) (by simp[results,Tryz.results116,go_sem,az,aA,ftV]) rfl ?_;refine⟨_,_,h1,h2,?_⟩;rw[h4];exact⟨rfl,h5⟩
end
section
variable {n0 n1:Nat}{p:Pg}{c:CatP}{wb mb:Nat}{sl:Value}{vs:List Fld}{w:World}
end
section
variable {n0 n1:Nat}{p:Pg}{c:CatP}{wb mb:Nat}{sl:Value}{vs:List Fld}{w:World}
theorem Qny(h:Wk n0 n1 p c wb mb sl vs w)(x:Ex)(hk:x.kind=1)(xa:Option Addr)(xn xc:Nat)(hty:typV vs x.txt=none):
  Calls Tryz.prog 117 #[.pointer (Js wb),.agg #[Ji x.kind,Ji x.num,str x.txt,.slice xa xn xc,Ji x.at_]] w fun en w'=>en = .returned (.tuple #[Je,ftV (15,x.at_)])/\Below w.heap.size w w':=by
 obtain⟨S,A,a,b,d,f⟩:=Qat w #[Ji x.kind,Ji x.num,str x.txt,.slice xa xn xc,Ji x.at_] 59;have G:=h.later a;have i:=Qdp G x (.slice xa xn xc) ⟨_,_,_,rfl⟩;have H:openP vs x=true:=by unfold openP;rw[hk,hty];rfl
 rw[H]at i;obtain⟨l,m,n,o,q,s⟩:=cl5 b;have R:(x.kind==1)=true:=beq_iff_eq.2 hk;have M:=hide A;have F:=hide (Ya a (Ya b (Ya d f)));clear A a b d f h G H hty hk;go_enter Tryz.func117,Tryz.ntmps117;go_upto_region 1 with fail;rw[<- Qa M];go_wp2_with fail;refine i.mono ?_;clear i l m n o q s;rintro en N⟨rfl,e⟩;obtain⟨a,b,d,f⟩:=Qa F;have D:=(e.block _ (by omega)).trans b;have C:=(e.block _ (by omega)).trans d;have t:=a.trans (e.mono a.size);have B:=Qbd N 15 x.kind x.num x.txt (.slice xa xn xc) ⟨_,_,_,rfl⟩ x.at_;obtain⟨l,m,n,o,q,s⟩:=cl5 D;have L:=hide (Ya C t);clear a b d f e D C t F;go_wp2_with fail;refine B.mono ?_;clear B l m n o q s;rintro en T⟨rfl,r⟩;obtain⟨j,g⟩:=Qa L;have z:=g.size;have k:=(r.block _ (Qaa j)).trans j;have u:=g.trans (r.mono z);obtain⟨Q,y,sc⟩:=sc2 k (Ji 15) (Ji x.at_);obtain⟨O,P,U⟩:=cl2 k;have E:=hide (Ya (sc.below u (by omega)) sc.box);have I:=hide y;clear j g z k u r y sc;go_wp2_with fail;rw[<- Qa I];obtain⟨J,K,V⟩:=cl2 (Qa E).2;refine bodyPost_ret (v:=.tuple #[Je,ftV (15,x.at_)]) (by simp[results,Tryz.results117,go_sem,J,K,ftV]) rfl ?_;exact⟨rfl,(Qa E).1⟩
end
def stN(p:Pg)(x:Ex)(t:Txt)(vs:List Fld):Except Flt (List Fld):=narP p vs x t
def stF(p:Pg)(x:Ex)(t:Txt)(vs:List Fld):Except Flt (List Fld):=match typV vs x.txt with
 |some own=>if belowP p own t=true then .ok vs else .error (13,x.at_)
 |none=>.error (15,x.at_)
theorem Qso{p:Pg}{vs vs':List Fld}{x:Ex}{t:Txt}(h:narP p vs x t = .ok vs'):vs'.length<=vs.length+1:=by
 unfold narP at h;split at h
 ·cases h;simp
 split at h
 ·cases h;omega
 split at h
 ·cases h;unfold putT;simp
 ·cases h
def VAt(p:Pg)(a:Atm):Prop:=(∀e∈a.args,e.kind=1) /\ ∃d,declP2 p a.rel=some d/\a.args.length<=d.cols.length
structure VCs(p:Pg)(x:Cls):Prop where
 head:VAt p x.head
 body:∀y∈x.body,y.kind=1/\VAt p y.atom
 small:∀j vs y,x.body[j]?=some y->litsP p (x.body.take j) [] = .ok vs->vs.length+y.atom.args.length<=1000000
section
variable {n0 n1:Nat}{p:Pg}{c:CatP}{wb mb:Nat}
theorem valP_5{p:Pg}{vs:List Fld}{n a:Int}{s:Txt}{ks:List Ex}:valP p vs (.mk 5 n s ks a)=opR (oprP p vs (.mk 5 n s ks a)):=by
 rw[valP,if_neg (by decide),if_neg (by decide),if_neg (by decide),if_neg (by decide),if_pos rfl];unfold oprP opR;by_cases b:ks.length≠2∨s∉opsA
 ·
  rw[if_pos b,if_pos (show(Ex.mk 5 n s ks a).kids.length≠2∨(Ex.mk 5 n s ks a).txt∉opsA from b)];rfl
 rw[if_neg b,if_neg (show ¬((Ex.mk 5 n s ks a).kids.length≠2∨(Ex.mk 5 n s ks a).txt∉opsA) from b)]
 show _=(match opnP p vs ks with | .ok _=>Except.ok tNum | .error f=>Except.error f);cases opnP p vs ks<;>rfl
theorem valP_6{p:Pg}{vs:List Fld}{n a:Int}{s:Txt}{ks:List Ex}:valP p vs (.mk 6 n s ks a)=madeP p vs (.mk 6 n s ks a):=by
 rw[valP,if_neg (by decide),if_neg (by decide),if_neg (by decide),if_neg (by decide),if_neg (by decide),if_pos rfl];unfold madeP;have e:(Ex.mk 6 n s ks a).txt=s:=rfl;rw[e]
 cases ctorP2 p s with
 |none=>rfl
 |some o=>rfl
theorem Qcp(x:Ex):∀(sl:Value) (vs:List Fld),VlF n0 n1 p c wb mb sl vs x:=
 match x with
 | .mk k n s ks a=>fun sl vs W e g f r B=>by
  have A:∀y∈ks,VlF n0 n1 p c wb mb sl vs y:=fun y z=>Qcp y sl vs;by_cases d:k=1
  ·
   cases o:typV vs s with
   |none=>
    have:=Qny r (.mk k n s ks a) d e g f o;refine this.mono ?_;rintro i j⟨rfl,b⟩;refine⟨[],_,rfl,?_,b⟩;rw[valP,if_pos d,o];exact⟨rfl,(by show(15:Int)≠0;decide)⟩
   |some own=>
    have:=Qrk r (.mk k n s ks a) d e g f o;refine this.mono ?_;rintro i j⟨rfl,b⟩;refine⟨own,_,rfl,?_,b⟩;rw[valP,if_pos d,o];exact⟨rfl,rfl⟩
  by_cases l:k=4
  ·
   refine(Qnx W wb (.mk k n s ks a) l e g f).mono fun i j h=>?_;rw[valP,if_neg d,if_pos l];exact h
  by_cases m:k=2
  ·
   refine(Qrj W wb (.mk k n s ks a) m e g f).mono fun i j h=>?_;rw[valP,if_neg d,if_neg l,if_pos m];exact h
  by_cases q:k=3
  ·
   refine(Qnz W wb (.mk k n s ks a) q e g f).mono fun i j h=>?_;rw[valP,if_neg d,if_neg l,if_neg m,if_pos q];exact h
  by_cases u:k=5
  ·
   subst u;refine(Qtk W wb (.mk 5 n s ks a) rfl e g f (R:=oprP p vs (.mk 5 n s ks a)) (fun E b=>Qfx (r.later b) (.mk 5 n s ks a) (B.later b) A)).mono fun i j h=>?_;rw[valP_5];exact h
  by_cases v:k=6
  ·
   subst v;refine(Qri W wb (.mk 6 n s ks a) rfl e g f (R:=madeP p vs (.mk 6 n s ks a)) (fun E b=>made_of (r.later b) (.mk 6 n s ks a) (B.later b) (fun y z F G I H t D C=>Qgv D y C (A y z) t))).mono fun i j h=>?_;rw[valP_6];exact h
  refine(Qrh W wb (.mk k n s ks a) ⟨d,l,m,q,u,v⟩ e g f).mono fun i j h=>?_;rw[valP,if_neg d,if_neg l,if_neg m,if_neg q,if_neg u,if_neg v];exact h
termination_by SizeOf.sizeOf x
decreasing_by
 have:=List.sizeOf_lt_of_mem z;simp only[Ex.mk.sizeOf_spec];omega
theorem Qkk{sl:Value}{vs:List Fld}{w:World}(h:Wk n0 n1 p c wb mb sl vs w)(x:Ex){xa:Option Addr}{xn xc:Nat}(hE:ExA n0 w x xa xn xc)(t:Txt):
  Calls Tryz.prog 102 #[.pointer (Js wb),.agg #[Ji x.kind,Ji x.num,str x.txt,.slice xa xn xc,Ji x.at_],str t] w fun en w'=>OpA w (fitP p vs x t) en w':=Qgv h x hE (Qcp x sl vs) t
theorem Qkp{sl:Value}{vs:List Fld}{w:World}(h:Wk n0 n1 p c wb mb sl vs w)(x:Ex){xa:Option Addr}{xn xc:Nat}(hE:ExA n0 w x xa xn xc)(t:Txt):
  Calls Tryz.prog 114 #[.pointer (Js wb),.agg #[Ji x.kind,Ji x.num,str x.txt,.slice xa xn xc,Ji x.at_],str t] w fun en w'=>OpA w (likeP p vs x t) en w':=Qnd h x hE (Qcp x sl vs) t
end
end
end Go.Proofs.YtkhndlnadhggkaaGreat
