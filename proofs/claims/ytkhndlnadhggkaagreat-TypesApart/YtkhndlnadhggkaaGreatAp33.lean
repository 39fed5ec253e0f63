/- types. -/
import Derived.Test.YtkhndlnadhggkaaGreatAp01
import Derived.Test.YtkhndlnadhggkaaGreatAp32
import Derived.Laws.EntriesVeiled
set_option maxRecDepth 100000
set_option maxHeartbeats 32000000
namespace Go.Proofs.YtkhndlnadhggkaaGreat
section
open Go.RowKit Go.Maps
section
variable {n0 n1:Nat}{p:Pg}{c:CatP}{wb mb:Nat}{sl:Value}{vs:List Fld}{w:World}
attribute [local go_sem ↓] Qbi Qbo
theorem Qsl(h:Wk n0 n1 p c wb mb sl vs w)(y:Lt)(hk:y.kind=1){pa xa ya:Option Addr}{pn pc xn xc yn yc:Nat}{R:Except Flt (List Fld)}
  (hC:∀W:World,Below w.heap.size w W->Calls Tryz.prog 101 #[.pointer (Js wb),.agg #[str y.atom.rel,.slice pa pn pc,Ji y.atom.at_],.func (.func 113) #[.pointer (Js wb)] #[]] W fun en w'=>LkA n0 n1 p c wb mb sl W R en w'):
  Calls Tryz.prog 100 #[.pointer (Js wb),.agg #[Ji y.kind,str y.atom.rel,.slice pa pn pc,Ji y.atom.at_,str y.op,Ji y.l.kind,Ji y.l.num,str y.l.txt,.slice xa xn xc,Ji y.l.at_,Ji y.r.kind,Ji y.r.num,str y.r.txt,.slice ya yn yc,Ji y.r.at_,Ji y.at_]] w fun en w'=>LkA n0 n1 p c wb mb sl w R en w':=by
 obtain⟨Y,n,a,s,b,e⟩:=Qat w #[Ji y.kind,str y.atom.rel,.slice pa pn pc,Ji y.atom.at_,str y.op,Ji y.l.kind,Ji y.l.num,str y.l.txt,.slice xa xn xc,Ji y.l.at_,Ji y.r.kind,Ji y.r.num,str y.r.txt,.slice ya yn yc,Ji y.r.at_,Ji y.at_] 61;have k:=hC Y a;obtain⟨D,E,F,G,H,I,J,K,L,M,t,u,x,z,A,B,X⟩:=cl16 s;have g1:(y.kind==1)=true:=by rw[hk];rfl
 have Z:=h.n1le;have Q:=hide n;have o:=hide (Ya a (Ya b (Ya e (h.later a))));clear n a s b e h hk hC H I J K L M t u x z A B;go_enter Tryz.func100,Tryz.ntmps100;go_upto_region 1 with fail;rw[<- Qa Q];go_wp2_with fail;refine k.mono ?_;clear k D E F G X;rintro en w3 m;obtain⟨a0,a1,ft,rfl,f,g,i⟩:=m.ft;clear m;obtain⟨a,b,e,q⟩:=Qa o;have d:=g.keep b (q.offT b (by decide) (by decide));obtain⟨W7,j,sc⟩:=sc2 d (Ji ft.1) (Ji ft.2);obtain⟨a2,a3,yf⟩:=cl2 d;have P:=hide (Ya (f.sc sc (by omega) (f.offT d (by decide) (by decide))) (Ya (((Kw.of_below a).trans g).sc sc (by omega)) (Ya sc.box i)));have C:=hide j;clear a b e q f g i d j sc o;unfold ftV;go_wp2_with fail;rw[<- Qa C];obtain⟨S,T,U,V⟩:=Qa P;obtain⟨N,O,zf⟩:=cl2 U;refine bodyPost_ret (v:=ftV ft) (by simp[results,Tryz.results100,go_sem,N,O,ftV]) rfl ?_;exact LkA.of S T V
theorem lit_not(h:Wk n0 n1 p c wb mb sl vs w)(y:Lt)(hk:y.kind=2){pa xa ya:Option Addr}{pn pc xn xc yn yc:Nat}{R:Except Flt (List Fld)}
  (hC:∀W:World,Below w.heap.size w W->Calls Tryz.prog 101 #[.pointer (Js wb),.agg #[str y.atom.rel,.slice pa pn pc,Ji y.atom.at_],.func (.func 114) #[.pointer (Js wb)] #[]] W fun en w'=>LkA n0 n1 p c wb mb sl W R en w'):
  Calls Tryz.prog 100 #[.pointer (Js wb),.agg #[Ji y.kind,str y.atom.rel,.slice pa pn pc,Ji y.atom.at_,str y.op,Ji y.l.kind,Ji y.l.num,str y.l.txt,.slice xa xn xc,Ji y.l.at_,Ji y.r.kind,Ji y.r.num,str y.r.txt,.slice ya yn yc,Ji y.r.at_,Ji y.at_]] w fun en w'=>LkA n0 n1 p c wb mb sl w R en w':=by
 obtain⟨Y,n,a,s,b,e⟩:=Qat w #[Ji y.kind,str y.atom.rel,.slice pa pn pc,Ji y.atom.at_,str y.op,Ji y.l.kind,Ji y.l.num,str y.l.txt,.slice xa xn xc,Ji y.l.at_,Ji y.r.kind,Ji y.r.num,str y.r.txt,.slice ya yn yc,Ji y.r.at_,Ji y.at_] 61;have k:=hC Y a;obtain⟨D,E,F,G,H,I,J,K,L,M,t,u,x,z,A,B,X⟩:=cl16 s;have g1:(y.kind==1)=false:=by rw[hk];rfl
 have g2:(y.kind==2)=true:=by rw[hk];rfl
 have Z:=h.n1le;have Q:=hide n;have o:=hide (Ya a (Ya b (Ya e (h.later a))));clear n a s b e h hk hC H I J K L M t u x z A B;go_enter Tryz.func100,Tryz.ntmps100;go_upto_region 1 with fail;rw[<- Qa Q];go_wp2_with fail;refine k.mono ?_;clear k D E F G X;rintro en w3 m;obtain⟨a0,a1,ft,rfl,f,g,i⟩:=m.ft;clear m;obtain⟨a,b,e,q⟩:=Qa o;have d:=g.keep b (q.offT b (by decide) (by decide));obtain⟨W7,j,sc⟩:=sc2 d (Ji ft.1) (Ji ft.2);obtain⟨a2,a3,yf⟩:=cl2 d;have P:=hide (Ya (f.sc sc (by omega) (f.offT d (by decide) (by decide))) (Ya (((Kw.of_below a).trans g).sc sc (by omega)) (Ya sc.box i)));have C:=hide j;clear a b e q f g i d j sc o;unfold ftV;go_wp2_with fail;rw[<- Qa C];obtain⟨S,T,U,V⟩:=Qa P;obtain⟨N,O,zf⟩:=cl2 U;refine bodyPost_ret (v:=ftV ft) (by simp[results,Tryz.results100,go_sem,N,O,ftV]) rfl ?_;exact LkA.of S T V
end
theorem Qde(p:Pg):∀(ls ms:List Lt) (vs:List Fld),litsP p (ls++ms) vs=match litsP p ls vs with | .error e=>.error e | .ok vs'=>litsP p ms vs'
 | [],ms,vs=>rfl
 |l :: ls,ms,vs=>by
  rw[List.cons_append,litsP,litsP]
  cases litP2 p l vs with
  |error e=>rfl
  |ok v=>simp only;exact Qde p ls ms v
theorem Qnf(p:Pg){ls:List Lt}{j:Nat}{y:Lt}(h:ls[j]?=some y){vs v':List Fld}{vs0:List Fld}(h1:litsP p (ls.take j) vs0 = .ok vs)(h2:litP2 p y vs = .ok v'):litsP p (ls.take (j+1)) vs0 = .ok v':=by
 rw[List.take_add_one,h,Qde,h1];simp[litsP,h2]
theorem Qpn(p:Pg){ls:List Lt}{j:Nat}{y:Lt}(h:ls[j]?=some y){vs:List Fld}{e:Flt}{vs0:List Fld}(h1:litsP p (ls.take j) vs0 = .ok vs)(h2:litP2 p y vs = .error e):litsP p ls vs0 = .error e:=by
 have a:=(List.getElem?_eq_some_iff.1 h).1;rw[<- List.take_append_drop j ls,Qde,h1,List.drop_eq_getElem_cons a,(List.getElem?_eq_some_iff.1 h).2];simp[litsP,h2]
section
variable {n0 n1:Nat}{p:Pg}{c:CatP}{wb mb:Nat}{sl:Value}{w:World}
attribute [local go_sem ↓] Qbi Qbo
theorem Qop(h:Wk n0 n1 p c wb mb sl [] w)(x:Cls){aa ba:Option Addr}{an ac bn bc:Nat}(hA:LsAt PE 5 (fun b=>b<n0) w (.slice aa an ac) x.head.args)(hB:LsAt PLt 16 (fun b=>b<n0) w (.slice ba bn bc) x.body)
  (hlit:∀(j:Nat) (y:Lt) (vs:List Fld),x.body[j]?=some y->litsP p (x.body.take j) [] = .ok vs->(watP p x.head).1=0/\(watsP p x.body).1=0 -> ∀(W:World) (sl':Value) (pa xa ya:Option Addr) (pn pc xn xc yn yc:Nat),Wk n0 n1 p c wb mb sl' vs W->LsAt PE 5 (fun b=>b<n0) W (.slice pa pn pc) y.atom.args->ExS (fun b=>b<n0) W [Ji y.l.kind,Ji y.l.num,str y.l.txt,.slice xa xn xc,Ji y.l.at_] y.l->ExS (fun b=>b<n0) W [Ji y.r.kind,Ji y.r.num,str y.r.txt,.slice ya yn yc,Ji y.r.at_] y.r->Calls Tryz.prog 100 #[.pointer (Js wb),.agg #[Ji y.kind,str y.atom.rel,.slice pa pn pc,Ji y.atom.at_,str y.op,Ji y.l.kind,Ji y.l.num,str y.l.txt,.slice xa xn xc,Ji y.l.at_,Ji y.r.kind,Ji y.r.num,str y.r.txt,.slice ya yn yc,Ji y.r.at_,Ji y.at_]] W fun en w'=>LkA n0 n1 p c wb mb sl' W (litP2 p y vs) en w')
  (hhead:∀(vs:List Fld),litsP p x.body [] = .ok vs->(watP p x.head).1=0/\(watsP p x.body).1=0 -> ∀(W:World) (sl':Value),Wk n0 n1 p c wb mb sl' vs W->LsAt PE 5 (fun b=>b<n0) W (.slice aa an ac) x.head.args->Calls Tryz.prog 101 #[.pointer (Js wb),.agg #[str x.head.rel,.slice aa an ac,Ji x.head.at_],.func (.func 102) #[.pointer (Js wb)] #[]] W fun en w'=>LkA n0 n1 p c wb mb sl' W (match fitsP p vs x.head.args (colsP p x.head) with | .error e=>.error e | .ok _=>.ok vs) en w'):
  Calls Tryz.prog 80 #[.pointer (Js wb),.agg #[str x.head.rel,.slice aa an ac,Ji x.head.at_,.slice ba bn bc,Ji x.at_]] w fun en w'=>LkA n0 n1 p c wb mb sl w (infP p x) en w':=by
 obtain⟨w2,aE,o,O,S,s2⟩:=Qat w #[str x.head.rel,.slice aa an ac,Ji x.head.at_,.slice ba bn bc,Ji x.at_] 45;have s:=Qgs (h.later o) x (hA.same Qag o.size (fun q _ a=>o.block q a)) (hB.same Qb o.size (fun q _ a=>o.block q a));obtain⟨a1,a2,a3,a4,a5,xf⟩:=cl5 O;obtain⟨R,N⟩:=JF (infP p x);rw[N];obtain⟨B,g⟩:=JF ((if (watP p x.head).1≠0 then watP p x.head else watsP p x.body));rw[g]at s;unfold ftV at s;have A:x.body.length=bn:=by obtain⟨_,_,e⟩:=hB.sl;cases e;rfl
 have aS:=hB.cap rfl;have aU:=h.n1le;have HW:=hide aE;have HH:=hide (Ya o (Ya O (Ya S (Ya s2 (Ya h (Ya N (Ya hA (Ya hB (Ya A g)))))))));have HF:=hide (Ya hlit hhead);clear aE o O S s2 h hA hB N g A hlit hhead;go_enter Tryz.func80,Tryz.ntmps80;go_upto_region 1 with fail;rw[<- Qa HW];go_wp2_with fail;refine s.mono ?_;clear s a1 a2 a3 a4 a5 xf;rintro en w3⟨rfl,b3⟩;obtain⟨o,O,S,s2,h,N,hA,hB,A,g⟩:=Qa HH;obtain⟨w4,Y⟩:=JE (w3.alloc (.cells #[Ji B.1,Ji B.2] 31));have b4:=bnw Y;have n4:=nnw Y;have U:=b3.trans (b4.mono b3.size);have H:=(U.block _ (by omega)).trans O;have t:=(U.block _ (by omega)).trans S;have i:=o.trans (U.mono o.size);obtain⟨a1,a2,a3,a4,a5,xf⟩:=cl5 H;obtain⟨aH,aI,kf⟩:=cl2 n4;have k:=h.later i;have au:=hide Y;by_cases I:B.1=0
 rotate_left
 ·
  have g0:(B.1 != 0)=true:=by simp[I]
  obtain⟨ft,aO⟩:=JF B;subst aO;have V:FtR R B []:=by
   rw[<- N];unfold infP;by_cases e:(watP p x.head).1=0
   ·
    rw[if_neg (by simp[e])]at g ⊢;rw[g,if_pos I];exact⟨rfl,I⟩
   rw[if_pos e]at g ⊢;rw[g];exact⟨rfl,I⟩
  have aF:=Kw.of_below (wb:=wb) (mb:=mb) (sl:=sl) i;obtain⟨W7,J,sc⟩:=sc2 t (Ji B.1) (Ji B.2);obtain⟨aJ,aK,yf⟩:=cl2 t;have HE:=hide (Ya (Wk.sc k sc (by omega) (Wk.offT k t (by decide) (by decide))) (Ya (Kw.sc aF sc (by omega)) (Ya sc.box V)));have T:=hide J;clear o O S s2 h N hA hB A b3 Y b4 n4 U H t i I HH g V aF k J sc;go_upto_region 2 with fail;rw[<- Qa au];go_wp2_with fail;rw[<- Qa T];obtain⟨d,e2,e3,e4⟩:=Qa HE;obtain⟨a6,a7,zf⟩:=cl2 e3;refine bodyPost_ret (v:=ftV B) (by simp[results,Tryz.results80,go_sem,a6,a7,ftV]) rfl ?_;exact LkA.of d e2 e4
 have g0:(B.1 != 0)=false:=by simp[I]
 have a8:(watP p x.head).1=0/\(watsP p x.body).1=0:=by
  by_cases e:(watP p x.head).1=0
  ·rw[if_neg (by simp[e])]at g;rw[g];exact⟨e,I⟩
  ·rw[if_pos e]at g;rw[g]at e;exact absurd I e
 have m:R=match litsP p x.body [] with | .error e=>.error e | .ok vs=>match fitsP p vs x.head.args (colsP p x.head) with | .error e=>.error e | .ok _=>.ok vs:=by
  rw[<- N];unfold infP;rw[if_neg (by simp[a8.1]),if_neg (by simp[a8.2])];rfl
 have H4:=hide (Ya i (Ya H (Ya t (Ya k (Ya (hA.same Qag i.size (fun q _ a=>i.block q a)) (Ya (hB.same Qb i.size (fun q _ a=>i.block q a)) (Ya A (Ya m h))))))));have ar:=hide a8;clear o O S s2 h N hA hB A b3 Y b4 n4 U H t i I HH g a8 m k;go_upto_region 2 with fail;rw[<- Qa au];go_wp2_with fail;clear a1 a2 a3 a4 a5 xf aH aI kf;go_loopw [19] (fun v wr=>∃(j:Nat),v = Ji (j:Int)/\j<=bn/\Hid (∃sl' vs,Wk n0 n1 p c wb mb sl' vs wr/\Kw wb mb sl sl' w4 wr/\litsP p (x.body.take j) [] = .ok vs)) (fun v _=>bn - (intOf v).toNat)
 case atStart=>exact⟨0,rfl,Nat.zero_le _,hide ⟨sl,[],(Qa H4).2.2.2.1,Kw.of_below (Below.refl _ _),rfl⟩⟩
 obtain⟨j,rfl,hj,HI⟩:=hrel;obtain⟨sl',vs,K,C,n⟩:=Qa HI;obtain⟨i,H,t,k,ae,ag,A,m,h⟩:=Qa H4;have low:∀b,b<n0->b<w4.heap.size->wr.heap[b]?=w4.heap[b]?:=fun b hb a=>C.block b a (k.low hb).1 (k.low hb).2.1 (k.low hb).2.2;have ap:=C.keep H (k.offT H (by decide) (by decide));have G:=C.keep t (k.offT t (by decide) (by decide));have af:=ae.same Qag C.size (fun q f a=>low q f a);have ah:=ag.same Qb C.size (fun q f a=>low q f a);have L:=(Kw.of_below (wb:=wb) (mb:=mb) (sl:=sl) i).trans C;have D:=L.size;by_cases aT:j<bn
 rotate_left
 ·
  have aD:j=bn:=by omega
  rw[aD,<- A,List.take_length]at n;rw[n]at m;have s:=(Qa HF).2 vs n (Qa ar) wr sl' K af;obtain⟨a1,a2,a3,a4,a5,xf⟩:=cl5 ap
  have aA:R=(match fitsP p vs x.head.args (colsP p x.head) with | .error e=>.error e | .ok _=>.ok vs):=m;rw[<- aA]at s;have HK:=hide (Ya K (Ya G (Ya L D)));clear K C n i H t k ae ag A m aA h low ap G af ah L D aD;go_wp2_with fail;refine s.mono ?_;clear s a1 a2 a3 a4 a5 xf;rintro en w9 X;obtain⟨aV,aW,ft,rfl,h9,k9,aB⟩:=X.ft;clear X;obtain⟨K,G,L,D⟩:=Qa HK;have ab:=k9.keep G (K.offT G (by decide) (by decide));have aG:=L.trans k9;unfold ftV;obtain⟨W7,J,sc⟩:=sc2 ab (Ji ft.1) (Ji ft.2);obtain⟨aJ,aK,yf⟩:=cl2 ab;have HE:=hide (Ya (Wk.sc h9 sc (by omega) (Wk.offT h9 ab (by decide) (by decide))) (Ya (Kw.sc aG sc (by omega)) (Ya sc.box aB)));have T:=hide J;clear h9 k9 aB K G L D ab aG J sc;go_wp2_with fail;rw[<- Qa T];obtain⟨d,e2,e3,e4⟩:=Qa HE;obtain⟨a6,a7,zf⟩:=cl2 e3;refine bodyPost_ret (v:=ftV ft) (by simp[results,Tryz.results80,go_sem,a6,a7,ftV]) rfl ?_;exact LkA.of d e2 e4
 obtain⟨y,E⟩:∃y,x.body[j]?=some y:=⟨x.body[j]'(by omega),List.getElem?_eq_getElem _⟩;obtain⟨gb,cap,cs,d,aQ,aP,ai,ax,aC⟩:=ah.elem E;simp only[Value.slice.injEq]at d;obtain⟨rfl,-,rfl⟩:=d;have ad:=Qg ax;obtain⟨pa,pn,pc,xa,xn,xc,ya,yn,yc,rfl,aw,ay,az⟩:=ax;have L1:=Qud rfl aC;have N1:=Qpy wr rfl ad;obtain⟨w5,a9⟩:=JE (wr.alloc (.cells #[Ji y.kind,str y.atom.rel,.slice pa pn pc,Ji y.atom.at_,str y.op,Ji y.l.kind,Ji y.l.num,str y.l.txt,.slice xa xn xc,Ji y.l.at_,Ji y.r.kind,Ji y.r.num,str y.r.txt,.slice ya yn yc,Ji y.r.at_,Ji y.at_] 61));have u:=bnw a9;have n5:=nnw a9;have aN:(ltStore (.pointer (Js wr.heap.size)) (.agg #[Ji y.kind,str y.atom.rel,.slice pa pn pc,Ji y.atom.at_,str y.op,Ji y.l.kind,Ji y.l.num,str y.l.txt,.slice xa xn xc,Ji y.l.at_,Ji y.r.kind,Ji y.r.num,str y.r.txt,.slice ya yn yc,Ji y.r.at_,Ji y.at_])).run Tryz.prog (wr.alloc (.cells #[Ji 0,Je,Jn,Ji 0,Je,Ji 0,Ji 0,Je,Jn,Ji 0,Ji 0,Ji 0,Je,Jn,Ji 0,Ji 0] 61)) = .ok () w5:=by rw[a9];exact N1
 have aM:(ltLoad (.pointer (some (Ja gb (j*16))))).run Tryz.prog wr = .ok (.agg #[Ji y.kind,str y.atom.rel,.slice pa pn pc,Ji y.atom.at_,str y.op,Ji y.l.kind,Ji y.l.num,str y.l.txt,.slice xa xn xc,Ji y.l.at_,Ji y.r.kind,Ji y.r.num,str y.r.txt,.slice ya yn yc,Ji y.r.at_,Ji y.at_]) wr:=L1;have L5:(ltLoad (.pointer (Js wr.heap.size))).run Tryz.prog w5 = .ok (.agg #[Ji y.kind,str y.atom.rel,.slice pa pn pc,Ji y.atom.at_,str y.op,Ji y.l.kind,Ji y.l.num,str y.l.txt,.slice xa xn xc,Ji y.l.at_,Ji y.r.kind,Ji y.r.num,str y.r.txt,.slice ya yn yc,Ji y.r.at_,Ji y.at_]) w5:=Qks n5;have M:=K.later u;have s:=(Qa HF).1 j y vs E n (Qa ar) w5 sl' pa xa ya pn pc xn xc yn yc M (aw.same Qag u.size (fun q _ a=>u.block q a)) (Qag.same _ _ _ _ _ ay u.size (fun q _ a=>u.block q a)) (Qag.same _ _ _ _ _ az u.size (fun q _ a=>u.block q a));have F:=(u.block _ (Qaa G)).trans G;obtain⟨lb,aj⟩:=JF wr.heap.size;rw[aj]at L5;have aL:=hide aj;have HK:=hide (Ya M (Ya F (Ya (L.trans (Kw.of_below u)) (Ya (C.trans (Kw.of_below u)) (Ya E (Ya n (Ya m D)))))));clear K C n i H t k ae ag A m h low ap G af ah L D E aQ aP ai aC ad aw ay az L1 N1 a9 u n5 M F aj;go_upto_region 7 with fail;rw[Qa aL];go_wp2_with fail;refine s.mono ?_;clear s aM aN L5;rintro en w6 X;obtain⟨aR,aq,ft,rfl,h6,Q,z⟩:=X.ft;clear X;obtain⟨M,F,ak,am,E,n,m,D⟩:=Qa HK;obtain⟨w7,Z⟩:=JE (w6.alloc (.cells #[Ji ft.1,Ji ft.2] 31));have P:=bnw Z;have n7:=nnw Z;have a0:=(P.block _ (Qaa (Q.keep F (M.offT F (by decide) (by decide))))).trans (Q.keep F (M.offT F (by decide) (by decide)));have h7:=h6.later P;have al:=(ak.trans Q).trans (Kw.of_below P);have ao:=(am.trans Q).trans (Kw.of_below P);obtain⟨aH,aI,kf⟩:=cl2 n7;have av:=hide Z;unfold ftV;by_cases d:ft.1=0
 ·
  have g4:(ft.1 != 0)=false:=by simp[d]
  have f:litP2 p y vs = .ok aq:=by
   cases f:litP2 p y vs with
   |ok v=>rw[f]at z;rw[z.2]
   |error e=>rw[f]at z;exact absurd d z.2
  have HG:=hide (show ∃sl' vs,Wk n0 n1 p c wb mb sl' vs w7/\Kw wb mb sl sl' w4 w7/\litsP p (x.body.take (j+1)) [] = .ok vs from ⟨aR,aq,h7,ao,Qnf p E n f⟩);clear h6 Q z M F ak am E n m D Z P n7 a0 h7 al ao d f;go_upto_region 8 with fail;rw[<- Qa av];go_wp2_with fail;go_roundw
  case rel=>exact⟨j+1,by simp,by omega,HG⟩
  case measure=>simp[intOf];omega
 have g4:(ft.1 != 0)=true:=by simp[d]
 have f:litP2 p y vs = .error ft:=by
  cases f:litP2 p y vs with
  |ok v=>rw[f]at z;exact absurd (by rw[z.1]) d
  |error e=>rw[f]at z;rw[z.1]
 have V:FtR R ft aq:=by rw[m,Qpn p E n f];exact⟨rfl,d⟩
 obtain⟨W7,J,sc⟩:=sc2 a0 (Ji ft.1) (Ji ft.2);obtain⟨aJ,aK,yf⟩:=cl2 a0;have HE:=hide (Ya (Wk.sc h7 sc (by omega) (Wk.offT h7 a0 (by decide) (by decide))) (Ya (Kw.sc al sc (by omega)) (Ya sc.box V)));have T:=hide J;clear h6 Q z M F ak am E n m D Z P n7 a0 h7 al ao d f V J sc;go_upto_region 8 with fail;rw[<- Qa av];go_wp2_with fail;rw[<- Qa T];obtain⟨d,e2,e3,e4⟩:=Qa HE;obtain⟨a6,a7,zf⟩:=cl2 e3;refine bodyPost_ret (v:=ftV ft) (by simp[results,Tryz.results80,go_sem,a6,a7,ftV]) rfl ?_;exact LkA.of d e2 e4
end
def InfA(R:Except Flt (List Fld))(w:World)(en:Ending)(w':World):Prop:=Below w.heap.size w w'/\match R with
 | .ok vs=>∃sl,en = .returned (.tuple #[sl,ftV (0,0)])/\w'.ownsRow w.heap.size 67 2 sl vs.length (fdCells vs)
 | .error f=>en = .returned (.tuple #[.slice none 0 0,ftV f])/\f.1≠0
section
variable {n0:Nat}{p:Pg}{c:CatP}{w:World}
theorem Qsi(h:Cs n0 p c w)(x:Cls){aa ba:Option Addr}{an ac bn bc:Nat}(hA:LsAt PE 5 (fun b=>b<n0) w (.slice aa an ac) x.head.args)(hB:LsAt PLt 16 (fun b=>b<n0) w (.slice ba bn bc) x.body)
  (hcl:∀(n1 wb mb:Nat) (W:World),Wk n0 n1 p c wb mb (Jn) [] W->LsAt PE 5 (fun b=>b<n0) W (.slice aa an ac) x.head.args->LsAt PLt 16 (fun b=>b<n0) W (.slice ba bn bc) x.body->Calls Tryz.prog 80 #[.pointer (Js wb),.agg #[str x.head.rel,.slice aa an ac,Ji x.head.at_,.slice ba bn bc,Ji x.at_]] W fun en w'=>LkA n0 n1 p c wb mb (Jn) W (infP p x) en w'):
  Calls Tryz.prog 42 #[.pointer (Js c.cb),.agg #[str x.head.rel,.slice aa an ac,Ji x.head.at_,.slice ba bn bc,Ji x.at_]] w fun en w'=>InfA (infP p x) w en w':=by
 obtain⟨U,a1,L,nx,nf,E⟩:=Qat w #[str x.head.rel,.slice aa an ac,Ji x.head.at_,.slice ba bn bc,Ji x.at_] 45;obtain⟨F,l⟩:=JE (U.alloc (.map #[] 0));obtain⟨V,o⟩:=JE (F.alloc (.cells #[.func (.func 47) #[.pointer (Js c.cb)] #[],.func (.func 48) #[.pointer (Js c.cb)] #[],.func (.func 78) #[.pointer (Js c.cb)] #[],.func (.func 79) #[.pointer (Js c.cb)] #[],Jn,.map (some (w.heap.size+2))] 143));have M:=bnw l;have N:=bnw o;have T:F.heap.size=w.heap.size+3:=by rw[l];simp;omega
 have m3:MpS F (w.heap.size+2) []:=by rw[l,<- E];exact MpS.new U
 have Q:=nnw o;rw[T]at Q;have C:=M.trans (N.mono M.size);have a:=L.trans (C.mono L.size);have A:V.heap.size=w.heap.size+4:=by rw[o];simp;omega
 have a4:=h.l0;have a6:=Qaa h.box;have lt2:=h.row.lt;have a7:=h.mt.lt;have a8:=h.md.lt;have a9:=h.mc.lt;have j:Wk n0 w.heap.size p c (w.heap.size+3) (w.heap.size+2) (Jn) [] V:=
  ⟨Ct.later h a,Q,World.ownsRow_nil _ _ _ _,⟨[],m3.keep (N.block _ (by omega)),fun t=>rfl⟩,by omega,by simp⟩
 have H:=hcl w.heap.size (w.heap.size+3) (w.heap.size+2) V j (hA.same Qag a.size (fun q _ P=>a.block q P)) (hB.same Qb a.size (fun q _ P=>a.block q P));have a2:=(C.block _ (by omega)).trans nx;have f:=(C.block _ (by omega)).trans nf;obtain⟨aj,ak,al,am,ao,xf⟩:=cl5 a2;obtain⟨R,hR⟩:=JF (infP p x);rw[hR]at H ⊢;have a5:(Instr.makeMap 125 none).run Tryz.prog U = .ok (.map (some (w.heap.size+2))) F:=by
  rw[l,<- E];rfl
 have a3:=hide a1;have ar:=hide (Ya l E);have X:=hide (Ya o T);have K:=hide (Ya a (Ya f (Ya j A)));clear a1 L nx nf E l o M N T m3 Q C a A a4 a6 lt2 a7 a8 a9 j a2 f h hA hB hcl hR;go_enter Tryz.func42,Tryz.ntmps42;go_upto_region 1 with fail;rw[<- Qa a3];go_upto_region 2 with fail;rw[(Qa X).2,<- (Qa X).1];go_wp2_with fail;refine H.mono ?_;clear H aj ak al am ao xf a5;rintro en w5 Z;obtain⟨ah,ai,ft,rfl,O,y,k⟩:=Z.ft;clear Z;obtain⟨a,f,j,A⟩:=Qa K;obtain⟨w6,r⟩:=JE (w5.alloc (.cells #[Ji ft.1,Ji ft.2] 31));have s:=bnw r;have S:=nnw r;have u:=O.later s;have D:=y.keep f (j.offT f (by decide) (by decide));have g:=(s.block _ (Qaa D)).trans D;have a0:=y.size;have B:Below w.heap.size w w6:=by
  have z:=y.trans (Kw.of_below s);refine a.trans ⟨z.os,z.tape,z.output,z.size,fun q m=>z.block q (by omega) (by omega) (by omega) (by simp[Value.ownBlock])⟩
 obtain⟨au,av,kf⟩:=cl2 S;have Y:=hide r;unfold ftV;by_cases i:ft.1=0
 ·
  have g4:(ft.1 != 0)=false:=by simp[i]
  have m:R = .ok ai:=by
   cases R with
   |ok v=>rw[k.2]
   |error e=>exact absurd i k.2
  obtain⟨W7,n,sc⟩:=sc2 g (Ji 0) (Ji 0);obtain⟨ap,aq,yf⟩:=cl2 g;obtain⟨ab,ad,ae,af,aw,ag,qf⟩:=cl6 u.box;have h7:=u.sc sc (by omega) (u.offT g (by decide) (by decide));have d:=hide (Ya (sc.below B (by omega)) (Ya sc.box (Ya h7.row m)));have G:=hide n;clear a f j A r s S O y k u D g a0 B i m n sc h7 ab ad ae af ag K;go_upto_region 3 with fail;rw[<- Qa Y];go_wp2_with fail;rw[<- Qa G];obtain⟨I,J,zf⟩:=cl2 (Qa d).2.1;refine bodyPost_ret (v:=.tuple #[ah,ftV (0,0)]) (by simp[results,Tryz.results42,go_sem,I,J,ftV]) rfl ?_;refine⟨(Qa d).1,?_⟩;rw[(Qa d).2.2.2];exact⟨_,rfl,(Qa d).2.2.1⟩
 have g4:(ft.1 != 0)=true:=by simp[i]
 have m:R = .error ft:=by
  cases R with
  |ok v=>exact absurd (by rw[k.1]) i
  |error e=>rw[k.1]
 obtain⟨W7,n,sc⟩:=sc2 g (Ji ft.1) (Ji ft.2);obtain⟨ap,aq,yf⟩:=cl2 g;have d:=hide (Ya (sc.below B (by omega)) (Ya sc.box (Ya m i)));have G:=hide n;clear a f j A r s S O y k u D g a0 B i m n sc K;go_upto_region 3 with fail;rw[<- Qa Y];go_wp2_with fail
 go_region
 rw[<- Qa G];go_wp2_with fail;obtain⟨I,J,zf⟩:=cl2 (Qa d).2.1;refine bodyPost_ret (v:=.tuple #[Jn,ftV ft]) (by simp[results,Tryz.results42,go_sem,I,J,ftV]) rfl ?_;refine⟨(Qa d).1.drew,?_⟩;rw[(Qa d).2.2.1];exact⟨rfl,(Qa d).2.2.2⟩
end
end
end Go.Proofs.YtkhndlnadhggkaaGreat
