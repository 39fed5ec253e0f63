/- types. -/
import Derived.Test.YtkhndlnadhggkaaGreatAp01
import Derived.Test.YtkhndlnadhggkaaGreatAp31
import Derived.Test.YtkhndlnadhggkaaGreatAp38
set_option maxRecDepth 100000
set_option maxHeartbeats 32000000
namespace Go.Proofs.YtkhndlnadhggkaaGreat
section
open Go.RowKit Go.Maps
section
variable {w:World}{g cap:Nat}{xs:List Txt}
theorem Qpf(h1:xs.length<=cap)(h2:cap<=9223372036854775807)(hat:∀i s,xs[i]?=some s->w.cell? (Ja g i)=some (str s))(t:Txt):
  Calls Tryz.prog 134 #[.slice (Js g) xs.length cap,str t] w fun en w'=>w'=w/\((∃i:Nat,en = .returned (Ji (i:Int))/\xs.any (· == t)=true)∨(en = .returned (Ji (-1))/\xs.any (· == t)=false)):=by
 obtain⟨n,a⟩:=JF xs.length;rw[a]at h1 ⊢;have j:=hide (Ya hat a);clear hat a;go_enter Tryz.func134,Tryz.ntmps134;go_wp2_with fail;go_loopw [8] (fun v wr=>∃i:Nat,v = Ji (i:Int)/\i<=n/\wr=w/\Hid ((xs.take i).any (· == t)=false)) (fun v _=>n - (intOf v).toNat)
 case atStart=>exact⟨0,rfl,Nat.zero_le _,rfl,hide rfl⟩
 obtain⟨i,rfl,x,rfl,k⟩:=hrel;by_cases r:i<n
 ·
  obtain⟨hat,a⟩:=Qa j;obtain⟨s,b⟩:∃s,xs[i]?=some s:=⟨xs[i]'(by omega),List.getElem?_eq_getElem _⟩;have y:=hat i s b;have f:=Qez b (Qa k);by_cases d:s=t
  ·
   have q:=hide (show xs.any (· == t)=true from List.any_eq_true.2 ⟨s,List.mem_of_getElem? b,by simpa using d⟩);subst d;clear hat a b f;go_wp2_with fail;go_ret;exact⟨rfl,.inl ⟨i,rfl,Qa q⟩⟩
  have m:(s==t)=false:=by simpa using d
  have u:(t==s)=false:=by simpa using fun e=>d e.symm
  have o:=hide (f.trans m);clear hat a b f d;go_wp2_with fail;go_roundw
  case rel=>exact⟨i+1,by congr 1,by omega,trivial,o⟩
  case measure=>simp[intOf];omega
 have l:i=n:=by omega
 subst l;go_wp2_with fail;go_ret;have h:=Qa k;rw[<- (Qa j).2,List.take_length]at h;exact⟨rfl,.inr ⟨rfl,h⟩⟩
theorem Qlm(h1:xs.length<=cap)(h2:cap<=9223372036854775807)(hat:∀i s,xs[i]?=some s->w.cell? (Ja g i)=some (str s))(t:Txt):
  Calls Tryz.prog 127 #[.slice (Js g) xs.length cap,str t] w fun en w'=>en = .returned (.bool (xs.any (· == t)))/\w'=w:=by
 have d:=Qpf h1 h2 hat t;obtain⟨n,e⟩:=JF xs.length;rw[e]at d ⊢;clear h1 h2 hat e;go_enter Tryz.func127,Tryz.ntmps127;go_wp2_with fail;refine d.mono ?_;clear d;rintro en w'⟨rfl,⟨i,rfl,a⟩|⟨rfl,a⟩⟩
 ·
  have b:=hide a;clear a;have f:(0:Int)<=(i:Int):=by omega
  go_wp2_with fail;go_ret;exact⟨by rw[Qa b];rfl,rfl⟩
 have b:=hide a;clear a;go_wp2_with fail;go_ret;exact⟨by rw[Qa b];rfl,rfl⟩
end
def ExA(n0:Nat)(W:World)(x:Ex)(xa:Option Addr)(xn xc:Nat):Prop:=ExS (fun b=>b<n0) W [.int .i64 x.kind,.int .i64 x.num,str x.txt,.slice xa xn xc,.int .i64 x.at_] x
theorem ExA.later{n0:Nat}{W W':World}{x:Ex}{xa:Option Addr}{xn xc:Nat}(h:ExA n0 W x xa xn xc)(b:Below W.heap.size W W'):ExA n0 W' x xa xn xc:=Qag.same _ _ _ _ _ h b.size (fun q _ a=>b.block q a)
theorem ExA.kids{n0:Nat}{W:World}{x:Ex}{xa:Option Addr}{xn xc:Nat}(h:ExA n0 W x xa xn xc):LsAt PE 5 (fun b=>b<n0) W (.slice xa xn xc) x.kids/\xn=x.kids.length:=by
 obtain⟨v,e,⟨f,cap,a⟩,d⟩:=ExS.cells h;simp only[List.cons.injEq,true_and,and_true]at e;subst e;rw[Value.slice.injEq]at a;exact⟨d,a.2.1⟩
def VlF(n0 n1:Nat)(p:Pg)(c:CatP)(wb mb:Nat)(sl:Value)(vs:List Fld)(x:Ex):Prop:=∀(W:World) (xa:Option Addr) (xn xc:Nat),Wk n0 n1 p c wb mb sl vs W->ExA n0 W x xa xn xc->Calls Tryz.prog 117 #[.pointer (some ⟨wb,0,none⟩),.agg #[.int .i64 x.kind,.int .i64 x.num,str x.txt,.slice xa xn xc,.int .i64 x.at_]] W fun en w'=>VlA W (valP p vs x) en w'
def oprP(p:Pg)(vs:List Fld)(x:Ex):Except Flt Unit:=if x.kids.length≠2∨x.txt∉opsA then .error (1,x.at_) else opnP p vs x.kids
theorem ops_at{w W:World}(h:W=w.alloc (.cells #[str [43],str [45],str [42],str [47],str [37]] 9)):∀i s,opsA[i]?=some s->W.cell? (Ja w.heap.size i)=some (str s):=fun i s a=>by
 rw[Qad (nnw h)];unfold opsA at a;rcases i with _|_|_|_|_|i
 all_goals first|(simp only[List.getElem?_cons_zero,List.getElem?_cons_succ,Option.some.injEq]at a;rw[<- a];rfl)|(simp at a)
section
variable {n0 n1:Nat}{p:Pg}{c:CatP}{wb mb:Nat}{sl:Value}{vs:List Fld}{w:World}
theorem Qss(p:Pg)(vs:List Fld){xs:List Ex}{j:Nat}{x:Ex}(hx:xs[j]?=some x):opnP p vs (xs.drop j)=match valP p vs x with | .error f=>.error f | .ok t=>if hasP p t tNum=true then opnP p vs (xs.drop (j+1)) else .error (13,x.at_):=by
 have a:=(List.getElem?_eq_some_iff.1 hx).1;have e:xs.drop j=x :: xs.drop (j+1):=by
  rw[List.drop_eq_getElem_cons a];congr 1;exact(List.getElem?_eq_some_iff.1 hx).2
 rw[e,opnP];cases valP p vs x<;>rfl
theorem Qfx(h:Wk n0 n1 p c wb mb sl vs w)(x:Ex){xa:Option Addr}{xn xc:Nat}(hE:ExA n0 w x xa xn xc)(hV:∀y∈x.kids,VlF n0 n1 p c wb mb sl vs y):
  Calls Tryz.prog 124 #[.pointer (Js wb),.agg #[Ji x.kind,Ji x.num,str x.txt,.slice xa xn xc,Ji x.at_]] w fun en w'=>OpA w (oprP p vs x) en w':=by
 obtain⟨U,o⟩:=hE.kids;obtain⟨w2,aB,b2,nx,nf,k⟩:=Qat w #[Ji x.kind,Ji x.num,str x.txt,.slice xa xn xc,Ji x.at_] 59;obtain⟨w3,a0⟩:=JE (w2.alloc (.cells #[str [43],str [45],str [42],str [47],str [37]] 9));have b3:=bnw a0;have a4:Calls Tryz.prog 127 #[.slice (Js w2.heap.size) 5 5,str x.txt] w3 fun en w'=>en = .returned (.bool (opsA.any (· == x.txt)))/\w'=w3:=Qlm (w:=w3) (g:=w2.heap.size) (cap:=5) (xs:=opsA) (by decide) (by decide) (ops_at a0) x.txt;have a:=b2.trans (b3.mono b2.size);have m:=(b3.block _ (Qaa nx)).trans nx;have b:=(b3.block _ (Qaa nf)).trans nf;have ba:=U.cap rfl;obtain⟨R,D⟩:=JF (oprP p vs x);rw[D];obtain⟨bb,ai⟩:=JF (opsA.any (· == x.txt));rw[ai]at a4;have J:x.txt∈opsA↔bb=true:=by
  rw[<- ai,List.any_eq_true];constructor
  ·intro hm;exact⟨_,hm,by simp⟩
  ·rintro⟨y,V,e⟩;rw[<- (show y=x.txt by simpa using e)];exact V
 have a7:=Qbd w3 1 x.kind x.num x.txt (.slice xa xn xc) ⟨_,_,_,rfl⟩ x.at_;have a2:=Qbd w2 1 x.kind x.num x.txt (.slice xa xn xc) ⟨_,_,_,rfl⟩ x.at_;have H2:=hide (Ya b2 (Ya nx (Ya nf k)));have S:=hide (Ya U (Ya o (Ya hV (Ya h (Ya D J)))));have H3:=hide (Ya a (Ya m (Ya b k)));have HW:=hide (Ya aB (Ya a0 k));obtain⟨aI,aJ,aK,aL,aM,xf⟩:=cl5 nx;obtain⟨aE,aF,aq,aG,aH,vf⟩:=cl5 m;have aD:(w2.alloc (.cells #[str [43],str [45],str [42],str [47],str [37]] 9)).cell? (Ja w.heap.size 2)=some (str x.txt):=by rw[<- a0];exact aq
 clear h hE hV U o aB b2 nx nf k a0 b3 a m b D ai J;go_enter Tryz.func124,Tryz.ntmps124;go_upto_region 1 with fail;rw[<- (Qa HW).1];by_cases am:xn=2
 rotate_left
 ·
  have g2:((xn:Int) != 2)=true:=by simpa using (by omega:¬((xn:Int)=2))
  have g3:¬((xn:Int)=2):=by omega
  have HX:=hide am;clear am a4 a7 aD aE aF aq aG aH vf;go_wp2_with fail;refine a2.mono ?_;clear a2 aI aJ aK aL aM xf;rintro en w9⟨rfl,O⟩;obtain⟨a,m,b,k⟩:=Qa H2;have M:=(O.block _ (Qaa b)).trans b;have Y:=a.trans (O.mono a.size);obtain⟨W7,l,sc⟩:=sc2 M (Ji 1) (Ji x.at_);obtain⟨ae,af,yf⟩:=cl2 M;have d:=hide (Ya (sc.below Y (by omega)) sc.box);have u:=hide l;clear a m b k M Y O l sc;go_wp2_with fail;rw[<- Qa u];obtain⟨B,C,zf⟩:=cl2 (Qa d).2;refine bodyPost_ret (v:=ftV (1,x.at_)) (by simp[results,Tryz.results124,go_sem,B,C,ftV]) rfl ?_;refine⟨_,rfl,?_,(Qa d).1⟩;obtain⟨_,o,_,_,D,J⟩:=Qa S;rw[<- D];unfold oprP;rw[if_pos (.inl (fun e=>Qa HX (o.trans e)))];exact⟨rfl,(by show(1:Int)≠0;decide)⟩
 subst am;go_wp2_with fail;rw[<- (Qa HW).2.1];refine a4.mono ?_;clear a4 a2 aI aJ aK aL aM xf aD;rintro en wq⟨rfl,rfl⟩;cases bb
 ·
  go_wp2_with fail;refine a7.mono ?_;clear a7;rintro en w9⟨rfl,O⟩;obtain⟨a,m,b,k⟩:=Qa H3;have M:=(O.block _ (Qaa b)).trans b;have Y:=a.trans (O.mono a.size);obtain⟨W7,l,sc⟩:=sc2 M (Ji 1) (Ji x.at_);obtain⟨ae,af,yf⟩:=cl2 M;have d:=hide (Ya (sc.below Y (by omega)) sc.box);have u:=hide l;clear a m b k M Y O l sc;go_wp2_with fail;rw[<- Qa u];obtain⟨B,C,zf⟩:=cl2 (Qa d).2;refine bodyPost_ret (v:=ftV (1,x.at_)) (by simp[results,Tryz.results124,go_sem,B,C,ftV]) rfl ?_;refine⟨_,rfl,?_,(Qa d).1⟩;obtain⟨_,o,_,_,D,J⟩:=Qa S;rw[<- D];unfold oprP;rw[if_pos (.inr (fun e=>by cases J.1 e))];exact⟨rfl,(by show(1:Int)≠0;decide)⟩
 clear a7;have aN:Hid (R=opnP p vs (x.kids.drop 0)):=by
  obtain⟨_,o,_,_,D,J⟩:=Qa S;refine hide ?_;rw[<- D];unfold oprP;rw[if_neg (fun e=>e.elim (fun e=>e o.symm) (fun e=>e (J.2 rfl)))];rfl
 go_wp2_with fail;clear aE aF aq aG aH vf;go_loopw [26] (fun v wr=>∃i:Nat,v = Ji (i:Int)/\i<=2/\Hid (Below wq.heap.size wq wr/\R=opnP p vs (x.kids.drop i))) (fun v _=>2 - (intOf v).toNat)
 case atStart=>exact⟨0,rfl,by decide,hide ⟨Below.refl _ _,Qa aN⟩⟩
 obtain⟨i,rfl,hi,HI⟩:=hrel;by_cases bc:i<2
 rotate_left
 ·
  have aZ:i=2:=by omega
  subst aZ;obtain⟨G,f⟩:=Qa HI;obtain⟨a,m,b,k⟩:=Qa H3;have o:=(Qa S).2.1;have K:=a.trans (G.mono a.size);have ap:=(G.block _ (Qaa b)).trans b;rw[List.drop_eq_nil_of_le (by omega)]at f;obtain⟨W7,l,sc⟩:=sc2 ap (Ji 0) (Ji 0);obtain⟨ae,af,yf⟩:=cl2 ap;have d:=hide (Ya (sc.below K (by omega)) (Ya sc.box f));have u:=hide l;clear G f a m b k o K ap l sc HI;go_wp2_with fail;rw[<- Qa u];obtain⟨B,C,zf⟩:=cl2 (Qa d).2.1;refine bodyPost_ret (v:=ftV (0,0)) (by simp[results,Tryz.results124,go_sem,B,C,ftV]) rfl ?_;refine⟨_,rfl,?_,(Qa d).1⟩;rw[(Qa d).2.2];rfl
 obtain⟨G,f⟩:=Qa HI;obtain⟨U,o,hV,h,_,_⟩:=Qa S;obtain⟨a,m,b,k⟩:=Qa H3;have K:=a.trans (G.mono a.size);have ay:=U.later Qag K;obtain⟨y,V⟩:∃y,x.kids[i]?=some y:=⟨x.kids[i]'(by omega),List.getElem?_eq_getElem _⟩;obtain⟨gb,cap,cs,P,aY,aX,aW,a8,aj⟩:=ay.elem V;simp only[Value.slice.injEq]at P;obtain⟨rfl,-,rfl⟩:=P;obtain⟨yv,aT,⟨ya,yc,aU⟩,_⟩:=a8.cells;subst aU;subst aT;obtain⟨yn,aC⟩:=JF y.kids.length;rw[aC]at a8 aj;clear aC;obtain⟨aO,aP,aQ,aR,aS⟩:=cs5 aj;obtain⟨w4,a6⟩:=JE (wr.alloc (.cells #[Ji y.kind,Ji y.num,str y.txt,.slice ya yn yc,Ji y.at_] 59));obtain⟨kb,al⟩:=JF wr.heap.size;have b4:=bnw a6;have E:=nnw a6;rw[al]at E;have F:=K.trans (b4.mono K.size);have aA:=hV y (List.mem_of_getElem? V) w4 ya yn yc (h.later F) (ExA.later (show ExA n0 wr y ya yn yc from a8) b4);have L:=G.trans (b4.mono G.size);have H4:=hide (Ya F (Ya E (Ya L (Ya (Qss p vs V) f))));have ar:=hide (Ya a6 al);obtain⟨a9,aa,ab,ac,ad,kf⟩:=cl5 E;clear G f U o hV h a m b k K ay V aY aX aW a8 aj a6 al b4 E F L HI;go_upto_region 6 with fail;rw[<- (Qa ar).1,(Qa ar).2];go_wp2_with fail;refine aA.mono ?_;clear aA aO aP aQ aR aS a9 aa ab ac ad kf;rintro en w5⟨t5,ft,rfl,t,b5⟩;obtain⟨T,f1⟩:=ft;unfold ftV;obtain⟨w6,a1⟩:=JE (w5.alloc (.cells #[Ji T,Ji f1] 31));obtain⟨fb,a5⟩:=JF w5.heap.size;have b6:=bnw a1;have n6:=nnw a1;rw[a5]at n6;obtain⟨F,E,L,j,f⟩:=Qa H4;obtain⟨a,m,b,k⟩:=Qa H3;have Z:=b5.trans (b6.mono b5.size);have n:=F.trans (Z.mono F.size);have r:=L.trans (Z.mono L.size);have an:=(Z.block _ (Qaa E)).trans E;have q:=(r.block _ (Qaa b)).trans b;have a3:=hide (Ya a1 a5);obtain⟨aw,ax,ff⟩:=cl2 n6;by_cases W:T=0
 rotate_left
 ·
  have ag:valP p vs y = .error (T,f1):=by
   cases hq:valP p vs y with
   |ok s=>rw[hq]at t;obtain⟨P,H⟩:=t;simp only[Prod.mk.injEq]at H;exact absurd H.1 W
   |error e=>rw[hq]at t;rw[t.1]
  rw[ag]at j;have g4:(T != 0)=true:=by simpa using W
  obtain⟨W7,l,sc⟩:=sc2 q (Ji T) (Ji f1);obtain⟨ae,af,yf⟩:=cl2 q;have d:=hide (Ya (sc.below n (by omega)) (Ya sc.box (Ya (f.trans j) W)));have u:=hide l;clear t b5 a1 a5 b6 n6 F E L j f a m b k Z n r an q ag W l sc;go_upto_region 7 with fail;rw[<- (Qa a3).1,(Qa a3).2];go_wp2_with fail;rw[<- Qa u];obtain⟨B,C,zf⟩:=cl2 (Qa d).2.1;refine bodyPost_ret (v:=ftV (T,f1)) (by simp[results,Tryz.results124,go_sem,B,C,ftV]) rfl ?_;refine⟨_,rfl,?_,(Qa d).1⟩;rw[(Qa d).2.2.1];exact⟨rfl,(Qa d).2.2.2⟩
 have az:valP p vs y = .ok t5/\f1=0:=by
  cases hq:valP p vs y with
  |ok s=>rw[hq]at t;obtain⟨P,H⟩:=t;simp only[Prod.mk.injEq]at H;exact⟨by rw[P],H.2⟩
  |error e=>rw[hq]at t;obtain⟨P,H⟩:=t;rw[<- P]at H;exact absurd W H
 have z:=Qee ((Qa S).2.2.2.1.later n) y (.slice ya yn yc) ⟨_,_,_,rfl⟩ t5 tNum;obtain⟨hb,ak⟩:=JF (hasP p t5 tNum);rw[ak]at z;rw[az.1]at j;simp only[ak]at j;obtain⟨a9,aa,ab,ac,ad,kf⟩:=cl5 an;have H6:=hide (Ya n (Ya r (Ya q (Ya j f))));subst W;clear t b5 a1 a5 b6 n6 F E L j f a m b k Z n r an q az ak;go_upto_region 7 with fail;rw[<- (Qa a3).1,(Qa a3).2];cases hb
 ·
  rw[if_neg (by decide)]at z;unfold ftV at z;go_wp2_with fail;refine z.mono ?_;clear z a9 aa ab ac ad kf aw ax ff;rintro en w7⟨rfl,N⟩;obtain⟨w8,A⟩:=JE (w7.alloc (.cells #[Ji 13,Ji y.at_] 31));obtain⟨aV,I⟩:=JF w7.heap.size;have b8:=bnw A;have Q:=nnw A;rw[I]at Q;obtain⟨n,r,q,j,f⟩:=Qa H6;have ah:=N.trans (b8.mono N.size);have au:=n.trans (ah.mono n.size);have ao:=(ah.block _ (Qaa q)).trans q;rw[if_neg (by decide)]at j;obtain⟨W7,l,sc⟩:=sc2 ao (Ji 13) (Ji y.at_);obtain⟨ae,af,yf⟩:=cl2 ao;have d:=hide (Ya (sc.below au (by omega)) (Ya sc.box (f.trans j)));have u:=hide l;have X:=hide (Ya A I);obtain⟨b0,b1,qf⟩:=cl2 Q;clear N A I b8 Q n r q j f ah au ao l sc;go_upto_region 10 with fail;rw[<- (Qa X).1,(Qa X).2];go_wp2_with fail;rw[<- Qa u];obtain⟨B,C,zf⟩:=cl2 (Qa d).2.1;refine bodyPost_ret (v:=ftV (13,y.at_)) (by simp[results,Tryz.results124,go_sem,B,C,ftV]) rfl ?_;refine⟨_,rfl,?_,(Qa d).1⟩;rw[(Qa d).2.2];exact⟨rfl,(by show(13:Int)≠0;decide)⟩
 rw[if_pos rfl]at z;unfold ftV at z;go_wp2_with fail;refine z.mono ?_;clear z a9 aa ab ac ad kf aw ax ff;rintro en w7⟨rfl,N⟩;obtain⟨w8,A⟩:=JE (w7.alloc (.cells #[Ji 0,Ji 0] 31));obtain⟨aV,I⟩:=JF w7.heap.size;have b8:=bnw A;have Q:=nnw A;rw[I]at Q;obtain⟨n,r,q,j,f⟩:=Qa H6;have av:=r.trans ((N.trans (b8.mono N.size)).mono r.size);rw[if_pos trivial]at j;have HN:=hide (Ya av (f.trans j));have X:=hide (Ya A I);obtain⟨b0,b1,qf⟩:=cl2 Q;clear N A I b8 Q n r q j f av;go_upto_region 10 with fail;rw[<- (Qa X).1,(Qa X).2];go_wp2_with fail;go_roundw
 case rel=>exact⟨i+1,by congr 1,by omega,HN⟩
 case measure=>simp[intOf];omega
end
theorem OpA.lk{n0 n1:Nat}{p:Pg}{c:CatP}{wb mb:Nat}{sl:Value}{vs:List Fld}{w w':World}{R:Except Flt Unit}{R2:Except Flt (List Fld)}{en:Ending}(h:OpA w R en w')(hW:Wk n0 n1 p c wb mb sl vs w)(e1:∀u,R = .ok u->R2 = .ok vs)(e2:∀e,R = .error e->R2 = .error e):LkA n0 n1 p c wb mb sl w R2 en w':=by
 obtain⟨ft,rfl,a,b⟩:=h;refine LkA.of (hW.later b) (Kw.of_below b) ?_
 cases R with
 |ok u=>rw[e1 u rfl];exact⟨a,rfl⟩
 |error e=>rw[e2 e rfl];exact⟨a.1,by rw[a.1];exact a.2⟩
section
variable {n0 n1:Nat}{p:Pg}{c:CatP}{wb mb:Nat}{sl:Value}{vs:List Fld}{w:World}
theorem Qnd(h:Wk n0 n1 p c wb mb sl vs w)(x:Ex){xa:Option Addr}{xn xc:Nat}(hE:ExA n0 w x xa xn xc)(hV:VlF n0 n1 p c wb mb sl vs x)(t:Txt):
  Calls Tryz.prog 114 #[.pointer (Js wb),.agg #[Ji x.kind,Ji x.num,str x.txt,.slice xa xn xc,Ji x.at_],str t] w fun en w'=>OpA w (likeP p vs x t) en w':=by
 obtain⟨w2,a4,k,q,A,O⟩:=Qat w #[Ji x.kind,Ji x.num,str x.txt,.slice xa xn xc,Ji x.at_] 59;have h2:=h.later k;have a3:=hV w2 xa xn xc h2 (hE.later k);obtain⟨E,F,G,H,I,P⟩:=cl5 q;obtain⟨R,a⟩:∃R:Except Flt Unit,likeP p vs x t=R:=⟨_,rfl⟩;rw[a];unfold likeP at a;have HW:=hide a4;have HH:=hide (Ya k (Ya q (Ya A (Ya O (Ya h a)))));clear a4 k q A O h h2 hE hV a;go_enter Tryz.func114,Tryz.ntmps114;go_upto_region 1 with fail;rw[<- Qa HW];go_wp2_with fail;refine a3.mono ?_;clear a3 E F G H I P;rintro en w3⟨own,ft,rfl,f,T⟩;obtain⟨u,M⟩:=ft;unfold ftV;obtain⟨k,q,A,O,h,a⟩:=Qa HH;obtain⟨w4,D⟩:=JE (w3.alloc (.cells #[Ji u,Ji M] 31));have b4:=bnw D;have n4:=nnw D;have C:=T.trans (b4.mono T.size);have j:=(C.block _ (by omega)).trans q;have i:=(C.block _ (by omega)).trans A;have d:=k.trans (C.mono k.size);have y:=h.later d;obtain⟨a9,aa,kf⟩:=cl2 n4;have a1:=hide D;by_cases z:u=0
 rotate_left
 ·
  have a0:valP p vs x = .error (u,M):=by
   cases N:valP p vs x with
   |ok s=>rw[N]at f;obtain⟨U,o⟩:=f;simp only[Prod.mk.injEq]at o;exact absurd o.1 z
   |error e=>rw[N]at f;rw[f.1]
  rw[a0]at a;have r:=hide (Ya a z);have g4:(u != 0)=true:=by simpa using z
  have b:=i;have l:=d;clear f T k q A O h a D b4 n4 C j i d y a0 z HH;go_upto_region 2 with fail;rw[<- Qa a1];obtain⟨W7,m,sc⟩:=sc2 b (Ji u) (Ji M);obtain⟨a6,a7,yf⟩:=cl2 b;have n:=hide (Ya (sc.below l (by omega)) sc.box);have B:=hide m;clear b l m sc;go_wp2_with fail;rw[<- Qa B];obtain⟨J,K,zf⟩:=cl2 (Qa n).2;refine bodyPost_ret (v:=ftV (u,M)) (by simp[results,Tryz.results114,go_sem,J,K,ftV]) rfl ?_;exact⟨_,rfl,by rw[<- (Qa r).1];exact⟨rfl,(Qa r).2⟩,(Qa n).1⟩
 have a2:valP p vs x = .ok own/\M=0:=by
  cases N:valP p vs x with
  |ok s=>rw[N]at f;obtain⟨U,o⟩:=f;simp only[Prod.mk.injEq]at o;exact⟨by rw[U],o.2⟩
  |error e=>rw[N]at f;obtain⟨U,o⟩:=f;rw[<- U]at o;exact absurd z o
 rw[a2.1]at a;obtain⟨E,F,G,H,I,P⟩:=cl5 j;have H4:=hide (Ya d (Ya j (Ya i (Ya y a))));subst z;clear f T k q A O h a D b4 n4 C j i d y a2 HH;go_upto_region 2 with fail;rw[<- Qa a1];obtain⟨bb,W⟩:=JF (alikeP p own t);have X:=Qis (Qa H4).2.2.2.1 own t;rw[W]at X;have a8:=hide W;clear W;go_wp2_with fail;refine X.mono ?_;clear X E F G H I P a9 aa kf;rintro en w5⟨rfl,L⟩;obtain⟨d,j,i,y,a⟩:=Qa H4;simp only[Qa a8]at a;have Z:=(L.block _ (Qaa j)).trans j;have S:=(L.block _ (Qaa i)).trans i;have Q:=d.trans (L.mono d.size);cases bb
 ·
  rw[if_neg (by decide)]at a;have r:=hide a;have a5:=Qbd w5 13 x.kind x.num x.txt (.slice xa xn xc) ⟨_,_,_,rfl⟩ x.at_;obtain⟨E,F,G,H,I,P⟩:=cl5 Z;have HN:=hide (Ya S Q);clear d j i y a Z S Q L;go_wp2_with fail;refine a5.mono ?_;clear a5 E F G H I P;rintro en w9⟨rfl,b9⟩;obtain⟨Y,V⟩:=Qa HN;have b:=(b9.block _ (Qaa Y)).trans Y;have l:=V.trans (b9.mono V.size);clear Y V b9;obtain⟨W7,m,sc⟩:=sc2 b (Ji 13) (Ji x.at_);obtain⟨a6,a7,yf⟩:=cl2 b;have n:=hide (Ya (sc.below l (by omega)) sc.box);have B:=hide m;clear b l m sc;go_wp2_with fail;rw[<- Qa B];obtain⟨J,K,zf⟩:=cl2 (Qa n).2;refine bodyPost_ret (v:=ftV (13,x.at_)) (by simp[results,Tryz.results114,go_sem,J,K,ftV]) rfl ?_;exact⟨_,rfl,by rw[<- Qa r];exact⟨rfl,(by show(13:Int)≠0;decide)⟩,(Qa n).1⟩
 rw[if_pos rfl]at a;have r:=hide a;have b:=S;have l:=Q;clear d j i y a Z S Q L;obtain⟨W7,m,sc⟩:=sc2 b (Ji 0) (Ji 0);obtain⟨a6,a7,yf⟩:=cl2 b;have n:=hide (Ya (sc.below l (by omega)) sc.box);have B:=hide m;clear b l m sc;go_wp2_with fail;rw[<- Qa B];obtain⟨J,K,zf⟩:=cl2 (Qa n).2;refine bodyPost_ret (v:=ftV (0,0)) (by simp[results,Tryz.results114,go_sem,J,K,ftV]) rfl ?_;exact⟨_,rfl,by rw[<- Qa r];rfl,(Qa n).1⟩
theorem Qgv(h:Wk n0 n1 p c wb mb sl vs w)(x:Ex){xa:Option Addr}{xn xc:Nat}(hE:ExA n0 w x xa xn xc)(hV:VlF n0 n1 p c wb mb sl vs x)(t:Txt):
  Calls Tryz.prog 102 #[.pointer (Js wb),.agg #[Ji x.kind,Ji x.num,str x.txt,.slice xa xn xc,Ji x.at_],str t] w fun en w'=>OpA w (fitP p vs x t) en w':=by
 obtain⟨w2,ai,m,B,H,s2⟩:=Qat w #[Ji x.kind,Ji x.num,str x.txt,.slice xa xn xc,Ji x.at_] 59;have h2:=h.later m;have ah:=hV w2 xa xn xc h2 (hE.later m);obtain⟨N,O,P,Q,S,xf⟩:=cl5 B;obtain⟨R,b⟩:∃R:Except Flt Unit,fitP p vs x t=R:=⟨_,rfl⟩;rw[b];unfold fitP at b;have HW:=hide ai;have HH:=hide (Ya m (Ya B (Ya H (Ya s2 (Ya h b)))));clear ai m B H s2 h h2 hE hV b;go_enter Tryz.func102,Tryz.ntmps102;go_upto_region 1 with fail;rw[<- Qa HW];go_wp2_with fail;refine ah.mono ?_;clear ah N O P Q S xf;rintro en w3⟨own,ft,rfl,j,b3⟩;obtain⟨E,f1⟩:=ft;unfold ftV;obtain⟨m,B,H,s2,h,b⟩:=Qa HH;obtain⟨w4,M⟩:=JE (w3.alloc (.cells #[Ji E,Ji f1] 31));have b4:=bnw M;have n4:=nnw M;have K:=b3.trans (b4.mono b3.size);have l:=(K.block _ (by omega)).trans B;have k:=(K.block _ (by omega)).trans H;have i:=m.trans (K.mono m.size);have F:=h.later i;obtain⟨ao,ap,kf⟩:=cl2 n4;have a7:=hide M;by_cases G:E=0
 rotate_left
 ·
  have a5:valP p vs x = .error (E,f1):=by
   cases hq:valP p vs x with
   |ok s=>rw[hq]at j;obtain⟨A,a⟩:=j;simp only[Prod.mk.injEq]at a;exact absurd a.1 G
   |error e=>rw[hq]at j;rw[j.1]
  rw[a5]at b;have D:=hide (Ya b G);have g4:(E != 0)=true:=by simpa using G
  have f:=k;have q:=i;clear j b3 m B H s2 h b M b4 n4 K l k i F a5 G HH;go_upto_region 2 with fail;rw[<- Qa a7];obtain⟨W7,r,sc⟩:=sc2 f (Ji E) (Ji f1);obtain⟨ak,al,yf⟩:=cl2 f;have y:=hide (Ya (sc.below q (by omega)) sc.box);have J:=hide r;clear f q r sc;go_wp2_with fail;rw[<- Qa J];obtain⟨T,U,zf⟩:=cl2 (Qa y).2;refine bodyPost_ret (v:=ftV (E,f1)) (by simp[results,Tryz.results102,go_sem,T,U,ftV]) rfl ?_;exact⟨_,rfl,by rw[<- (Qa D).1];exact⟨rfl,(Qa D).2⟩,(Qa y).1⟩
 have ag:valP p vs x = .ok own/\f1=0:=by
  cases hq:valP p vs x with
  |ok s=>rw[hq]at j;obtain⟨A,a⟩:=j;simp only[Prod.mk.injEq]at a;exact⟨by rw[A],a.2⟩
  |error e=>rw[hq]at j;obtain⟨A,a⟩:=j;rw[<- A]at a;exact absurd G a
 rw[ag.1]at b;obtain⟨N,O,P,Q,S,xf⟩:=cl5 l;have H4:=hide (Ya i (Ya l (Ya k (Ya F b))));subst G;clear j b3 m B H s2 h b M b4 n4 K l k i F ag HH;go_upto_region 2 with fail;rw[<- Qa a7];obtain⟨C,o⟩:=JF ((decide (x.kind=2) || decide (x.kind=3)));go_upto_region 4 with fail;go_cut [9] from 10 (fun v wc=>v = .bool C/\wc=w4)
 case first=>
  by_cases a:x.kind=2
  ·
   have g2:(x.kind==2)=true:=beq_iff_eq.2 a;have Z:C=true:=by rw[<- o,a];rfl
   subst Z;clear a o;go_wp2_with fail;go_meet;exact⟨rfl,rfl⟩
  have g2:(x.kind==2)=false:=beq_eq_false_iff_ne.2 a;by_cases n:x.kind=3
  ·
   have g3:(x.kind==3)=true:=beq_iff_eq.2 n;have Z:C=true:=by rw[<- o,n];rfl
   subst Z;clear a n o;go_wp2_with fail;go_meet;exact⟨rfl,rfl⟩
  have g3:(x.kind==3)=false:=beq_eq_false_iff_ne.2 n;have Z:C=false:=by rw[<- o,decide_eq_false a,decide_eq_false n];rfl
  subst Z;clear a n o;go_wp2_with fail;go_meet;exact⟨rfl,rfl⟩
 obtain⟨rfl,rfl⟩:=hcut;obtain⟨z,am⟩:=JE wc;subst am;have a4:=hide o;clear o N O P Q S xf ao ap kf a7;obtain⟨hb,a9⟩:=JF (hasP p t own);obtain⟨lb,aa⟩:=JF (belowP p own t);obtain⟨X,u⟩:=JF ((C&&hb || lb));have I:=Qfr (Qa H4).2.2.2.1 t own;rw[a9]at I;have a0:Hid (∀W,Below z.heap.size z W->Calls Tryz.prog 48 #[.pointer (Js c.cb),str own,str t] W fun en w'=>en = .returned (.bool lb)/\Below W.heap.size W w'):=fun W bW=>by
  have:=Qef ((Qa H4).2.2.2.1.later bW).cat own t;rw[aa]at this;exact this
 have HQ:Hid (∀W,Below z.heap.size z W->W.cell? (Ja wb 1)=some (.func (.func 48) #[.pointer (Js c.cb)] #[])):=fun W bW=>(cl6 ((Qa H4).2.2.2.1.later bW).box).2.1;have ae:=hide (Ya a9 (Ya aa u));clear a9 aa;go_upto_region 5 with fail;go_cut [43] from 28 (fun v W=>v = .bool X/\Hid (Below z.heap.size z W))
 case first=>
  cases C
  ·
   have Y:X=lb:=u.symm;subst Y;have ad:=Qa HQ z (Below.refl _ _);have L:=Qa a0 z (Below.refl _ _);clear u I;go_wp2_with fail;refine L.mono ?_;clear L ad;rintro en w6⟨rfl,V⟩;have a6:=hide V;clear V;go_wp2_with fail;go_meet;exact⟨rfl,a6⟩
  go_wp2_with fail;refine I.mono ?_;clear I;rintro en w5⟨rfl,d⟩;cases hb
  ·
   have Y:X=lb:=u.symm;subst Y;have ad:=Qa HQ w5 d;have L:=Qa a0 w5 d;have a1:=hide d;clear d u;go_wp2_with fail;refine L.mono ?_;clear L ad;rintro en w6⟨rfl,V⟩;have a6:=hide ((Qa a1).trans (V.mono (Qa a1).size));clear V;go_wp2_with fail;go_meet;exact⟨rfl,a6⟩
  have Y:X=true:=u.symm;subst Y;have a1:=hide d;clear d u;go_wp2_with fail;go_meet;exact⟨rfl,a1⟩
 obtain⟨rfl,af⟩:=hcut;obtain⟨w5,an⟩:=JE wc;subst an;have d:=Qa af;obtain⟨i,l,k,F,b⟩:=Qa H4;obtain⟨A,a,n⟩:=Qa ae;simp only[Qa a4,A,a,n]at b;clear A a n u ae a4 a0 HQ I af;have ac:=(d.block _ (Qaa l)).trans l;have a3:=(d.block _ (Qaa k)).trans k;have a2:=i.trans (d.mono i.size);cases X
 ·
  rw[if_neg (by decide)]at b;have D:=hide b;have aj:=Qbd w5 13 x.kind x.num x.txt (.slice xa xn xc) ⟨_,_,_,rfl⟩ x.at_;obtain⟨N,O,P,Q,S,xf⟩:=cl5 ac;have HN:=hide (Ya a3 a2);clear i l k F b ac a3 a2 d;go_wp2_with fail;refine aj.mono ?_;clear aj N O P Q S xf;rintro en w9⟨rfl,b9⟩;obtain⟨ab,a8⟩:=Qa HN;have f:=(b9.block _ (Qaa ab)).trans ab;have q:=a8.trans (b9.mono a8.size);clear ab a8 b9;obtain⟨W7,r,sc⟩:=sc2 f (Ji 13) (Ji x.at_);obtain⟨ak,al,yf⟩:=cl2 f;have y:=hide (Ya (sc.below q (by omega)) sc.box);have J:=hide r;clear f q r sc;go_wp2_with fail;rw[<- Qa J];obtain⟨T,U,zf⟩:=cl2 (Qa y).2;refine bodyPost_ret (v:=ftV (13,x.at_)) (by simp[results,Tryz.results102,go_sem,T,U,ftV]) rfl ?_;exact⟨_,rfl,by rw[<- Qa D];exact⟨rfl,(by show(13:Int)≠0;decide)⟩,(Qa y).1⟩
 rw[if_pos rfl]at b;have D:=hide b;have f:=a3;have q:=a2;clear i l k F b ac a3 a2 d;obtain⟨W7,r,sc⟩:=sc2 f (Ji 0) (Ji 0);obtain⟨ak,al,yf⟩:=cl2 f;have y:=hide (Ya (sc.below q (by omega)) sc.box);have J:=hide r;clear f q r sc;go_wp2_with fail;rw[<- Qa J];obtain⟨T,U,zf⟩:=cl2 (Qa y).2;refine bodyPost_ret (v:=ftV (0,0)) (by simp[results,Tryz.results102,go_sem,T,U,ftV]) rfl ?_;exact⟨_,rfl,by rw[<- Qa D];rfl,(Qa y).1⟩
end
end
end Go.Proofs.YtkhndlnadhggkaaGreat
