/- types. -/
import Derived.Test.YtkhndlnadhggkaaGreatAp01
import Derived.Test.YtkhndlnadhggkaaGreatAp31
import Derived.Test.YtkhndlnadhggkaaGreatAp15
set_option maxRecDepth 100000
set_option maxHeartbeats 32000000
namespace Go.Proofs.YtkhndlnadhggkaaGreat
section
open Go.RowKit Go.Maps
section
variable {n0 n1:Nat}{p:Pg}{c:CatP}{wb mb:Nat}{sl:Value}{vs:List Fld}{w:World}
theorem Qes(h:Wk n0 n1 p c wb mb sl vs w)(a:Atm){aa:Option Addr}{an ac:Nat}{d:Dcl}(hd:declP2 p a.rel=some d)(F:Value)(hFv:∃f x y,F = .func f x y){R:Except Flt (List Fld)}
  (hE:∀(W:World) (xa:Option Addr) (xc:Nat),Below w.heap.size w W->LsAt PF 2 (fun b=>b<n0) W (.slice xa d.cols.length xc) d.cols->Calls Tryz.prog 116 #[.slice aa an ac,.slice xa d.cols.length xc,F] W fun en w'=>LkA n0 n1 p c wb mb sl W R en w'):
  Calls Tryz.prog 101 #[.pointer (Js wb),.agg #[str a.rel,.slice aa an ac,Ji a.at_],F] w fun en w'=>LkA n0 n1 p c wb mb sl w R en w':=by
 obtain⟨Ff,Fx,Fy,rfl⟩:=hFv;obtain⟨g,a5,j,G,I,Q⟩:=Qat w #[str a.rel,.slice aa an ac,Ji a.at_] 42;have C:=hide (show ∀W:World,Below g.heap.size g W->W.heap[w.heap.size]?=some (.cells #[str a.rel,.slice aa an ac,Ji a.at_] 42 (0,0))/\W.cell? (Ja wb 2)=some (.func (.func 78) #[.pointer (Js c.cb)] #[]) from fun W P=>⟨(P.block _ (by omega)).trans G,(cl6 (h.later (j.trans (P.mono j.size))).box).2.2.1⟩);have a0:=hide (show ∀W:World,Below g.heap.size g W->Calls Tryz.prog 78 #[.pointer (Js c.cb),str a.rel] W fun en w'=>∃v,en = .returned v/\DcA (fun b=>b<n0) w' (some d) v/\Below W.heap.size W w' from fun W P=>by have:=Qfj (Ct.later h.cat (j.trans (P.mono j.size))) a.rel;rw[hd]at this;exact this);have ap:=h.n1le;have ao:=h.lo.1;have HB:=hide (show n0<=g.heap.size by omega);have HW:=hide a5;have HH:=hide (Ya j (Ya G (Ya I (Ya Q (Ya h (Ya hd hE))))));clear a5 j G I Q h hd hE;go_enter Tryz.func101,Tryz.ntmps101;go_upto_region 1 with fail;rw[<- Qa HW];go_cut [7] from 8 (fun u wc=>∃(V:Nat) (xa:Option Addr) (xc:Nat),u = .pointer (Js V)/\Hid (Below g.heap.size g wc/\wc.heap[V]?=some (.cells #[str d.name,.slice xa d.cols.length xc,.bool d.input,.bool d.output,Ji d.at_] 63 (0,0))/\LsAt PF 2 (fun b=>b<n0) wc (.slice xa d.cols.length xc) d.cols))
 case first=>
  go_wp2_with fail;refine Qas (tr:=(.take 0 (.take 1 (.take 2 (.take 3 (.take 4 (.take 5 (.two 6 10 (.take 7 (.take 8 (.take 9 (.one 10 (.one 11 (.take 12 .nil)))))) (.one 6 (.take 7 (.take 8 (.take 9 (.one 11 (.take 12 .nil)))))))))))))) (fun W=>W.heap[w.heap.size]?=some (.cells #[str a.rel,.slice aa an ac,Ji a.at_] 42 (0,0))/\W.cell? (Ja wb 2)=some (.func (.func 78) #[.pointer (Js c.cb)] #[])) mixedO (by kernel_rfl) rfl (by kernel_rfl) (fun PP J=>?_);refine tT (v:=?_) (fun w' hw=>?_) ?_;rotate_left
  ·(obtain⟨e,n⟩:=hw;obtain⟨k,l,m,o⟩:=cl3 e;go_simp<;>rfl)
  refine tT (v:=?_) (fun w' hw=>?_) ?_;rotate_left
  ·(obtain⟨e,n⟩:=hw;obtain⟨k,l,m,o⟩:=cl3 e;go_simp<;>rfl)
  refine tT (v:=?_) (fun w' hw=>?_) ?_;rotate_left
  ·(obtain⟨e,n⟩:=hw;obtain⟨k,l,m,o⟩:=cl3 e;go_simp<;>rfl)
  refine tT (v:=?_) (fun w' hw=>?_) ?_;rotate_left
  ·(obtain⟨e,n⟩:=hw;obtain⟨k,l,m,o⟩:=cl3 e;go_simp<;>rfl)
  refine tT (v:=?_) (fun w' hw=>?_) ?_;rotate_left
  ·(obtain⟨e,n⟩:=hw;obtain⟨k,l,m,o⟩:=cl3 e;go_simp<;>rfl)
  refine tT (v:=?_) (fun w' hw=>?_) ?_;rotate_left
  ·(obtain⟨e,n⟩:=hw;obtain⟨k,l,m,o⟩:=cl3 e;go_simp<;>rfl)
  refine Qbr rfl rfl (Qa C g.drew (Below.refl _ g).drew) (fun K i=>?_) (fun K i=>?_)
  ·
   go_simp;refine(Qa a0 g.drew (Below.refl _ g).drew).mono ?_;rintro en z⟨v5,rfl,U,E⟩;obtain⟨xa,xc,rfl,A⟩:=U;show K _ _;refine i _ _ ?_;clear i K;have a1:Below g.heap.size g z:=(Below.refl _ g).drew.trans E;have r:=a1;refine tT (v:=?_) (fun w' hw=>?_) ?_;rotate_left
   ·(obtain⟨e,n⟩:=hw;obtain⟨k,l,m,o⟩:=cl3 e;go_simp<;>rfl)
   refine tT (v:=?_) (fun w' hw=>?_) ?_;rotate_left
   ·(obtain⟨e,n⟩:=hw;obtain⟨k,l,m,o⟩:=cl3 e;go_simp<;>rfl)
   refine tT (v:=?_) (fun w' hw=>?_) ?_;rotate_left
   ·(obtain⟨e,n⟩:=hw;obtain⟨k,l,m,o⟩:=cl3 e;go_simp<;>rfl)
   refine Qaf rfl (Qa C z r) (fun K i=>?_);go_simp;refine i _ _ ?_;clear i K;have b6:Below z.heap.size z (z.alloc (.cells #[Je,Jn,.bool false,.bool false,Ji 0] 63)):=(Below.refl _ z).alloc (Nat.le_refl _) _;refine Qaf rfl (Qa C _ (r.trans (b6.mono r.size))) (fun K i=>?_);go_simp;refine i _ _ ?_;clear i K;obtain⟨W7,s⟩:=JE (z.alloc (.cells #[str d.name,.slice xa d.cols.length xc,.bool d.input,.bool d.output,Ji d.at_] 63));have O:=bnw s;have n7:=nnw s;rw[<- s];have B:=r.trans (O.mono r.size);refine tT (v:=?_) (fun w' hw=>?_) ?_;rotate_left
   ·(obtain⟨e,n⟩:=hw;obtain⟨k,l,m,o⟩:=cl3 e;go_simp<;>rfl)
   refine Qan (Qa C _ B) (J _ _ ?_);clear J PP;have T:=hide (Ya B (Ya n7 (A.same Qbb O.size (fun q _ hl=>O.block q hl))));clear A E a1 r b6 s O n7 B;go_wp2_with fail;go_meet;exact⟨_,xa,xc,rfl,T⟩
  go_simp;refine i _ _ ?_;clear i K;obtain⟨S,L⟩:=JE ((g.alloc (.cells #[Je,Jn,.bool false,.bool false,Ji 0] 63)).drew);have b4:Below g.heap.size g S:=by rw[L];exact((Below.refl _ _).alloc (Nat.le_refl _) _).drew
  have Z:S.heap[g.heap.size]?=some (.cells #[Je,Jn,.bool false,.bool false,Ji 0] 63 (0,0)):=by rw[L];exact heap_alloc_new g _
  have H:=b4;rw[<- L];clear L;refine Qaf rfl (Qa C S H) (fun K i=>?_);go_simp;refine(Qa a0 S H).mono ?_;rintro en z⟨v5,rfl,U,E⟩;obtain⟨xa,xc,rfl,A⟩:=U;show K _ _;refine i _ _ ?_;clear i K;have r:=H.trans (E.mono H.size);have n5:=(E.block _ (Qaa Z)).trans Z;refine tT (v:=?_) (fun w' hw=>?_) ?_;rotate_left
  ·(obtain⟨e,n⟩:=hw;obtain⟨k,l,m,o⟩:=cl3 e;go_simp<;>rfl)
  refine tT (v:=?_) (fun w' hw=>?_) ?_;rotate_left
  ·(obtain⟨e,n⟩:=hw;obtain⟨k,l,m,o⟩:=cl3 e;go_simp<;>rfl)
  refine tT (v:=?_) (fun w' hw=>?_) ?_;rotate_left
  ·(obtain⟨e,n⟩:=hw;obtain⟨k,l,m,o⟩:=cl3 e;go_simp<;>rfl)
  obtain⟨W7,s,sc⟩:=sc5 n5 (str d.name) (.slice xa d.cols.length xc) (.bool d.input) (.bool d.output) (Ji d.at_);obtain⟨aj,ak,av,aw,ax,yf⟩:=cl5 n5;refine Qaf rfl (Qa C z r) (fun K i=>?_);go_simp;rw[<- s];refine i _ _ ?_;clear i K;have B:=sc.below r (Nat.le_refl _);refine tT (v:=?_) (fun w' hw=>?_) ?_;rotate_left
  ·(obtain⟨e,n⟩:=hw;obtain⟨k,l,m,o⟩:=cl3 e;go_simp<;>rfl)
  refine Qan (Qa C _ B) (J _ _ ?_);clear J PP;have T:=hide (Ya B (Ya sc.box (A.same Qbb (by rw[sc.size];exact Nat.le_refl _) (fun q hq _=>sc.oth q (by have aq:q<n0:=hq;have:=Qa HB;omega)))));clear A b4 Z H E r n5 s sc B;go_wp2_with fail;go_meet;exact⟨_,xa,xc,rfl,T⟩
 obtain⟨V,xa,xc,rfl,N⟩:=hcut;obtain⟨WX,af⟩:=JE wc;subst af;obtain⟨t,nX,A⟩:=Qa N;obtain⟨j,G,I,Q,h,hd,hE⟩:=Qa HH;have a3:=hE WX xa xc (j.trans (t.mono j.size)) A;have a6:=(t.block _ (by omega)).trans G;have D:=(t.block _ (by omega)).trans I;obtain⟨ag,ah,ai,xf⟩:=cl3 a6;obtain⟨a8,a9,ab,ad,ae,df⟩:=cl5 nX;have HX:=hide (Ya (j.trans (t.mono j.size)) (Ya D (h.later (j.trans (t.mono j.size)))));clear j G I Q h hd hE t nX a6 D A N;go_wp2_with fail;refine a3.mono ?_;clear a3 ag ah ai xf a8 a9 ab ad ae df;rintro en w9 a4;obtain⟨ar,au,ft,rfl,X,Y,a2⟩:=a4.ft;clear a4;obtain⟨t,D,hX⟩:=Qa HX;have M:=Y.keep D (hX.offT D (by decide) (by decide));obtain⟨W7,s,sc⟩:=sc2 M (Ji ft.1) (Ji ft.2);obtain⟨aj,ak,yf⟩:=cl2 M;have N:=hide (Ya (X.sc sc (by omega) (X.offT M (by decide) (by decide))) (Ya (((Kw.of_below t).trans Y).sc sc (by omega)) (Ya sc.box a2)));have a7:=hide s;clear t D hX X Y a2 M s sc;unfold ftV;go_wp2_with fail;rw[<- Qa a7];obtain⟨e1,e2,e3,e4⟩:=Qa N;obtain⟨al,am,zf⟩:=cl2 e3;refine bodyPost_ret (v:=ftV ft) (by simp[results,Tryz.results101,go_sem,al,am,ftV]) rfl ?_;exact LkA.of e1 e2 e4
end
section
variable {n0 n1:Nat}{p:Pg}{c:CatP}{wb mb:Nat}{sl:Value}{vs:List Fld}{w:World}
theorem Qgq(h:Wk n0 n1 p c wb mb sl vs w)(a:Atm){aa:Option Addr}{an ac:Nat}(ha:a.args.length=an)(hd:declP2 p a.rel=none):
  Calls Tryz.prog 112 #[.pointer (Js wb),.agg #[str a.rel,.slice aa an ac,Ji a.at_]] w fun en w'=>en = .returned (ftV (watP p a))/\Below w.heap.size w w':=by
 obtain⟨e,T,o,x,B,G⟩:=Qat w #[str a.rel,.slice aa an ac,Ji a.at_] 42;have s:=hide (show ∀W:World,Below e.heap.size e W->W.heap[w.heap.size]?=some (.cells #[str a.rel,.slice aa an ac,Ji a.at_] 42 (0,0))/\W.cell? (Ja wb 2)=some (.func (.func 78) #[.pointer (Js c.cb)] #[]) from fun W E=>⟨(E.block _ (by omega)).trans x,(cl6 (h.later (o.trans (E.mono o.size))).box).2.2.1⟩);have P:=hide (show ∀W:World,Below e.heap.size e W->Calls Tryz.prog 78 #[.pointer (Js c.cb),str a.rel] W fun en w'=>∃v,en = .returned v/\DcA (fun b=>b<n0) w' (none) v/\Below W.heap.size W w' from fun W E=>by have:=Qfj (Ct.later h.cat (o.trans (E.mono o.size))) a.rel;rw[hd]at this;exact this);have a7:=h.n1le;have a6:=h.lo.1;have HB:=hide (show n0<=e.heap.size by omega);have HW:=hide T;have HH:=hide (Ya o (Ya x (Ya B G)));obtain⟨R,A⟩:=JF (watP p a);rw[A];unfold watP at A;rw[hd]at A;have HR:=hide (Ya A ha);clear T o x B G h hd A ha;go_enter Tryz.func112,Tryz.ntmps112;go_upto_region 1 with fail;rw[<- Qa HW];go_cut [5,6] from 7 (fun u v wc=>∃(L:Nat),u = .pointer (Js L)/\v = .bool false/\Hid (Below e.heap.size e wc/\wc.heap[L]?=some (.cells #[Je,Jn,.bool false,.bool false,Ji 0] 63 (0,0))/\True))
 case first=>
  go_wp2_with fail;refine Qas (tr:=(.take 0 (.take 1 (.take 2 (.take 3 (.take 4 (.take 5 (.two 6 10 (.take 7 (.take 8 (.take 9 (.one 10 (.one 11 (.take 12 .nil)))))) (.one 6 (.take 7 (.take 8 (.take 9 (.one 11 (.take 12 .nil)))))))))))))) (fun W=>W.heap[w.heap.size]?=some (.cells #[str a.rel,.slice aa an ac,Ji a.at_] 42 (0,0))/\W.cell? (Ja wb 2)=some (.func (.func 78) #[.pointer (Js c.cb)] #[])) mixedO (by kernel_rfl) rfl (by kernel_rfl) (fun X C=>?_);refine tT (v:=?_) (fun w' hw=>?_) ?_;rotate_left
  ·(obtain⟨d,k⟩:=hw;obtain⟨g,i,j,l⟩:=cl3 d;go_simp<;>rfl)
  refine tT (v:=?_) (fun w' hw=>?_) ?_;rotate_left
  ·(obtain⟨d,k⟩:=hw;obtain⟨g,i,j,l⟩:=cl3 d;go_simp<;>rfl)
  refine tT (v:=?_) (fun w' hw=>?_) ?_;rotate_left
  ·(obtain⟨d,k⟩:=hw;obtain⟨g,i,j,l⟩:=cl3 d;go_simp<;>rfl)
  refine tT (v:=?_) (fun w' hw=>?_) ?_;rotate_left
  ·(obtain⟨d,k⟩:=hw;obtain⟨g,i,j,l⟩:=cl3 d;go_simp<;>rfl)
  refine tT (v:=?_) (fun w' hw=>?_) ?_;rotate_left
  ·(obtain⟨d,k⟩:=hw;obtain⟨g,i,j,l⟩:=cl3 d;go_simp<;>rfl)
  refine tT (v:=?_) (fun w' hw=>?_) ?_;rotate_left
  ·(obtain⟨d,k⟩:=hw;obtain⟨g,i,j,l⟩:=cl3 d;go_simp<;>rfl)
  refine Qbr rfl rfl (Qa s e.drew (Below.refl _ e).drew) (fun K f=>?_) (fun K f=>?_)
  ·
   go_simp;refine(Qa P e.drew (Below.refl _ e).drew).mono ?_;rintro en q⟨v5,rfl,z,t⟩;have M:=z;subst z;show K _ _;refine f _ _ ?_;clear f K;have Q:Below e.heap.size e q:=(Below.refl _ e).drew.trans t;have m:=Q;refine tT (v:=?_) (fun w' hw=>?_) ?_;rotate_left
   ·(obtain⟨d,k⟩:=hw;obtain⟨g,i,j,l⟩:=cl3 d;go_simp<;>rfl)
   refine tT (v:=?_) (fun w' hw=>?_) ?_;rotate_left
   ·(obtain⟨d,k⟩:=hw;obtain⟨g,i,j,l⟩:=cl3 d;go_simp<;>rfl)
   refine tT (v:=?_) (fun w' hw=>?_) ?_;rotate_left
   ·(obtain⟨d,k⟩:=hw;obtain⟨g,i,j,l⟩:=cl3 d;go_simp<;>rfl)
   refine Qaf rfl (Qa s q m) (fun K f=>?_);go_simp;refine f _ _ ?_;clear f K;have b6:Below q.heap.size q (q.alloc (.cells #[Je,Jn,.bool false,.bool false,Ji 0] 63)):=(Below.refl _ q).alloc (Nat.le_refl _) _;refine Qaf rfl (Qa s _ (m.trans (b6.mono m.size))) (fun K f=>?_);go_simp;refine f _ _ ?_;clear f K;obtain⟨Y,n⟩:=JE (q.alloc (.cells #[Je,Jn,.bool false,.bool false,Ji 0] 63));have b7:=bnw n;have n7:=nnw n;rw[<- n];have r:=m.trans (b7.mono m.size);refine tT (v:=?_) (fun w' hw=>?_) ?_;rotate_left
   ·(obtain⟨d,k⟩:=hw;obtain⟨g,i,j,l⟩:=cl3 d;go_simp<;>rfl)
   refine Qan (Qa s _ r) (C _ _ ?_);clear C X;have I:=hide (Ya r (Ya n7 (show True from trivial)));clear t Q m b6 n b7 n7 r;go_wp2_with fail;go_meet;exact⟨_,rfl,rfl,I⟩
  go_simp;refine f _ _ ?_;clear f K;obtain⟨H,D⟩:=JE ((e.alloc (.cells #[Je,Jn,.bool false,.bool false,Ji 0] 63)).drew);have Z:Below e.heap.size e H:=by rw[D];exact((Below.refl _ _).alloc (Nat.le_refl _) _).drew
  have N:H.heap[e.heap.size]?=some (.cells #[Je,Jn,.bool false,.bool false,Ji 0] 63 (0,0)):=by rw[D];exact heap_alloc_new e _
  have y:=Z;rw[<- D];clear D;refine Qaf rfl (Qa s H y) (fun K f=>?_);go_simp;refine(Qa P H y).mono ?_;rintro en q⟨v5,rfl,z,t⟩;have M:=z;subst z;show K _ _;refine f _ _ ?_;clear f K;have m:=y.trans (t.mono y.size);have O:=(t.block _ (Qaa N)).trans N;refine tT (v:=?_) (fun w' hw=>?_) ?_;rotate_left
  ·(obtain⟨d,k⟩:=hw;obtain⟨g,i,j,l⟩:=cl3 d;go_simp<;>rfl)
  refine tT (v:=?_) (fun w' hw=>?_) ?_;rotate_left
  ·(obtain⟨d,k⟩:=hw;obtain⟨g,i,j,l⟩:=cl3 d;go_simp<;>rfl)
  refine tT (v:=?_) (fun w' hw=>?_) ?_;rotate_left
  ·(obtain⟨d,k⟩:=hw;obtain⟨g,i,j,l⟩:=cl3 d;go_simp<;>rfl)
  obtain⟨Y,n,sc⟩:=sc5 O (Je) (Jn) (.bool false) (.bool false) (Ji 0);obtain⟨a2,a3,ad,ae,af,yf⟩:=cl5 O;refine Qaf rfl (Qa s q m) (fun K f=>?_);go_simp;rw[<- n];refine f _ _ ?_;clear f K;have r:=sc.below m (Nat.le_refl _);refine tT (v:=?_) (fun w' hw=>?_) ?_;rotate_left
  ·(obtain⟨d,k⟩:=hw;obtain⟨g,i,j,l⟩:=cl3 d;go_simp<;>rfl)
  refine Qan (Qa s _ r) (C _ _ ?_);clear C X;have I:=hide (Ya r (Ya sc.box (show True from trivial)));clear Z N y t m O n sc r;go_wp2_with fail;go_meet;exact⟨_,rfl,rfl,I⟩
 obtain⟨L,rfl,rfl,HE⟩:=hcut;obtain⟨WX,a1⟩:=JE wc;subst a1;obtain⟨F,nX,M⟩:=Qa HE;obtain⟨o,x,B,G⟩:=Qa HH;have U:=(F.block _ (by omega)).trans x;have J:=(F.block _ (by omega)).trans B;have S:=o.trans (F.mono o.size);obtain⟨a8,a9,ab,xf⟩:=cl3 U;obtain⟨Y,n,sc⟩:=sc2 J (Ji 6) (Ji a.at_);obtain⟨a2,a3,yf⟩:=cl2 J;have V:=hide (Ya (sc.below S (by omega)) sc.box);have a0:=hide n;clear o x B G F nX U J S M n sc;go_wp2_with fail;rw[<- Qa a0];obtain⟨a4,a5,zf⟩:=cl2 (Qa V).2;refine bodyPost_ret (v:=ftV (6,a.at_)) (by simp[results,Tryz.results112,go_sem,a4,a5,ftV]) rfl ?_;exact⟨by rw[<- (Qa HR).1],(Qa V).1⟩
theorem Qgr(h:Wk n0 n1 p c wb mb sl vs w)(a:Atm){aa:Option Addr}{an ac:Nat}(ha:a.args.length=an){d:Dcl}(hd:declP2 p a.rel=some d):
  Calls Tryz.prog 112 #[.pointer (Js wb),.agg #[str a.rel,.slice aa an ac,Ji a.at_]] w fun en w'=>en = .returned (ftV (watP p a))/\Below w.heap.size w w':=by
 obtain⟨g,a6,r,C,G,M⟩:=Qat w #[str a.rel,.slice aa an ac,Ji a.at_] 42;have B:=hide (show ∀W:World,Below g.heap.size g W->W.heap[w.heap.size]?=some (.cells #[str a.rel,.slice aa an ac,Ji a.at_] 42 (0,0))/\W.cell? (Ja wb 2)=some (.func (.func 78) #[.pointer (Js c.cb)] #[]) from fun W T=>⟨(T.block _ (by omega)).trans C,(cl6 (h.later (r.trans (T.mono r.size))).box).2.2.1⟩);have a3:=hide (show ∀W:World,Below g.heap.size g W->Calls Tryz.prog 78 #[.pointer (Js c.cb),str a.rel] W fun en w'=>∃v,en = .returned v/\DcA (fun b=>b<n0) w' (some d) v/\Below W.heap.size W w' from fun W T=>by have:=Qfj (Ct.later h.cat (r.trans (T.mono r.size))) a.rel;rw[hd]at this;exact this);have aj:=h.n1le;have ai:=h.lo.1;have HB:=hide (show n0<=g.heap.size by omega);have HW:=hide a6;have HH:=hide (Ya r (Ya C (Ya G M)));obtain⟨R,L⟩:=JF (watP p a);rw[L];unfold watP at L;rw[hd]at L;have Q:=hide (Ya L ha);clear a6 r C G M h hd L ha;go_enter Tryz.func112,Tryz.ntmps112;go_upto_region 1 with fail;rw[<- Qa HW];go_cut [5,6] from 7 (fun u v wc=>∃(db:Nat) (y:Option Addr) (z:Nat),u = .pointer (Js db)/\v = .bool true/\Hid (Below g.heap.size g wc/\wc.heap[db]?=some (.cells #[str d.name,.slice y d.cols.length z,.bool d.input,.bool d.output,Ji d.at_] 63 (0,0))/\LsAt PF 2 (fun b=>b<n0) wc (.slice y d.cols.length z) d.cols))
 case first=>
  go_wp2_with fail;refine Qas (tr:=(.take 0 (.take 1 (.take 2 (.take 3 (.take 4 (.take 5 (.two 6 10 (.take 7 (.take 8 (.take 9 (.one 10 (.one 11 (.take 12 .nil)))))) (.one 6 (.take 7 (.take 8 (.take 9 (.one 11 (.take 12 .nil)))))))))))))) (fun W=>W.heap[w.heap.size]?=some (.cells #[str a.rel,.slice aa an ac,Ji a.at_] 42 (0,0))/\W.cell? (Ja wb 2)=some (.func (.func 78) #[.pointer (Js c.cb)] #[])) mixedO (by kernel_rfl) rfl (by kernel_rfl) (fun PP O=>?_);refine tT (v:=?_) (fun w' hw=>?_) ?_;rotate_left
  ·(obtain⟨f,n⟩:=hw;obtain⟨k,l,m,o⟩:=cl3 f;go_simp<;>rfl)
  refine tT (v:=?_) (fun w' hw=>?_) ?_;rotate_left
  ·(obtain⟨f,n⟩:=hw;obtain⟨k,l,m,o⟩:=cl3 f;go_simp<;>rfl)
  refine tT (v:=?_) (fun w' hw=>?_) ?_;rotate_left
  ·(obtain⟨f,n⟩:=hw;obtain⟨k,l,m,o⟩:=cl3 f;go_simp<;>rfl)
  refine tT (v:=?_) (fun w' hw=>?_) ?_;rotate_left
  ·(obtain⟨f,n⟩:=hw;obtain⟨k,l,m,o⟩:=cl3 f;go_simp<;>rfl)
  refine tT (v:=?_) (fun w' hw=>?_) ?_;rotate_left
  ·(obtain⟨f,n⟩:=hw;obtain⟨k,l,m,o⟩:=cl3 f;go_simp<;>rfl)
  refine tT (v:=?_) (fun w' hw=>?_) ?_;rotate_left
  ·(obtain⟨f,n⟩:=hw;obtain⟨k,l,m,o⟩:=cl3 f;go_simp<;>rfl)
  refine Qbr rfl rfl (Qa B g.drew (Below.refl _ g).drew) (fun K i=>?_) (fun K i=>?_)
  ·
   go_simp;refine(Qa a3 g.drew (Below.refl _ g).drew).mono ?_;rintro en x⟨v5,rfl,Z,F⟩;obtain⟨y,z,rfl,t⟩:=Z;show K _ _;refine i _ _ ?_;clear i K;have a5:Below g.heap.size g x:=(Below.refl _ g).drew.trans F;have s:=a5;refine tT (v:=?_) (fun w' hw=>?_) ?_;rotate_left
   ·(obtain⟨f,n⟩:=hw;obtain⟨k,l,m,o⟩:=cl3 f;go_simp<;>rfl)
   refine tT (v:=?_) (fun w' hw=>?_) ?_;rotate_left
   ·(obtain⟨f,n⟩:=hw;obtain⟨k,l,m,o⟩:=cl3 f;go_simp<;>rfl)
   refine tT (v:=?_) (fun w' hw=>?_) ?_;rotate_left
   ·(obtain⟨f,n⟩:=hw;obtain⟨k,l,m,o⟩:=cl3 f;go_simp<;>rfl)
   refine Qaf rfl (Qa B x s) (fun K i=>?_);go_simp;refine i _ _ ?_;clear i K;have b6:Below x.heap.size x (x.alloc (.cells #[Je,Jn,.bool false,.bool false,Ji 0] 63)):=(Below.refl _ x).alloc (Nat.le_refl _) _;refine Qaf rfl (Qa B _ (s.trans (b6.mono s.size))) (fun K i=>?_);go_simp;refine i _ _ ?_;clear i K;obtain⟨W7,j⟩:=JE (x.alloc (.cells #[str d.name,.slice y d.cols.length z,.bool d.input,.bool d.output,Ji d.at_] 63));have S:=bnw j;have n7:=nnw j;rw[<- j];have A:=s.trans (S.mono s.size);refine tT (v:=?_) (fun w' hw=>?_) ?_;rotate_left
   ·(obtain⟨f,n⟩:=hw;obtain⟨k,l,m,o⟩:=cl3 f;go_simp<;>rfl)
   refine Qan (Qa B _ A) (O _ _ ?_);clear O PP;have V:=hide (Ya A (Ya n7 (t.same Qbb S.size (fun q _ hl=>S.block q hl))));clear t F a5 s b6 j S n7 A;go_wp2_with fail;go_meet;exact⟨_,y,z,rfl,rfl,V⟩
  go_simp;refine i _ _ ?_;clear i K;obtain⟨U,P⟩:=JE ((g.alloc (.cells #[Je,Jn,.bool false,.bool false,Ji 0] 63)).drew);have b4:Below g.heap.size g U:=by rw[P];exact((Below.refl _ _).alloc (Nat.le_refl _) _).drew
  have n4:U.heap[g.heap.size]?=some (.cells #[Je,Jn,.bool false,.bool false,Ji 0] 63 (0,0)):=by rw[P];exact heap_alloc_new g _
  have H:=b4;rw[<- P];clear P;refine Qaf rfl (Qa B U H) (fun K i=>?_);go_simp;refine(Qa a3 U H).mono ?_;rintro en x⟨v5,rfl,Z,F⟩;obtain⟨y,z,rfl,t⟩:=Z;show K _ _;refine i _ _ ?_;clear i K;have s:=H.trans (F.mono H.size);have n5:=(F.block _ (Qaa n4)).trans n4;refine tT (v:=?_) (fun w' hw=>?_) ?_;rotate_left
  ·(obtain⟨f,n⟩:=hw;obtain⟨k,l,m,o⟩:=cl3 f;go_simp<;>rfl)
  refine tT (v:=?_) (fun w' hw=>?_) ?_;rotate_left
  ·(obtain⟨f,n⟩:=hw;obtain⟨k,l,m,o⟩:=cl3 f;go_simp<;>rfl)
  refine tT (v:=?_) (fun w' hw=>?_) ?_;rotate_left
  ·(obtain⟨f,n⟩:=hw;obtain⟨k,l,m,o⟩:=cl3 f;go_simp<;>rfl)
  obtain⟨W7,j,sc⟩:=sc5 n5 (str d.name) (.slice y d.cols.length z) (.bool d.input) (.bool d.output) (Ji d.at_);obtain⟨a7,a8,ap,aq,ar,yf⟩:=cl5 n5;refine Qaf rfl (Qa B x s) (fun K i=>?_);go_simp;rw[<- j];refine i _ _ ?_;clear i K;have A:=sc.below s (Nat.le_refl _);refine tT (v:=?_) (fun w' hw=>?_) ?_;rotate_left
  ·(obtain⟨f,n⟩:=hw;obtain⟨k,l,m,o⟩:=cl3 f;go_simp<;>rfl)
  refine Qan (Qa B _ A) (O _ _ ?_);clear O PP;have V:=hide (Ya A (Ya sc.box (t.same Qbb (by rw[sc.size];exact Nat.le_refl _) (fun q hq _=>sc.oth q (by have ak:q<n0:=hq;have:=Qa HB;omega)))));clear t b4 n4 H F s n5 j sc A;go_wp2_with fail;go_meet;exact⟨_,y,z,rfl,rfl,V⟩
 obtain⟨db,y,z,rfl,rfl,HE⟩:=hcut;obtain⟨WX,ab⟩:=JE wc;subst ab;obtain⟨J,nX,t⟩:=Qa HE;obtain⟨r,C,G,M⟩:=Qa HH;have a0:=(J.block _ (by omega)).trans C;have D:=(J.block _ (by omega)).trans G;have N:=r.trans (J.mono r.size);obtain⟨al,am,ao,xf⟩:=cl3 a0;obtain⟨ae,a9,af,ag,ah,df⟩:=cl5 nX;have ad:=t.cap rfl;obtain⟨dn,Y⟩:=JF d.cols.length;rw[Y]at a9 ad;have a4:=hide Y;clear Y;by_cases e:an=dn
 ·
  have g1:((an:Int) != (dn:Int))=false:=by simp[e]
  have E:=hide e;clear e;obtain⟨W7,j,sc⟩:=sc2 D (Ji 0) (Ji 0);obtain⟨a7,a8,yf⟩:=cl2 D;have I:=hide (Ya (sc.below N (by omega)) sc.box);have X:=hide j;clear r C G M J nX a0 D N t j sc;go_wp2_with fail;rw[<- Qa X];obtain⟨a1,a2,zf⟩:=cl2 (Qa I).2;refine bodyPost_ret (v:=ftV (0,0)) (by simp[results,Tryz.results112,go_sem,a1,a2,ftV]) rfl ?_;exact⟨by rw[<- (Qa Q).1,if_neg (by simp[(Qa Q).2,Qa a4,Qa E])],(Qa I).1⟩
 have g1:((an:Int) != (dn:Int))=true:=by simp;omega
 have E:=hide e;clear e;obtain⟨W7,j,sc⟩:=sc2 D (Ji 14) (Ji a.at_);obtain⟨a7,a8,yf⟩:=cl2 D;have I:=hide (Ya (sc.below N (by omega)) sc.box);have X:=hide j;clear r C G M J nX a0 D N t j sc;go_wp2_with fail;rw[<- Qa X];obtain⟨a1,a2,zf⟩:=cl2 (Qa I).2;refine bodyPost_ret (v:=ftV (14,a.at_)) (by simp[results,Tryz.results112,go_sem,a1,a2,ftV]) rfl ?_;exact⟨by rw[<- (Qa Q).1,if_pos (by rw[(Qa Q).2,Qa a4];exact Qa E)],(Qa I).1⟩
theorem Qeo(h:Wk n0 n1 p c wb mb sl vs w)(a:Atm){aa:Option Addr}{an ac:Nat}(hA:LsAt PE 5 (fun b=>b<n0) w (.slice aa an ac) a.args):
  Calls Tryz.prog 112 #[.pointer (Js wb),.agg #[str a.rel,.slice aa an ac,Ji a.at_]] w fun en w'=>en = .returned (ftV (watP p a))/\Below w.heap.size w w':=by
 have f:a.args.length=an:=by obtain⟨_,_,e⟩:=hA.sl;cases e;rfl
 cases g:declP2 p a.rel with
 |none=>exact Qgq h a f g
 |some d=>exact Qgr h a f g
end
theorem Qud{w:World}{b o:Nat}{cs:List Value}(hl:cs.length=16)(h:∀q c,cs[q]?=some c->w.cell? (Ja b (o+q))=some c):(ltLoad (.pointer (some (Ja b o)))).run Tryz.prog w = .ok (.agg cs.toArray) w:=
 run_loadAt_mid w b o 61 cs _ (fun q v a=>h q v a) Tryz.underlying61 rfl (by rw[hl];exact Qdi)
theorem Qpy(w:World){cs:List Value}(hl:cs.length=16)(h1:∀c∈cs,c.oneCell'=true):(ltStore (.pointer (Js w.heap.size)) (.agg cs.toArray)).run Tryz.prog (w.alloc (.cells #[Ji 0,Je,Jn,Ji 0,Je,Ji 0,Ji 0,Je,Jn,Ji 0,Ji 0,Ji 0,Je,Jn,Ji 0,Ji 0] 61)) = .ok () (w.alloc (.cells cs.toArray 61)):=
 run_storeAt_new w 61 _ _ (by rw[List.size_toArray,hl];exact Qdi) (by simp[hl]) (by simpa using h1)
theorem Qoa(p:Pg){ls:List Lt}{j:Nat}{y:Lt}(h:ls[j]?=some y):watsP p (ls.drop j)=if y.kind≠1/\y.kind≠2 then watsP p (ls.drop (j+1)) else if (watP p y.atom).1≠0 then watP p y.atom else watsP p (ls.drop (j+1)):=by
 rw[List.drop_eq_getElem_cons (List.getElem?_eq_some_iff.1 h).1,(List.getElem?_eq_some_iff.1 h).2];rfl
section
variable {n0 n1:Nat}{p:Pg}{c:CatP}{wb mb:Nat}{sl:Value}{vs:List Fld}{w:World}
attribute [local go_sem ↓] Qbi Qbo
theorem Qgs(h:Wk n0 n1 p c wb mb sl vs w)(x:Cls){aa ba:Option Addr}{an ac bn bc:Nat}(hA:LsAt PE 5 (fun b=>b<n0) w (.slice aa an ac) x.head.args)(hB:LsAt PLt 16 (fun b=>b<n0) w (.slice ba bn bc) x.body):
  Calls Tryz.prog 99 #[.pointer (Js wb),.agg #[str x.head.rel,.slice aa an ac,Ji x.head.at_,.slice ba bn bc,Ji x.at_]] w fun en w'=>en = .returned (ftV (if (watP p x.head).1≠0 then watP p x.head else watsP p x.body))/\Below w.heap.size w w':=by
 obtain⟨w2,aP,C,P,U,s2⟩:=Qat w #[str x.head.rel,.slice aa an ac,Ji x.head.at_,.slice ba bn bc,Ji x.at_] 45;have t:=Qeo (h.later C) x.head (hA.same Qag C.size (fun q _ N=>C.block q N));obtain⟨aw,ax,ay,az,aA,xf⟩:=cl5 P;obtain⟨R,A⟩:=JF ((if (watP p x.head).1≠0 then watP p x.head else watsP p x.body));rw[A];obtain⟨ft,aL⟩:=JF (watP p x.head);rw[aL]at t A;unfold ftV at t;have B:x.body.length=bn:=by obtain⟨_,_,e⟩:=hB.sl;cases e;rfl
 have aS:=hB.cap rfl;have HW:=hide aP;have HH:=hide (Ya C (Ya P (Ya U (Ya s2 (Ya h (Ya A (Ya hB B)))))));clear aP C P U s2 h hA hB A aL B;go_enter Tryz.func99,Tryz.ntmps99;go_upto_region 1 with fail;rw[<- Qa HW];go_wp2_with fail;refine t.mono ?_;clear t aw ax ay az aA xf;rintro en w3⟨rfl,b3⟩;obtain⟨C,P,U,s2,h,A,hB,B⟩:=Qa HH;obtain⟨w4,X⟩:=JE (w3.alloc (.cells #[Ji ft.1,Ji ft.2] 31));have b4:=bnw X;have n4:=nnw X;have W:=b3.trans (b4.mono b3.size);have G:=(W.block _ (by omega)).trans P;have m:=(W.block _ (by omega)).trans U;have i:=C.trans (W.mono C.size);obtain⟨aw,ax,ay,az,aA,xf⟩:=cl5 G;obtain⟨ah,ai,kf⟩:=cl2 n4;have aD:=hide X;have H4:=hide (Ya i (Ya G (Ya m (Ya (h.later i) (Ya (hB.same Qb i.size (fun q _ N=>i.block q N)) (Ya B A))))));by_cases Q:ft.1=0
 rotate_left
 ·
  have g0:(ft.1 != 0)=true:=by simp[Q]
  rw[if_pos Q]at A;subst A;obtain⟨W7,s,sc⟩:=sc2 m (Ji ft.1) (Ji ft.2);obtain⟨aB,aC,yf⟩:=cl2 m;have z:=hide (Ya (sc.below i (by omega)) sc.box);have H:=hide s;clear C P U s2 h hB B b3 X b4 n4 W G m i Q HH H4 s sc;go_upto_region 2 with fail;rw[<- Qa aD];go_wp2_with fail;rw[<- Qa H];obtain⟨K,L,zf⟩:=cl2 (Qa z).2;refine bodyPost_ret (v:=ftV (ft.1,ft.2)) (by simp[results,Tryz.results99,go_sem,K,L,ftV]) rfl ?_;exact⟨rfl,(Qa z).1⟩
 have g0:(ft.1 != 0)=false:=by simp[Q]
 rw[if_neg (by simp[Q])]at A;have HR:=hide A;clear C P U s2 h A hB B b3 X b4 n4 W G m i Q HH;go_upto_region 2 with fail;rw[<- Qa aD];go_wp2_with fail;clear aw ax ay az aA xf ah ai kf;go_loopw [20] (fun v wr=>∃(j:Nat),v = Ji (j:Int)/\j<=bn/\Hid (Below w4.heap.size w4 wr/\R=watsP p (x.body.drop j))) (fun v _=>bn - (intOf v).toNat)
 case atStart=>exact⟨0,rfl,Nat.zero_le _,hide ⟨Below.refl _ _,(Qa HR).symm⟩⟩
 obtain⟨j,rfl,hj,HI⟩:=hrel;obtain⟨F,a⟩:=Qa HI;obtain⟨i,G,m,h4,a8,B,_⟩:=Qa H4;by_cases aT:j<bn
 rotate_left
 ·
  have aK:x.body.drop j=[]:=List.drop_eq_nil_of_le (by omega);rw[aK]at a;have aR:R=(0,0):=a;subst aR;have av:=(F.block _ (Qaa m)).trans m;have aG:=i.trans (F.mono i.size);obtain⟨W7,s,sc⟩:=sc2 av (Ji 0) (Ji 0);obtain⟨aB,aC,yf⟩:=cl2 av;have z:=hide (Ya (sc.below aG (by omega)) sc.box);have H:=hide s;clear F a aK i G m h4 a8 B av aG HI s sc;go_wp2_with fail;rw[<- Qa H];obtain⟨K,L,zf⟩:=cl2 (Qa z).2;refine bodyPost_ret (v:=ftV (0,0)) (by simp[results,Tryz.results99,go_sem,K,L,ftV]) rfl ?_;exact⟨rfl,(Qa z).1⟩
 obtain⟨y,ab⟩:∃y,x.body[j]?=some y:=⟨x.body[j]'(by omega),List.getElem?_eq_getElem _⟩;rw[Qoa p ab]at a;obtain⟨gb,cap,cs,g,aO,aN,a0,aH,ag⟩:=(a8.same Qb F.size (fun q _ N=>F.block q N)).elem ab;simp only[Value.slice.injEq]at g;obtain⟨rfl,-,rfl⟩:=g;have a1:=Qg aH;obtain⟨pa,pn,pc,xa,xn,xc,ya,yn,yc,rfl,af,aI,aJ⟩:=aH;have L1:=Qud rfl ag;have N1:=Qpy wr rfl a1;obtain⟨w5,Y⟩:=JE (wr.alloc (.cells #[Ji y.kind,str y.atom.rel,.slice pa pn pc,Ji y.atom.at_,str y.op,Ji y.l.kind,Ji y.l.num,str y.l.txt,.slice xa xn xc,Ji y.l.at_,Ji y.r.kind,Ji y.r.num,str y.r.txt,.slice ya yn yc,Ji y.r.at_,Ji y.at_] 61));have b5:=bnw Y;have n5:=nnw Y;have aF:(ltStore (.pointer (Js wr.heap.size)) (.agg #[Ji y.kind,str y.atom.rel,.slice pa pn pc,Ji y.atom.at_,str y.op,Ji y.l.kind,Ji y.l.num,str y.l.txt,.slice xa xn xc,Ji y.l.at_,Ji y.r.kind,Ji y.r.num,str y.r.txt,.slice ya yn yc,Ji y.r.at_,Ji y.at_])).run Tryz.prog (wr.alloc (.cells #[Ji 0,Je,Jn,Ji 0,Je,Ji 0,Ji 0,Je,Jn,Ji 0,Ji 0,Ji 0,Je,Jn,Ji 0,Ji 0] 61)) = .ok () w5:=by rw[Y];exact N1
 have aE:(ltLoad (.pointer (some (Ja gb (j*16))))).run Tryz.prog wr = .ok (.agg #[Ji y.kind,str y.atom.rel,.slice pa pn pc,Ji y.atom.at_,str y.op,Ji y.l.kind,Ji y.l.num,str y.l.txt,.slice xa xn xc,Ji y.l.at_,Ji y.r.kind,Ji y.r.num,str y.r.txt,.slice ya yn yc,Ji y.r.at_,Ji y.at_]) wr:=L1;obtain⟨lb,a9⟩:=JF wr.heap.size;rw[a9]at n5;have f:=F.trans (b5.mono F.size);have k:=i.trans (f.mono i.size);obtain⟨aQ,aj,ak,al,am,ao,ap,aq,ar,au,a2,a3,a4,a5,a6,a7,lf⟩:=cl16 n5;have n:=(f.block _ (Qaa m)).trans m;have h5:=h4.later f;have ad:=hide a9;by_cases T:y.kind≠1/\y.kind≠2
 ·
  have g1:(y.kind != 1)=true:=by simpa using T.1
  have g2:(y.kind != 2)=true:=by simpa using T.2
  rw[if_pos T]at a;have Z:=hide (Ya f a);clear F a i G m h4 a8 B ab aO aN a0 ag a1 af aI aJ L1 N1 Y b5 n5 a9 f k n h5 T aj ak al am ao ap aq ar au a2 a3 a4 a5 a6 a7;go_upto_region 7 with fail;rw[Qa ad];go_wp2_with fail;go_roundw
  case rel=>exact⟨j+1,by simp,by omega,Z⟩
  case measure=>simp[intOf];omega
 rw[if_neg T]at a;have hk:y.kind=1∨y.kind=2:=by omega
 have t:=Qeo h5 y.atom (af.same Qag b5.size (fun q _ N=>b5.block q N));obtain⟨d,aM⟩:=JF (watP p y.atom);rw[aM]at t a;unfold ftV at t;have HK:=hide (Ya k (Ya n (Ya f a)));clear F a i G m h4 a8 B ab aO aN a0 ag a1 af aI aJ L1 N1 Y b5 n5 a9 f k n h5 T aM;rcases hk with S|S
 ·
  have g1:(y.kind != 1)=false:=by simp[S]
  clear S;go_upto_region 7 with fail;rw[Qa ad];go_wp2_with fail;refine t.mono ?_;clear t aE aF aQ aj ak al am ao ap aq ar au a2 a3 a4 a5 a6 a7 lf;rintro en w6⟨rfl,E⟩;obtain⟨k,n,f,a⟩:=Qa HK;obtain⟨w7,u⟩:=JE (w6.alloc (.cells #[Ji d.1,Ji d.2] 31));have M:=bnw u;have O:=nnw u;have o:=E.trans (M.mono E.size);have D:=(o.block _ (Qaa n)).trans n;have I:=k.trans (o.mono k.size);have J:=f.trans (o.mono f.size);obtain⟨ah,ai,kf⟩:=cl2 O;have V:=hide u;by_cases g:d.1=0
  ·
   have g4:(d.1 != 0)=false:=by simp[g]
   rw[if_neg (by simp[g])]at a;have Z:=hide (Ya J a);clear k n f a E u M O o D I J g;go_upto_region 9 with fail;rw[<- Qa V];go_wp2_with fail;go_roundw
   case rel=>exact⟨j+1,by simp,by omega,Z⟩
   case measure=>simp[intOf];omega
  have g4:(d.1 != 0)=true:=by simp[g]
  rw[if_pos g]at a;have ae:=hide a;obtain⟨W7,s,sc⟩:=sc2 D (Ji d.1) (Ji d.2);obtain⟨aB,aC,yf⟩:=cl2 D;have z:=hide (Ya (sc.below I (by omega)) sc.box);have H:=hide s;clear k n f a E u M O o D I J g HK HI s sc;go_upto_region 9 with fail;rw[<- Qa V];go_wp2_with fail;rw[<- Qa H];obtain⟨K,L,zf⟩:=cl2 (Qa z).2;refine bodyPost_ret (v:=ftV (d.1,d.2)) (by simp[results,Tryz.results99,go_sem,K,L,ftV]) rfl ?_;exact⟨by rw[Qa ae],(Qa z).1⟩
 have g1:(y.kind != 1)=true:=by simp[S]
 have g2:(y.kind != 2)=false:=by simp[S]
 clear S;go_upto_region 7 with fail;rw[Qa ad];go_wp2_with fail;refine t.mono ?_;clear t aE aF aQ aj ak al am ao ap aq ar au a2 a3 a4 a5 a6 a7 lf;rintro en w6⟨rfl,E⟩;obtain⟨k,n,f,a⟩:=Qa HK;obtain⟨w7,u⟩:=JE (w6.alloc (.cells #[Ji d.1,Ji d.2] 31));have M:=bnw u;have O:=nnw u;have o:=E.trans (M.mono E.size);have D:=(o.block _ (Qaa n)).trans n;have I:=k.trans (o.mono k.size);have J:=f.trans (o.mono f.size);obtain⟨ah,ai,kf⟩:=cl2 O;have V:=hide u;by_cases g:d.1=0
 ·
  have g4:(d.1 != 0)=false:=by simp[g]
  rw[if_neg (by simp[g])]at a;have Z:=hide (Ya J a);clear k n f a E u M O o D I J g;go_upto_region 9 with fail;rw[<- Qa V];go_wp2_with fail;go_roundw
  case rel=>exact⟨j+1,by simp,by omega,Z⟩
  case measure=>simp[intOf];omega
 have g4:(d.1 != 0)=true:=by simp[g]
 rw[if_pos g]at a;have ae:=hide a;obtain⟨W7,s,sc⟩:=sc2 D (Ji d.1) (Ji d.2);obtain⟨aB,aC,yf⟩:=cl2 D;have z:=hide (Ya (sc.below I (by omega)) sc.box);have H:=hide s;clear k n f a E u M O o D I J g HK HI s sc;go_upto_region 9 with fail;rw[<- Qa V];go_wp2_with fail;rw[<- Qa H];obtain⟨K,L,zf⟩:=cl2 (Qa z).2;refine bodyPost_ret (v:=ftV (d.1,d.2)) (by simp[results,Tryz.results99,go_sem,K,L,ftV]) rfl ?_;exact⟨by rw[Qa ae],(Qa z).1⟩
end
end
end Go.Proofs.YtkhndlnadhggkaaGreat
