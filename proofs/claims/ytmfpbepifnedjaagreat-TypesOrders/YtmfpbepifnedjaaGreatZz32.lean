/- types. -/
import Derived.Test.YtmfpbepifnedjaaGreatZz01
import Derived.Test.YtmfpbepifnedjaaGreatZz31
import Derived.Test.YtmfpbepifnedjaaGreatZz15
set_option maxRecDepth 100000
set_option maxHeartbeats 32000000
namespace Go.Proofs.YtmfpbepifnedjaaGreat
section
open Go.RowKit Go.Maps
section
variable {n0 n1:Nat}{p:Pg}{c:CatP}{wb mb:Nat}{sl:Value}{vs:List Fld}{w:World}
theorem Qgu(h:Wk n0 n1 p c wb mb sl vs w)(a:Atm){aa:Option Addr}{an ac:Nat}(ha:a.args.length=an)(hd:declP2 p a.rel=none):
  Calls Tryz.prog 112 #[.pointer (Js wb),.agg #[str a.rel,.slice aa an ac,Ji a.at_]] w fun en w'=>en = .returned (ftV (watP p a))/\Below w.heap.size w w':=by
 obtain⟨e,P,o,t,A,G⟩:=Qas w #[str a.rel,.slice aa an ac,Ji a.at_] 42
 have s:=hide (show ∀W:World,Below e.heap.size e W->W.heap[w.heap.size]?=some (.cells #[str a.rel,.slice aa an ac,Ji a.at_] 42 (0,0))/\W.cell? (Ja wb 2)=some (.func (.func 78) #[.pointer (Js c.cb)] #[]) from fun W E=>⟨(E.block _ (by omega)).trans t,(cl6 (h.later (o.trans (E.mono o.size))).box).2.2.1⟩)
 have Q:=hide (show ∀W:World,Below e.heap.size e W->Calls Tryz.prog 78 #[.pointer (Js c.cb),str a.rel] W fun en w'=>∃v,en = .returned v/\DcA (fun b=>b<n0) w' (none) v/\Below W.heap.size W w' from fun W E=>by have:=Qfr (Ct.later h.cat (o.trans (E.mono o.size))) a.rel;rw[hd]at this;exact this)
 have ab:=h.n1le
 have af:=h.lo.1
 have HB:=hide (show n0<=e.heap.size by omega)
 have HW:=hide P
 have HH:=hide (Ya o (Ya t (Ya A G)))
 obtain⟨R,B⟩:=JF (watP p a)
 rw[B]
 unfold watP at B
 rw[hd]at B
 have HR:=hide (Ya B ha)
 clear P o t A G h hd B ha
 go_enter Tryz.func112,Tryz.ntmps112
 go_upto_region 1 with fail
 rw[<- Qa HW]
 go_cut [5,6] from 7 (fun u v wc=>∃(N:Nat),u = .pointer (Js N)/\v = .bool false/\Hid (Below e.heap.size e wc/\wc.heap[N]?=some (.cells #[Je,Jn,.bool false,.bool false,Ji 0] 63 (0,0))/\True))
 case first=>
  go_wp2_with fail
  refine Qav (tr:=(.take 0 (.take 1 (.take 2 (.take 3 (.take 4 (.take 5 (.two 6 10 (.take 7 (.take 8 (.take 9 (.one 10 (.one 11 (.take 12 .nil)))))) (.one 6 (.take 7 (.take 8 (.take 9 (.one 11 (.take 12 .nil)))))))))))))) (fun W=>W.heap[w.heap.size]?=some (.cells #[str a.rel,.slice aa an ac,Ji a.at_] 42 (0,0))/\W.cell? (Ja wb 2)=some (.func (.func 78) #[.pointer (Js c.cb)] #[])) mixedO (by kernel_rfl) rfl (by kernel_rfl) (fun PP D=>?_)
  refine tT (v:=?_) (fun w' hw=>?_) ?_
  rotate_left
  ·(obtain⟨d,i⟩:=hw;obtain⟨k,j,g,l⟩:=cl3 d;go_simp<;>rfl)
  refine tT (v:=?_) (fun w' hw=>?_) ?_
  rotate_left
  ·(obtain⟨d,i⟩:=hw;obtain⟨k,j,g,l⟩:=cl3 d;go_simp<;>rfl)
  refine tT (v:=?_) (fun w' hw=>?_) ?_
  rotate_left
  ·(obtain⟨d,i⟩:=hw;obtain⟨k,j,g,l⟩:=cl3 d;go_simp<;>rfl)
  refine tT (v:=?_) (fun w' hw=>?_) ?_
  rotate_left
  ·(obtain⟨d,i⟩:=hw;obtain⟨k,j,g,l⟩:=cl3 d;go_simp<;>rfl)
  refine tT (v:=?_) (fun w' hw=>?_) ?_
  rotate_left
  ·(obtain⟨d,i⟩:=hw;obtain⟨k,j,g,l⟩:=cl3 d;go_simp<;>rfl)
  refine tT (v:=?_) (fun w' hw=>?_) ?_
  rotate_left
  ·(obtain⟨d,i⟩:=hw;obtain⟨k,j,g,l⟩:=cl3 d;go_simp<;>rfl)
  refine Qbu rfl rfl (Qa s e.drew (Below.refl _ e).drew) (fun K f=>?_) (fun K f=>?_)
  ·
   go_simp
   refine(Qa Q e.drew (Below.refl _ e).drew).mono ?_
   rintro en q⟨v5,rfl,z,x⟩
   have O:=z
   subst z
   show K _ _
   refine f _ _ ?_
   clear f K
   have U:Below e.heap.size e q:=(Below.refl _ e).drew.trans x
   have m:=U
   refine tT (v:=?_) (fun w' hw=>?_) ?_
   rotate_left
   ·(obtain⟨d,i⟩:=hw;obtain⟨k,j,g,l⟩:=cl3 d;go_simp<;>rfl)
   refine tT (v:=?_) (fun w' hw=>?_) ?_
   rotate_left
   ·(obtain⟨d,i⟩:=hw;obtain⟨k,j,g,l⟩:=cl3 d;go_simp<;>rfl)
   refine tT (v:=?_) (fun w' hw=>?_) ?_
   rotate_left
   ·(obtain⟨d,i⟩:=hw;obtain⟨k,j,g,l⟩:=cl3 d;go_simp<;>rfl)
   refine Qag rfl (Qa s q m) (fun K f=>?_)
   go_simp
   refine f _ _ ?_
   clear f K
   have V:Below q.heap.size q (q.alloc (.cells #[Je,Jn,.bool false,.bool false,Ji 0] 63)):=(Below.refl _ q).alloc (Nat.le_refl _) _
   refine Qag rfl (Qa s _ (m.trans (V.mono m.size))) (fun K f=>?_)
   go_simp
   refine f _ _ ?_
   clear f K
   obtain⟨Y,n⟩:=JE (q.alloc (.cells #[Je,Jn,.bool false,.bool false,Ji 0] 63))
   have b7:=bnw n
   have X:=nnw n
   rw[<- n]
   have r:=m.trans (b7.mono m.size)
   refine tT (v:=?_) (fun w' hw=>?_) ?_
   rotate_left
   ·(obtain⟨d,i⟩:=hw;obtain⟨k,j,g,l⟩:=cl3 d;go_simp<;>rfl)
   refine Qap (Qa s _ r) (D _ _ ?_)
   clear D PP
   have I:=hide (Ya r (Ya X (show True from trivial)))
   clear x U m V n b7 X r
   go_wp2_with fail
   go_meet
   exact⟨_,rfl,rfl,I⟩
  go_simp
  refine f _ _ ?_
  clear f K
  obtain⟨H,C⟩:=JE ((e.alloc (.cells #[Je,Jn,.bool false,.bool false,Ji 0] 63)).drew)
  have b4:Below e.heap.size e H:=by rw[C];exact((Below.refl _ _).alloc (Nat.le_refl _) _).drew
  have M:H.heap[e.heap.size]?=some (.cells #[Je,Jn,.bool false,.bool false,Ji 0] 63 (0,0)):=by rw[C];exact heap_alloc_new e _
  have y:=b4
  rw[<- C]
  clear C
  refine Qag rfl (Qa s H y) (fun K f=>?_)
  go_simp
  refine(Qa Q H y).mono ?_
  rintro en q⟨v5,rfl,z,x⟩
  have O:=z
  subst z
  show K _ _
  refine f _ _ ?_
  clear f K
  have m:=y.trans (x.mono y.size)
  have L:=(x.block _ (Qaa M)).trans M
  refine tT (v:=?_) (fun w' hw=>?_) ?_
  rotate_left
  ·(obtain⟨d,i⟩:=hw;obtain⟨k,j,g,l⟩:=cl3 d;go_simp<;>rfl)
  refine tT (v:=?_) (fun w' hw=>?_) ?_
  rotate_left
  ·(obtain⟨d,i⟩:=hw;obtain⟨k,j,g,l⟩:=cl3 d;go_simp<;>rfl)
  refine tT (v:=?_) (fun w' hw=>?_) ?_
  rotate_left
  ·(obtain⟨d,i⟩:=hw;obtain⟨k,j,g,l⟩:=cl3 d;go_simp<;>rfl)
  obtain⟨Y,n,sc⟩:=sc5 L (Je) (Jn) (.bool false) (.bool false) (Ji 0)
  obtain⟨a1,a3,a8,a7,a9,yf⟩:=cl5 L
  refine Qag rfl (Qa s q m) (fun K f=>?_)
  go_simp
  rw[<- n]
  refine f _ _ ?_
  clear f K
  have r:=sc.below m (Nat.le_refl _)
  refine tT (v:=?_) (fun w' hw=>?_) ?_
  rotate_left
  ·(obtain⟨d,i⟩:=hw;obtain⟨k,j,g,l⟩:=cl3 d;go_simp<;>rfl)
  refine Qap (Qa s _ r) (D _ _ ?_)
  clear D PP
  have I:=hide (Ya r (Ya sc.box (show True from trivial)))
  clear b4 M y x m L n sc r
  go_wp2_with fail
  go_meet
  exact⟨_,rfl,rfl,I⟩
 obtain⟨N,rfl,rfl,HE⟩:=hcut
 obtain⟨WX,a0⟩:=JE wc
 subst a0
 obtain⟨F,nX,O⟩:=Qa HE
 obtain⟨o,t,A,G⟩:=Qa HH
 have T:=(F.block _ (by omega)).trans t
 have J:=(F.block _ (by omega)).trans A
 have S:=o.trans (F.mono o.size)
 obtain⟨a6,ad,ae,xf⟩:=cl3 T
 obtain⟨Y,n,sc⟩:=sc2 J (Ji 6) (Ji a.at_)
 obtain⟨a1,a3,yf⟩:=cl2 J
 have Z:=hide (Ya (sc.below S (by omega)) sc.box)
 have a5:=hide n
 clear o t A G F nX T J S O n sc
 go_wp2_with fail
 rw[<- Qa a5]
 obtain⟨a4,a2,zf⟩:=cl2 (Qa Z).2
 refine bodyPost_ret (v:=ftV (6,a.at_)) (by simp[results,Tryz.results112,go_sem,a4,a2,ftV]) rfl ?_
 exact⟨by rw[<- (Qa HR).1],(Qa Z).1⟩
theorem Qgv(h:Wk n0 n1 p c wb mb sl vs w)(a:Atm){aa:Option Addr}{an ac:Nat}(ha:a.args.length=an){d:Dcl}(hd:declP2 p a.rel=some d):
  Calls Tryz.prog 112 #[.pointer (Js wb),.agg #[str a.rel,.slice aa an ac,Ji a.at_]] w fun en w'=>en = .returned (ftV (watP p a))/\Below w.heap.size w w':=by
 obtain⟨g,a3,r,B,F,L⟩:=Qas w #[str a.rel,.slice aa an ac,Ji a.at_] 42
 have C:=hide (show ∀W:World,Below g.heap.size g W->W.heap[w.heap.size]?=some (.cells #[str a.rel,.slice aa an ac,Ji a.at_] 42 (0,0))/\W.cell? (Ja wb 2)=some (.func (.func 78) #[.pointer (Js c.cb)] #[]) from fun W Q=>⟨(Q.block _ (by omega)).trans B,(cl6 (h.later (r.trans (Q.mono r.size))).box).2.2.1⟩)
 have a4:=hide (show ∀W:World,Below g.heap.size g W->Calls Tryz.prog 78 #[.pointer (Js c.cb),str a.rel] W fun en w'=>∃v,en = .returned v/\DcA (fun b=>b<n0) w' (some d) v/\Below W.heap.size W w' from fun W Q=>by have:=Qfr (Ct.later h.cat (r.trans (Q.mono r.size))) a.rel;rw[hd]at this;exact this)
 have ag:=h.n1le
 have aj:=h.lo.1
 have HB:=hide (show n0<=g.heap.size by omega)
 have HW:=hide a3
 have HH:=hide (Ya r (Ya B (Ya F L)))
 obtain⟨R,M⟩:=JF (watP p a)
 rw[M]
 unfold watP at M
 rw[hd]at M
 have U:=hide (Ya M ha)
 clear a3 r B F L h hd M ha
 go_enter Tryz.func112,Tryz.ntmps112
 go_upto_region 1 with fail
 rw[<- Qa HW]
 go_cut [5,6] from 7 (fun u v wc=>∃(db:Nat) (z:Option Addr) (t:Nat),u = .pointer (Js db)/\v = .bool true/\Hid (Below g.heap.size g wc/\wc.heap[db]?=some (.cells #[str d.name,.slice z d.cols.length t,.bool d.input,.bool d.output,Ji d.at_] 63 (0,0))/\LsAt PF 2 (fun b=>b<n0) wc (.slice z d.cols.length t) d.cols))
 case first=>
  go_wp2_with fail
  refine Qav (tr:=(.take 0 (.take 1 (.take 2 (.take 3 (.take 4 (.take 5 (.two 6 10 (.take 7 (.take 8 (.take 9 (.one 10 (.one 11 (.take 12 .nil)))))) (.one 6 (.take 7 (.take 8 (.take 9 (.one 11 (.take 12 .nil)))))))))))))) (fun W=>W.heap[w.heap.size]?=some (.cells #[str a.rel,.slice aa an ac,Ji a.at_] 42 (0,0))/\W.cell? (Ja wb 2)=some (.func (.func 78) #[.pointer (Js c.cb)] #[])) mixedO (by kernel_rfl) rfl (by kernel_rfl) (fun PP P=>?_)
  refine tT (v:=?_) (fun w' hw=>?_) ?_
  rotate_left
  ·(obtain⟨f,m⟩:=hw;obtain⟨n,k,j,o⟩:=cl3 f;go_simp<;>rfl)
  refine tT (v:=?_) (fun w' hw=>?_) ?_
  rotate_left
  ·(obtain⟨f,m⟩:=hw;obtain⟨n,k,j,o⟩:=cl3 f;go_simp<;>rfl)
  refine tT (v:=?_) (fun w' hw=>?_) ?_
  rotate_left
  ·(obtain⟨f,m⟩:=hw;obtain⟨n,k,j,o⟩:=cl3 f;go_simp<;>rfl)
  refine tT (v:=?_) (fun w' hw=>?_) ?_
  rotate_left
  ·(obtain⟨f,m⟩:=hw;obtain⟨n,k,j,o⟩:=cl3 f;go_simp<;>rfl)
  refine tT (v:=?_) (fun w' hw=>?_) ?_
  rotate_left
  ·(obtain⟨f,m⟩:=hw;obtain⟨n,k,j,o⟩:=cl3 f;go_simp<;>rfl)
  refine tT (v:=?_) (fun w' hw=>?_) ?_
  rotate_left
  ·(obtain⟨f,m⟩:=hw;obtain⟨n,k,j,o⟩:=cl3 f;go_simp<;>rfl)
  refine Qbu rfl rfl (Qa C g.drew (Below.refl _ g).drew) (fun K i=>?_) (fun K i=>?_)
  ·
   go_simp
   refine(Qa a4 g.drew (Below.refl _ g).drew).mono ?_
   rintro en x⟨v5,rfl,a1,G⟩
   obtain⟨z,t,rfl,y⟩:=a1
   show K _ _
   refine i _ _ ?_
   clear i K
   have a6:Below g.heap.size g x:=(Below.refl _ g).drew.trans G
   have s:=a6
   refine tT (v:=?_) (fun w' hw=>?_) ?_
   rotate_left
   ·(obtain⟨f,m⟩:=hw;obtain⟨n,k,j,o⟩:=cl3 f;go_simp<;>rfl)
   refine tT (v:=?_) (fun w' hw=>?_) ?_
   rotate_left
   ·(obtain⟨f,m⟩:=hw;obtain⟨n,k,j,o⟩:=cl3 f;go_simp<;>rfl)
   refine tT (v:=?_) (fun w' hw=>?_) ?_
   rotate_left
   ·(obtain⟨f,m⟩:=hw;obtain⟨n,k,j,o⟩:=cl3 f;go_simp<;>rfl)
   refine Qag rfl (Qa C x s) (fun K i=>?_)
   go_simp
   refine i _ _ ?_
   clear i K
   have b6:Below x.heap.size x (x.alloc (.cells #[Je,Jn,.bool false,.bool false,Ji 0] 63)):=(Below.refl _ x).alloc (Nat.le_refl _) _
   refine Qag rfl (Qa C _ (s.trans (b6.mono s.size))) (fun K i=>?_)
   go_simp
   refine i _ _ ?_
   clear i K
   obtain⟨W7,l⟩:=JE (x.alloc (.cells #[str d.name,.slice z d.cols.length t,.bool d.input,.bool d.output,Ji d.at_] 63))
   have T:=bnw l
   have n7:=nnw l
   rw[<- l]
   have A:=s.trans (T.mono s.size)
   refine tT (v:=?_) (fun w' hw=>?_) ?_
   rotate_left
   ·(obtain⟨f,m⟩:=hw;obtain⟨n,k,j,o⟩:=cl3 f;go_simp<;>rfl)
   refine Qap (Qa C _ A) (P _ _ ?_)
   clear P PP
   have V:=hide (Ya A (Ya n7 (y.same Qbb T.size (fun q _ hl=>T.block q hl))))
   clear y G a6 s b6 l T n7 A
   go_wp2_with fail
   go_meet
   exact⟨_,z,t,rfl,rfl,V⟩
  go_simp
  refine i _ _ ?_
  clear i K
  obtain⟨S,O⟩:=JE ((g.alloc (.cells #[Je,Jn,.bool false,.bool false,Ji 0] 63)).drew)
  have b4:Below g.heap.size g S:=by rw[O];exact((Below.refl _ _).alloc (Nat.le_refl _) _).drew
  have n4:S.heap[g.heap.size]?=some (.cells #[Je,Jn,.bool false,.bool false,Ji 0] 63 (0,0)):=by rw[O];exact heap_alloc_new g _
  have H:=b4
  rw[<- O]
  clear O
  refine Qag rfl (Qa C S H) (fun K i=>?_)
  go_simp
  refine(Qa a4 S H).mono ?_
  rintro en x⟨v5,rfl,a1,G⟩
  obtain⟨z,t,rfl,y⟩:=a1
  show K _ _
  refine i _ _ ?_
  clear i K
  have s:=H.trans (G.mono H.size)
  have n5:=(G.block _ (Qaa n4)).trans n4
  refine tT (v:=?_) (fun w' hw=>?_) ?_
  rotate_left
  ·(obtain⟨f,m⟩:=hw;obtain⟨n,k,j,o⟩:=cl3 f;go_simp<;>rfl)
  refine tT (v:=?_) (fun w' hw=>?_) ?_
  rotate_left
  ·(obtain⟨f,m⟩:=hw;obtain⟨n,k,j,o⟩:=cl3 f;go_simp<;>rfl)
  refine tT (v:=?_) (fun w' hw=>?_) ?_
  rotate_left
  ·(obtain⟨f,m⟩:=hw;obtain⟨n,k,j,o⟩:=cl3 f;go_simp<;>rfl)
  obtain⟨W7,l,sc⟩:=sc5 n5 (str d.name) (.slice z d.cols.length t) (.bool d.input) (.bool d.output) (Ji d.at_)
  obtain⟨a5,a8,ap,ao,af,yf⟩:=cl5 n5
  refine Qag rfl (Qa C x s) (fun K i=>?_)
  go_simp
  rw[<- l]
  refine i _ _ ?_
  clear i K
  have A:=sc.below s (Nat.le_refl _)
  refine tT (v:=?_) (fun w' hw=>?_) ?_
  rotate_left
  ·(obtain⟨f,m⟩:=hw;obtain⟨n,k,j,o⟩:=cl3 f;go_simp<;>rfl)
  refine Qap (Qa C _ A) (P _ _ ?_)
  clear P PP
  have V:=hide (Ya A (Ya sc.box (y.same Qbb (by rw[sc.size];exact Nat.le_refl _) (fun q hq _=>sc.oth q (by have am:q<n0:=hq;have:=Qa HB;omega)))))
  clear y b4 n4 H G s n5 l sc A
  go_wp2_with fail
  go_meet
  exact⟨_,z,t,rfl,rfl,V⟩
 obtain⟨db,z,t,rfl,rfl,HE⟩:=hcut
 obtain⟨WX,a9⟩:=JE wc
 subst a9
 obtain⟨I,nX,y⟩:=Qa HE
 obtain⟨r,B,F,L⟩:=Qa HH
 have a0:=(I.block _ (by omega)).trans B
 have D:=(I.block _ (by omega)).trans F
 have N:=r.trans (I.mono r.size)
 obtain⟨al,ah,ar,xf⟩:=cl3 a0
 obtain⟨aq,ab,ak,ai,ae,df⟩:=cl5 nX
 have ad:=y.cap rfl
 obtain⟨dn,a2⟩:=JF d.cols.length
 rw[a2]at ab ad
 have a7:=hide a2
 clear a2
 by_cases e:an=dn
 ·
  have g1:((an:Int) != (dn:Int))=false:=by simp[e]
  have E:=hide e
  clear e
  obtain⟨W7,l,sc⟩:=sc2 D (Ji 0) (Ji 0)
  obtain⟨a5,a8,yf⟩:=cl2 D
  have J:=hide (Ya (sc.below N (by omega)) sc.box)
  have Z:=hide l
  clear r B F L I nX a0 D N y l sc
  go_wp2_with fail
  rw[<- Qa Z]
  obtain⟨Y,X,zf⟩:=cl2 (Qa J).2
  refine bodyPost_ret (v:=ftV (0,0)) (by simp[results,Tryz.results112,go_sem,Y,X,ftV]) rfl ?_
  exact⟨by rw[<- (Qa U).1,if_neg (by simp[(Qa U).2,Qa a7,Qa E])],(Qa J).1⟩
 have g1:((an:Int) != (dn:Int))=true:=by simp;omega
 have E:=hide e
 clear e
 obtain⟨W7,l,sc⟩:=sc2 D (Ji 14) (Ji a.at_)
 obtain⟨a5,a8,yf⟩:=cl2 D
 have J:=hide (Ya (sc.below N (by omega)) sc.box)
 have Z:=hide l
 clear r B F L I nX a0 D N y l sc
 go_wp2_with fail
 rw[<- Qa Z]
 obtain⟨Y,X,zf⟩:=cl2 (Qa J).2
 refine bodyPost_ret (v:=ftV (14,a.at_)) (by simp[results,Tryz.results112,go_sem,Y,X,ftV]) rfl ?_
 exact⟨by rw[<- (Qa U).1,if_pos (by rw[(Qa U).2,Qa a7];exact Qa E)],(Qa J).1⟩
theorem Qet(h:Wk n0 n1 p c wb mb sl vs w)(a:Atm){aa:Option Addr}{an ac:Nat}(hA:LsAt PE 5 (fun b=>b<n0) w (.slice aa an ac) a.args):
  Calls Tryz.prog 112 #[.pointer (Js wb),.agg #[str a.rel,.slice aa an ac,Ji a.at_]] w fun en w'=>en = .returned (ftV (watP p a))/\Below w.heap.size w w':=by
 have g:a.args.length=an:=by obtain⟨_,_,e⟩:=hA.sl;cases e;rfl
 cases f:declP2 p a.rel with
 |none=>exact Qgu h a g f
 |some d=>exact Qgv h a g f
end
theorem Quc{w:World}{b o:Nat}{cs:List Value}(hl:cs.length=16)(h:∀q c,cs[q]?=some c->w.cell? (Ja b (o+q))=some c):(ltLoad (.pointer (some (Ja b o)))).run Tryz.prog w = .ok (.agg cs.toArray) w:=
 run_loadAt_mid w b o 61 cs _ (fun q v a=>h q v a) Tryz.underlying61 rfl (by rw[hl];exact Qdn)
theorem Qpv(w:World){cs:List Value}(hl:cs.length=16)(h1:∀c∈cs,c.oneCell'=true):(ltStore (.pointer (Js w.heap.size)) (.agg cs.toArray)).run Tryz.prog (w.alloc (.cells #[Ji 0,Je,Jn,Ji 0,Je,Ji 0,Ji 0,Je,Jn,Ji 0,Ji 0,Ji 0,Je,Jn,Ji 0,Ji 0] 61)) = .ok () (w.alloc (.cells cs.toArray 61)):=
 run_storeAt_new w 61 _ _ (by rw[List.size_toArray,hl];exact Qdn) (by simp[hl]) (by simpa using h1)
theorem Qoa(p:Pg){ls:List Lt}{j:Nat}{y:Lt}(h:ls[j]?=some y):watsP p (ls.drop j)=if y.kind≠1/\y.kind≠2 then watsP p (ls.drop (j+1)) else if (watP p y.atom).1≠0 then watP p y.atom else watsP p (ls.drop (j+1)):=by
 rw[List.drop_eq_getElem_cons (List.getElem?_eq_some_iff.1 h).1,(List.getElem?_eq_some_iff.1 h).2]
 rfl
section
variable {n0 n1:Nat}{p:Pg}{c:CatP}{wb mb:Nat}{sl:Value}{vs:List Fld}{w:World}
attribute [local go_sem ↓] Qbh Qbo
theorem Qgw(h:Wk n0 n1 p c wb mb sl vs w)(x:Cls){aa ba:Option Addr}{an ac bn bc:Nat}(hA:LsAt PE 5 (fun b=>b<n0) w (.slice aa an ac) x.head.args)(hB:LsAt PLt 16 (fun b=>b<n0) w (.slice ba bn bc) x.body):
  Calls Tryz.prog 99 #[.pointer (Js wb),.agg #[str x.head.rel,.slice aa an ac,Ji x.head.at_,.slice ba bn bc,Ji x.at_]] w fun en w'=>en = .returned (ftV (if (watP p x.head).1≠0 then watP p x.head else watsP p x.body))/\Below w.heap.size w w':=by
 obtain⟨w2,aF,C,M,S,s2⟩:=Qas w #[str x.head.rel,.slice aa an ac,Ji x.head.at_,.slice ba bn bc,Ji x.at_] 45
 have s:=Qet (h.later C) x.head (hA.same Qaf C.size (fun q _ P=>C.block q P))
 obtain⟨ae,ao,au,ad,aA,xf⟩:=cl5 M
 obtain⟨R,A⟩:=JF ((if (watP p x.head).1≠0 then watP p x.head else watsP p x.body))
 rw[A]
 obtain⟨ft,aD⟩:=JF (watP p x.head)
 rw[aD]at s A
 unfold ftV at s
 have B:x.body.length=bn:=by obtain⟨_,_,e⟩:=hB.sl;cases e;rfl
 have aT:=hB.cap rfl
 have HW:=hide aF
 have HH:=hide (Ya C (Ya M (Ya S (Ya s2 (Ya h (Ya A (Ya hB B)))))))
 clear aF C M S s2 h hA hB A aD B
 go_enter Tryz.func99,Tryz.ntmps99
 go_upto_region 1 with fail
 rw[<- Qa HW]
 go_wp2_with fail
 refine s.mono ?_
 clear s ae ao au ad aA xf
 rintro en w3⟨rfl,b3⟩
 obtain⟨C,M,S,s2,h,A,hB,B⟩:=Qa HH
 obtain⟨w4,Y⟩:=JE (w3.alloc (.cells #[Ji ft.1,Ji ft.2] 31))
 have b4:=bnw Y
 have n4:=nnw Y
 have W:=b3.trans (b4.mono b3.size)
 have G:=(W.block _ (by omega)).trans M
 have k:=(W.block _ (by omega)).trans S
 have i:=C.trans (W.mono C.size)
 obtain⟨ae,ao,au,ad,aA,xf⟩:=cl5 G
 obtain⟨aC,ap,kf⟩:=cl2 n4
 have aI:=hide Y
 have H4:=hide (Ya i (Ya G (Ya k (Ya (h.later i) (Ya (hB.same Qba i.size (fun q _ P=>i.block q P)) (Ya B A))))))
 by_cases T:ft.1=0
 ·
  have g0:(ft.1 != 0)=false:=by simp[T]
  rw[if_neg (by simp[T])]at A
  have HR:=hide A
  clear C M S s2 h A hB B b3 Y b4 n4 W G k i T HH
  go_upto_region 2 with fail
  rw[<- Qa aI]
  go_wp2_with fail
  clear ae ao au ad aA xf aC ap kf
  go_loopw [20] (fun v wr=>∃(j:Nat),v = Ji (j:Int)/\j<=bn/\Hid (Below w4.heap.size w4 wr/\R=watsP p (x.body.drop j))) (fun v _=>bn - (intOf v).toNat)
  case atStart=>exact⟨0,rfl,Nat.zero_le _,hide ⟨Below.refl _ _,(Qa HR).symm⟩⟩
  obtain⟨j,rfl,hj,HI⟩:=hrel
  obtain⟨F,a⟩:=Qa HI
  obtain⟨i,G,k,h4,a9,B,_⟩:=Qa H4
  by_cases aS:j<bn
  ·
   obtain⟨y,ab⟩:∃y,x.body[j]?=some y:=⟨x.body[j]'(by omega),List.getElem?_eq_getElem _⟩
   rw[Qoa p ab]at a
   obtain⟨gb,cap,cs,g,aP,aL,a2,aO,aj⟩:=(a9.same Qba F.size (fun q _ P=>F.block q P)).elem ab
   simp only[Value.slice.injEq]at g
   obtain⟨rfl,-,rfl⟩:=g
   have a1:=Qge aO
   obtain⟨pa,pn,pc,xa,xn,xc,ya,yn,yc,rfl,aq,aE,aM⟩:=aO
   have L1:=Quc rfl aj
   have N1:=Qpv wr rfl a1
   obtain⟨w5,X⟩:=JE (wr.alloc (.cells #[Ji y.kind,str y.atom.rel,.slice pa pn pc,Ji y.atom.at_,str y.op,Ji y.l.kind,Ji y.l.num,str y.l.txt,.slice xa xn xc,Ji y.l.at_,Ji y.r.kind,Ji y.r.num,str y.r.txt,.slice ya yn yc,Ji y.r.at_,Ji y.at_] 61))
   have b5:=bnw X
   have n5:=nnw X
   have aG:(ltStore (.pointer (Js wr.heap.size)) (.agg #[Ji y.kind,str y.atom.rel,.slice pa pn pc,Ji y.atom.at_,str y.op,Ji y.l.kind,Ji y.l.num,str y.l.txt,.slice xa xn xc,Ji y.l.at_,Ji y.r.kind,Ji y.r.num,str y.r.txt,.slice ya yn yc,Ji y.r.at_,Ji y.at_])).run Tryz.prog (wr.alloc (.cells #[Ji 0,Je,Jn,Ji 0,Je,Ji 0,Ji 0,Je,Jn,Ji 0,Ji 0,Ji 0,Je,Jn,Ji 0,Ji 0] 61)) = .ok () w5:=by rw[X];exact N1
   have aK:(ltLoad (.pointer (some (Ja gb (j*16))))).run Tryz.prog wr = .ok (.agg #[Ji y.kind,str y.atom.rel,.slice pa pn pc,Ji y.atom.at_,str y.op,Ji y.l.kind,Ji y.l.num,str y.l.txt,.slice xa xn xc,Ji y.l.at_,Ji y.r.kind,Ji y.r.num,str y.r.txt,.slice ya yn yc,Ji y.r.at_,Ji y.at_]) wr:=L1
   obtain⟨lb,a8⟩:=JF wr.heap.size
   rw[a8]at n5
   have f:=F.trans (b5.mono F.size)
   have m:=i.trans (f.mono i.size)
   obtain⟨aH,aw,aB,ax,ar,ah,av,af,ak,ay,a0,a4,a3,a5,a7,a6,lf⟩:=cl16 n5
   have n:=(f.block _ (Qaa k)).trans k
   have h5:=h4.later f
   have az:=hide a8
   by_cases Q:y.kind≠1/\y.kind≠2
   ·
    have g1:(y.kind != 1)=true:=by simpa using Q.1
    have g2:(y.kind != 2)=true:=by simpa using Q.2
    rw[if_pos Q]at a
    have Z:=hide (Ya f a)
    clear F a i G k h4 a9 B ab aP aL a2 aj a1 aq aE aM L1 N1 X b5 n5 a8 f m n h5 Q aw aB ax ar ah av af ak ay a0 a4 a3 a5 a7 a6
    go_upto_region 7 with fail
    rw[Qa az]
    go_wp2_with fail
    go_roundw
    case rel=>exact⟨j+1,by simp,by omega,Z⟩
    case measure=>simp[intOf];omega
   rw[if_neg Q]at a
   have hk:y.kind=1∨y.kind=2:=by omega
   have s:=Qet h5 y.atom (aq.same Qaf b5.size (fun q _ P=>b5.block q P))
   obtain⟨d,aJ⟩:=JF (watP p y.atom)
   rw[aJ]at s a
   unfold ftV at s
   have HK:=hide (Ya m (Ya n (Ya f a)))
   clear F a i G k h4 a9 B ab aP aL a2 aj a1 aq aE aM L1 N1 X b5 n5 a8 f m n h5 Q aJ
   rcases hk with U|U
   ·
    have g1:(y.kind != 1)=false:=by simp[U]
    clear U
    go_upto_region 7 with fail
    rw[Qa az]
    go_wp2_with fail
    refine s.mono ?_
    clear s aK aG aH aw aB ax ar ah av af ak ay a0 a4 a3 a5 a7 a6 lf
    rintro en w6⟨rfl,E⟩
    obtain⟨m,n,f,a⟩:=Qa HK
    obtain⟨w7,o⟩:=JE (w6.alloc (.cells #[Ji d.1,Ji d.2] 31))
    have O:=bnw o
    have N:=nnw o
    have t:=E.trans (O.mono E.size)
    have D:=(t.block _ (Qaa n)).trans n
    have H:=m.trans (t.mono m.size)
    have K:=f.trans (t.mono f.size)
    obtain⟨aC,ap,kf⟩:=cl2 N
    have V:=hide o
    by_cases g:d.1=0
    ·
     have g4:(d.1 != 0)=false:=by simp[g]
     rw[if_neg (by simp[g])]at a
     have Z:=hide (Ya K a)
     clear m n f a E o O N t D H K g
     go_upto_region 9 with fail
     rw[<- Qa V]
     go_wp2_with fail
     go_roundw
     case rel=>exact⟨j+1,by simp,by omega,Z⟩
     case measure=>simp[intOf];omega
    have g4:(d.1 != 0)=true:=by simp[g]
    rw[if_pos g]at a
    have am:=hide a
    obtain⟨W7,u,sc⟩:=sc2 D (Ji d.1) (Ji d.2)
    obtain⟨ag,ai,yf⟩:=cl2 D
    have z:=hide (Ya (sc.below H (by omega)) sc.box)
    have L:=hide u
    clear m n f a E o O N t D H K g HK HI u sc
    go_upto_region 9 with fail
    rw[<- Qa V]
    go_wp2_with fail
    rw[<- Qa L]
    obtain⟨J,I,zf⟩:=cl2 (Qa z).2
    refine bodyPost_ret (v:=ftV (d.1,d.2)) (by simp[results,Tryz.results99,go_sem,J,I,ftV]) rfl ?_
    exact⟨by rw[Qa am],(Qa z).1⟩
   have g1:(y.kind != 1)=true:=by simp[U]
   have g2:(y.kind != 2)=false:=by simp[U]
   clear U
   go_upto_region 7 with fail
   rw[Qa az]
   go_wp2_with fail
   refine s.mono ?_
   clear s aK aG aH aw aB ax ar ah av af ak ay a0 a4 a3 a5 a7 a6 lf
   rintro en w6⟨rfl,E⟩
   obtain⟨m,n,f,a⟩:=Qa HK
   obtain⟨w7,o⟩:=JE (w6.alloc (.cells #[Ji d.1,Ji d.2] 31))
   have O:=bnw o
   have N:=nnw o
   have t:=E.trans (O.mono E.size)
   have D:=(t.block _ (Qaa n)).trans n
   have H:=m.trans (t.mono m.size)
   have K:=f.trans (t.mono f.size)
   obtain⟨aC,ap,kf⟩:=cl2 N
   have V:=hide o
   by_cases g:d.1=0
   ·
    have g4:(d.1 != 0)=false:=by simp[g]
    rw[if_neg (by simp[g])]at a
    have Z:=hide (Ya K a)
    clear m n f a E o O N t D H K g
    go_upto_region 9 with fail
    rw[<- Qa V]
    go_wp2_with fail
    go_roundw
    case rel=>exact⟨j+1,by simp,by omega,Z⟩
    case measure=>simp[intOf];omega
   have g4:(d.1 != 0)=true:=by simp[g]
   rw[if_pos g]at a
   have am:=hide a
   obtain⟨W7,u,sc⟩:=sc2 D (Ji d.1) (Ji d.2)
   obtain⟨ag,ai,yf⟩:=cl2 D
   have z:=hide (Ya (sc.below H (by omega)) sc.box)
   have L:=hide u
   clear m n f a E o O N t D H K g HK HI u sc
   go_upto_region 9 with fail
   rw[<- Qa V]
   go_wp2_with fail
   rw[<- Qa L]
   obtain⟨J,I,zf⟩:=cl2 (Qa z).2
   refine bodyPost_ret (v:=ftV (d.1,d.2)) (by simp[results,Tryz.results99,go_sem,J,I,ftV]) rfl ?_
   exact⟨by rw[Qa am],(Qa z).1⟩
  have aQ:x.body.drop j=[]:=List.drop_eq_nil_of_le (by omega)
  rw[aQ]at a
  have aR:R=(0,0):=a
  subst aR
  have al:=(F.block _ (Qaa k)).trans k
  have aN:=i.trans (F.mono i.size)
  obtain⟨W7,u,sc⟩:=sc2 al (Ji 0) (Ji 0)
  obtain⟨ag,ai,yf⟩:=cl2 al
  have z:=hide (Ya (sc.below aN (by omega)) sc.box)
  have L:=hide u
  clear F a aQ i G k h4 a9 B al aN HI u sc
  go_wp2_with fail
  rw[<- Qa L]
  obtain⟨J,I,zf⟩:=cl2 (Qa z).2
  refine bodyPost_ret (v:=ftV (0,0)) (by simp[results,Tryz.results99,go_sem,J,I,ftV]) rfl ?_
  exact⟨rfl,(Qa z).1⟩
 have g0:(ft.1 != 0)=true:=by simp[T]
 rw[if_pos T]at A
 subst A
 obtain⟨W7,u,sc⟩:=sc2 k (Ji ft.1) (Ji ft.2)
 obtain⟨ag,ai,yf⟩:=cl2 k
 have z:=hide (Ya (sc.below i (by omega)) sc.box)
 have L:=hide u
 clear C M S s2 h hB B b3 Y b4 n4 W G k i T HH H4 u sc
 go_upto_region 2 with fail
 rw[<- Qa aI]
 go_wp2_with fail
 rw[<- Qa L]
 obtain⟨J,I,zf⟩:=cl2 (Qa z).2
 refine bodyPost_ret (v:=ftV (ft.1,ft.2)) (by simp[results,Tryz.results99,go_sem,J,I,ftV]) rfl ?_
 exact⟨rfl,(Qa z).1⟩
end
section
variable {n0 n1:Nat}{p:Pg}{c:CatP}{wb mb:Nat}{sl:Value}{vs:List Fld}{w:World}
attribute [local go_sem ↓] Qbh Qbo
theorem Qsj(h:Wk n0 n1 p c wb mb sl vs w)(y:Lt)(hk:y.kind=1){pa xa ya:Option Addr}{pn pc xn xc yn yc:Nat}{R:Except Flt (List Fld)}
  (hC:∀W:World,Below w.heap.size w W->Calls Tryz.prog 101 #[.pointer (Js wb),.agg #[str y.atom.rel,.slice pa pn pc,Ji y.atom.at_],.func (.func 113) #[.pointer (Js wb)] #[]] W fun en w'=>LkA n0 n1 p c wb mb sl W R en w'):
  Calls Tryz.prog 100 #[.pointer (Js wb),.agg #[Ji y.kind,str y.atom.rel,.slice pa pn pc,Ji y.atom.at_,str y.op,Ji y.l.kind,Ji y.l.num,str y.l.txt,.slice xa xn xc,Ji y.l.at_,Ji y.r.kind,Ji y.r.num,str y.r.txt,.slice ya yn yc,Ji y.r.at_,Ji y.at_]] w fun en w'=>LkA n0 n1 p c wb mb sl w R en w':=by
 obtain⟨V,k,a,q,b,e⟩:=Qas w #[Ji y.kind,str y.atom.rel,.slice pa pn pc,Ji y.atom.at_,str y.op,Ji y.l.kind,Ji y.l.num,str y.l.txt,.slice xa xn xc,Ji y.l.at_,Ji y.r.kind,Ji y.r.num,str y.r.txt,.slice ya yn yc,Ji y.r.at_,Ji y.at_] 61
 have m:=hC V a
 obtain⟨K,E,L,F,C,I,D,H,M,G,x,u,t,z,B,A,U⟩:=cl16 q
 have g1:(y.kind==1)=true:=by rw[hk];rfl
 have a3:=h.n1le
 have X:=hide k
 have o:=hide (Ya a (Ya b (Ya e (h.later a))))
 clear k a q b e h hk hC C I D H M G x u t z B A
 go_enter Tryz.func100,Tryz.ntmps100
 go_upto_region 1 with fail
 rw[<- Qa X]
 go_wp2_with fail
 refine m.mono ?_
 clear m K E L F U
 rintro en w3 i
 obtain⟨a0,Z,ft,rfl,f,g,j⟩:=i.ft
 clear i
 obtain⟨a,b,e,s⟩:=Qa o
 have d:=g.keep b (s.offT b (by decide) (by decide))
 obtain⟨W7,n,sc⟩:=sc2 d (Ji ft.1) (Ji ft.2)
 obtain⟨a1,a2,yf⟩:=cl2 d
 have Q:=hide (Ya (f.sc sc (by omega) (f.offT d (by decide) (by decide))) (Ya (((Kw.of_below a).trans g).sc sc (by omega)) (Ya sc.box j)))
 have N:=hide n
 clear a b e s f g j d n sc o
 unfold ftV
 go_wp2_with fail
 rw[<- Qa N]
 obtain⟨Y,S,P,T⟩:=Qa Q
 obtain⟨O,J,zf⟩:=cl2 P
 refine bodyPost_ret (v:=ftV ft) (by simp[results,Tryz.results100,go_sem,O,J,ftV]) rfl ?_
 exact LkA.of Y S T
theorem lit_not(h:Wk n0 n1 p c wb mb sl vs w)(y:Lt)(hk:y.kind=2){pa xa ya:Option Addr}{pn pc xn xc yn yc:Nat}{R:Except Flt (List Fld)}
  (hC:∀W:World,Below w.heap.size w W->Calls Tryz.prog 101 #[.pointer (Js wb),.agg #[str y.atom.rel,.slice pa pn pc,Ji y.atom.at_],.func (.func 114) #[.pointer (Js wb)] #[]] W fun en w'=>LkA n0 n1 p c wb mb sl W R en w'):
  Calls Tryz.prog 100 #[.pointer (Js wb),.agg #[Ji y.kind,str y.atom.rel,.slice pa pn pc,Ji y.atom.at_,str y.op,Ji y.l.kind,Ji y.l.num,str y.l.txt,.slice xa xn xc,Ji y.l.at_,Ji y.r.kind,Ji y.r.num,str y.r.txt,.slice ya yn yc,Ji y.r.at_,Ji y.at_]] w fun en w'=>LkA n0 n1 p c wb mb sl w R en w':=by
 obtain⟨V,k,a,q,b,e⟩:=Qas w #[Ji y.kind,str y.atom.rel,.slice pa pn pc,Ji y.atom.at_,str y.op,Ji y.l.kind,Ji y.l.num,str y.l.txt,.slice xa xn xc,Ji y.l.at_,Ji y.r.kind,Ji y.r.num,str y.r.txt,.slice ya yn yc,Ji y.r.at_,Ji y.at_] 61
 have m:=hC V a
 obtain⟨K,E,L,F,C,I,D,H,M,G,x,u,t,z,B,A,U⟩:=cl16 q
 have g1:(y.kind==1)=false:=by rw[hk];rfl
 have g2:(y.kind==2)=true:=by rw[hk];rfl
 have a3:=h.n1le
 have X:=hide k
 have o:=hide (Ya a (Ya b (Ya e (h.later a))))
 clear k a q b e h hk hC C I D H M G x u t z B A
 go_enter Tryz.func100,Tryz.ntmps100
 go_upto_region 1 with fail
 rw[<- Qa X]
 go_wp2_with fail
 refine m.mono ?_
 clear m K E L F U
 rintro en w3 i
 obtain⟨a0,Z,ft,rfl,f,g,j⟩:=i.ft
 clear i
 obtain⟨a,b,e,s⟩:=Qa o
 have d:=g.keep b (s.offT b (by decide) (by decide))
 obtain⟨W7,n,sc⟩:=sc2 d (Ji ft.1) (Ji ft.2)
 obtain⟨a1,a2,yf⟩:=cl2 d
 have Q:=hide (Ya (f.sc sc (by omega) (f.offT d (by decide) (by decide))) (Ya (((Kw.of_below a).trans g).sc sc (by omega)) (Ya sc.box j)))
 have N:=hide n
 clear a b e s f g j d n sc o
 unfold ftV
 go_wp2_with fail
 rw[<- Qa N]
 obtain⟨Y,S,P,T⟩:=Qa Q
 obtain⟨O,J,zf⟩:=cl2 P
 refine bodyPost_ret (v:=ftV ft) (by simp[results,Tryz.results100,go_sem,O,J,ftV]) rfl ?_
 exact LkA.of Y S T
end
end
end Go.Proofs.YtmfpbepifnedjaaGreat
