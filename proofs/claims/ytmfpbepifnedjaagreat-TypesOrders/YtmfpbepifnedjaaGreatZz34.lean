/- types. -/
import Derived.Test.YtmfpbepifnedjaaGreatZz01
import Derived.Test.YtmfpbepifnedjaaGreatZz33
set_option maxRecDepth 100000
set_option maxHeartbeats 32000000
namespace Go.Proofs.YtmfpbepifnedjaaGreat
section
open Go.RowKit Go.Maps
section
variable {P:Program}{ops:Array Oper}{Q:Exit->Act->World->Prop}
theorem Qqo{id:Nat}{a:Act}{w:World}(ks:List Nat)(n:Nat)(C:World->Prop)(hm:P.follows .mixedOrders=true)(hsel:Region.noSelect ops=true)(hlen:n+ks.length=ops.size)(hok:okTk .any ops ks (Array.replicate ops.size false)=true)
  (h:∀PP:Act->World->Prop,(∀a' w',Q .normal a' w'->PP a' w')->wpTk P ops C (wpAnyC P .any ops C (onlyN PP) n (ks.foldl (fun l k=>l.setIfInBounds k true) (Array.replicate ops.size false))) ks a w.drew):(Code.region id ops true).wp P Q a w:=by
 have d:¬LetsOut (onlyN (Q .normal)):=by rintro⟨_,_,h⟩;exact h
 have b:=Qdz _ _ _ _ (Qkd (md:=.any) hsel d (fun _ _ _ _ _ h=>h) n ks _ a _ hok (h (Q .normal) (fun _ _ h=>h)))
 rw[hlen]at b
 refine wp_mono (Q:=onlyN (Q .normal)) (wp_region_any hm b) ?_
 intro e a w h
 cases e
 case normal=>exact h
 all_goals exact h.elim
end
theorem put_ev{a:Act}{i:Nat}{v:Value}(h:i<a.tmps.size):(a.put (some i) v).eval (.tmp i)=v:=by
 simp[Act.put,Act.eval,h]
theorem Qcq{a:Act}{i j:Nat}{v:Value}(h:i≠j):(a.put (some i) v).eval (.tmp j)=a.eval (.tmp j):=by
 simp only[Act.put,Act.eval,Array.getD_eq_getD_getElem?]
 rw[Array.getElem?_setIfInBounds_ne h]
theorem Qih{a:Act}{i:Nat}{u v:Value}:(a.put (some i) u).put (some i) v=a.put (some i) v:=by
 simp[Act.put]
theorem Qhf{a:Act}{i j:Nat}{u v:Value}(h:i≠j):(a.put (some i) u).put (some j) v=(a.put (some j) v).put (some i) u:=by
 simp only[Act.put]
 rw[Array.setIfInBounds_comm _ _ h]
def mv:Option (Nat×List (Txt×Value))->Value
 |none=>undef
 |some q=>.map (some q.1)
def AC(A:Act)(x y z u:Value):Act:=(((A.put (some 11) x).put (some 12) y).put (some 16) z).put (some 20) u
section
variable {A:Act}{x y z u v:Value}
theorem AC.p11:(AC A x y z u).put (some 11) v=AC A v y z u:=by
 unfold AC
 rw[Qhf (i:=20) (j:=11) (by decide),Qhf (i:=16) (j:=11) (by decide),Qhf (i:=12) (j:=11) (by decide),Qih]
theorem AC.p12:(AC A x y z u).put (some 12) v=AC A x v z u:=by
 unfold AC
 rw[Qhf (i:=20) (j:=12) (by decide),Qhf (i:=16) (j:=12) (by decide),Qih]
theorem AC.p16:(AC A x y z u).put (some 16) v=AC A x y v u:=by
 unfold AC
 rw[Qhf (i:=20) (j:=16) (by decide),Qih]
theorem AC.p20:(AC A x y z u).put (some 20) v=AC A x y z v:=by
 unfold AC
 rw[Qih]
theorem AC.e11(hs:20<A.tmps.size):(AC A x y z u).eval (.tmp 11)=x:=by
 unfold AC
 rw[Qcq (by decide),Qcq (by decide),Qcq (by decide),put_ev (by omega)]
theorem AC.ne{j:Nat}(h1:11≠j)(h2:12≠j)(h3:16≠j)(h4:20≠j):(AC A x y z u).eval (.tmp j)=A.eval (.tmp j):=by
 unfold AC
 rw[Qcq h4,Qcq h3,Qcq h2,Qcq h1]
end
def vNum:Value:=.string ⟨#[110,117,109,98,101,114]⟩
def vSym:Value:=.string ⟨#[115,121,109,98,111,108]⟩
def StM:Nat->Option (Nat×List (Txt×Value))->Prop
 | 0,o=>o=none
 | 1,o=>∃b,o=some (b,[])
 | 2,o=>∃b,o=some (b,[(tNum,.int .i64 1)])
 | 3,o=>∃b,o=some (b,[(tSym,.int .i64 2)])
 |_,o=>∃b ms,o=some (b,ms) /\ ∀t,asc ms t=(asc [(tNum,1),(tSym,2)] t).map nOf
def mvM(m:Nat)(o:Option (Nat×List (Txt×Value))):Value:=if m=4 then mv o else undef
def JC(w1:World)(A:Act)(m:Nat)(x y:Bool)(a:Act)(w:World):Prop:=∃o1 o2 o3,Ms w1 o1 o2 o3 w/\StM m o1/\o2.isSome=x/\o3.isSome=y/\(∀q∈o2,q.2=[])/\(∀q∈o3,q.2=[])/\a=AC A (mv o1) (mvM m o1) (mv o2) (mv o3)
theorem asc_ns(t:Txt):asc [(tNum,Value.int .i64 1),(tSym,Ji 2)] t=(asc [(tNum,1),(tSym,2)] t).map nOf:=by
 unfold asc
 by_cases a:tNum=t
 ·simp[a,nOf]
 ·by_cases b:tSym=t<;>simp[a,b,nOf]
theorem asc_sn(t:Txt):asc [(tSym,Value.int .i64 2),(tNum,Ji 1)] t=(asc [(tNum,1),(tSym,2)] t).map nOf:=by
 have d:tNum≠tSym:=by decide
 unfold asc
 by_cases a:tNum=t
 ·
  have b:tSym≠t:=fun e=>d (a.trans e.symm)
  simp[a,b,nOf]
 ·by_cases b:tSym=t<;>simp[a,b,nOf]
theorem Qmf{m:Nat}(o:Option (Nat×List (Txt×Value)))(h:m≠4):mvM m o=undef:=if_neg h
section
variable {ops:Array Oper}{PP:Act->World->Prop}{w1:World}{A:Act}{T1 T2 T3 T4 T8 T12:TypeId}{p1 p2 p3 p4 p8 p12:String}{f1 f2 f3 f4 f8 f12:Array Edge}{k0 k1:Int}
theorem jc_8(ho:ops[8]?=some ⟨some 16,.makeMap 125 (some (.tmp 15)),T8,p8,f8,none⟩)(h15:A.eval (.tmp 15) = Ji k1)(m:Nat)(y:Bool)(a:Act)(w:World)(h:JC w1 A m false y a w):wpOp Tryz.prog ops (onlyN PP) 8 (JC w1 A m true y) a w:=by
 obtain⟨g,i,j,k,b,e,l,n,f,rfl⟩:=h
 cases i with
 |some q=>cases e
 |none=>
  refine Qit ho rfl (v:=.map (some w.heap.size)) (W':=w.alloc (.map #[] 0)) ?_ ?_
  ·
   show(do let r <- Instr.makeMap _ (some ((AC A _ _ _ _).eval (.tmp 15)));pure (Next.value r):Sem Next).run Tryz.prog w=_
   rw[AC.ne (by decide) (by decide) (by decide) (by decide),h15,Sem.run_bind,Qky mI]
   rfl
  ·exact⟨g,some (w.heap.size,[]),j,k.mk2,b,rfl,l,fun q d=>by cases d;rfl,f,AC.p16⟩
theorem jc_12(ho:ops[12]?=some ⟨some 20,.makeMap 126 (some (.tmp 19)),T12,p12,f12,none⟩)(h19:A.eval (.tmp 19) = Ji k0)(m:Nat)(x:Bool)(a:Act)(w:World)(h:JC w1 A m x false a w):wpOp Tryz.prog ops (onlyN PP) 12 (JC w1 A m x true) a w:=by
 obtain⟨g,i,j,k,b,e,l,f,n,rfl⟩:=h
 cases j with
 |some q=>cases l
 |none=>
  refine Qit ho rfl (v:=.map (some w.heap.size)) (W':=w.alloc (.map #[] 0)) ?_ ?_
  ·
   show(do let r <- Instr.makeMap _ (some ((AC A _ _ _ _).eval (.tmp 19)));pure (Next.value r):Sem Next).run Tryz.prog w=_
   rw[AC.ne (by decide) (by decide) (by decide) (by decide),h19,Sem.run_bind,Qky mP]
   rfl
  ·exact⟨g,i,some (w.heap.size,[]),k.mk3,b,e,rfl,f,fun q d=>by cases d;rfl,AC.p20⟩
theorem jc_1(ho:ops[1]?=some ⟨some 11,.makeMap 125 none,T1,p1,f1,none⟩)(x y:Bool)(a:Act)(w:World)(h:JC w1 A 0 x y a w):wpOp Tryz.prog ops (onlyN PP) 1 (JC w1 A 1 x y) a w:=by
 obtain⟨g,i,j,k,b,d,l,f,e,rfl⟩:=h
 cases (show g=none from b)
 refine Qit ho rfl (v:=.map (some w.heap.size)) (W':=w.alloc (.map #[] 0)) rfl ?_
 exact⟨some (w.heap.size,[]),i,j,k.mk1,⟨_,rfl⟩,d,l,f,e,AC.p11⟩
theorem jc_2(hs:20<A.tmps.size)(ho:ops[2]?=some ⟨none,.insert 125 (.tmp 11) (.const vNum) (.const (Ji 1)),T2,p2,f2,none⟩){m n:Nat}(hmn:(m=1/\n=2)∨(m=3/\n=5))(x y:Bool)(a:Act)(w:World)(h:JC w1 A m x y a w):wpOp Tryz.prog ops (onlyN PP) 2 (JC w1 A n x y) a w:=by
 obtain⟨F,s,C,o,f,D,t,B,E,rfl⟩:=h
 have k:∃b e,F=some (b,e)/\asc e tNum=none /\ ∀d,StM n (some (d,e++[(tNum,Ji 1)])):=by
  rcases hmn with ⟨rfl,rfl⟩|⟨rfl,rfl⟩
  ·
   obtain⟨b,rfl⟩:=f
   exact⟨b,[],rfl,rfl,fun d=>⟨d,rfl⟩⟩
  obtain⟨b,rfl⟩:=f
  exact⟨b,_,rfl,by decide,fun d=>⟨d,_,rfl,asc_sn⟩⟩
 have i:m≠4:=by omega
 have l:n≠4:=by omega
 obtain⟨b,e,rfl,r,j⟩:=k
 obtain⟨W',q,g⟩:=o.ins tNum (Ji 1) r
 refine Qke ho rfl (W':=W') ?_ ?_
 ·
  show(do Instr.mapUpdate _ ((AC A _ _ _ _).eval (.tmp 11)) vNum (Ji 1);pure Next.skip:Sem Next).run Tryz.prog w=_
  rw[AC.e11 hs,Sem.run_bind]
  show Result.andThen ((Instr.mapUpdate _ (.map (some b)) (str tNum) (Ji 1)).run Tryz.prog w) _=_
  rw[q]
  rfl
 refine⟨_,s,C,g,j b,D,t,B,E,?_⟩
 rw[Qmf _ i,Qmf _ l]
 rfl
theorem jc_3(hs:20<A.tmps.size)(ho:ops[3]?=some ⟨none,.insert 125 (.tmp 11) (.const vSym) (.const (Ji 2)),T3,p3,f3,none⟩){m n:Nat}(hmn:(m=1/\n=3)∨(m=2/\n=5))(x y:Bool)(a:Act)(w:World)(h:JC w1 A m x y a w):wpOp Tryz.prog ops (onlyN PP) 3 (JC w1 A n x y) a w:=by
 obtain⟨F,s,C,o,f,D,t,B,E,rfl⟩:=h
 have k:∃b e,F=some (b,e)/\asc e tSym=none /\ ∀d,StM n (some (d,e++[(tSym,Ji 2)])):=by
  rcases hmn with ⟨rfl,rfl⟩|⟨rfl,rfl⟩
  ·
   obtain⟨b,rfl⟩:=f
   exact⟨b,[],rfl,rfl,fun d=>⟨d,rfl⟩⟩
  obtain⟨b,rfl⟩:=f
  exact⟨b,_,rfl,by decide,fun d=>⟨d,_,rfl,asc_ns⟩⟩
 have i:m≠4:=by omega
 have l:n≠4:=by omega
 obtain⟨b,e,rfl,r,j⟩:=k
 obtain⟨W',q,g⟩:=o.ins tSym (Ji 2) r
 refine Qke ho rfl (W':=W') ?_ ?_
 ·
  show(do Instr.mapUpdate _ ((AC A _ _ _ _).eval (.tmp 11)) vSym (Ji 2);pure Next.skip:Sem Next).run Tryz.prog w=_
  rw[AC.e11 hs,Sem.run_bind]
  show Result.andThen ((Instr.mapUpdate _ (.map (some b)) (str tSym) (Ji 2)).run Tryz.prog w) _=_
  rw[q]
  rfl
 refine⟨_,s,C,g,j b,D,t,B,E,?_⟩
 rw[Qmf _ i,Qmf _ l]
 rfl
theorem cat_fin(hsel:Region.noSelect ops=true)(hs:20<A.tmps.size)(h15:A.eval (.tmp 15) = Ji k1)(h19:A.eval (.tmp 19) = Ji k0)(hu:A=AC A undef undef undef undef)
  (ho1:ops[1]?=some ⟨some 11,.makeMap 125 none,T1,p1,f1,none⟩)
  (ho2:ops[2]?=some ⟨none,.insert 125 (.tmp 11) (.const vNum) (.const (Ji 1)),T2,p2,f2,none⟩)
  (ho3:ops[3]?=some ⟨none,.insert 125 (.tmp 11) (.const vSym) (.const (Ji 2)),T3,p3,f3,none⟩)
  (ho4:ops[4]?=some ⟨some 12,.move (.tmp 11),T4,p4,f4,none⟩)
  (ho8:ops[8]?=some ⟨some 16,.makeMap 125 (some (.tmp 15)),T8,p8,f8,none⟩)
  (ho12:ops[12]?=some ⟨some 20,.makeMap 126 (some (.tmp 19)),T12,p12,f12,none⟩)
  (r0:∀x y,Region.ready .any ops (Lf false false false false x y)=[1]++rst x y)
  (r1:∀x y,Region.ready .any ops (Lf true false false false x y)=[2,3]++rst x y)
  (r2:∀x y,Region.ready .any ops (Lf true true false false x y)=[3]++rst x y)
  (r3:∀x y,Region.ready .any ops (Lf true false true false x y)=[2]++rst x y)
  (r4:∀x y,(x&&y)=false->Region.ready .any ops (Lf true true true true x y)=rst x y)
  (r5:∀x y,(Region.ready .any ops (Lf true true true false x y)).contains 4=true/\Region.free .any ops (Lf true true true false x y) 4=true)
  {w:World}(hw:Below w1.heap.size w1 w)
  (hE:∀m1 m2 m3 ms W,Ms w1 (some (m1,ms)) (some (m2,[])) (some (m3,[])) W->(∀t,asc ms t=(asc [(tNum,1),(tSym,2)] t).map nOf)->wpAnyC Tryz.prog .any ops (Below w1.heap.size w1) (onlyN PP) 3 (Lf true true true true true true) (AC A (.map (some m1)) (.map (some m1)) (.map (some m2)) (.map (some m3))) W):
  wpAnyC Tryz.prog .any ops (Below w1.heap.size w1) (onlyN PP) 9 (Lf false false false false false false) A w:=by
 refine cat_any (JC w1 A) hsel (by rintro⟨_,_,h⟩;exact h) (fun _ _ _ _ _ h=>h) ho4 (fun m x y a w h=>?_) r0 r1 r2 r3 r4 r5 (jc_1 ho1) (jc_2 hs ho2 (.inl ⟨rfl,rfl⟩)) (jc_2 hs ho2 (.inr ⟨rfl,rfl⟩)) (jc_3 hs ho3 (.inl ⟨rfl,rfl⟩)) (jc_3 hs ho3 (.inr ⟨rfl,rfl⟩)) (fun x y a w h=>?_) (jc_8 ho8 h15) (jc_12 ho12 h19) (fun a w h=>?_) A w ?_
 ·
  obtain⟨o,f,e,d,_⟩:=h
  exact d.bel
 ·
  obtain⟨o,f,e,d,j,k,n,i,l,rfl⟩:=h
  obtain⟨b,ms,rfl,g⟩:=j
  refine⟨.map (some b),fun w' _=>.inl ⟨rfl,.inl ?_⟩,_,f,e,d,⟨b,ms,rfl,g⟩,k,n,i,l,?_⟩
  ·
   show(pure (Next.value ((AC A _ _ _ _).eval (.tmp 11))):Sem Next).run Tryz.prog w'=_
   rw[AC.e11 hs]
   rfl
  ·exact AC.p12
 ·
  obtain⟨o,f,e,d,j,k,n,i,l,rfl⟩:=h
  obtain⟨b,ms,rfl,g⟩:=j
  cases f with
  |none=>cases k
  |some q2=>
   cases e with
   |none=>cases n
   |some q3=>
    obtain⟨m2,r⟩:=q2
    obtain⟨m3,q⟩:=q3
    cases (show r=[] from i _ rfl)
    cases (show q=[] from l _ rfl)
    exact hE b m2 m3 ms w d g
 ·exact⟨none,none,none,(Ms.start w1).later hw,rfl,rfl,rfl,fun _ h=>(by cases h),fun _ h=>(by cases h),hu⟩
end
structure Nc(n0 n1:Nat)(p:Pg)(c:CatP)(kv:Value)(rt rd:List (Txt×Nat))(rc:List (Txt×(Nat×Nat)))(w:World):Prop where
 box:w.heap[c.cb]?=some (.cells #[c.v0,c.v1,c.v2,c.v3,c.v4,kv,.map (some c.mt),.map (some c.md),.map (some c.mc)] 129 (0,0))
 par:w.heap[n1]?=some (.cells #[c.v0,c.v1,c.v2,c.v3,c.v4] 28 (0,0))
 prg:PgS (fun b=>b<n0) w [c.v0,c.v1,c.v2,c.v3,c.v4] p
 mt:MpF nOf w c.mt rt
 md:MpF nOf w c.md rd
 mc:MpF pOf w c.mc rc
 l0:n1<c.cb/\n1<c.mt/\n1<c.md/\n1<c.mc
 n01:n0<=n1
 ne:c.mt≠c.md/\c.mt≠c.mc/\c.md≠c.mc
section
variable {n0 n1:Nat}{p:Pg}{c:CatP}{kv:Value}{rt rd:List (Txt×Nat)}{rc:List (Txt×(Nat×Nat))}{w w':World}
theorem MpF.cells_ne{α : Type}{f:α -> Value}{mb b:Nat}{row:List (Txt × α)}{cs:Array Value}{T:TypeId}(h:MpF f w mb row)(hb:w.heap[b]?=some (.cells cs T (0,0))):b≠mb:=fun e=>by
 obtain⟨d,⟨i,g,a,_⟩,_⟩:=h
 rw[<- e,hb]at a
 cases a
theorem Nc.later(h:Nc n0 n1 p c kv rt rd rc w)(b:Below w.heap.size w w'):Nc n0 n1 p c kv rt rd rc w':=
 ⟨(b.block _ (Qaa h.box)).trans h.box,(b.block _ (Qaa h.par)).trans h.par,Qak.same _ _ _ _ _ h.prg b.size (fun q _ a=>b.block q a),h.mt.keep (b.block _ h.mt.lt),h.md.keep (b.block _ h.md.lt),h.mc.keep (b.block _ h.mc.lt),h.l0,h.n01,h.ne⟩
theorem Qhr{α : Type}{f:α -> Value}{ms:List (Txt×Value)}{row:List (Txt × α)}(h:∀t,asc ms t=(asc row t).map f)(n:Txt)(v:α)(t:Txt):asc (addF ms n (f v)) t=(asc (row++[(n,v)]) t).map f:=by
 rw[Qs,Qcm,Qcm,h,Qev,Qev]
 cases asc row t with
 |some u=>rfl
 |none=>by_cases e:n=t<;>simp[e]
theorem Nc.putT(h:Nc n0 n1 p c kv rt rd rc w)(n:Txt)(k:Nat):
  Calls Tryz.prog 69 #[.map (some c.mt),str n,Ji (k:Int)] w fun en w'=>en = .returned (.tuple #[])/\Nc n0 n1 p c kv (rt++[(n,k)]) rd rc w'/\Kp c.mt w w':=by
 obtain⟨l,i,e⟩:=h.mt
 refine(Qlp i n (k:Int)).mono ?_
 rintro en w'⟨rfl,b,a⟩
 have o:∀q,q<w.heap.size->q≠c.mt->w'.heap[q]?=w.heap[q]?:=a.block
 exact⟨rfl,⟨(o _ (Qaa h.box) (h.mt.cells_ne h.box)).trans h.box,(o _ (Qaa h.par) (h.mt.cells_ne h.par)).trans h.par,Qak.same _ _ _ _ _ h.prg a.size (fun q d g=>o q g (by have:=h.l0.2.1;have:=h.n01;have j:q<n0:=d;omega)),⟨_,b,Qhr (f:=nOf) e n k⟩,h.md.keep (o _ h.md.lt (Ne.symm h.ne.1)),h.mc.keep (o _ h.mc.lt (Ne.symm h.ne.2.1)),h.l0,h.n01,h.ne⟩,a⟩
theorem Nc.putD(h:Nc n0 n1 p c kv rt rd rc w)(n:Txt)(k:Nat):
  Calls Tryz.prog 69 #[.map (some c.md),str n,Ji (k:Int)] w fun en w'=>en = .returned (.tuple #[])/\Nc n0 n1 p c kv rt (rd++[(n,k)]) rc w'/\Kp c.md w w':=by
 obtain⟨l,i,e⟩:=h.md
 refine(Qlp i n (k:Int)).mono ?_
 rintro en w'⟨rfl,b,a⟩
 have o:∀q,q<w.heap.size->q≠c.md->w'.heap[q]?=w.heap[q]?:=a.block
 exact⟨rfl,⟨(o _ (Qaa h.box) (h.md.cells_ne h.box)).trans h.box,(o _ (Qaa h.par) (h.md.cells_ne h.par)).trans h.par,Qak.same _ _ _ _ _ h.prg a.size (fun q d g=>o q g (by have:=h.l0.2.2.1;have:=h.n01;have j:q<n0:=d;omega)),h.mt.keep (o _ h.mt.lt h.ne.1),⟨_,b,Qhr (f:=nOf) e n k⟩,h.mc.keep (o _ h.mc.lt (Ne.symm h.ne.2.2)),h.l0,h.n01,h.ne⟩,a⟩
theorem Nc.putC(h:Nc n0 n1 p c kv rt rd rc w)(n:Txt)(i k:Nat):
  Calls Tryz.prog 70 #[.map (some c.mc),str n,.agg #[Ji (i:Int),Ji (k:Int)]] w fun en w'=>en = .returned (.tuple #[])/\Nc n0 n1 p c kv rt rd (rc++[(n,(i,k))]) w'/\Kp c.mc w w':=by
 obtain⟨s,m,d⟩:=h.mc
 refine(Qrx m n (i:Int) (k:Int) (fun u a=>?_)).mono ?_
 ·
  rw[d]at a
  cases e:asc rc n with
  |none=>rw[e]at a;cases a
  |some q=>rw[e]at a;cases a;exact⟨_,_,rfl⟩
 rintro en w'⟨rfl,g,b⟩
 have o:∀q,q<w.heap.size->q≠c.mc->w'.heap[q]?=w.heap[q]?:=b.block
 exact⟨rfl,⟨(o _ (Qaa h.box) (h.mc.cells_ne h.box)).trans h.box,(o _ (Qaa h.par) (h.mc.cells_ne h.par)).trans h.par,Qak.same _ _ _ _ _ h.prg b.size (fun q j l=>o q l (by have:=h.l0.2.2.2;have:=h.n01;have r:q<n0:=j;omega)),h.mt.keep (o _ h.mt.lt h.ne.2.1),h.md.keep (o _ h.md.lt h.ne.2.2),⟨_,g,Qhr (f:=pOf) d n (i,k)⟩,h.l0,h.n01,h.ne⟩,b⟩
end
theorem Qfm{α : Type}{xs:List α}{j:Nat}{x:α}(h:xs[j]?=some x):(xs.take (j+1)).zipIdx=(xs.take j).zipIdx++[(x,j)]:=by
 have a:=(List.getElem?_eq_some_iff.1 h).1
 rw[List.take_add_one,h,List.zipIdx_append]
 simp[Nat.min_eq_left (Nat.le_of_lt a)]
theorem Qnw{ts:List Typ}{j:Nat}{x:Typ}(h:ts[j]?=some x):tyRow (ts.take (j+1))=tyRow (ts.take j)++[(x.name,3+j)]:=by
 unfold tyRow
 rw[Qfm h]
 simp
theorem Qn{ds:List Dcl}{j:Nat}{x:Dcl}(h:ds[j]?=some x):dcRow (ds.take (j+1))=dcRow (ds.take j)++[(x.name,j)]:=by
 unfold dcRow
 rw[Qfm h]
 simp
def coRow(j:Nat)(cs:List Ctr):List (Txt×(Nat×Nat)):=cs.zipIdx.map fun c=>(c.1.name,(j,c.2))
theorem Qmy{cs:List Ctr}{i:Nat}{x:Ctr}(j:Nat)(h:cs[i]?=some x):coRow j (cs.take (i+1))=coRow j (cs.take i)++[(x.name,(j,i))]:=by
 unfold coRow
 rw[Qfm h]
 simp
theorem Qmz{ts:List Typ}{j:Nat}{x:Typ}(h:ts[j]?=some x):ctRow (ts.take (j+1))=ctRow (ts.take j)++coRow j x.ctors:=by
 unfold ctRow coRow
 rw[Qfm h]
 simp
section
variable {n0 n1:Nat}{p:Pg}{c:CatP}{kv:Value}{rt rd:List (Txt×Nat)}{rc:List (Txt×(Nat×Nat))}{w:World}
theorem Nc.types(h:Nc n0 n1 p c kv rt rd rc w):LsAt PTy 4 (fun b=>b<n0) w c.v0 p.types:=by
 obtain⟨k,l,m,i,vl,a,d,g,e,j,f⟩:=h.prg.cells
 simp only[List.cons.injEq,and_true]at a
 rw[a.1]
 exact d
theorem Nc.decls(h:Nc n0 n1 p c kv rt rd rc w):LsAt PDc 5 (fun b=>b<n0) w c.v1 p.decls:=by
 obtain⟨k,l,m,g,vl,a,i,d,e,j,f⟩:=h.prg.cells
 simp only[List.cons.injEq,and_true]at a
 rw[a.2.1]
 exact d
end
theorem Qlm(j:Nat)(h:j<=1000000000):IntKind.i64.wrap (3+(j:Int))=3+(j:Int):=by
 have b:(2:Int) ^ IntKind.i64.bits=18446744073709551616:=by decide
 have d:(2:Int) ^ (IntKind.i64.bits - 1)=9223372036854775808:=by decide
 have a:(3+(j:Int)) % 18446744073709551616=3+(j:Int):=by omega
 unfold IntKind.wrap
 simp only[b,d,a]
 rw[if_neg (by simp;intro _;omega)]
def AkA(n0 n1:Nat)(p:Pg):Prop:=∀(c:CatP) (w2:World),Nc n0 n1 p c (.slice none 0 0) (tyRow p.types) (dcRow p.decls) (ctRow p.types) w2 ->
 Calls Tryz.prog 71 #[.pointer (some ⟨c.cb,0,none⟩)] w2 fun en w3=>en = .returned (.tuple #[])/\Below n1 w2 w3 /\ ∃kb kc,Cs n0 p { c with kb:=kb,kc:=kc } w3
theorem Qnk{n0:Nat}{p:Pg}{w:World}{a0 a1 a2 a3 a4:Option Addr}{k0 k1 k2 k3 k4 c0 c1 c2 c3 c4:Nat}(hn0:n0<=w.heap.size)(hP:PgS (fun b=>b<n0) w [.slice a0 k0 c0,.slice a1 k1 c1,.slice a2 k2 c2,.slice a3 k3 c3,.slice a4 k4 c4] p)(hts:p.types.length<=1000000000)(hK:AkA n0 w.heap.size p):
  Calls Tryz.prog 30 #[.agg #[.slice a0 k0 c0,.slice a1 k1 c1,.slice a2 k2 c2,.slice a3 k3 c3,.slice a4 k4 c4]] w fun en w'=>∃c,en = .returned (.pointer (Js c.cb))/\Cs n0 p c w'/\Below w.heap.size w w':=by
 obtain⟨w1,am⟩:=JE (w.alloc (.cells #[.slice a0 k0 c0,.slice a1 k1 c1,.slice a2 k2 c2,.slice a3 k3 c3,.slice a4 k4 c4] 28))
 have I:=bnw am
 have nx:=nnw am
 obtain⟨n1,f⟩:=JF w.heap.size
 rw[f]at nx I hn0 hK ⊢
 have HC:=hide (show ∀W',Below w1.heap.size w1 W'->W'.heap[n1]?=some (.cells #[.slice a0 k0 c0,.slice a1 k1 c1,.slice a2 k2 c2,.slice a3 k3 c3,.slice a4 k4 c4] 28 (0,0)) from fun W' b=>(b.block _ (Qaa nx)).trans nx)
 have aL:=hide f
 have aR:=hide am
 have H0:=hide (Ya hn0 (Ya hP (Ya hK (Ya I (Qaa nx)))))
 clear am f I nx hn0 hP hK
 go_enter Tryz.func30,Tryz.ntmps30
 go_upto_region 1 with fail
 rw[<- Qa aR,Qa aL]
 refine Qqo [0,5,6,7,9,10,11] 9 (Below w1.heap.size w1) mixedO (by kernel_rfl) rfl (by kernel_rfl) (fun PP D=>?_)
 iterate 7 (refine Qrp (v:=?_) rfl (by kernel_rfl) (fun W' hw=>?_) ?_;rotate_left;· (obtain⟨ak,ap,ag,af,ao,xf⟩:=cl5 (Qa HC W' hw);go_simp<;>rfl))
 show wpAnyC Tryz.prog .any _ _ _ 9 (Lf false false false false false false) _ _
 refine cat_fin (by kernel_rfl) (Nat.lt_of_lt_of_eq (by decide:20<80) (by kernel_rfl)) rfl rfl (by kernel_rfl) rfl rfl rfl rfl rfl rfl (fun x y=>by cases x<;>cases y<;>kernel_rfl) (fun x y=>by cases x<;>cases y<;>kernel_rfl) (fun x y=>by cases x<;>cases y<;>kernel_rfl) (fun x y=>by cases x<;>cases y<;>kernel_rfl) (fun x y=>?_) (fun x y=>by cases x<;>cases y<;>exact⟨by kernel_rfl,by kernel_rfl⟩) (Below.refl _ w1).drew (fun E G F ms W r aM=>?_)
 ·
  cases x
  ·
   intro _
   cases y<;>kernel_rfl
  cases y
  ·
   intro _
   kernel_rfl
  intro h
  cases h
 obtain⟨W2,aj⟩:=JE (W.alloc (.cells #[.slice a0 k0 c0,.slice a1 k1 c1,.slice a2 k2 c2,.slice a3 k3 c3,.slice a4 k4 c4,(Jn),.map (some E),.map (some G),.map (some F)] 129))
 have ax:=bnw aj
 have au:=nnw aj
 have aN:=hide aj
 obtain⟨cb,az⟩:=JF W.heap.size
 have aU:=hide az
 have a5:Below w1.heap.size w1 W2:=r.bel.trans (ax.mono r.bel.size)
 have ah:=hide (show Nc n0 n1 p ⟨cb,0,0,E,G,F,.slice a0 k0 c0,.slice a1 k1 c1,.slice a2 k2 c2,.slice a3 k3 c3,.slice a4 k4 c4⟩ (Jn) (tyRow (p.types.take 0)) (dcRow (p.decls.take 0)) (ctRow (p.types.take 0)) W2/\Below n1 w W2 from by
  obtain⟨hn0,hP,hK,I,f⟩:=Qa H0
  have ar:=r.later ax
  have e:=Qa aL
  refine⟨⟨by rw[az]at au;exact au,Qa HC _ a5,Qak.same _ _ _ _ _ hP (by have:=a5.size;have:=I.size;omega) (fun q hq hl=>(a5.block q (by have:=I.size;omega)).trans (I.block q (by omega))),⟨ms,(ar.m1 _ rfl).2,aM⟩,⟨[],(ar.m2 _ rfl).2,fun t=>rfl⟩,⟨[],(ar.m3 _ rfl).2,fun t=>rfl⟩,⟨?_,?_,?_,?_⟩,hn0,r.n12 _ rfl _ rfl,r.n13 _ rfl _ rfl,r.n23 _ rfl _ rfl⟩,?_⟩
  ·
   show n1<cb
   have:=r.bel.size
   omega
  ·
   have:=(r.m1 _ rfl).1
   show n1<E
   exact Nat.lt_of_lt_of_le f this
  ·
   have:=(r.m2 _ rfl).1
   show n1<G
   exact Nat.lt_of_lt_of_le f this
  ·
   have:=(r.m3 _ rfl).1
   show n1<F
   exact Nat.lt_of_lt_of_le f this
  ·exact I.trans (a5.mono (Nat.le_of_lt f)))
 have HM:=hide (Ya r.bel a5)
 clear aj ax au az a5 r aM
 refine Qcd (by kernel_rfl) (by rintro⟨_,_,h⟩;exact h) (fun _ _ _ _ _ h=>h) (.one 13 (.one 14 (.one 15 .nil))) _ _ _ (by kernel_rfl) ?_
 unfold AC
 refine Qag rfl (Qa HM).1 (fun K hK=>?_)
 go_simp
 refine hK _ _ ?_
 clear hK K
 refine Qag rfl (Qa HM).1 (fun K hK=>?_)
 go_simp
 refine hK _ _ ?_
 clear hK K
 rw[<- Qa aN,Qa aU]
 refine Qag rfl (Qa HM).2 (fun K hK=>?_)
 go_simp
 refine hK _ _ ?_
 clear hK K
 refine Qap (Qa HM).2 (D _ _ ?_)
 clear D PP
 have ac:k0=p.types.length/\k0<=c0/\c0<=9223372036854775807:=by
  have h:=(Qa ah).1.types
  have T:=h.cap (a:=a0) (n:=k0) (c:=c0) rfl
  obtain⟨_,_,e⟩:=h.sl
  cases e
  exact⟨rfl,T⟩
 have b4:k0<=1000000000:=by have:=ac.1;omega
 clear hts
 have ai:k1=p.decls.length/\k1<=c1/\c1<=9223372036854775807:=by
  have h:=(Qa ah).1.decls
  have T:=h.cap (a:=a1) (n:=k1) (c:=c1) rfl
  obtain⟨_,_,e⟩:=h.sl
  cases e
  exact⟨rfl,T⟩
 obtain⟨ak,ap,ag,af,ao,xf⟩:=cl5 (Qa ah).1.par
 have HQ:=hide (Ya ac.1 ai.1)
 have aX:=ac.2.1
 have aW:=ac.2.2
 have aY:=ai.2.1
 have aV:=ai.2.2
 clear ac ai
 go_wp2_with fail
 clear ak ap ag af ao xf
 go_loopw [26] (fun v wr=>∃j:Nat,v = Ji (j:Int)/\j<=k0/\Hid (Nc n0 n1 p ⟨cb,0,0,E,G,F,.slice a0 k0 c0,.slice a1 k1 c1,.slice a2 k2 c2,.slice a3 k3 c3,.slice a4 k4 c4⟩ (Jn) (tyRow (p.types.take j)) (dcRow (p.decls.take 0)) (ctRow (p.types.take j)) wr/\Below n1 w wr)) (fun v _=>k0 - (intOf v).toNat)
 case atStart=>exact⟨0,rfl,Nat.zero_le _,ah⟩
 obtain⟨j,rfl,hj,HI⟩:=hrel
 by_cases b8:j<k0
 ·
  obtain⟨nc,Y⟩:=Qa HI
  obtain⟨x,J⟩:∃x,p.types[j]?=some x:=⟨p.types[j]'(by have:=(Qa HQ).1;omega),List.getElem?_eq_getElem _⟩
  obtain⟨gb,cap,b6,e1,aP,hS,_,al,T⟩:=nc.types.elem J
  obtain⟨xa,X,xc,rfl,O⟩:=al
  have b2:=O.cap (a:=xa) (n:=X) (c:=xc) rfl
  have a8:X=x.ctors.length:=by obtain⟨_,_,e⟩:=O.sl;cases e;rfl
  simp only[Value.slice.injEq]at e1
  obtain⟨rfl,-,-⟩:=e1
  have y0:wr.cell? (Ja gb (j*4))=some (str x.name):=T 0 _ rfl
  have y1:wr.cell? (Ja gb (j*4+1))=some (str x.sub):=T 1 _ rfl
  have y2:wr.cell? (Ja gb (j*4+2))=some (.slice xa X xc):=T 2 _ rfl
  have y3:wr.cell? (Ja gb (j*4+3))=some (Ji x.at_):=T 3 _ rfl
  obtain⟨w3,ae⟩:=JE (wr.alloc (.cells #[str x.name,str x.sub,.slice xa X xc,Ji x.at_] 54))
  have b3:=bnw ae
  have R:=nnw ae
  obtain⟨tb,av⟩:=JF wr.heap.size
  rw[av]at R
  have f:n1<=wr.heap.size:=Nat.le_of_lt (Qaa nc.par)
  have aa:=Y.trans (b3.mono f)
  have V:=nc.later b3
  have aO:=hide (show w3.cell? (Ja cb 6)=some (.map (some E))/\w3.cell? (Ja tb 0)=some (str x.name) from ⟨(cl9 V.box).2.2.2.2.2.2.1,(cl4 R).1⟩)
  have o:=(V.later (Below.refl _ w3).drew).putT x.name (3+j)
  rw[show((3+j:Nat):Int)=(3:Int)+(j:Int) from by omega,<- Qlm j (by omega)]at o
  dsimp only at o
  have HX:=hide (Ya J (Ya O (Ya a8 (Ya f Y))))
  have H3:=hide (Ya aa (Ya V (Ya R b3.size)))
  have aG:=hide (Ya ae av)
  clear nc Y J aP hS T O a8 ae b3 R av f aa V
  go_upto_region 5 with fail
  rw[<- (Qa aG).1,(Qa aG).2]
  clear y0 y1 y2 y3
  refine Qaz (md:=[(0,true),(1,true),(2,true),(3,true),(4,true),(5,true),(6,true),(7,true),(8,false)]) (fun w'=>w'.cell? (Ja cb 6)=some (.map (some E))/\w'.cell? (Ja tb 0)=some (str x.name)) mixedO (by kernel_rfl) rfl (by kernel_rfl) (fun PP D=>?_)
  iterate 8 refine Qac rfl (by kernel_rfl) (fun w' hw=>by obtain⟨aF,aI⟩:=hw;go_simp<;>rfl) ?_
  refine Qal rfl (Qa aO) (fun K hK=>?_)
  go_simp
  refine o.mono ?_
  clear o
  rintro en w4⟨rfl,ay,an⟩
  show K _ _
  refine hK _ _ ?_
  clear hK K
  obtain⟨aa,V,R,s3⟩:=Qa H3
  have n4:w4.heap[tb]?=_:=(an.block tb (Qaa R) (V.mt.cells_ne R)).trans R
  refine Qbc ⟨(cl9 ay.box).2.2.2.2.2.2.1,(cl4 n4).1⟩ (D _ _ ?_)
  clear D PP
  obtain⟨z0,z1,z2,z3,zf⟩:=cl4 n4
  obtain⟨so,aH⟩:=JF wr.heap.size
  have aJ:=hide aH
  clear aH
  have H4:=hide (show Nc n0 n1 p ⟨cb,0,0,E,G,F,.slice (Js gb) k0 c0,.slice a1 k1 c1,.slice a2 k2 c2,.slice a3 k3 c3,.slice a4 k4 c4⟩ (Jn) (tyRow (p.types.take (j+1))) (dcRow (p.decls.take 0)) (ctRow (p.types.take j)++coRow j (x.ctors.take 0)) w4/\Below n1 w w4/\so<=w4.heap.size from by
   obtain⟨J,O,a8,f,Y⟩:=Qa HX
   have b0:w3.heap.size<=w4.heap.size:=an.size
   have aZ:=Qa aJ
   refine⟨?_,aa.trans ((Below.refl _ w3).drew.mono (by omega) |>.trans (Kp.below an (by show n1<=w3.heap.size;omega) (Nat.le_of_lt V.l0.2.1))),by omega⟩
   rw[Qnw J]
   simpa[coRow] using ay)
  clear aa V R s3 n4 ay an
  go_wp2_with fail
  clear z0 z1 z2 z3 zf
  go_loopw [43] (fun v wq=>∃i:Nat,v = Ji (i:Int)/\i<=X/\Hid (Nc n0 n1 p ⟨cb,0,0,E,G,F,.slice (Js gb) k0 c0,.slice a1 k1 c1,.slice a2 k2 c2,.slice a3 k3 c3,.slice a4 k4 c4⟩ (Jn) (tyRow (p.types.take (j+1))) (dcRow (p.decls.take 0)) (ctRow (p.types.take j)++coRow j (x.ctors.take i)) wq/\Below n1 w wq/\so<=wq.heap.size)) (fun v _=>X - (intOf v).toNat)
  case atStart=>exact⟨0,rfl,Nat.zero_le _,H4⟩
  obtain⟨i,rfl,hi,HJ⟩:=hrel
  by_cases aC:i<X
  ·
   obtain⟨l,S,ad⟩:=Qa HJ
   obtain⟨J,O,a8,f,Y⟩:=Qa HX
   have aD:=l.n01
   have aK:=O.same Qci (by rw[Qa aJ];exact ad) (fun b B _=>(S.block b (by have aT:b<n0:=B;omega)).trans (Y.block b (by have aT:b<n0:=B;omega)).symm)
   obtain⟨y,m⟩:∃y,x.ctors[i]?=some y:=⟨x.ctors[i]'(by omega),List.getElem?_eq_getElem _⟩
   obtain⟨B,aE,aQ,e2,aB,aw,_,a9,H⟩:=aK.elem m
   obtain⟨ya,yn,yc,rfl,hY⟩:=a9
   simp only[Value.slice.injEq]at e2
   obtain⟨rfl,-,-⟩:=e2
   have y0:wr.cell? (Ja B (i*2))=some (str y.name):=H 0 _ rfl
   have y1:wr.cell? (Ja B (i*2+1))=some (.slice ya yn yc):=H 1 _ rfl
   obtain⟨s,L⟩:=JE (wr.alloc (.cells #[str y.name,.slice ya yn yc] 97))
   have k:=bnw L
   have d:=nnw L
   obtain⟨M,Z⟩:=JF wr.heap.size
   rw[Z]at d
   have g:=l.later k
   have C:n1<=wr.heap.size:=Nat.le_of_lt (Qaa l.par)
   have aA:=hide (show s.cell? (Ja cb 8)=some (.map (some F))/\s.cell? (Ja M 0)=some (str y.name) from ⟨(cl9 g.box).2.2.2.2.2.2.2.2.1,(cl2 d).1⟩)
   have o:=(g.later (Below.refl _ s).drew).putC y.name j i
   dsimp only at o
   have H5:=hide (Ya (S.trans (k.mono C)) (Ya g (Ya d (Ya k.size (Ya m (Ya ad C))))))
   have ab:=hide (Ya L Z)
   clear l S ad J O a8 f Y aD aK m aB aw H hY L k d Z g C
   go_upto_region 9 with fail
   rw[<- (Qa ab).1,(Qa ab).2]
   clear y0 y1
   refine Qaz (md:=[(0,true),(1,true),(2,true),(3,true),(4,true),(5,true),(6,true),(7,true),(8,true),(9,false)]) (fun w'=>w'.cell? (Ja cb 8)=some (.map (some F))/\w'.cell? (Ja M 0)=some (str y.name)) mixedO (by kernel_rfl) rfl (by kernel_rfl) (fun PP D=>?_)
   iterate 9 refine Qac rfl (by kernel_rfl) (fun w' hw=>by obtain⟨aF,aI⟩:=hw;go_simp<;>rfl) ?_
   refine Qal rfl (Qa aA) (fun K hK=>?_)
   go_simp
   refine o.mono ?_
   clear o
   rintro en N⟨rfl,a6,U⟩
   show K _ _
   refine hK _ _ ?_
   clear hK K
   obtain⟨k,g,d,s5,m,ad,C⟩:=Qa H5
   have n6:N.heap[M]?=_:=(U.block M (Qaa d) (g.mc.cells_ne d)).trans d
   refine Qbc ⟨(cl9 a6.box).2.2.2.2.2.2.2.2.1,(cl2 n6).1⟩ (D _ _ ?_)
   clear D PP
   have H6:=hide (show Nc n0 n1 p ⟨cb,0,0,E,G,F,.slice (Js gb) k0 c0,.slice a1 k1 c1,.slice a2 k2 c2,.slice a3 k3 c3,.slice a4 k4 c4⟩ (Jn) (tyRow (p.types.take (j+1))) (dcRow (p.decls.take 0)) (ctRow (p.types.take j)++coRow j (x.ctors.take (i+1))) N/\Below n1 w N/\so<=N.heap.size from by
    have b9:s.heap.size<=N.heap.size:=U.size
    refine⟨?_,k.trans ((Below.refl _ s).drew.mono (by omega) |>.trans (Kp.below U (by show n1<=s.heap.size;omega) (Nat.le_of_lt g.l0.2.2.2))),by omega⟩
    rw[Qmy j m,<- List.append_assoc]
    exact a6)
   clear k g d s5 m ad C n6 a6 U
   go_wp2_with fail
   go_roundw
   case rel=>exact⟨i+1,by congr 1,by omega,H6⟩
   case measure=>simp[intOf];omega
  have aq:i=X:=by omega
  subst aq
  go_wp2_with fail
  go_roundw
  case rel=>
   refine⟨j+1,by congr 1,by omega,hide ⟨?_,(Qa HJ).2.1⟩⟩
   obtain⟨J,O,a8,f,Y⟩:=Qa HX
   have h:=(Qa HJ).1
   rw[a8,List.take_length,<- Qmz J]at h
   exact h
  case measure=>simp[intOf];omega
 have aS:j=k0:=by omega
 subst aS
 obtain⟨ak,ap,ag,af,ao,xf⟩:=cl5 (Qa HI).1.par
 go_wp2_with fail
 clear ak ap ag af ao xf
 go_loopw [63] (fun v wq=>∃i:Nat,v = Ji (i:Int)/\i<=k1/\Hid (Nc n0 n1 p ⟨cb,0,0,E,G,F,.slice a0 j c0,.slice a1 k1 c1,.slice a2 k2 c2,.slice a3 k3 c3,.slice a4 k4 c4⟩ (Jn) (tyRow p.types) (dcRow (p.decls.take i)) (ctRow p.types) wq/\Below n1 w wq)) (fun v _=>k1 - (intOf v).toNat)
 case atStart=>
  refine⟨0,rfl,Nat.zero_le _,hide ⟨?_,(Qa HI).2⟩⟩
  have h:=(Qa HI).1
  rw[(Qa HQ).1,List.take_length]at h
  rw[(Qa HQ).1]
  exact h
 obtain⟨i,rfl,hi,HJ⟩:=hrel
 by_cases aC:i<k1
 ·
  obtain⟨l,S⟩:=Qa HJ
  obtain⟨y,m⟩:∃y,p.decls[i]?=some y:=⟨p.decls[i]'(by have:=(Qa HQ).2;omega),List.getElem?_eq_getElem _⟩
  obtain⟨B,aE,aQ,e2,aB,aw,_,a9,H⟩:=l.decls.elem m
  obtain⟨ya,yn,yc,rfl,hY⟩:=a9
  simp only[Value.slice.injEq]at e2
  obtain⟨rfl,-,-⟩:=e2
  have y0:wr.cell? (Ja B (i*5))=some (str y.name):=H 0 _ rfl
  have y1:wr.cell? (Ja B (i*5+1))=some (.slice ya yn yc):=H 1 _ rfl
  have y2:wr.cell? (Ja B (i*5+2))=some (.bool y.input):=H 2 _ rfl
  have y3:wr.cell? (Ja B (i*5+3))=some (.bool y.output):=H 3 _ rfl
  have y4:wr.cell? (Ja B (i*5+4))=some (Ji y.at_):=H 4 _ rfl
  obtain⟨s,L⟩:=JE (wr.alloc (.cells #[str y.name,.slice ya yn yc,.bool y.input,.bool y.output,Ji y.at_] 63))
  have k:=bnw L
  have d:=nnw L
  obtain⟨M,Z⟩:=JF wr.heap.size
  rw[Z]at d
  have g:=l.later k
  have C:n1<=wr.heap.size:=Nat.le_of_lt (Qaa l.par)
  have aA:=hide (show s.cell? (Ja cb 7)=some (.map (some G))/\s.cell? (Ja M 0)=some (str y.name) from ⟨(cl9 g.box).2.2.2.2.2.2.2.1,(cl5 d).1⟩)
  have o:=(g.later (Below.refl _ s).drew).putD y.name i
  dsimp only at o
  have H5:=hide (Ya (S.trans (k.mono C)) (Ya g (Ya d (Ya k.size (Ya m C)))))
  have ab:=hide (Ya L Z)
  clear l S m aB aw H hY L k d Z g C
  go_upto_region 15 with fail
  rw[<- (Qa ab).1,(Qa ab).2]
  clear y0 y1 y2 y3 y4
  refine Qaz (md:=[(0,true),(1,true),(2,true),(3,true),(4,true),(5,true),(6,true),(7,false)]) (fun w'=>w'.cell? (Ja cb 7)=some (.map (some G))/\w'.cell? (Ja M 0)=some (str y.name)) mixedO (by kernel_rfl) rfl (by kernel_rfl) (fun PP D=>?_)
  iterate 7 refine Qac rfl (by kernel_rfl) (fun w' hw=>by obtain⟨aF,aI⟩:=hw;go_simp<;>rfl) ?_
  refine Qal rfl (Qa aA) (fun K hK=>?_)
  go_simp
  refine o.mono ?_
  clear o
  rintro en N⟨rfl,a6,U⟩
  show K _ _
  refine hK _ _ ?_
  clear hK K
  obtain⟨k,g,d,s5,m,C⟩:=Qa H5
  have n6:N.heap[M]?=_:=(U.block M (Qaa d) (g.md.cells_ne d)).trans d
  refine Qbc ⟨(cl9 a6.box).2.2.2.2.2.2.2.1,(cl5 n6).1⟩ (D _ _ ?_)
  clear D PP
  have H6:=hide (show Nc n0 n1 p ⟨cb,0,0,E,G,F,.slice a0 j c0,.slice (Js B) k1 c1,.slice a2 k2 c2,.slice a3 k3 c3,.slice a4 k4 c4⟩ (Jn) (tyRow p.types) (dcRow (p.decls.take (i+1))) (ctRow p.types) N/\Below n1 w N from by
   refine⟨?_,k.trans ((Below.refl _ s).drew.mono (by omega) |>.trans (Kp.below U (by show n1<=s.heap.size;omega) (Nat.le_of_lt g.l0.2.2.1)))⟩
   rw[Qn m]
   exact a6)
  clear k g d s5 m C n6 a6 U
  go_wp2_with fail
  go_roundw
  case rel=>exact⟨i+1,by congr 1,by omega,H6⟩
  case measure=>simp[intOf];omega
 have aq:i=k1:=by omega
 subst aq
 obtain⟨hn0,hP,hK,I,f⟩:=Qa H0
 obtain⟨l,S⟩:=Qa HJ
 rw[(Qa HQ).2,List.take_length,<- (Qa HQ).2]at l
 have a7:=hK _ _ l
 dsimp only at a7
 have HB:=hide (Ya S (Nat.le_of_lt (Qaa l.par)))
 clear hn0 hP hK I f l S
 go_wp2_with fail
 refine a7.mono ?_
 clear a7
 rintro en w7⟨rfl,b7,kb,kc,al⟩
 have HE:=hide (Ya al b7)
 clear al b7
 go_wp2_with fail
 go_ret
 exact⟨_,rfl,(Qa HE).1,(Qa HB).1.trans (Qa HE).2⟩
end
end Go.Proofs.YtmfpbepifnedjaaGreat
