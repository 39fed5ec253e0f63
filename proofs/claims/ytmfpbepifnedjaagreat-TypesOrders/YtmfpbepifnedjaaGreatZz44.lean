/- types. -/
import Derived.Test.YtmfpbepifnedjaaGreatZz01
import Derived.Test.YtmfpbepifnedjaaGreatZz43
import Derived.Test.YtmfpbepifnedjaaGreatZz37
import Derived.Test.YtmfpbepifnedjaaGreatZz10
import Derived.Test.YtmfpbepifnedjaaGreatZz11
set_option maxRecDepth 100000
set_option maxHeartbeats 32000000
namespace Go.Proofs.YtmfpbepifnedjaaGreat
section
open Go.RowKit Go.Maps
section
variable {n0:Nat}{p:Pg}{w:World}{a0 a1 a2 a3 a4:Option Addr}{k0 k1 k2 k3 k4 c0 c1 c2 c3 c4:Nat}
theorem flat_no(w:World)(hk:k2≠0∨k3≠0):Calls Tryz.prog 28 #[.agg #[.slice a0 k0 c0,.slice a1 k1 c1,.slice a2 k2 c2,.slice a3 k3 c3,.slice a4 k4 c4]] w fun en w'=>en = .returned (.bool false)/\Below w.heap.size w w':=by
 obtain⟨u,b⟩:=JE (w.alloc (.cells #[.slice a0 k0 c0,.slice a1 k1 c1,.slice a2 k2 c2,.slice a3 k3 c3,.slice a4 k4 c4] 28))
 have f:=bnw b
 have j:=nnw b
 obtain⟨m,n,o,q,r,v⟩:=cl5 j
 have k:=hide b
 have e:=hide f
 clear b f j
 go_enter Tryz.func28,Tryz.ntmps28
 go_upto_region 1 with fail
 rw[<- Qa k]
 by_cases c:k2=0
 ·
  subst c
  have h:k3≠0:=by omega
  have t:((k3:Int)==0)=false:=by simpa using h
  clear hk h
  go_wp2_with fail
  go_ret
  exact⟨rfl,Qa e⟩
 have s:((k2:Int)==0)=false:=by simpa using c
 clear hk c
 go_wp2_with fail
 go_ret
 exact⟨rfl,Qa e⟩
def nfA(p:Pg):Int:=match p.comps,p.inits with
 |c :: _,_=>c.2.2.2
 | [],i :: _=>i.at_
 | [],[]=>0
theorem Ql{S:Nat->Prop}(hP:PgS S w [.slice a0 k0 c0,.slice a1 k1 c1,.slice a2 k2 c2,.slice a3 k3 c3,.slice a4 k4 c4] p)(hk:k2≠0∨k3≠0):Calls Tryz.prog 29 #[.agg #[.slice a0 k0 c0,.slice a1 k1 c1,.slice a2 k2 c2,.slice a3 k3 c3,.slice a4 k4 c4]] w fun en w'=>en = .returned (ftV (1,nfA p))/\Below w.heap.size w w':=by
 obtain⟨L,y,e,K,s,R⟩:=Qas w #[.slice a0 k0 c0,.slice a1 k1 c1,.slice a2 k2 c2,.slice a3 k3 c3,.slice a4 k4 c4] 28
 obtain⟨v0,v1,v2,v3,v4,I,O,P,t,u,Q⟩:=(Qak.same _ _ L _ _ hP e.size (fun q _ W=>e.block q W)).cells
 obtain⟨rfl,rfl,rfl,rfl,rfl⟩:=list5 I
 obtain⟨_,_,z⟩:=t.sl
 obtain⟨_,_,A⟩:=u.sl
 simp only[Value.slice.injEq]at z A
 have c:k2=p.comps.length:=z.2.1
 have k:k3=p.inits.length:=A.2.1
 obtain⟨a6,a7,a8,a9,aa,xf⟩:=cl5 K
 obtain⟨ab,ac,yf⟩:=cl2 s
 have Z:=t.cap rfl
 have a5:=u.cap rfl
 cases b:p.comps with
 |cons cc cr=>
  obtain⟨J,cap,N,n,D,_,E,C,h⟩:=t.elem (j:=0) (x:=cc) (by rw[b];rfl)
  obtain⟨vb,V,rfl,M,_⟩:=C
  have m7:L.cell? (Ja J 7)=some (Ji cc.2.2.2):=by
   have:=h 7 (Ji cc.2.2.2) (by
    show(V++[Value.int .i64 cc.2.2.2])[5]?=_
    rw[List.getElem?_append_right (by omega),M]
    rfl)
   simpa using this
  simp only[Value.slice.injEq]at n
  obtain⟨rfl,-,-⟩:=n
  have T:0<k2:=by rw[c,b];simp
  have hg:(0:Int)<(k2:Int):=by omega
  have o:nfA p=cc.2.2.2:=by unfold nfA;rw[b]
  rw[o]
  obtain⟨U,f,sc⟩:=sc2 s (Ji 1) (Ji cc.2.2.2)
  have m:=hide (Ya (sc.below e (by omega)) sc.box)
  have B:=hide f
  have H:=hide y
  clear y e K s R hP hk I O P t u Q z A c k b D E M h o f sc
  go_enter Tryz.func29,Tryz.ntmps29
  go_upto_region 1 with fail
  rw[<- Qa H]
  go_wp2_with fail
  rw[<- Qa B]
  obtain⟨F,G,Y⟩:=cl2 (Qa m).2
  refine bodyPost_ret (v:=ftV (1,cc.2.2.2)) (by simp[results,Tryz.results29,go_sem,F,G,ftV]) rfl ?_
  exact⟨rfl,(Qa m).1⟩
 |nil=>
  cases r:p.inits with
  |nil=>rw[b]at c;rw[r]at k;simp at c k;omega
  |cons ii ir=>
   obtain⟨J,cap,N,n,D,_,E,C,h⟩:=u.elem (j:=0) (x:=ii) (by rw[r];rfl)
   obtain rfl:N=_:=C
   have m2:L.cell? (Ja J 2)=some (Ji ii.at_):=by simpa using h 2 _ rfl
   simp only[Value.slice.injEq]at n
   obtain⟨rfl,-,-⟩:=n
   have X:k2=0:=by rw[c,b];rfl
   subst X
   have T:0<k3:=by rw[k,r];simp
   have o:nfA p=ii.at_:=by unfold nfA;rw[b,r]
   rw[o]
   obtain⟨U,f,sc⟩:=sc2 s (Ji 1) (Ji ii.at_)
   have m:=hide (Ya (sc.below e (by omega)) sc.box)
   have B:=hide f
   have H:=hide y
   clear y e K s R hP hk I O P t u Q z A c k b r D E h o f sc
   go_enter Tryz.func29,Tryz.ntmps29
   go_upto_region 1 with fail
   rw[<- Qa H]
   go_wp2_with fail
   rw[<- Qa B]
   obtain⟨F,G,Y⟩:=cl2 (Qa m).2
   refine bodyPost_ret (v:=ftV (1,ii.at_)) (by simp[results,Tryz.results29,go_sem,F,G,ftV]) rfl ?_
   exact⟨rfl,(Qa m).1⟩
theorem Qon{S:Nat->Prop}(hP:PgS S w [.slice a0 k0 c0,.slice a1 k1 c1,.slice a2 k2 c2,.slice a3 k3 c3,.slice a4 k4 c4] p)(hk:k2≠0∨k3≠0):Calls Tryz.prog 10 #[.agg #[.slice a0 k0 c0,.slice a1 k1 c1,.slice a2 k2 c2,.slice a3 k3 c3,.slice a4 k4 c4]] w fun en w'=>en = .returned (ftV (1,nfA p))/\Below w.heap.size w w':=by
 obtain⟨O,D,h,c,j,n⟩:=Qas w #[.slice a0 k0 c0,.slice a1 k1 c1,.slice a2 k2 c2,.slice a3 k3 c3,.slice a4 k4 c4] 28
 have C:=flat_no (a0:=a0) (k0:=k0) (c0:=c0) (a1:=a1) (k1:=k1) (c1:=c1) (a2:=a2) (c2:=c2) (a3:=a3) (c3:=c3) (a4:=a4) (k4:=k4) (c4:=c4) O hk
 obtain⟨r,s,t,u,x,z⟩:=cl5 c
 obtain⟨H,e⟩:=JF (nfA p)
 rw[e]
 have M:=hide D
 have G:=hide (Ya h (Ya c (Ya j (Ya hP (Ya hk (Ya e n))))))
 clear D h c j n hP hk e
 go_enter Tryz.func10,Tryz.ntmps10
 go_upto_region 1 with fail
 rw[<- Qa M]
 go_wp2_with fail
 refine C.mono ?_
 clear C r s t u x z
 rintro en P⟨rfl,m⟩
 obtain⟨h,c,j,hP,hk,e,n⟩:=Qa G
 have E:=(m.block _ (Qaa c)).trans c
 have f:=(m.block _ (Qaa j)).trans j
 have b:=h.trans (m.mono h.size)
 have k:=Ql (Qak.same _ _ P _ _ hP b.size (fun q _ N=>b.block q N)) hk
 rw[e]at k
 unfold ftV at k
 obtain⟨r,s,t,u,x,z⟩:=cl5 E
 have L:=hide (Ya b f)
 clear h c j hP hk e n m E f b G
 go_wp2_with fail
 refine k.mono ?_
 clear k r s t u x z
 rintro en U⟨rfl,y⟩
 obtain⟨b,f⟩:=Qa L
 have o:=(y.block _ (Qaa f)).trans f
 have A:=b.trans (y.mono b.size)
 obtain⟨T,B,sc⟩:=sc2 o (Ji 1) (Ji H)
 obtain⟨Q,R,V⟩:=cl2 o
 have F:=hide (Ya (sc.below A (by omega)) sc.box)
 have I:=hide B
 clear b f o A y B sc
 go_wp2_with fail
 rw[<- Qa I]
 obtain⟨J,K,W⟩:=cl2 (Qa F).2
 refine bodyPost_ret (v:=ftV (1,H)) (by simp[results,Tryz.results10,go_sem,J,K,ftV]) rfl ?_
 exact⟨rfl,(Qa F).1⟩
def chkP(p:Pg):Flt:=if p.comps=[]/\p.inits=[] then ckF p 0 else (1,nfA p)
theorem Qom(hn0:n0<=w.heap.size)(hP:PgS (fun b=>b<n0) w [.slice a0 k0 c0,.slice a1 k1 c1,.slice a2 k2 c2,.slice a3 k3 c3,.slice a4 k4 c4] p)(hts:p.types.length<=1000000000)(hsz:∀x∈p.clauses,ltBs x.body<=1000000000):
  Calls Tryz.prog 10 #[.agg #[.slice a0 k0 c0,.slice a1 k1 c1,.slice a2 k2 c2,.slice a3 k3 c3,.slice a4 k4 c4]] w fun en w'=>en = .returned (ftV (chkP p))/\Below w.heap.size w w':=by
 obtain⟨v,y,z,A,B,n,s,t,q,r,u⟩:=hP.cells
 obtain⟨rfl,rfl,rfl,rfl,rfl⟩:=list5 n
 obtain⟨_,_,f⟩:=q.sl
 obtain⟨_,_,h⟩:=r.sl
 simp only[Value.slice.injEq]at f h
 have j:k2=p.comps.length:=f.2.1
 have k:k3=p.inits.length:=h.2.1
 unfold chkP
 by_cases c:p.comps=[]/\p.inits=[]
 ·
  rw[if_pos c]
  obtain rfl:k2=0:=by rw[j,c.1];rfl
  obtain rfl:k3=0:=by rw[k,c.2];rfl
  exact Qgz hn0 hP hts (fun m x o=>Qi (hsz x o) m)
 rw[if_neg c]
 refine Qon hP ?_
 by_cases e:p.comps=[]
 ·refine .inr (fun h=>c ⟨e,List.eq_nil_of_length_eq_zero (by omega)⟩)
 ·refine .inl (fun f=>e (List.eq_nil_of_length_eq_zero (by omega)))
end
def XA(rb g cap:Nat)(l:List Tok)(w:World)(d:Nat)(R:World->Value->Prop)(a' i':Nat)(en:Ending)(w':World):Prop:=
 ∃v,en = .returned v/\R w' v/\Rr rb g cap l w' a' d i' 0 0/\Kp rb w w'
def isSg(t:Tok)(s:Txt):Bool:=decide (t.kind=4)&&decide (t.text=s)
theorem Qgo{rb g cap a d i:Nat}{l:List Tok}{w:World}(h:Rr rb g cap l w a d i 0 0){t:Tok}(ht:l[a]?=some t)(s:Txt):
  Calls Tryz.prog 56 #[.pointer (Js rb),str s] w fun en w'=>en = .returned (.bool (isSg t s))/\Below w.heap.size w w':=by
 have f:=Qaw h
 have v:∀w',Below w.heap.size w w'->Calls Tryz.prog 22 #[.pointer (Js rb)] w' fun en n=>en = .returned (.agg #[Ji t.kind,str t.text,Ji t.num,Ji (t.at_:Int)])/\Below w'.heap.size w' n:=fun w' y=>Qao (h.later y) ht
 rw[decide_eq_true rfl]at f
 have o:=hide v
 clear h ht v
 by_cases k:t.kind=4
 ·
  have x:(t.kind==4)=true:=beq_iff_eq.2 k
  have b:=Qa o w (Below.refl _ _)
  by_cases m:t.text=s
  ·
   have q:=hide (show isSg t s=true by unfold isSg;rw[decide_eq_true k,decide_eq_true m];rfl)
   rw[m]at b o
   clear k m
   go_enter Tryz.func56,Tryz.ntmps56
   go_wp2_with fail
   refine f.mono ?_
   clear f
   rintro en _⟨rfl,rfl⟩
   go_wp2_with fail
   refine b.mono ?_
   clear b
   rintro en n⟨rfl,e⟩
   have b:=Qa o n e
   have j:=hide e
   clear e
   go_wp2_with fail
   rename_i c
   refine c _ _ ?_
   clear c
   go_wp2_with fail
   refine b.mono ?_
   clear b
   rintro en z⟨rfl,r⟩
   have u:=hide ((Qa j).trans (r.mono (Qa j).size))
   clear r
   go_wp2_with fail
   rename_i c
   refine c _ _ ?_
   clear c
   go_wp2_with fail
   go_ret
   rw[Qa q]
   exact⟨by simp,Qa u⟩
  have q:=hide (show isSg t s=false by unfold isSg;rw[decide_eq_false m,Bool.and_false])
  have A:(t.text==s)=false:=by simpa using m
  clear k m
  go_enter Tryz.func56,Tryz.ntmps56
  go_wp2_with fail
  refine f.mono ?_
  clear f
  rintro en _⟨rfl,rfl⟩
  go_wp2_with fail
  refine b.mono ?_
  clear b
  rintro en n⟨rfl,e⟩
  have b:=Qa o n e
  have j:=hide e
  clear e
  go_wp2_with fail
  rename_i c
  refine c _ _ ?_
  clear c
  go_wp2_with fail
  refine b.mono ?_
  clear b
  rintro en z⟨rfl,r⟩
  have u:=hide ((Qa j).trans (r.mono (Qa j).size))
  clear r
  go_wp2_with fail
  rename_i c
  refine c _ _ ?_
  clear c
  go_wp2_with fail
  go_ret
  rw[Qa q]
  exact⟨by simp[str],Qa u⟩
 have x:(t.kind==4)=false:=beq_eq_false_iff_ne.2 k
 have q:=hide (show isSg t s=false by unfold isSg;rw[decide_eq_false k];rfl)
 have b:=Qa o w (Below.refl _ _)
 clear k
 go_enter Tryz.func56,Tryz.ntmps56
 go_wp2_with fail
 refine f.mono ?_
 clear f
 rintro en _⟨rfl,rfl⟩
 go_wp2_with fail
 refine b.mono ?_
 clear b
 rintro en n⟨rfl,e⟩
 have j:=hide e
 clear e
 go_wp2_with fail
 rename_i c
 refine c _ _ ?_
 clear c
 go_wp2_with fail
 go_ret
 rw[Qa q]
 exact⟨rfl,Qa j⟩
theorem Qpg{t:Tok}{s:Txt}(h:isSg t s=true):t.kind=4/\t.text=s:=by
 unfold isSg at h
 simpa using h
theorem Qgp{rb g cap a d i:Nat}{l:List Tok}{w:World}(h:Rr rb g cap l w a d i 0 0){t:Tok}(ht:l[a]?=some t)(hk:t.kind≠0):
  Calls Tryz.prog 61 #[.pointer (Js rb)] w fun en w'=>XA rb g cap l w d (fun _ v=>v=tkA t) (a+1) i en w':=by
 have m:=h.more ht hk
 refine(Qb h ht).mono ?_
 rintro en w'⟨v,o,r,s,q,c,e,⟨rfl,rfl,j⟩,b,f⟩
 rcases j with ⟨_,_,rfl⟩|⟨_,n⟩
 ·
  have k:=b.z rfl
  subst k
  exact⟨v,c,e,b,f⟩
 ·exact absurd m (n rfl)
theorem Qix{rb g cap a d i:Nat}{l:List Tok}{w:World}(h:Rr rb g cap l w a d i 0 0){t:Tok}(ht:l[a]?=some t)(s:Txt):
  Calls Tryz.prog 57 #[.pointer (Js rb),str s] w fun en w'=>XA rb g cap l w d (fun _ v=>v = .bool (isSg t s)) (if isSg t s=true then a+1 else a) i en w':=by
 have f:=Qgo h ht s
 have H:=hide (Ya h ht)
 obtain⟨b,j⟩:=JF (isSg t s)
 rw[j]at f ⊢
 have o:=hide j
 clear h ht j
 go_enter Tryz.func57,Tryz.ntmps57
 go_wp2_with fail
 refine f.mono ?_
 clear f
 rintro en q⟨rfl,c⟩
 cases b
 ·
  have e:=hide c
  clear c
  go_wp2_with fail
  go_ret
  exact⟨_,rfl,rfl,(Qa H).1.later (Qa e),Kp.of_below (Qa e)⟩
 have k:=Qgp ((Qa H).1.later c) (Qa H).2 (by rw[(Qpg (Qa o)).1];decide)
 have e:=hide c
 clear c
 go_wp2_with fail
 refine k.mono ?_
 clear k
 rintro en r⟨_,rfl,rfl,n,k3⟩
 have m:=hide (Ya n k3)
 clear n k3
 go_wp2_with fail
 go_ret
 exact⟨_,rfl,rfl,(Qa m).1,(Kp.of_below (Qa e)).trans (Qa m).2⟩
theorem Qrq{rb g cap a d i:Nat}{l:List Tok}{w:World}(h:Rr rb g cap l w a d i 0 0){t:Tok}(ht:l[a]?=some t){s:Txt}(hs:isSg t s=true):
  Calls Tryz.prog 64 #[.pointer (Js rb),str s] w fun en w'=>XA rb g cap l w d noV (a+1) i en w':=by
 have b:=Qix h ht s
 rw[if_pos hs,hs]at b
 clear h hs
 go_enter Tryz.func64,Tryz.ntmps64
 go_wp2_with fail
 refine b.mono ?_
 clear b
 rintro en f⟨_,rfl,rfl,c,k2⟩
 have e:=hide (Ya c k2)
 clear c k2
 go_wp2_with fail
 go_end0
 exact⟨_,rfl,rfl,Qa e⟩
theorem Qkg{rb g cap a d i:Nat}{l:List Tok}{w:World}(h:Rr rb g cap l w a d i 0 0){t:Tok}(ht:l[a]?=some t)(hk:t.kind=1):
  Calls Tryz.prog 65 #[.pointer (Js rb)] w fun en w'=>XA rb g cap l w d (fun _ v=>v=str t.text) (a+1) i en w':=by
 have c:=Qao h ht
 unfold tkA at c
 have H:=hide (Ya h (Ya ht hk))
 have o:(t.kind != 1)=false:=by simpa using hk
 clear h ht hk
 go_enter Tryz.func65,Tryz.ntmps65
 go_wp2_with fail
 refine c.mono ?_
 clear c
 rintro en q⟨rfl,f⟩
 have k:=(Qa H).1.later f
 have e:=Qgp k (Qa H).2.1 (by rw[(Qa H).2.2];decide)
 unfold tkA at e
 have n:=hide f
 clear k f
 go_wp2_with fail
 rename_i b
 refine b _ _ ?_
 clear b
 go_wp2_with fail
 refine e.mono ?_
 clear e
 rintro en r⟨_,rfl,rfl,m,k3⟩
 have j:=hide (Ya m k3)
 clear m k3
 go_wp2_with fail
 rename_i b
 refine b _ _ ?_
 clear b
 go_wp2_with fail
 go_ret
 exact⟨_,rfl,rfl,(Qa j).1,(Kp.of_below (Qa n)).trans (Qa j).2⟩
theorem Qkh{rb g cap a d i:Nat}{l:List Tok}{w:World}(h:Rr rb g cap l w a d i 0 0){t:Tok}(ht:l[a]?=some t)(hk:t.kind=1)(hw:wordP t.text=true)(h95:t.text≠[95]):
  Calls Tryz.prog 63 #[.pointer (Js rb)] w fun en w'=>XA rb g cap l w d (fun _ v=>v=str t.text) (a+1) i en w':=by
 have q:∀w',Below w.heap.size w w'->Calls Tryz.prog 22 #[.pointer (Js rb)] w' fun en f=>en = .returned (.agg #[Ji t.kind,str t.text,Ji t.num,Ji (t.at_:Int)])/\Below w'.heap.size w' f:=fun w' F=>Qao (h.later F) ht
 have r:(⟨t.text.toArray⟩:ByteArray).size<=140737488355328:=by
  have:=h.tx t (List.mem_of_getElem? ht)
  have e:(⟨t.text.toArray⟩:ByteArray).size=t.text.length:=by simp[ByteArray.size]
  omega
 have s:∀w',Calls Tryz.prog 92 #[str t.text] w' fun e f=>e = .returned (.bool true)/\f=w':=fun w'=>by
  have:=Qjv ⟨t.text.toArray⟩ r w'
  simpa[str,hw] using this
 have I:(t.text==[95])=false:=by simpa using h95
 have j:=hide q
 have D:=hide s
 have H:=hide (Ya h (Ya ht hk))
 have J:(t.kind != 1)=false:=by simpa using hk
 have c:=Qa j w (Below.refl _ _)
 clear h ht q s r hk hw
 go_enter Tryz.func63,Tryz.ntmps63
 go_wp2_with fail
 refine c.mono ?_
 clear c
 rintro en f⟨rfl,n⟩
 have c:=Qa j f n
 have u:=hide (n)
 clear n
 go_wp2_with fail
 rename_i b
 refine b _ _ ?_
 clear b
 go_wp2_with fail
 refine c.mono ?_
 clear c
 rintro en G⟨rfl,z⟩
 have m:=hide ((Qa u).trans (z.mono (Qa u).size))
 clear z
 have o:=Qa D G
 go_wp2_with fail
 rename_i b
 refine b _ _ ?_
 clear b
 go_wp2_with fail
 refine o.mono ?_
 clear o
 rintro en E⟨rfl,rfl⟩
 have c:=Qa j E (Qa m)
 go_wp2_with fail
 refine c.mono ?_
 clear c
 rintro en K⟨rfl,A⟩
 have x:=hide ((Qa m).trans (A.mono (Qa m).size))
 clear A
 have k:=Qgp ((Qa H).1.later (Qa x)) (Qa H).2.1 (by rw[(Qa H).2.2];decide)
 unfold tkA at k
 go_wp2_with fail
 rename_i b
 refine b _ _ ?_
 clear b
 go_wp2_with fail
 refine k.mono ?_
 clear k
 rintro en L⟨_,rfl,rfl,B,C⟩
 have y:=hide (Ya B C)
 clear B C
 go_wp2_with fail
 rename_i b
 refine b _ _ ?_
 clear b
 go_wp2_with fail
 go_ret
 exact⟨_,rfl,rfl,(Qa y).1,(Kp.of_below (Qa x)).trans (Qa y).2⟩
def zk(t:Tok):Int×Txt×Int:=(t.kind,t.text,t.num)
def Nxt(l:List Tok)(a:Nat)(ks:List Tok):Prop:=(l.drop a).map zk=ks.map zk
theorem Nxt.at{l:List Tok}{a:Nat}{t0:Tok}{ks:List Tok}(h:Nxt l a (t0 :: ks)):∃t,l[a]?=some t/\zk t=zk t0/\Nxt l (a+1) ks:=by
 unfold Nxt at h
 cases b:l.drop a with
 |nil=>rw[b]at h;simp at h
 |cons t m=>
  rw[b,List.map_cons,List.map_cons,List.cons.injEq]at h
  have c:l[a]?=some t:=by rw[<- List.head?_drop,b];rfl
  refine⟨t,c,h.1,?_⟩
  unfold Nxt
  rw[<- List.drop_drop,b]
  exact h.2
def sgQ(s:Txt):Tok:=⟨4,s,0,0⟩
def nmR(s:Txt):Tok:=⟨1,s,0,0⟩
theorem Qg{t t0:Tok}(h:zk t=zk t0)(s:Txt):isSg t s=isSg t0 s:=by
 unfold zk at h
 simp only[Prod.mk.injEq]at h
 unfold isSg
 rw[h.1,h.2.1]
def XB(rb g cap:Nat)(l:List Tok)(w:World)(d:Nat)(R:World->Value->Prop)(rest:List Tok)(i':Nat)(en:Ending)(w':World):Prop:=
 ∃v a',en = .returned v/\R w' v/\Rr rb g cap l w' a' d i' 0 0/\Kp rb w w'/\Nxt l a' rest
section
variable {rb g cap a d i:Nat}{l:List Tok}{w:World}
theorem Qce(h:Rr rb g cap l w a d i 0 0){t0:Tok}{ks:List Tok}(hA:Nxt l a (t0 :: ks))(s:Txt):
  Calls Tryz.prog 56 #[.pointer (Js rb),str s] w fun en w'=>en = .returned (.bool (isSg t0 s))/\Below w.heap.size w w':=by
 obtain⟨t,b,c,_⟩:=hA.at
 rw[<- Qg c s]
 exact Qgo h b s
theorem Qde(h:Rr rb g cap l w a d i 0 0){s:Txt}{ks:List Tok}(hA:Nxt l a (sgQ s :: ks)):
  Calls Tryz.prog 57 #[.pointer (Js rb),str s] w fun en w'=>XB rb g cap l w d (fun _ v=>v = .bool true) ks i en w':=by
 obtain⟨t,m,n,k⟩:=hA.at
 have e:isSg t s=true:=by rw[Qg n s];simp[isSg,sgQ]
 refine(Qix h m s).mono ?_
 rintro en w'⟨v,f,b,c,j⟩
 rw[if_pos e]at c
 rw[e]at b
 exact⟨v,_,f,b,c,j,k⟩
theorem Qdo(h:Rr rb g cap l w a d i 0 0){s:Txt}{t0:Tok}{ks:List Tok}(hA:Nxt l a (t0 :: ks))(h0:isSg t0 s=false):
  Calls Tryz.prog 57 #[.pointer (Js rb),str s] w fun en w'=>XB rb g cap l w d (fun _ v=>v = .bool false) (t0 :: ks) i en w':=by
 obtain⟨t,k,m,_⟩:=hA.at
 have e:isSg t s=false:=by rw[Qg m s,h0]
 refine(Qix h k s).mono ?_
 rintro en w'⟨v,f,b,c,j⟩
 rw[if_neg (by rw[e];simp)]at c
 rw[e]at b
 exact⟨v,_,f,b,c,j,hA⟩
theorem Qda(h:Rr rb g cap l w a d i 0 0){s:Txt}{ks:List Tok}(hA:Nxt l a (sgQ s :: ks)):
  Calls Tryz.prog 64 #[.pointer (Js rb),str s] w fun en w'=>XB rb g cap l w d noV ks i en w':=by
 obtain⟨t,m,n,k⟩:=hA.at
 have e:isSg t s=true:=by rw[Qg n s];simp[isSg,sgQ]
 refine(Qrq h m e).mono ?_
 rintro en w'⟨v,b,c,f,j⟩
 exact⟨v,_,b,c,f,j,k⟩
theorem Qkj(h:Rr rb g cap l w a d i 0 0){s:Txt}{ks:List Tok}(hA:Nxt l a (nmR s :: ks)):
  Calls Tryz.prog 65 #[.pointer (Js rb)] w fun en w'=>XB rb g cap l w d (fun _ v=>v=str s) ks i en w':=by
 obtain⟨t,m,b,k⟩:=hA.at
 simp only[zk,nmR,Prod.mk.injEq]at b
 refine(Qkg h m b.1).mono ?_
 rintro en w'⟨v,e,c,f,j⟩
 rw[b.2.1]at c
 exact⟨v,_,e,c,f,j,k⟩
theorem Qgr(h:Rr rb g cap l w a d i 0 0){s:Txt}{ks:List Tok}(hA:Nxt l a (nmR s :: ks))(hw:wordP s=true)(h95:s≠[95]):
  Calls Tryz.prog 63 #[.pointer (Js rb)] w fun en w'=>XB rb g cap l w d (fun _ v=>v=str s) ks i en w':=by
 obtain⟨t,m,b,k⟩:=hA.at
 simp only[zk,nmR,Prod.mk.injEq]at b
 refine(Qkh h m b.1 (by rw[b.2.1];exact hw) (by rw[b.2.1];exact h95)).mono ?_
 rintro en w'⟨v,e,c,f,j⟩
 rw[b.2.1]at c
 exact⟨v,_,e,c,f,j,k⟩
end
def fdQ(f:Fld):List Tok:=[nmR f.name,sgQ [58],nmR f.type]
def joinQ:List (List Tok)->List Tok
 | []=>[]
 |t :: ts=>t++ts.flatMap (sgQ [44] :: ·)
def leftQ{α : Type}(K:α -> List Tok)(xs:List α)(j:Nat):List Tok:=if j=0 then joinQ (xs.map K) else ((xs.drop j).map K).flatMap (sgQ [44] :: ·)
theorem Qcp{α : Type}(K:α -> List Tok)(xs:List α):leftQ K xs xs.length=[]:=by
 unfold leftQ
 split
 ·rename_i h;rw[List.length_eq_zero_iff.1 h];rfl
 ·rw[List.drop_length];rfl
theorem Qf{α : Type}(K:α -> List Tok){xs:List α}{x:α}(h:xs[0]?=some x):leftQ K xs 0=K x++leftQ K xs 1:=by
 cases xs with
 |nil=>cases h
 |cons y ys=>cases h;simp[leftQ,joinQ]
theorem Qcy{α : Type}(K:α -> List Tok){xs:List α}{j:Nat}{x:α}(hj:j≠0)(h:xs[j]?=some x):leftQ K xs j=sgQ [44] :: (K x++leftQ K xs (j+1)):=by
 unfold leftQ
 rw[if_neg hj,if_neg (by omega),List.drop_eq_getElem_cons (List.getElem?_eq_some_iff.1 h).1]
 have e:=(List.getElem?_eq_some_iff.1 h).2
 rw[e]
 simp
def lenV(v:Value):Nat:=match v with | .slice _ n _=>n|_=>0
theorem Qlo{rb g cap a d i:Nat}{l:List Tok}{w:World}(h:Rr rb g cap l w a d i 0 0){so se:Txt}(he:se≠[44]){xs:List Fld}(hx:∀f∈xs,wordP f.name=true/\f.name≠[95])(hm:xs.length<=8){rest:List Tok}(hA:Nxt l a (sgQ so :: (joinQ (xs.map fdQ)++sgQ se :: rest))):
  Calls Tryz.prog 90 #[.pointer (Js rb),str so,str se] w fun en w'=>XB rb g cap l w d (fun w' v=>LsAt PF 2 (fun b=>w.heap.size<=b) w' v xs) rest i en w':=by
 have H:=Qda h hA
 have A:=hide (Ya (Qaa h.box) h.row.lt)
 have HX:=hide (Ya hx he)
 obtain⟨n,X⟩:=JF xs.length
 have D:=hide X
 rw[X]at hm
 clear h hA hx he X
 go_enter Tryz.func90,Tryz.ntmps90
 go_wp2_with fail
 refine H.mono ?_
 clear H
 rintro en w1⟨_,a0,rfl,rfl,y,k0,ab⟩
 have H0:=hide (Ya y (Ya k0 ab))
 clear y k0 ab
 go_wp2_with fail
 go_loopw [7,8] (fun sl fb wr=>∃(j a1:Nat) (aa:Bool) (sa:Option Addr) (sc:Nat),sl = .slice sa j sc/\fb = .bool aa/\j<=n/\j<=sc/\sc<=maxLen/\Hid (Qown PF 2 67 w wr (.slice sa j sc) (xs.take j)/\Rr rb g cap l wr a1 d i 0 0/\Kp rb w wr/\Nxt l a1 (leftQ fdQ xs j++sgQ se :: rest)/\aa=decide (j=0))) (fun sl _ _=>n+1 - lenV sl)
 case atStart=>
  obtain⟨y,k0,ab⟩:=Qa H0
  exact⟨0,a0,true,none,0,rfl,rfl,Nat.zero_le _,Nat.le_refl _,by unfold maxLen;omega,hide ⟨Qown.nil _ _,y,k0,ab,rfl⟩⟩
 obtain⟨j,a1,aa,sa,sc,rfl,rfl,hj,aF,ax,m⟩:=hrel
 unfold maxLen at ax
 clear H0
 go_upto_region 4 with fail
 go_cut [31] from 13 to 48 (fun c wc=>∃(F:Nat),c = .bool (decide (j<n))/\Hid (Qown PF 2 67 w wc (.slice sa j sc) (xs.take j)/\Rr rb g cap l wc F d i 0 0/\Kp rb w wc/\(j<n -> ∃x,xs[j]?=some x/\Nxt l F (fdQ x++(leftQ fdQ xs (j+1)++sgQ se :: rest)))/\(¬j<n->Nxt l F (sgQ se :: rest))))
 case first=>
  have C:=Qaw (Qa m).2.1
  rw[decide_eq_true rfl]at C
  cases aa
  ·
   have y:j≠0:=by simpa using (Qa m).2.2.2.2.symm
   by_cases o:j<n
   ·
    obtain⟨x,u⟩:∃x,xs[j]?=some x:=⟨xs[j]'(by rw[Qa D];exact o),List.getElem?_eq_getElem _⟩
    have k:=(Qa m).2.2.2.1
    rw[Qcy fdQ y u]at k
    simp only[List.cons_append,List.append_assoc]at k
    have U:=Qde (Qa m).2.1 k
    have av:=hide u
    clear k u y
    go_wp2_with fail
    refine C.mono ?_
    clear C
    rintro en wq⟨rfl,rfl⟩
    go_wp2_with fail
    refine U.mono ?_
    clear U
    rintro en V⟨_,F,rfl,rfl,t,k2,k⟩
    have E:=hide (Ya ((Qa m).1.kp Qbb k2 (Qa A).1) (Ya t (Ya ((Qa m).2.2.1.trans k2) k)))
    clear t k2 k
    go_wp2_with fail
    go_meet
    obtain⟨M,t,N,k⟩:=Qa E
    exact⟨F,by rw[decide_eq_true o],hide ⟨M,t,N,fun _=>⟨x,Qa av,k⟩,fun e=>absurd o e⟩⟩
   have k:=(Qa m).2.2.2.1
   rw[show leftQ fdQ xs j=[] by rw[show j=n by omega,<- Qa D,Qcp],List.nil_append]at k
   have U:=Qdo (s:=[44]) (Qa m).2.1 k (by unfold isSg;rw[decide_eq_false (show ¬(sgQ se).text=[44] from (Qa HX).2),Bool.and_false])
   clear k y
   go_wp2_with fail
   refine C.mono ?_
   clear C
   rintro en wq⟨rfl,rfl⟩
   go_wp2_with fail
   refine U.mono ?_
   clear U
   rintro en V⟨_,F,rfl,rfl,t,k2,k⟩
   have E:=hide (Ya ((Qa m).1.kp Qbb k2 (Qa A).1) (Ya t (Ya ((Qa m).2.2.1.trans k2) k)))
   clear t k2 k
   go_wp2_with fail
   go_meet
   obtain⟨M,t,N,k⟩:=Qa E
   exact⟨F,by rw[decide_eq_false o],hide ⟨M,t,N,fun e=>absurd e o,fun _=>k⟩⟩
  have y:j=0:=by simpa using (Qa m).2.2.2.2.symm
  by_cases o:j<n
  ·
   obtain⟨x,u⟩:∃x,xs[j]?=some x:=⟨xs[j]'(by rw[Qa D];exact o),List.getElem?_eq_getElem _⟩
   have k:=(Qa m).2.2.2.1
   rw[show leftQ fdQ xs j=fdQ x++leftQ fdQ xs (j+1) by rw[y]at u ⊢;exact Qf fdQ u,List.append_assoc]at k
   have J:=Qce (Qa m).2.1 (show Nxt l a1 (nmR x.name :: _) from k) se
   rw[show isSg (nmR x.name) se=false from rfl]at J
   have HQ:=hide (Ya k u)
   clear k u y
   go_wp2_with fail
   refine C.mono ?_
   clear C
   rintro en wq⟨rfl,rfl⟩
   go_wp2_with fail
   refine J.mono ?_
   clear J
   rintro en V⟨rfl,G⟩
   have E:=hide (Ya ((Qa m).1.kp Qbb (Kp.of_below (rb:=rb) G) (Qa A).1) (Ya ((Qa m).2.1.later G) ((Qa m).2.2.1.trans (Kp.of_below G))))
   clear G
   go_wp2_with fail
   go_meet
   obtain⟨M,t,N⟩:=Qa E
   exact⟨a1,by rw[decide_eq_true o],hide ⟨M,t,N,fun _=>⟨x,(Qa HQ).2,(Qa HQ).1⟩,fun e=>absurd o e⟩⟩
  have k:=(Qa m).2.2.2.1
  rw[show leftQ fdQ xs j=[] by rw[show j=n by omega,<- Qa D,Qcp],List.nil_append]at k
  have J:=Qce (Qa m).2.1 k se
  rw[show isSg (sgQ se) se=true by simp[isSg,sgQ]]at J
  have HQ:=hide k
  clear k y
  go_wp2_with fail
  refine C.mono ?_
  clear C
  rintro en wq⟨rfl,rfl⟩
  go_wp2_with fail
  refine J.mono ?_
  clear J
  rintro en V⟨rfl,G⟩
  have E:=hide (Ya ((Qa m).1.kp Qbb (Kp.of_below (rb:=rb) G) (Qa A).1) (Ya ((Qa m).2.1.later G) ((Qa m).2.2.1.trans (Kp.of_below G))))
  clear G
  go_wp2_with fail
  go_meet
  obtain⟨M,t,N⟩:=Qa E
  exact⟨a1,by rw[decide_eq_false o],hide ⟨M,t,N,fun e=>absurd e o,fun _=>Qa HQ⟩⟩
 obtain⟨F,rfl,X0⟩:=hcut
 by_cases o:j<n
 ·
  rw[decide_eq_true o]
  obtain⟨k,W,z,S,_⟩:=Qa X0
  obtain⟨x,u,hA⟩:=S o
  have ak:=(Qa HX).1 x (List.mem_of_getElem? u)
  have aq:=Qgr W (show Nxt l F (nmR x.name :: _) from hA) ak.1 ak.2
  have K:xs.take (j+1)=xs.take j++[x]:=by rw[List.take_add_one,u];rfl
  have g8:¬((8:Int)<=(j:Int)):=by omega
  have XF:=hide (Ya k (Ya z K))
  have au:=hide (show(xs.take j).length=j by rw[List.length_take,Qa D];omega)
  obtain⟨V,aw⟩:=JE wc
  subst aw
  clear k W z S u hA ak K X0
  go_wp2_with fail
  refine aq.mono ?_
  clear aq
  rintro en w4⟨_,a4,rfl,rfl,h4,k4,n4⟩
  obtain⟨W5,ac⟩:=JE (w4.alloc (.cells #[str x.name,Je] 67))
  have L:Below w4.heap.size w4 W5:=bnw ac
  have Q:W5.heap[w4.heap.size]?=some (.cells #[str x.name,Je] 67 (0,0)):=nnw ac
  have H:=Qda (h4.later L) n4
  obtain⟨P,T⟩:=JF w4.heap.size
  have H4:=hide (Ya k4 (Ya L (Ya Q T)))
  have al:=hide ac
  clear h4 k4 L Q ac T n4
  go_wp2_with fail
  rw[<- Qa al,(Qa H4).2.2.2]
  clear al
  refine H.mono ?_
  clear H
  rintro en w6⟨_,a6,rfl,rfl,h6,O,n6⟩
  have ao:=Qkj h6 n6
  have H6:=hide O
  clear h6 O n6
  go_wp2_with fail
  refine ao.mono ?_
  clear ao
  rintro en R⟨_,a7,rfl,rfl,h7,k7,ah⟩
  obtain⟨k4,L,Q,T⟩:=Qa H4
  have O:=Qa H6
  obtain⟨k,z,K⟩:=Qa XF
  have ay:=k4.size
  have aC:=z.size
  have az:=L.size
  have aA:=O.size
  have aB:=k7.size
  rw[T]at Q
  have ad:P≠rb:=by have:=(Qa A).1;omega
  have an:P≠g:=by have:=(Qa A).2;omega
  have n7:R.heap[P]?=some (.cells #[str x.name,Je] 67 (0,0)):=k7.keep (O.keep Q ad) ad
  obtain⟨w8,B⟩:=JE (R.setCell (Ja P 1) (str x.type))
  have n8:w8.heap[P]?=some (.cells #[str x.name,str x.type] 67 (0,0)):=by rw[B];exact(Qah n7 1 _).trans rfl
  have s8:w8.heap.size=R.heap.size:=by rw[B];simp
  have o8:∀q,q≠P->w8.heap[q]?=R.heap[q]?:=fun q k=>by rw[B];exact hpS k
  have h8:=h7.move (w':=w8) (by omega) (o8 rb ad.symm) (o8 g an.symm)
  have ar:Kp rb V w8:=by
   have Z:=((k4.trans (Kp.of_below L)).trans O).trans k7
   refine⟨by rw[B];exact Z.os,by rw[B];exact Z.tape,by rw[B];exact Z.output,by rw[s8];exact Z.size,fun q k X=>(o8 q (by omega)).trans (Z.block q k X)⟩
  obtain⟨i0,hi,hz,ap,am⟩:=infoF
  obtain⟨r,wz,a5,ag,ai,I⟩:=k.more Qbb (by kernel_rfl:Tryz.prog.underlying 46=some (.slice 67)) hi hz ap am rfl (by decide) (by decide) z (x:=x) (cs:=[str x.name,str x.type]) rfl (by simp[Value.oneCell',str]) rfl h8 ar (Qa A).1 (Qa A).2 (by rw[Qa au];omega)
  obtain⟨ra,rc,er,ae,af⟩:=I.sl
  subst er
  rw[B]at a5
  rw[show(R.setCell (Ja P 1) (str x.type)).heap.size=R.heap.size by simp]at a5
  have aj:=hide a5
  obtain⟨aG,aH,xf⟩:=cl2 n7
  obtain⟨aD,aE,zf⟩:=cl2 n8
  rw[B]at aD aE
  rw[<- K]at I ae
  have a8:(xs.take (j+1)).length=j+1:=by rw[List.length_take,Qa D];omega
  have HE:=hide (Ya I (Ya ai (Ya ag (Ya ae (Ya af (Ya ah (Ya a8 K)))))))
  clear k4 L Q T O h7 k7 k z K ay aC az aA aB ad an n7 B n8 s8 o8 h8 ar hi hz ap am a5 ag ai I ae af zf ah a8
  go_wp2_with (at_builtin;refine Qai _ rfl _ _ 46 rfl _ _ rfl rfl _ _ (Qa aj) ?_;clear aj)
  go_roundw
  case rel=>
   obtain⟨I,ai,ag,ae,af,ah,a8,K⟩:=Qa HE
   refine⟨j+1,_,false,ra,rc,by have:=Qa D;congr 1;omega,rfl,by omega,by omega,af,hide ⟨?_,ai,ag,ah,by simp⟩⟩
   rw[a8]at I
   exact I
  have:=Qa D
  simp[lenV]
  omega
 rw[decide_eq_false o]
 obtain⟨k,W,z,_,S⟩:=Qa X0
 have H:=Qda W (S o)
 have E:=hide (Ya k z)
 have ej:j=n:=by omega
 have HE:=hide (show xs.take j=xs by rw[ej,<- Qa D];exact List.take_length)
 clear k W z S X0 ej
 go_wp2_with fail
 refine H.mono ?_
 clear H
 rintro en w9⟨_,a9,rfl,rfl,h9,Y,n9⟩
 have HZ:=hide (Ya h9 (Ya Y n9))
 clear h9 Y n9
 go_wp2_with fail
 go_ret
 obtain⟨h9,Y,n9⟩:=Qa HZ
 obtain⟨k,z⟩:=Qa E
 rw[Qa HE]at k
 exact⟨_,_,rfl,(k.kp Qbb Y (Qa A).1).ls Qbb,h9,z.trans Y,n9⟩
theorem Qdr{α : Type}(eq:α -> α -> Bool):∀(xs ys:List α) (x y:α),eqL eq xs ys=true->eq x y=true->eqL eq (xs++[x]) (ys++[y])=true
 | [],[],x,y,_,h=>by simp[eqL,h]
 | [],b :: ys,x,y,h,_=>by simp[eqL]at h
 |a :: xs,[],x,y,h,_=>by simp[eqL]at h
 |a :: xs,b :: ys,x,y,h,h2=>by
  rw[Qdq,Bool.and_eq_true]at h
  rw[List.cons_append,List.cons_append,Qdq,h.1,Qdr eq xs ys x y h.2 h2];rfl
def YE(F rb g cap:Nat)(l:List Tok)(d:Nat)(Fol:List Tok->Prop)(K:List Tok)(x:Ex):Prop:=∀(w:World) (a i:Nat) (r:List Tok),Rr rb g cap l w a d i 0 0->Nxt l a (K++r)->Fol r ->
 Calls Tryz.prog F #[.pointer (some ⟨rb,0,none⟩)] w fun en w'=>XB rb g cap l w d (fun w' v=>∃x',VE (fun b=>w.heap.size<=b) w' v x'/\eqE x' x=true) r i en w'
theorem Qod{rb g cap a d i:Nat}{l:List Tok}{w:World}(h:Rr rb g cap l w a d i 0 0){Fol:List Tok->Prop}(hF1:∀r,Fol (sgQ [44] :: r))(hF2:∀r,Fol (sgQ [41] :: r)){K:Ex->List Tok}{xs:List Ex}(hx:∀x∈xs,YE 108 rb g cap l d Fol (K x) x /\ ∃t0 ks,K x=t0 :: ks/\isSg t0 [41]=false)(hm:xs.length<=8){rest:List Tok}(hA:Nxt l a (sgQ [40] :: (joinQ (xs.map K)++sgQ [41] :: rest))):
  Calls Tryz.prog 107 #[.pointer (Js rb)] w fun en w'=>XB rb g cap l w d (fun w' v=>∃ys,LsAt PE 5 (fun b=>w.heap.size<=b) w' v ys/\eqL eqE ys xs=true) rest i en w':=by
 have N:=Qda h hA
 have F:=hide (Ya (Qaa h.box) h.row.lt)
 have HX:=hide hx
 have ak:=hide hF1
 have al:=hide hF2
 obtain⟨n,hn⟩:=JF xs.length
 have H:=hide hn
 rw[hn]at hm
 clear h hA hx hF1 hF2 hn
 go_enter Tryz.func107,Tryz.ntmps107
 go_wp2_with fail
 refine N.mono ?_
 clear N
 rintro en w1⟨_,a0,rfl,rfl,u,k0,T⟩
 have H0:=hide (Ya u (Ya k0 T))
 clear u k0 T
 go_wp2_with fail
 go_loopw [3,4] (fun sl fb wr=>∃(j a1:Nat) (S:Bool) (sa:Option Addr) (sc:Nat) (ys:List Ex),sl = .slice sa j sc/\fb = .bool S/\j<=n/\j<=sc/\sc<=maxLen/\Hid (Qown PE 5 59 w wr (.slice sa j sc) ys/\Rr rb g cap l wr a1 d i 0 0/\Kp rb w wr/\Nxt l a1 (leftQ K xs j++sgQ [41] :: rest)/\S=decide (j=0)/\ys.length=j/\eqL eqE ys (xs.take j)=true)) (fun sl _ _=>n+1 - lenV sl)
 case atStart=>
  obtain⟨u,k0,T⟩:=Qa H0
  exact⟨0,a0,true,none,0,[],rfl,rfl,Nat.zero_le _,Nat.le_refl _,by unfold maxLen;omega,hide ⟨Qown.nil _ _,u,k0,T,rfl,rfl,rfl⟩⟩
 obtain⟨j,a1,S,sa,sc,ys,rfl,rfl,hj,ap,ao,k⟩:=hrel
 unfold maxLen at ao
 clear H0
 go_upto_region 4 with fail
 go_cut [24] from 7 to 34 (fun c wc=>∃(D:Nat),c = .bool (decide (j<n))/\Hid (Qown PE 5 59 w wc (.slice sa j sc) ys/\Rr rb g cap l wc D d i 0 0/\Kp rb w wc/\(j<n -> ∃x,xs[j]?=some x/\Nxt l D (K x++(leftQ K xs (j+1)++sgQ [41] :: rest)))/\(¬j<n->Nxt l D (sgQ [41] :: rest))))
 case first=>
  have z:=Qaw (Qa k).2.1
  rw[decide_eq_true rfl]at z
  cases S
  ·
   have u:j≠0:=by simpa using (Qa k).2.2.2.2.1.symm
   by_cases m:j<n
   ·
    obtain⟨x,o⟩:∃x,xs[j]?=some x:=⟨xs[j]'(by rw[Qa H];exact m),List.getElem?_eq_getElem _⟩
    have f:=(Qa k).2.2.2.1
    rw[Qcy K u o]at f
    simp only[List.cons_append,List.append_assoc]at f
    have O:=Qde (Qa k).2.1 f
    have am:=hide o
    clear f o u
    go_wp2_with fail
    refine z.mono ?_
    clear z
    rintro en wq⟨rfl,rfl⟩
    go_wp2_with fail
    refine O.mono ?_
    clear O
    rintro en WX⟨_,D,rfl,rfl,t,k2,f⟩
    have A:=hide (Ya ((Qa k).1.kp Qaf k2 (Qa F).1) (Ya t (Ya ((Qa k).2.2.1.trans k2) f)))
    clear t k2 f
    go_wp2_with fail
    go_meet
    obtain⟨C,t,I,f⟩:=Qa A
    exact⟨D,by rw[decide_eq_true m],hide ⟨C,t,I,fun _=>⟨x,Qa am,f⟩,fun e=>absurd m e⟩⟩
   have f:=(Qa k).2.2.2.1
   rw[show leftQ K xs j=[] by rw[show j=n by omega,<- Qa H,Qcp],List.nil_append]at f
   have O:=Qdo (s:=[44]) (Qa k).2.1 f (by decide)
   clear f u
   go_wp2_with fail
   refine z.mono ?_
   clear z
   rintro en wq⟨rfl,rfl⟩
   go_wp2_with fail
   refine O.mono ?_
   clear O
   rintro en WX⟨_,D,rfl,rfl,t,k2,f⟩
   have A:=hide (Ya ((Qa k).1.kp Qaf k2 (Qa F).1) (Ya t (Ya ((Qa k).2.2.1.trans k2) f)))
   clear t k2 f
   go_wp2_with fail
   go_meet
   obtain⟨C,t,I,f⟩:=Qa A
   exact⟨D,by rw[decide_eq_false m],hide ⟨C,t,I,fun e=>absurd e m,fun _=>f⟩⟩
  have u:j=0:=by simpa using (Qa k).2.2.2.2.1.symm
  by_cases m:j<n
  ·
   obtain⟨x,o⟩:∃x,xs[j]?=some x:=⟨xs[j]'(by rw[Qa H];exact m),List.getElem?_eq_getElem _⟩
   have f:=(Qa k).2.2.2.1
   rw[show leftQ K xs j=K x++leftQ K xs (j+1) by rw[u]at o ⊢;exact Qf K o,List.append_assoc]at f
   obtain⟨t0,ks,ae,af⟩:=(Qa HX x (List.mem_of_getElem? o)).2
   have G:=Qce (Qa k).2.1 (show Nxt l a1 (t0 :: (ks++_)) by have q:=f;rw[ae]at q;exact q) [41]
   rw[af]at G
   clear ae af
   have Z:=hide (Ya f o)
   clear f o u
   go_wp2_with fail
   refine z.mono ?_
   clear z
   rintro en wq⟨rfl,rfl⟩
   go_wp2_with fail
   refine G.mono ?_
   clear G
   rintro en WX⟨rfl,B⟩
   have A:=hide (Ya ((Qa k).1.kp Qaf (Kp.of_below (rb:=rb) B) (Qa F).1) (Ya ((Qa k).2.1.later B) ((Qa k).2.2.1.trans (Kp.of_below B))))
   clear B
   go_wp2_with fail
   go_meet
   obtain⟨C,t,I⟩:=Qa A
   exact⟨a1,by rw[decide_eq_true m],hide ⟨C,t,I,fun _=>⟨x,(Qa Z).2,(Qa Z).1⟩,fun e=>absurd m e⟩⟩
  have f:=(Qa k).2.2.2.1
  rw[show leftQ K xs j=[] by rw[show j=n by omega,<- Qa H,Qcp],List.nil_append]at f
  have G:=Qce (Qa k).2.1 f [41]
  rw[show isSg (sgQ [41]) [41]=true by simp[isSg,sgQ]]at G
  have Z:=hide f
  clear f u
  go_wp2_with fail
  refine z.mono ?_
  clear z
  rintro en wq⟨rfl,rfl⟩
  go_wp2_with fail
  refine G.mono ?_
  clear G
  rintro en WX⟨rfl,B⟩
  have A:=hide (Ya ((Qa k).1.kp Qaf (Kp.of_below (rb:=rb) B) (Qa F).1) (Ya ((Qa k).2.1.later B) ((Qa k).2.2.1.trans (Kp.of_below B))))
  clear B
  go_wp2_with fail
  go_meet
  obtain⟨C,t,I⟩:=Qa A
  exact⟨a1,by rw[decide_eq_false m],hide ⟨C,t,I,fun e=>absurd e m,fun _=>Qa Z⟩⟩
 obtain⟨D,rfl,X0⟩:=hcut
 by_cases m:j<n
 ·
  rw[decide_eq_true m]
  obtain⟨f,Q,y,M,_⟩:=Qa X0
  obtain⟨x,o,hA⟩:=M m
  have ah:=(Qa HX x (List.mem_of_getElem? o)).1
  have a6:Fol (leftQ K xs (j+1)++sgQ [41] :: rest):=by
   by_cases C:j+1<n
   ·
    rw[Qcy K (by omega) (List.getElem?_eq_getElem (show j+1<xs.length by rw[Qa H];exact C))]
    exact Qa ak _
   rw[show leftQ K xs (j+1)=[] by rw[show j+1=n by omega,<- Qa H,Qcp]]
   exact Qa al _
  have ad:=ah _ _ _ _ Q hA a6
  have P:xs.take (j+1)=xs.take j++[x]:=by rw[List.take_add_one,o];rfl
  have g8:¬((8:Int)<=(j:Int)):=by omega
  have XF:=hide (Ya f (Ya y P))
  obtain⟨WX,an⟩:=JE wc
  subst an
  clear f Q y M o hA ah P a6 X0
  go_wp2_with fail
  refine ad.mono ?_
  clear ad
  rintro en w7⟨_,a7,rfl,⟨E,⟨_,rfl,⟨ka,kn,kc,rfl⟩,ai⟩,ac⟩,h7,k7,X⟩
  obtain⟨f,y,P⟩:=Qa XF
  obtain⟨i0,hi,hz,ag,ab⟩:=infoE
  obtain⟨r,wz,a8,W,Y,J⟩:=f.more Qaf (by kernel_rfl:Tryz.prog.underlying 40=some (.slice 59)) hi hz ag ab rfl (by decide) (by decide) y (x:=E) (cs:=[Ji E.kind,Ji E.num,str E.txt,.slice ka kn kc,Ji E.at_]) rfl (by simp[Value.oneCell',str]) ai h7 k7 (Qa F).1 (Qa F).2 (by rw[(Qa k).2.2.2.2.2.1];omega)
  obtain⟨ra,rc,er,aa,U⟩:=J.sl
  subst er
  have a5:=hide a8
  have L:(ys++[E]).length=j+1:=by rw[List.length_append,(Qa k).2.2.2.2.2.1];rfl
  have V:eqL eqE (ys++[E]) (xs.take (j+1))=true:=by rw[P];exact Qdr eqE _ _ _ _ (Qa k).2.2.2.2.2.2 ac
  have HE:=hide (Ya J (Ya Y (Ya W (Ya aa (Ya U (Ya X (Ya L V)))))))
  clear ai ac h7 k7 f y P hi hz ag ab a8 W Y J aa U X L V
  go_wp2_with (at_builtin;refine Qai _ rfl _ _ 40 rfl _ _ rfl rfl _ _ (Qa a5) ?_;clear a5)
  go_roundw
  case rel=>
   obtain⟨J,Y,W,aa,U,X,L,V⟩:=Qa HE
   have aj:=(Qa k).2.2.2.2.2.1
   refine⟨j+1,_,false,ra,rc,ys++[E],by first|rw[L]|(congr 1;omega)|(simp[aj]),rfl,by omega,by omega,U,hide ⟨?_,Y,W,X,by simp,L,V⟩⟩
   rw[L]at J
   exact J
  have aj:=(Qa k).2.2.2.2.2.1
  simp[lenV]
  omega
 rw[decide_eq_false m]
 obtain⟨f,Q,y,_,M⟩:=Qa X0
 have N:=Qda Q (M m)
 have A:=hide (Ya f y)
 have ej:j=n:=by omega
 have HE:=hide (show eqL eqE ys xs=true by have q:=(Qa k).2.2.2.2.2.2;rw[ej,<- Qa H,List.take_length]at q;exact q)
 clear f Q y M X0 ej
 go_wp2_with fail
 refine N.mono ?_
 clear N
 rintro en w9⟨_,a9,rfl,rfl,h9,R,n9⟩
 have HZ:=hide (Ya h9 (Ya R n9))
 clear h9 R n9
 go_wp2_with fail
 go_ret
 obtain⟨h9,R,n9⟩:=Qa HZ
 obtain⟨f,y⟩:=Qa A
 exact⟨_,_,rfl,⟨ys,(f.kp Qaf R (Qa F).1).ls Qaf,Qa HE⟩,h9,y.trans R,n9⟩
end
end Go.Proofs.YtmfpbepifnedjaaGreat
