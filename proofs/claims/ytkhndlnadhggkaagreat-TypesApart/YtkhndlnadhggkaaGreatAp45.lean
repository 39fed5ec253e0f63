/- The document's reader by the tokens that are next. -/
import Derived.Test.YtkhndlnadhggkaaGreatAp01
import Derived.Test.YtkhndlnadhggkaaGreatAp44
import Derived.Test.YtkhndlnadhggkaaGreatAp11
import Derived.Test.YtkhndlnadhggkaaGreatAp12
set_option maxRecDepth 100000
set_option maxHeartbeats 32000000
namespace Go.Proofs.YtkhndlnadhggkaaGreat
section
open Go.RowKit Go.Maps
theorem Qdm{α : Type}(eq:α -> α -> Bool):∀(xs ys:List α) (x y:α),eqL eq xs ys=true->eq x y=true->eqL eq (xs++[x]) (ys++[y])=true
 | [],[],x,y,_,h=>by simp[eqL,h]
 | [],b :: ys,x,y,h,_=>by simp[eqL]at h
 |a :: xs,[],x,y,h,_=>by simp[eqL]at h
 |a :: xs,b :: ys,x,y,h,h2=>by
  rw[Qdl,Bool.and_eq_true]at h;rw[List.cons_append,List.cons_append,Qdl,h.1,Qdm eq xs ys x y h.2 h2];rfl
def YE(F rb g cap:Nat)(l:List Tok)(d:Nat)(Fol:List Tok->Prop)(K:List Tok)(x:Ex):Prop:=∀(w:World) (a i:Nat) (r:List Tok),Rr rb g cap l w a d i 0 0->Nxt l a (K++r)->Fol r ->
 Calls Tryz.prog F #[.pointer (some ⟨rb,0,none⟩)] w fun en w'=>XB rb g cap l w d (fun w' v=>∃x',VE (fun b=>w.heap.size<=b) w' v x'/\eqE x' x=true) r i en w'
theorem Qod{rb g cap a d i:Nat}{l:List Tok}{w:World}(h:Rr rb g cap l w a d i 0 0){Fol:List Tok->Prop}(hF1:∀r,Fol (sgQ [44] :: r))(hF2:∀r,Fol (sgQ [41] :: r)){K:Ex->List Tok}{xs:List Ex}(hx:∀x∈xs,YE 108 rb g cap l d Fol (K x) x /\ ∃t0 ks,K x=t0 :: ks/\isSg t0 [41]=false)(hm:xs.length<=8){rest:List Tok}(hA:Nxt l a (sgQ [40] :: (joinQ (xs.map K)++sgQ [41] :: rest))):
  Calls Tryz.prog 107 #[.pointer (Js rb)] w fun en w'=>XB rb g cap l w d (fun w' v=>∃ys,LsAt PE 5 (fun b=>w.heap.size<=b) w' v ys/\eqL eqE ys xs=true) rest i en w':=by
 have O:=Qcy h hA;have E:=hide (Ya (Qaa h.box) h.row.lt);have HX:=hide hx;have ah:=hide hF1;have ai:=hide hF2;obtain⟨n,hn⟩:=JF xs.length;have G:=hide hn;rw[hn]at hm;clear h hA hx hF1 hF2 hn;go_enter Tryz.func107,Tryz.ntmps107;go_wp2_with fail;refine O.mono ?_;clear O;rintro en w1⟨_,a0,rfl,rfl,t,k0,U⟩;have H0:=hide (Ya t (Ya k0 U));clear t k0 U;go_wp2_with fail;go_loopw [3,4] (fun sl fb wr=>∃(j M:Nat) (T:Bool) (sa:Option Addr) (sc:Nat) (ys:List Ex),sl = .slice sa j sc/\fb = .bool T/\j<=n/\j<=sc/\sc<=maxLen/\Hid (Qown PE 5 59 w wr (.slice sa j sc) ys/\Rr rb g cap l wr M d i 0 0/\Kp rb w wr/\Nxt l M (leftQ K xs j++sgQ [41] :: rest)/\T=decide (j=0)/\ys.length=j/\eqL eqE ys (xs.take j)=true)) (fun sl _ _=>n+1 - lenV sl)
 case atStart=>
  obtain⟨t,k0,U⟩:=Qa H0;exact⟨0,a0,true,none,0,[],rfl,rfl,Nat.zero_le _,Nat.le_refl _,by unfold maxLen;omega,hide ⟨Qown.nil _ _,t,k0,U,rfl,rfl,rfl⟩⟩
 obtain⟨j,M,T,sa,sc,ys,rfl,rfl,hj,am,al,k⟩:=hrel;unfold maxLen at al;clear H0;go_upto_region 4 with fail;go_cut [24] from 7 to 34 (fun c wc=>∃(C:Nat),c = .bool (decide (j<n))/\Hid (Qown PE 5 59 w wc (.slice sa j sc) ys/\Rr rb g cap l wc C d i 0 0/\Kp rb w wc/\(j<n -> ∃x,xs[j]?=some x/\Nxt l C (K x++(leftQ K xs (j+1)++sgQ [41] :: rest)))/\(¬j<n->Nxt l C (sgQ [41] :: rest))))
 case first=>
  have y:=Qax (Qa k).2.1;rw[decide_eq_true rfl]at y;cases T
  ·
   have t:j≠0:=by simpa using (Qa k).2.2.2.2.1.symm
   by_cases m:j<n
   ·
    obtain⟨x,o⟩:∃x,xs[j]?=some x:=⟨xs[j]'(by rw[Qa G];exact m),List.getElem?_eq_getElem _⟩;have f:=(Qa k).2.2.2.1;rw[Qcv K t o]at f;simp only[List.cons_append,List.append_assoc]at f;have P:=Qda (Qa k).2.1 f;have aj:=hide o;clear f o t;go_wp2_with fail;refine y.mono ?_;clear y;rintro en wq⟨rfl,rfl⟩;go_wp2_with fail;refine P.mono ?_;clear P;rintro en WX⟨_,C,rfl,rfl,p,I,f⟩;have z:=hide (Ya ((Qa k).1.kp Qag I (Qa E).1) (Ya p (Ya ((Qa k).2.2.1.trans I) f)));clear p I f;go_wp2_with fail;go_meet;obtain⟨B,p,H,f⟩:=Qa z;exact⟨C,by rw[decide_eq_true m],hide ⟨B,p,H,fun _=>⟨x,Qa aj,f⟩,fun e=>absurd m e⟩⟩
   have f:=(Qa k).2.2.2.1;rw[show leftQ K xs j=[] by rw[show j=n by omega,<- Qa G,Qcn],List.nil_append]at f;have P:=Qdj (s:=[44]) (Qa k).2.1 f (by decide);clear f t;go_wp2_with fail;refine y.mono ?_;clear y;rintro en wq⟨rfl,rfl⟩;go_wp2_with fail;refine P.mono ?_;clear P;rintro en WX⟨_,C,rfl,rfl,p,I,f⟩;have z:=hide (Ya ((Qa k).1.kp Qag I (Qa E).1) (Ya p (Ya ((Qa k).2.2.1.trans I) f)));clear p I f;go_wp2_with fail;go_meet;obtain⟨B,p,H,f⟩:=Qa z;exact⟨C,by rw[decide_eq_false m],hide ⟨B,p,H,fun e=>absurd e m,fun _=>f⟩⟩
  have t:j=0:=by simpa using (Qa k).2.2.2.2.1.symm
  by_cases m:j<n
  ·
   obtain⟨x,o⟩:∃x,xs[j]?=some x:=⟨xs[j]'(by rw[Qa G];exact m),List.getElem?_eq_getElem _⟩;have f:=(Qa k).2.2.2.1;rw[show leftQ K xs j=K x++leftQ K xs (j+1) by rw[t]at o ⊢;exact Qeu K o,List.append_assoc]at f;obtain⟨t0,ks,ab,ac⟩:=(Qa HX x (List.mem_of_getElem? o)).2;have F:=Qcd (Qa k).2.1 (show Nxt l M (t0 :: (ks++_)) by have q:=f;rw[ab]at q;exact q) [41];rw[ac]at F;clear ab ac;have HQ:=hide (Ya f o);clear f o t;go_wp2_with fail;refine y.mono ?_;clear y;rintro en wq⟨rfl,rfl⟩;go_wp2_with fail;refine F.mono ?_;clear F;rintro en WX⟨rfl,A⟩;have z:=hide (Ya ((Qa k).1.kp Qag (Kp.of_below (rb:=rb) A) (Qa E).1) (Ya ((Qa k).2.1.later A) ((Qa k).2.2.1.trans (Kp.of_below A))));clear A;go_wp2_with fail;go_meet;obtain⟨B,p,H⟩:=Qa z;exact⟨M,by rw[decide_eq_true m],hide ⟨B,p,H,fun _=>⟨x,(Qa HQ).2,(Qa HQ).1⟩,fun e=>absurd m e⟩⟩
  have f:=(Qa k).2.2.2.1;rw[show leftQ K xs j=[] by rw[show j=n by omega,<- Qa G,Qcn],List.nil_append]at f;have F:=Qcd (Qa k).2.1 f [41];rw[show isSg (sgQ [41]) [41]=true by simp[isSg,sgQ]]at F;have HQ:=hide f;clear f t;go_wp2_with fail;refine y.mono ?_;clear y;rintro en wq⟨rfl,rfl⟩;go_wp2_with fail;refine F.mono ?_;clear F;rintro en WX⟨rfl,A⟩;have z:=hide (Ya ((Qa k).1.kp Qag (Kp.of_below (rb:=rb) A) (Qa E).1) (Ya ((Qa k).2.1.later A) ((Qa k).2.2.1.trans (Kp.of_below A))));clear A;go_wp2_with fail;go_meet;obtain⟨B,p,H⟩:=Qa z;exact⟨M,by rw[decide_eq_false m],hide ⟨B,p,H,fun e=>absurd e m,fun _=>Qa HQ⟩⟩
 obtain⟨C,rfl,X0⟩:=hcut;by_cases m:j<n
 rotate_left
 ·
  rw[decide_eq_false m];obtain⟨f,R,u,_,N⟩:=Qa X0;have O:=Qcy R (N m);have z:=hide (Ya f u);have ej:j=n:=by omega
  have HE:=hide (show eqL eqE ys xs=true by have q:=(Qa k).2.2.2.2.2.2;rw[ej,<- Qa G,List.take_length]at q;exact q);clear f R u N X0 ej;go_wp2_with fail;refine O.mono ?_;clear O;rintro en w9⟨_,a9,rfl,rfl,h9,S,n9⟩;have HZ:=hide (Ya h9 (Ya S n9));clear h9 S n9;go_wp2_with fail;go_ret;obtain⟨h9,S,n9⟩:=Qa HZ;obtain⟨f,u⟩:=Qa z;exact⟨_,_,rfl,⟨ys,(f.kp Qag S (Qa E).1).ls Qag,Qa HE⟩,h9,u.trans S,n9⟩
 rw[decide_eq_true m];obtain⟨f,R,u,N,_⟩:=Qa X0;obtain⟨x,o,hA⟩:=N m;have ae:=(Qa HX x (List.mem_of_getElem? o)).1;have a3:Fol (leftQ K xs (j+1)++sgQ [41] :: rest):=by
  by_cases B:j+1<n
  ·
   rw[Qcv K (by omega) (List.getElem?_eq_getElem (show j+1<xs.length by rw[Qa G];exact B))];exact Qa ah _
  rw[show leftQ K xs (j+1)=[] by rw[show j+1=n by omega,<- Qa G,Qcn]];exact Qa ai _
 have aa:=ae _ _ _ _ R hA a3;have Q:xs.take (j+1)=xs.take j++[x]:=by rw[List.take_add_one,o];rfl
 have g8:¬((8:Int)<=(j:Int)):=by omega
 have XF:=hide (Ya f (Ya u Q));obtain⟨WX,ak⟩:=JE wc;subst ak;clear f R u N o hA ae Q a3 X0;go_wp2_with fail;refine aa.mono ?_;clear aa;rintro en w7⟨_,a7,rfl,⟨D,⟨_,rfl,⟨ka,kn,kc,rfl⟩,af⟩,a8⟩,h7,k7,Y⟩;obtain⟨f,u,Q⟩:=Qa XF;obtain⟨i0,hi,hz,ad,a6⟩:=infoE;obtain⟨r,wz,a4,X,Z,J⟩:=f.more Qag (by kernel_rfl:Tryz.prog.underlying 40=some (.slice 59)) hi hz ad a6 rfl (by decide) (by decide) u (x:=D) (cs:=[Ji D.kind,Ji D.num,str D.txt,.slice ka kn kc,Ji D.at_]) rfl (by simp[Value.oneCell',str]) af h7 k7 (Qa E).1 (Qa E).2 (by rw[(Qa k).2.2.2.2.2.1];omega);obtain⟨ra,rc,er,a5,V⟩:=J.sl;subst er;have a2:=hide a4;have L:(ys++[D]).length=j+1:=by rw[List.length_append,(Qa k).2.2.2.2.2.1];rfl
 have W:eqL eqE (ys++[D]) (xs.take (j+1))=true:=by rw[Q];exact Qdm eqE _ _ _ _ (Qa k).2.2.2.2.2.2 a8
 have HE:=hide (Ya J (Ya Z (Ya X (Ya a5 (Ya V (Ya Y (Ya L W)))))));clear af a8 h7 k7 f u Q hi hz ad a6 a4 X Z J a5 V Y L W;go_wp2_with (at_builtin;refine Qaj _ rfl _ _ 40 rfl _ _ rfl rfl _ _ (Qa a2) ?_;clear a2);go_roundw
 case rel=>
  obtain⟨J,Z,X,a5,V,Y,L,W⟩:=Qa HE;have ag:=(Qa k).2.2.2.2.2.1;refine⟨j+1,_,false,ra,rc,ys++[D],by first|rw[L]|(congr 1;omega)|(simp[ag]),rfl,by omega,by omega,V,hide ⟨?_,Z,X,Y,by simp,L,W⟩⟩;rw[L]at J;exact J
 have ag:=(Qa k).2.2.2.2.2.1;simp[lenV];omega
theorem Qob{rb g cap a d i:Nat}{l:List Tok}{w:World}(h:Rr rb g cap l w a d i 0 0)(hd:d<32):
  Calls Tryz.prog 60 #[.pointer (Js rb)] w fun en w'=>XA rb g cap l w (d+1) noV a i en w':=by
 obtain⟨e,f,j,k,m,n,o⟩:=cl6 h.box;have H:=hide h;clear h;have c:¬((32:Int)<=(d:Int)):=by omega
 have b:=hide hd;clear hd;go_enter Tryz.func60,Tryz.ntmps60;go_wp2_with fail
 go_end0
 exact⟨_,rfl,rfl,(Qa H).setD (d':=d+1) (by have:=Qa b;omega),Kp.set _ _ _ _⟩
def YEa(F rb g cap:Nat)(l:List Tok)(d:Nat)(args:Array Value)(Fol:List Tok->Prop)(K:List Tok)(x:Ex):Prop:=∀(w:World) (a i:Nat) (r:List Tok),Rr rb g cap l w a d i 0 0->Nxt l a (K++r)->Fol r ->
 Calls Tryz.prog F args w fun en w'=>XB rb g cap l w d (fun w' v=>∃x',VE (fun b=>w.heap.size<=b) w' v x'/\eqE x' x=true) r i en w'
attribute [local go_sem ↓] Qbu Qc
theorem Qul{rb g cap d:Nat}{l:List Tok}(hd:d<32){Fol:List Tok->Prop}{K:List Tok}{x:Ex}{F:Nat}(hF:(F=108/\YEa 121 rb g cap l (d+1) #[.pointer (Js rb),Ji 0] Fol K x)∨(F=132/\YEa 135 rb g cap l (d+1) #[.pointer (Js rb)] Fol K x)):YE F rb g cap l d Fol K x:=by
 rcases hF with ⟨rfl,hI⟩|⟨rfl,hI⟩
 all_goals
  intro w a i r h hA hF;have D:Below w.heap.size w (w.alloc (.cells #[Ji 0,Ji 0,Je,Jn,Ji 0] 59)):=(Below.refl _ w).alloc (Nat.le_refl _) _;have O:(w.alloc (.cells #[Ji 0,Ji 0,Je,Jn,Ji 0] 59)).heap[w.heap.size]?=some (.cells #[Ji 0,Ji 0,Je,Jn,Ji 0] 59 (0,0)):=heap_alloc_new w _;have Y:(w.alloc (.cells #[Ji 0,Ji 0,Je,Jn,Ji 0] 59)).heap.size=w.heap.size+1:=by simp
  have aa:=Qob (h.later D) hd;have ar:=Qaa h.box;have aq:=h.row.lt;have ag:=hide (show g≠w.heap.size by omega);have a5:=hide (Ya D (Ya O Y));have HI:=hide hI;have HA:=hide (Ya hA hF);clear h D O Y hI hA hF
  first|go_enter Tryz.func108,Tryz.ntmps108|go_enter Tryz.func132,Tryz.ntmps132
  go_wp2_with fail;refine aa.mono ?_;clear aa;rintro en A⟨_,rfl,rfl,h1,V⟩;obtain⟨D,O,Y⟩:=Qa a5;have a2:=V.size;obtain⟨z,t⟩:=JF A.heap.size;obtain⟨Q,I⟩:=JE (A.alloc (.cells #[Ji 0,Ji 0,Je,Jn,Ji 0] 59));have T:Below A.heap.size A Q:=by rw[I];exact(Below.refl _ A).alloc (Nat.le_refl _) _
  have M:Q.heap[z]?=some (.cells #[Ji 0,Ji 0,Je,Jn,Ji 0] 59 (0,0)):=by rw[I,<- t];exact heap_alloc_new A _
  have Z:Q.heap.size=A.heap.size+1:=by rw[I];simp
  have L:Q.heap[w.heap.size]?=some (.cells #[Ji 0,Ji 0,Je,Jn,Ji 0] 59 (0,0)):=(T.block _ (by omega)).trans (V.keep O (by omega));have N:=h1.later T;have k:Kp rb w Q:=((Kp.of_below D).trans V).trans (Kp.of_below T);have a3:=Qax N;rw[decide_eq_true rfl]at a3;have ac:w.heap.size<z:=by omega
  have a6:=hide (show z≠rb/\w.heap.size≠rb/\z≠w.heap.size by omega);have S:=hide (Ya N (Ya k (Ya M (Ya L (Ya Z (Ya t ac))))));have a7:=hide I;have N2:=Qhb A (c0:=Ji 0) (c1:=Ji 0) (c2:=Je) (c3:=Jn) (c4:=Ji 0) (by simp[Value.oneCell']);clear D O Y a2 ac t I T M Z L N k h1 V a5;go_wp2_with fail;rw[<- Qa a7,(Qa S).2.2.2.2.2.1];clear a7 N2;have ab:=Qa HI _ _ _ _ (Qa S).1 (Qa HA).1 (Qa HA).2;refine a3.mono ?_;clear a3;rintro en aj⟨rfl,rfl⟩;go_wp2_with fail;refine ab.mono ?_;clear ab;rintro en w3⟨_,aX,rfl,⟨e,⟨_,rfl,⟨n,p,o,rfl⟩,ad⟩,a0⟩,h3,m,a8⟩;obtain⟨N,k,M,L,Z,t,a2⟩:=Qa S;obtain⟨e1,e2,e3⟩:=Qa a6;have ai:=m.size;have m3:=m.keep M e1;have z3:=m.keep L e2;have S3:=Qbv (new:=#[Ji e.kind,Ji e.num,str e.txt,.slice n p o,Ji e.at_]) m3 rfl rfl (by simp[Value.oneCell',str]);obtain⟨f,s⟩:=JE (w3.setRow z #[Ji e.kind,Ji e.num,str e.txt,.slice n p o,Ji e.at_]);rw[<- s]at S3;have H:∀q,q≠z->f.heap[q]?=w3.heap[q]?:=fun q j=>by rw[s];exact setRow_other _ _ _ _ j
  have sX:f.heap.size=w3.heap.size:=by rw[s,size_setRow]
  have mX:f.heap[z]?=some (.cells #[Ji e.kind,Ji e.num,str e.txt,.slice n p o,Ji e.at_] 59 (0,0)):=by rw[s];exact setRow_heap _ _ _ _ _ _ m3
  have hX:=h3.move (w':=f) (by omega) (H rb e1.symm) (H g (by omega));have kX:Kp rb w f:=⟨by rw[s];exact(k.trans m).os,by rw[s];exact(k.trans m).tape,by rw[s];exact(k.trans m).output,by rw[sX];exact(k.trans m).size,fun q j hn=>(H q (by omega)).trans ((k.trans m).block q j hn)⟩;have af:ExS (fun b=>w.heap.size<=b/\b≠rb/\b≠w.heap.size) f [Ji e.kind,Ji e.num,str e.txt,.slice n p o,Ji e.at_] e:=by
   have q1:=Qag.same _ _ f _ _ (Qag.mono _ (fun b=>aj.heap.size<=b) _ _ _ ad (fun b _ y=>y)) (by omega) (fun b y hl=>H b (by omega));exact Qag.mono _ _ _ _ _ q1 (fun b _ y=>⟨by omega,by omega,by omega⟩)
  have XX:=hide (Ya hX (Ya kX (Ya mX (Ya ((H _ e3.symm).trans z3) (Ya af (Ya a0 a8))))));obtain⟨c,a4⟩:=JE e;rw[<- a4]at XX S3;rw[<- a4];clear ad a0 a8 h3 m N k M L Z t a2 e1 e2 e3 ai m3 z3 s H sX mX hX kX af a4 S HI HA;obtain⟨E,k4,m4,z4,ae,a9⟩:=Qa XX;obtain⟨av,aw,ax,ay,az,aA,xf⟩:=cl6 E.box;obtain⟨B,J⟩:=JE (f.setCell (Ja rb 2) (Ji (d:Int)));have h5:Rr rb g cap l B aX d i 0 0:=by rw[J];exact E.setD (by have:=E.dd;omega)
  have G:Kp rb w B:=by rw[J];exact k4.trans (Kp.set _ _ _ _)
  have X:∀q,q≠rb->B.heap[q]?=f.heap[q]?:=fun q j=>by rw[J];exact hpS j
  have s5:B.heap.size=f.heap.size:=by rw[J];simp
  obtain⟨t,a1,ah⟩:=Qa a6;have m5:=(X z t).trans m4;have z5:=(X w.heap.size a1).trans z4;have L5:=Qdg m5;have S5:=Qbv (new:=#[Ji c.kind,Ji c.num,str c.txt,.slice n p o,Ji c.at_]) z5 rfl rfl (by simp[Value.oneCell',str]);obtain⟨C,u⟩:=JE (B.setRow w.heap.size #[Ji c.kind,Ji c.num,str c.txt,.slice n p o,Ji c.at_]);rw[<- u]at S5;have P:∀q,q≠w.heap.size->C.heap[q]?=B.heap[q]?:=fun q j=>by rw[u];exact setRow_other _ _ _ _ j
  have s6:C.heap.size=B.heap.size:=by rw[u,size_setRow]
  have z6:C.heap[w.heap.size]?=some (.cells #[Ji c.kind,Ji c.num,str c.txt,.slice n p o,Ji c.at_] 59 (0,0)):=by rw[u];exact setRow_heap _ _ _ _ _ _ z5
  have U:=h5.move (w':=C) (by omega) (P rb a1.symm) (P g (Qa ag));have W:Kp rb w C:=⟨by rw[u];exact G.os,by rw[u];exact G.tape,by rw[u];exact G.output,by rw[s6];exact G.size,fun q j hn=>(P q (by omega)).trans (G.block q j hn)⟩;have R:ExS (fun b=>w.heap.size<=b) C [Ji c.kind,Ji c.num,str c.txt,.slice n p o,Ji c.at_] c:=by
   have q1:=Qag.same _ _ C _ _ ae (by omega) (fun b y hl=>(P b y.2.2).trans (X b y.2.1));exact Qag.mono _ _ _ _ _ q1 (fun b _ y=>y.1)
  have HF:=hide (Ya U (Ya W (Ya z6 R)));have au:IntKind.i64.wrap ((d:Int)+1 - 1)=(d:Int):=by rw[show(d:Int)+1 - 1=(d:Int) by omega];exact Qen d (by have:=E.dd;omega)
  have ap:=E.dd;clear E k4 m4 z4 ae h5 G X s5 t a1 ah m5 z5 P s6 z6 U W R u;subst J;go_wp2_with fail;obtain⟨U,W,z6,R⟩:=Qa HF;obtain⟨ak,al,am,an,ao,zf⟩:=ex5 z6;refine bodyPost_ret (v:=.agg #[Ji c.kind,Ji c.num,str c.txt,.slice n p o,Ji c.at_]) (by simp[results,Tryz.results108,Tryz.results132,go_sem,ak,al,am,an,ao]) rfl ?_;exact⟨_,_,rfl,⟨c,⟨_,rfl,⟨_,_,_,rfl⟩,R⟩,a9.1⟩,U,W,a9.2⟩
theorem Qtm{rb g cap d:Nat}{l:List Tok}(hd:d<32){Fol:List Tok->Prop}{K:List Tok}{x:Ex}(hI:YEa 121 rb g cap l (d+1) #[.pointer (Js rb),Ji 0] Fol K x):YE 108 rb g cap l d Fol K x:=Qul hd (.inl ⟨rfl,hI⟩)
theorem Qoe{rb g cap d:Nat}{l:List Tok}(hd:d<32){Fol:List Tok->Prop}{K:List Tok}{x:Ex}(hI:YEa 135 rb g cap l (d+1) #[.pointer (Js rb)] Fol K x):YE 132 rb g cap l d Fol K x:=Qul hd (.inr ⟨rfl,hI⟩)
end
section
open Go.RowKit Go.Maps
attribute [local go_sem ↓] Qbu Qc
theorem Qtr{rb g cap d:Nat}{l:List Tok}{Fol:List Tok->Prop}{K:List Tok}{x:Ex}(hF:YE 132 rb g cap l d Fol K x):YEa 121 rb g cap l d #[.pointer (Js rb),Ji 2] Fol K x:=by
 intro w a i r h P L;obtain⟨A,m⟩:=JE ((w.alloc (.cells #[Ji 0,Ji 0,Je,Jn,Ji 0] 59)).alloc (.cells #[.string ⟨#[43]⟩,.string ⟨#[45]⟩] 9));have j:Below w.heap.size w A:=by rw[m];exact((Below.refl _ w).alloc (Nat.le_refl _) _).alloc (by simp) _
 have s:A.heap[w.heap.size]?=some (.cells #[Ji 0,Ji 0,Je,Jn,Ji 0] 59 (0,0)):=by rw[m,Below.heap_alloc _ _ _ (by simp)];exact heap_alloc_new w _
 have M:=hF A a i r (h.later j) P L;have a2:=Qaa h.box;have a0:=h.row.lt;have E:A.heap.size=w.heap.size+2:=by rw[m];simp
 have X:=hide (Ya j (Ya s E));have J:=hide m;clear m j s h hF E P L;go_enter Tryz.func121,Tryz.ntmps121;go_wp2_with fail;rw[<- Qa J];clear J;refine M.mono ?_;clear M;rintro en H⟨_,a1,rfl,⟨c,⟨_,rfl,⟨n,p,o,rfl⟩,N⟩,u⟩,O,C,z⟩;obtain⟨j,s,E⟩:=Qa X;have R:=C.size;have I:=C.keep s (by omega);have Z:=Qbv (new:=#[Ji c.kind,Ji c.num,str c.txt,.slice n p o,Ji c.at_]) I rfl rfl (by simp[Value.oneCell',str]);obtain⟨f,e⟩:=JE (H.setRow w.heap.size #[Ji c.kind,Ji c.num,str c.txt,.slice n p o,Ji c.at_]);rw[<- e]at Z;have t:∀q,q≠w.heap.size->f.heap[q]?=H.heap[q]?:=fun q G=>by rw[e];exact setRow_other _ _ _ _ G
 have Q:f.heap.size=H.heap.size:=by rw[e,size_setRow]
 have F:f.heap[w.heap.size]?=some (.cells #[Ji c.kind,Ji c.num,str c.txt,.slice n p o,Ji c.at_] 59 (0,0)):=by rw[e];exact setRow_heap _ _ _ _ _ _ I
 have k:=(Kp.of_below (rb:=rb) j).trans C;have B:=O.move (w':=f) (by omega) (t rb (by omega)) (t g (by omega));have D:Kp rb w f:=⟨by rw[e];exact k.os,by rw[e];exact k.tape,by rw[e];exact k.output,by rw[Q];exact k.size,fun q G hn=>(t q (by omega)).trans (k.block q G hn)⟩;have y:ExS (fun b=>w.heap.size<=b) f [Ji c.kind,Ji c.num,str c.txt,.slice n p o,Ji c.at_] c:=by
  have q1:=Qag.same _ _ f _ _ N (by omega) (fun b hb hl=>t b (by omega));exact Qag.mono _ _ _ _ _ q1 (fun b _ hb=>by omega)
 have Y:=hide (Ya B (Ya D (Ya F (Ya y (Ya u z)))));clear O C N u z j s E R I e t Q F k B D y;go_wp2_with fail;obtain⟨B,D,F,y,u,z⟩:=Qa Y;obtain⟨S,T,U,V,W,zf⟩:=ex5 F;refine bodyPost_ret (v:=.agg #[Ji c.kind,Ji c.num,str c.txt,.slice n p o,Ji c.at_]) (by simp[results,Tryz.results121,go_sem,S,T,U,V,W]) rfl ?_;exact⟨_,_,rfl,⟨c,⟨_,rfl,⟨_,_,_,rfl⟩,y⟩,u⟩,B,D,z⟩
end
section
open Go.RowKit Go.Maps
abbrev Opq:=Txt×List Tok×Ex
def opsT:List Opq->List Tok
 | []=>[]
 |o :: os=>sgQ o.1 :: (o.2.1++opsT os)
def opsX:Ex->List Opq->Ex
 |e,[]=>e
 |e,o :: os=>opsX (.mk 5 0 o.1 [e,o.2.2] 0) os
def pickS(t:Tok)(ss:List Txt):Txt:=ss.foldl (fun o s=>if isSg t s=true then s else o) []
theorem Qjj{t:Tok}{ss:List Txt}{j:Nat}{s:Txt}(h:ss[j]?=some s):pickS t (ss.take (j+1))=if isSg t s=true then s else pickS t (ss.take j):=by
 unfold pickS;rw[List.take_add_one,h,List.foldl_append];rfl
theorem Qsv{t:Tok}{ss:List Txt}{j:Nat}{s:Txt}(h:ss[j]?=some s)(hs:isSg t s=true):s=pickS t (ss.take (j+1)):=by
 rw[Qjj h,if_pos hs]
theorem pick_no{t:Tok}{ss:List Txt}{j:Nat}{s o:Txt}(h:ss[j]?=some s)(hs:isSg t s=false)(ho:o=pickS t (ss.take j)):o=pickS t (ss.take (j+1)):=by
 rw[Qjj h,if_neg (by rw[hs];decide)];exact ho
theorem folO{Fol:List Tok->Prop}{r:List Tok}:∀{os:List Opq},(∀o∈os,∀r,Fol (sgQ o.1 :: r))->Fol r->Fol (opsT os++r)
 | [],_,h=>h
 |o :: _,hf,_=>hf o (List.mem_cons_self ..) _
theorem headO{P:Tok->Prop}{r:List Tok}(os:List Opq)(h:∃t r',r=t :: r'/\P t):∃t tl,opsT os++r=t :: tl:=by
 cases os with
 |nil=>obtain⟨t,r',h,_⟩:=h;exact⟨t,r',h⟩
 |cons o os=>exact⟨_,_,rfl⟩
theorem ops_end{os:List Opq}{r tl:List Tok}{t0:Tok}{SG:List Txt}(ht:opsT os++r=t0 :: tl)(hp:pickS t0 SG=[])(hg:∀o∈os,pickS (sgQ o.1) SG=o.1/\o.1≠[]):os=[]:=by
 cases os with
 |nil=>rfl
 |cons o os=>
  have e:sgQ o.1=t0:=by simp[opsT]at ht;exact ht.1
  obtain⟨a,b⟩:=hg o (List.mem_cons_self ..);rw[e,hp]at a;exact absurd a.symm b
theorem Qst{os:List Opq}{r tl:List Tok}{t0:Tok}{SG:List Txt}{ot:Txt}(ht:opsT os++r=t0 :: tl)(hr:∃t r',r=t :: r'/\pickS t SG=[])(hp:pickS t0 SG≠[])(hg:∀o∈os,pickS (sgQ o.1) SG=o.1/\o.1≠[])(ho:ot=pickS t0 SG):∃K2 e2 os2,os=(ot,K2,e2) :: os2:=by
 cases os with
 |nil=>
  obtain⟨t,r',e,h⟩:=hr;have e2:t=t0:=by rw[e]at ht;simp[opsT]at ht;exact ht.1
  exact absurd (e2▸h) hp
 |cons o os=>
  have e:sgQ o.1=t0:=by simp[opsT]at ht;exact ht.1
  obtain⟨a,b⟩:=hg o (List.mem_cons_self ..);obtain⟨c,K2,e2⟩:=o;rw[e,<- ho]at a;exact⟨K2,e2,os,by rw[a]⟩
theorem Nxt.len{l:List Tok}{a:Nat}{ks:List Tok}(h:Nxt l a ks):l.length - a=ks.length:=by
 have:=congrArg List.length h
 simpa using this
attribute [local go_sem ↓] Qbu Qc
def RwJ(rb g cap:Nat)(l:List Tok)(w:World)(d i:Nat)(ne ns:Nat)(sg:List Txt)(wr:World)(aX:Nat)(xX:Ex)(ka:Option Addr)(kn kc:Nat)(ex:Ex)(os:List Opq)(r:List Tok):Prop:=Rr rb g cap l wr aX d i 0 0/\Kp rb w wr/\wr.heap[ne]?=some (.cells #[.int .i64 xX.kind,.int .i64 xX.num,str xX.txt,.slice ka kn kc,.int .i64 xX.at_] 59 (0,0))/\wr.heap[w.heap.size]?=some (.cells #[.int .i64 0,.int .i64 0,.string ⟨#[]⟩,.slice none 0 0,.int .i64 0] 59 (0,0))/\ExS (fun b=>w.heap.size<b/\b≠ne) wr [.int .i64 xX.kind,.int .i64 xX.num,str xX.txt,.slice ka kn kc,.int .i64 xX.at_] xX/\(∀(j:Nat) (t:Txt),sg[j]?=some t->wr.cell? ⟨ns,j,none⟩=some (str t))/\eqE xX ex=true/\Nxt l aX (opsT os++r)
theorem RwJ.later{rb g cap:Nat}{l:List Tok}{w:World}{d i:Nat}{ne ns:Nat}{sg:List Txt}{wr wr2:World}{aX:Nat}{xX:Ex}{ka:Option Addr}{kn kc:Nat}{ex:Ex}{os:List Opq}{r:List Tok}(h:RwJ rb g cap l w d i ne ns sg wr aX xX ka kn kc ex os r)(hn:ns<ne)(b:Below wr.heap.size wr wr2):RwJ rb g cap l w d i ne ns sg wr2 aX xX ka kn kc ex os r:=by
 obtain⟨e,f,a,c,k,m,n,o⟩:=h;have u:=Qaa a;exact⟨e.later b,f.trans (Kp.of_below b),(b.block _ u).trans a,(b.block _ (Qaa c)).trans c,Qag.same _ _ _ _ _ k b.size (fun q _ v=>b.block q v),fun j t s=>(b.cell (p:=(Ja ns j)) (by show ns<wr.heap.size;omega)).trans (m j t s),n,o⟩
theorem Qry{rb g cap d:Nat}{l:List Tok}{Fol:List Tok->Prop}{K0:List Tok}{x0:Ex}{os:List Opq}{m k:Int}{SG:List Txt}(hV:(m=1/\k=0/\SG=[[43],[45]])∨(m=2/\k=1/\SG=[[42],[47],[37]]))(hR0:YEa 121 rb g cap l d #[.pointer (Js rb),Ji m] Fol K0 x0)(hR:∀o∈os,YEa 121 rb g cap l d #[.pointer (Js rb),Ji m] Fol o.2.1 o.2.2/\pickS (sgQ o.1) SG=o.1/\o.1≠[])(HO0:Hid (os=[]))(hFo:∀o∈os,∀r,Fol (sgQ o.1 :: r)):YEa 121 rb g cap l d #[.pointer (Js rb),Ji k] (fun r=>Fol r /\ ∃t r',r=t :: r'/\pickS t SG=[]) (K0++opsT os) (opsX x0 os):=by
 intro w a i r h hA a9;rcases hV with ⟨rfl,rfl,hS⟩|⟨rfl,rfl,hS⟩
 case' inr=>
  obtain⟨y,z⟩:=JE (((w.alloc (.cells #[Ji 0,Ji 0,Je,Jn,Ji 0] 59)).alloc (.cells #[.string ⟨#[43]⟩,.string ⟨#[45]⟩] 9)).alloc (.cells #[.string ⟨#[42]⟩,.string ⟨#[47]⟩,.string ⟨#[37]⟩] 9));have Q:Below w.heap.size w y:=by rw[z];exact((((Below.refl _ w).alloc (Nat.le_refl _) _).alloc (by simp) _).alloc (by simp;omega) _)
  have U:y.heap[w.heap.size]?=some (.cells #[Ji 0,Ji 0,Je,Jn,Ji 0] 59 (0,0)):=by rw[z,Below.heap_alloc _ _ _ (by simp;omega),Below.heap_alloc _ _ _ (by simp)];exact heap_alloc_new w _
  have A:y.heap[w.heap.size+2]?=some (.cells #[.string ⟨#[42]⟩,.string ⟨#[47]⟩,.string ⟨#[37]⟩] 9):=by
   rw[z];have:=heap_alloc_new ((w.alloc (.cells #[Ji 0,Ji 0,Je,Jn,Ji 0] 59)).alloc (.cells #[.string ⟨#[43]⟩,.string ⟨#[45]⟩] 9)) (.cells #[.string ⟨#[42]⟩,.string ⟨#[47]⟩,.string ⟨#[37]⟩] 9);rwa [show((w.alloc (.cells #[Ji 0,Ji 0,Je,Jn,Ji 0] 59)).alloc (.cells #[.string ⟨#[43]⟩,.string ⟨#[45]⟩] 9)).heap.size=w.heap.size+2 by simp]at this
  have s1:y.heap.size=w.heap.size+2+1:=by rw[z];simp
  obtain⟨B,L⟩:=JE (w.heap.size+2);rw[<- L]at A;obtain⟨n,M⟩:∃n:List Txt,n=[[42],[47],[37]]:=⟨_,rfl⟩;have C:∀(j:Nat) (t:Txt),n[j]?=some t->y.cell? (Ja B j)=some (str t):=fun j t e=>by
   rw[Qad A];rw[M]at e
   match j,e with
   | 0,e=>cases e;rfl
   | 1,e=>cases e;rfl
   | 2,e=>cases e;rfl
   |j+3,e=>simp at e
  obtain⟨D,K⟩:∃D:Nat,D=3:=⟨_,rfl⟩;have a7:=hide K;have a8:=hide (show n.length=D by rw[K,M];rfl);clear K
 case' inl=>
  obtain⟨y,z⟩:=JE ((w.alloc (.cells #[Ji 0,Ji 0,Je,Jn,Ji 0] 59)).alloc (.cells #[.string ⟨#[43]⟩,.string ⟨#[45]⟩] 9));have Q:Below w.heap.size w y:=by rw[z];exact(((Below.refl _ w).alloc (Nat.le_refl _) _).alloc (by simp) _)
  have U:y.heap[w.heap.size]?=some (.cells #[Ji 0,Ji 0,Je,Jn,Ji 0] 59 (0,0)):=by rw[z,Below.heap_alloc _ _ _ (by simp)];exact heap_alloc_new w _
  have A:y.heap[w.heap.size+1]?=some (.cells #[.string ⟨#[43]⟩,.string ⟨#[45]⟩] 9):=by
   rw[z];have:=heap_alloc_new (w.alloc (.cells #[Ji 0,Ji 0,Je,Jn,Ji 0] 59)) (.cells #[.string ⟨#[43]⟩,.string ⟨#[45]⟩] 9);rwa [show(w.alloc (.cells #[Ji 0,Ji 0,Je,Jn,Ji 0] 59)).heap.size=w.heap.size+1 by simp]at this
  have s1:y.heap.size=w.heap.size+1+1:=by rw[z];simp
  obtain⟨B,L⟩:=JE (w.heap.size+1);rw[<- L]at A;obtain⟨n,M⟩:∃n:List Txt,n=[[43],[45]]:=⟨_,rfl⟩;have C:∀(j:Nat) (t:Txt),n[j]?=some t->y.cell? (Ja B j)=some (str t):=fun j t e=>by
   rw[Qad A];rw[M]at e
   match j,e with
   | 0,e=>cases e;rfl
   | 1,e=>cases e;rfl
   |j+2,e=>simp at e
  obtain⟨D,K⟩:∃D:Nat,D=2:=⟨_,rfl⟩;have a7:=hide K;have a8:=hide (show n.length=D by rw[K,M];rfl);clear K
 all_goals
  have aw:=hR0 y a i (opsT os++r) (h.later Q) (by rw[List.append_assoc]at hA;exact hA) (folO hFo a9.1);have aH:=Qaa h.box;have aF:=h.row.lt;have ap:=hide (Ya aH aF);have ao:=hide hR;have aP:=hide hFo;have ak:=hide a9;have aD:=hide (M.trans hS.symm);clear hS;have H1:=hide (Ya Q (Ya U (Ya C (Ya s1 (Ya L A)))));have ar:=hide z;clear z Q U A s1 M C h hR L hR0 hFo a9 hA;go_enter Tryz.func121,Tryz.ntmps121;go_wp2_with fail;rw[<- Qa ar];clear ar;refine aw.mono ?_;clear aw;rintro en J⟨_,a1,rfl,⟨f,⟨_,rfl,⟨s,x,u,rfl⟩,az⟩,av⟩,h1,Y,aC⟩;obtain⟨Q,U,C,s1,L,A⟩:=Qa H1;have aI:=Y.size;obtain⟨ne,ae⟩:=JF J.heap.size;obtain⟨P,W⟩:=JE (J.alloc (.cells #[Ji f.kind,Ji f.num,str f.txt,.slice s x u,Ji f.at_] 59));have R:Below J.heap.size J P:=by rw[W];exact(Below.refl _ J).alloc (Nat.le_refl _) _
  have m2:P.heap[ne]?=some (.cells #[Ji f.kind,Ji f.num,str f.txt,.slice s x u,Ji f.at_] 59 (0,0)):=by rw[W,<- ae];exact heap_alloc_new J _
  have z2:P.heap[w.heap.size]?=some (.cells #[Ji 0,Ji 0,Je,Jn,Ji 0] 59 (0,0)):=(R.block _ (by omega)).trans (Y.keep U (by omega));have au:=(R.block _ (by omega)).trans (Y.keep A (by omega));have q2:∀(j:Nat) (t:Txt),n[j]?=some t->P.cell? (Ja B j)=some (str t):=fun j t e=>by
   have:=C j t e;rw[Qad A]at this;rw[Qad au];exact this
  have aA:ExS (fun b=>w.heap.size<b/\b≠ne) P [Ji f.kind,Ji f.num,str f.txt,.slice s x u,Ji f.at_] f:=Qag.mono _ _ _ _ _ (Qag.same _ _ P _ _ (Qag.mono _ (fun b=>y.heap.size<=b/\b<J.heap.size) _ _ _ az (fun b hl E=>⟨E,hl⟩)) R.size (fun b _ hl=>R.block b hl)) (fun b _ E=>⟨by omega,by omega⟩);have aq:Hid (RwJ rb g cap l w d i ne B n P a1 f s x u x0 os r):=⟨h1.later R,((Kp.of_below Q).trans Y).trans (Kp.of_below R),m2,z2,aA,q2,av,aC⟩;have aQ:=hide (show rb<ne/\g<ne/\w.heap.size<ne by omega);have an:=hide (show B<ne by omega);have aR:=hide (show w.heap.size<B by omega);have N2:=Qhb J (c0:=Ji f.kind) (c1:=Ji f.num) (c2:=str f.txt) (c3:=.slice s x u) (c4:=Ji f.at_) (by simp[Value.oneCell',str]);have am:=hide (Ya W ae);rw[<- W]at N2;clear W R m2 z2 au q2 aA Q U C s1 A aI ae h1 Y az av aC L;go_wp2_with fail;rw[(Qa am).2,<- (Qa H1).2.2.2.2.1];clear am N2 H1;go_loopw [7,9] (fun _ _ wr=>∃(X:Nat) (c:Ex) (s:Option Addr) (x u:Nat) (ex:Ex) (N:List Opq),Hid (RwJ rb g cap l w d i ne B n wr X c s x u ex N r/\opsX ex N=opsX x0 os /\ ∀o∈N,o∈os)) (fun _ _ wr=>leftR rb l.length wr)
  case atStart=>exact⟨_,_,_,_,_,_,_,hide ⟨Qa aq,rfl,fun _ h=>h⟩⟩
  obtain⟨X,c,s,x,u,ex,N,a6⟩:=hrel;have O:=hide (Qa a6).1;have a2:=hide (Qa a6).2;obtain⟨t0,tl,ay⟩:=headO N (Qa ak).2;have HT:=hide ay;clear ay a6;clear aq;have ah:=Qax (Qa O).1;rw[decide_eq_true rfl]at ah;go_wp2_with fail;refine ah.mono ?_;clear ah;rintro en wq⟨rfl,rfl⟩;go_wp2_with fail;go_loopw [7,9,26] (fun v7 _ ai aJ=>∃(I:Txt) (j:Nat),v7=str I/\ai = Ji (j:Int)/\j<=D/\Hid (Below wq.heap.size wq aJ/\I=pickS t0 (n.take j))) (fun _ _ ai _=>D - (intOf ai).toNat)
  case atStart=>exact⟨[],0,rfl,rfl,Nat.zero_le _,hide ⟨Below.refl _ _,rfl⟩⟩
  obtain⟨I,j,rfl,rfl,e,H⟩:=hrel;by_cases a0:j<D
  ·
   obtain⟨V,ag⟩:∃V,n[j]?=some V:=⟨n[j]'(by rw[Qa a8];exact a0),List.getElem?_eq_getElem _⟩;have ad:=a0;rw[Qa a7]at ad;have c1:=((Qa H).1.cell (p:=(Ja B j)) (by show B<wq.heap.size;have:=Qaa (Qa O).2.2.1;have:=Qa an;omega)).trans ((Qa O).2.2.2.2.2.1 j V ag);have af:=Qcd ((Qa O).1.later (Qa H).1) (show Nxt l X (t0 :: tl) by rw[<- Qa HT];exact(Qa O).2.2.2.2.2.2.2) V;obtain⟨b,E⟩:=JF (isSg t0 V);rw[E]at af;have a3:=hide (Ya ag E);clear E;clear ag;go_wp2_with fail;refine af.mono ?_;clear af;rintro en w4⟨rfl,b4⟩;have aj:=hide ((Qa H).1.trans (b4.mono (Qa H).1.size));clear b4 c1;cases b
   ·
    go_wp2_with fail;go_roundw
    case rel=>exact⟨I,j+1,rfl,by go_num,by omega,hide ⟨Qa aj,pick_no (Qa a3).1 (Qa a3).2 (Qa H).2⟩⟩
    case measure=>simp[intOf];omega
   go_wp2_with fail;go_roundw
   case rel=>exact⟨V,j+1,rfl,by go_num,by omega,hide ⟨Qa aj,Qsv (Qa a3).1 (Qa a3).2⟩⟩
   case measure=>simp[intOf];omega
  have ad:=a0;rw[Qa a7]at ad;have al:Hid (RwJ rb g cap l w d i ne B n wr X c s x u ex N r):=(Qa O).later (Qa an) (Qa H).1;have HP:=hide (show I=pickS t0 SG by have:=(Qa H).2;rw[List.take_of_length_le (by rw[Qa a8];omega),Qa aD]at this;exact this);by_cases F:I=[]
  rotate_left
  ·
   have aE:(I==[])=false:=by simpa using F
   obtain⟨K2,e2,aS,aG⟩:=Qst (Qa HT) (Qa ak).2 (fun h=>F ((Qa HP).trans h)) (fun o F=>(Qa ao o ((Qa a2).2 o F)).2) (Qa HP);exact absurd ((Qa a2).2 _ (by rw[aG];exact List.mem_cons_self ..)) (by rw[Qa HO0];exact List.not_mem_nil)
  have aE:(I==[])=true:=by simpa using F
  have a5:=hide (show eqE c (opsX x0 os)=true/\Nxt l X r by
   have e0:N=[]:=ops_end (Qa HT) ((Qa HP).symm.trans F) (fun o F=>(Qa ao o ((Qa a2).2 o F)).2);have q:=Qa O;have C:=(Qa a2).1;rw[e0]at q C
   exact⟨by rw[<- C];exact q.2.2.2.2.2.2.1,q.2.2.2.2.2.2.2⟩)
  obtain⟨WX,aa⟩:=JE wr;rw[<- aa]at al;rw[<- aa];clear F aa H;obtain⟨h4,T,m4,z4,aB,ax,ac,ab⟩:=Qa al;have L5:=Qdg m4;have S5:=Qbv (new:=#[Ji c.kind,Ji c.num,str c.txt,.slice s x u,Ji c.at_]) z4 rfl rfl (by simp[Value.oneCell',str]);obtain⟨S,G⟩:=JE (WX.setRow w.heap.size #[Ji c.kind,Ji c.num,str c.txt,.slice s x u,Ji c.at_]);rw[<- G]at S5;have Z:∀q,q≠w.heap.size->S.heap[q]?=WX.heap[q]?:=fun q hq=>by rw[G];exact setRow_other _ _ _ _ hq
  have s6:S.heap.size=WX.heap.size:=by rw[G,size_setRow]
  have z6:S.heap[w.heap.size]?=some (.cells #[Ji c.kind,Ji c.num,str c.txt,.slice s x u,Ji c.at_] 59 (0,0)):=by rw[G];exact setRow_heap _ _ _ _ _ _ z4
  have h6:=h4.move (w':=S) (by omega) (Z rb (by have:=Qa ap;omega)) (Z g (by have:=Qa ap;omega));have k6:Kp rb w S:=⟨by rw[G];exact T.os,by rw[G];exact T.tape,by rw[G];exact T.output,by rw[s6];exact T.size,fun q hq hn=>(Z q (by omega)).trans (T.block q hq hn)⟩;have a4:ExS (fun b=>w.heap.size<=b) S [Ji c.kind,Ji c.num,str c.txt,.slice s x u,Ji c.at_] c:=by
   have C:=Qag.same _ _ S _ _ aB (by omega) (fun b E hl=>Z b (by have:=E.1;omega));exact Qag.mono _ _ _ _ _ C (fun b _ E=>by have:=E.1;omega)
  have HF:=hide (Ya h6 (Ya k6 (Ya z6 (Ya a4 (Ya ac ab)))));clear h4 T m4 z4 aB ax ac ab Z s6 z6 h6 k6 a4 G;go_wp2_with fail;obtain⟨h6,k6,z6,a4,ac,ab⟩:=Qa HF;obtain⟨aK,aL,aM,aN,aO,zf⟩:=ex5 z6;refine bodyPost_ret (v:=.agg #[Ji c.kind,Ji c.num,str c.txt,.slice s x u,Ji c.at_]) (by simp[results,Tryz.results121,go_sem,aK,aL,aM,aN,aO]) rfl ?_;exact⟨_,_,rfl,⟨c,⟨_,rfl,⟨_,_,_,rfl⟩,a4⟩,(Qa a5).1⟩,h6,k6,(Qa a5).2⟩
theorem Qtp{rb g cap d:Nat}{l:List Tok}{Fol:List Tok->Prop}{K0:List Tok}{x0:Ex}{os:List Opq}(hR0:YEa 121 rb g cap l d #[.pointer (Js rb),Ji 1] Fol K0 x0)(hR:∀o∈os,YEa 121 rb g cap l d #[.pointer (Js rb),Ji 1] Fol o.2.1 o.2.2/\pickS (sgQ o.1) [[43],[45]]=o.1/\o.1≠[])(HO0:Hid (os=[]))(hFo:∀o∈os,∀r,Fol (sgQ o.1 :: r)):YEa 121 rb g cap l d #[.pointer (Js rb),Ji 0] (fun r=>Fol r /\ ∃t r',r=t :: r'/\pickS t [[43],[45]]=[]) (K0++opsT os) (opsX x0 os):=Qry (.inl ⟨rfl,rfl,rfl⟩) hR0 hR HO0 hFo
theorem Qtq{rb g cap d:Nat}{l:List Tok}{Fol:List Tok->Prop}{K0:List Tok}{x0:Ex}{os:List Opq}(hR0:YEa 121 rb g cap l d #[.pointer (Js rb),Ji 2] Fol K0 x0)(hR:∀o∈os,YEa 121 rb g cap l d #[.pointer (Js rb),Ji 2] Fol o.2.1 o.2.2/\pickS (sgQ o.1) [[42],[47],[37]]=o.1/\o.1≠[])(HO0:Hid (os=[]))(hFo:∀o∈os,∀r,Fol (sgQ o.1 :: r)):YEa 121 rb g cap l d #[.pointer (Js rb),Ji 1] (fun r=>Fol r /\ ∃t r',r=t :: r'/\pickS t [[42],[47],[37]]=[]) (K0++opsT os) (opsX x0 os):=Qry (.inr ⟨rfl,rfl,rfl⟩) hR0 hR HO0 hFo
end
end Go.Proofs.YtkhndlnadhggkaaGreat
