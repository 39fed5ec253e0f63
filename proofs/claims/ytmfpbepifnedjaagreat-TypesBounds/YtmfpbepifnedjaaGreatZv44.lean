/- The document's reader by the tokens that are next. -/
import Derived.Test.YtmfpbepifnedjaaGreatZv01
import Derived.Test.YtmfpbepifnedjaaGreatZv43
import Derived.Test.YtmfpbepifnedjaaGreatZv09
import Derived.Test.YtmfpbepifnedjaaGreatZv10
set_option maxRecDepth 100000
set_option maxHeartbeats 32000000
namespace Go.Proofs.YtmfpbepifnedjaaGreat
section
open Go.RowKit Go.Maps
def zk(t:Tok):Int×Txt×Int:=(t.kind,t.text,t.num)
def Nxt(l:List Tok)(a:Nat)(ks:List Tok):Prop:=(l.drop a).map zk=ks.map zk
theorem Nxt.at{l:List Tok}{a:Nat}{t0:Tok}{ks:List Tok}(h:Nxt l a (t0 :: ks)):∃t,l[a]?=some t/\zk t=zk t0/\Nxt l (a+1) ks:=by
 unfold Nxt at h
 cases b:l.drop a with
 |nil=>rw[b]at h;simp at h
 |cons t m=>
  rw[b,List.map_cons,List.map_cons,List.cons.injEq]at h;have c:l[a]?=some t:=by rw[<- List.head?_drop,b];rfl
  refine⟨t,c,h.1,?_⟩;unfold Nxt;rw[<- List.drop_drop,b];exact h.2
def sgQ(s:Txt):Tok:=⟨4,s,0,0⟩
def nmR(s:Txt):Tok:=⟨1,s,0,0⟩
theorem Qge{t t0:Tok}(h:zk t=zk t0)(s:Txt):isSg t s=isSg t0 s:=by
 unfold zk at h;simp only[Prod.mk.injEq]at h;unfold isSg;rw[h.1,h.2.1]
def XB(rb g cap:Nat)(l:List Tok)(w:World)(d:Nat)(R:World->Value->Prop)(rest:List Tok)(i':Nat)(en:Ending)(w':World):Prop:=
 ∃v a',en = .returned v/\R w' v/\Rr rb g cap l w' a' d i' 0 0/\Kp rb w w'/\Nxt l a' rest
section
variable {rb g cap a d i:Nat}{l:List Tok}{w:World}
theorem Qcd(h:Rr rb g cap l w a d i 0 0){t0:Tok}{ks:List Tok}(hA:Nxt l a (t0 :: ks))(s:Txt):
  Calls Tryz.prog 56 #[.pointer (Js rb),str s] w fun en w'=>en = .returned (.bool (isSg t0 s))/\Below w.heap.size w w':=by
 obtain⟨t,b,c,_⟩:=hA.at;rw[<- Qge c s];exact Qgu h b s
theorem Qdf(h:Rr rb g cap l w a d i 0 0){s:Txt}{ks:List Tok}(hA:Nxt l a (sgQ s :: ks)):
  Calls Tryz.prog 57 #[.pointer (Js rb),str s] w fun en w'=>XB rb g cap l w d (fun _ v=>v = .bool true) ks i en w':=by
 obtain⟨t,m,n,k⟩:=hA.at;have e:isSg t s=true:=by rw[Qge n s];simp[isSg,sgQ]
 refine(Qjd h m s).mono ?_;rintro en w'⟨v,f,b,c,j⟩;rw[if_pos e]at c;rw[e]at b;exact⟨v,_,f,b,c,j,k⟩
theorem Qdq(h:Rr rb g cap l w a d i 0 0){s:Txt}{t0:Tok}{ks:List Tok}(hA:Nxt l a (t0 :: ks))(h0:isSg t0 s=false):
  Calls Tryz.prog 57 #[.pointer (Js rb),str s] w fun en w'=>XB rb g cap l w d (fun _ v=>v = .bool false) (t0 :: ks) i en w':=by
 obtain⟨t,k,m,_⟩:=hA.at;have e:isSg t s=false:=by rw[Qge m s,h0]
 refine(Qjd h k s).mono ?_;rintro en w'⟨v,f,b,c,j⟩;rw[if_neg (by rw[e];simp)]at c;rw[e]at b;exact⟨v,_,f,b,c,j,hA⟩
theorem Qd(h:Rr rb g cap l w a d i 0 0){s:Txt}{ks:List Tok}(hA:Nxt l a (sgQ s :: ks)):
  Calls Tryz.prog 64 #[.pointer (Js rb),str s] w fun en w'=>XB rb g cap l w d noV ks i en w':=by
 obtain⟨t,m,n,k⟩:=hA.at;have e:isSg t s=true:=by rw[Qge n s];simp[isSg,sgQ]
 refine(Qsk h m e).mono ?_;rintro en w'⟨v,b,c,f,j⟩;exact⟨v,_,b,c,f,j,k⟩
theorem Qkt(h:Rr rb g cap l w a d i 0 0){s:Txt}{ks:List Tok}(hA:Nxt l a (nmR s :: ks)):
  Calls Tryz.prog 65 #[.pointer (Js rb)] w fun en w'=>XB rb g cap l w d (fun _ v=>v=str s) ks i en w':=by
 obtain⟨t,m,b,k⟩:=hA.at;simp only[zk,nmR,Prod.mk.injEq]at b;refine(Qkq h m b.1).mono ?_;rintro en w'⟨v,e,c,f,j⟩;rw[b.2.1]at c;exact⟨v,_,e,c,f,j,k⟩
theorem Qgx(h:Rr rb g cap l w a d i 0 0){s:Txt}{ks:List Tok}(hA:Nxt l a (nmR s :: ks))(hw:wordP s=true)(h95:s≠[95]):
  Calls Tryz.prog 63 #[.pointer (Js rb)] w fun en w'=>XB rb g cap l w d (fun _ v=>v=str s) ks i en w':=by
 obtain⟨t,m,b,k⟩:=hA.at;simp only[zk,nmR,Prod.mk.injEq]at b;refine(Qkr h m b.1 (by rw[b.2.1];exact hw) (by rw[b.2.1];exact h95)).mono ?_;rintro en w'⟨v,e,c,f,j⟩;rw[b.2.1]at c;exact⟨v,_,e,c,f,j,k⟩
end
def fdQ(f:Fld):List Tok:=[nmR f.name,sgQ [58],nmR f.type]
def joinQ:List (List Tok)->List Tok
 | []=>[]
 |t :: ts=>t++ts.flatMap (sgQ [44] :: ·)
def leftQ{α : Type}(K:α -> List Tok)(xs:List α)(j:Nat):List Tok:=if j=0 then joinQ (xs.map K) else ((xs.drop j).map K).flatMap (sgQ [44] :: ·)
theorem Qcn{α : Type}(K:α -> List Tok)(xs:List α):leftQ K xs xs.length=[]:=by
 unfold leftQ;split
 ·rename_i h;rw[List.length_eq_zero_iff.1 h];rfl
 ·rw[List.drop_length];rfl
theorem Qfd{α : Type}(K:α -> List Tok){xs:List α}{x:α}(h:xs[0]?=some x):leftQ K xs 0=K x++leftQ K xs 1:=by
 cases xs with
 |nil=>cases h
 |cons y ys=>cases h;simp[leftQ,joinQ]
theorem Qcx{α : Type}(K:α -> List Tok){xs:List α}{j:Nat}{x:α}(hj:j≠0)(h:xs[j]?=some x):leftQ K xs j=sgQ [44] :: (K x++leftQ K xs (j+1)):=by
 unfold leftQ;rw[if_neg hj,if_neg (by omega),List.drop_eq_getElem_cons (List.getElem?_eq_some_iff.1 h).1];have e:=(List.getElem?_eq_some_iff.1 h).2;rw[e];simp
def lenV(v:Value):Nat:=match v with | .slice _ n _=>n|_=>0
theorem Qm{rb g cap a d i:Nat}{l:List Tok}{w:World}(h:Rr rb g cap l w a d i 0 0){so se:Txt}(he:se≠[44]){xs:List Fld}(hx:∀f∈xs,wordP f.name=true/\f.name≠[95])(hm:xs.length<=8){rest:List Tok}(hA:Nxt l a (sgQ so :: (joinQ (xs.map fdQ)++sgQ se :: rest))):
  Calls Tryz.prog 90 #[.pointer (Js rb),str so,str se] w fun en w'=>XB rb g cap l w d (fun w' v=>LsAt PF 2 (fun b=>w.heap.size<=b) w' v xs) rest i en w':=by
 have G:=Qd h hA;have z:=hide (Ya (Qaa h.box) h.row.lt);have HX:=hide (Ya hx he);obtain⟨n,Z⟩:=JF xs.length;have C:=hide Z;rw[Z]at hm;clear h hA hx he Z;go_enter Tryz.func90,Tryz.ntmps90;go_wp2_with fail;refine G.mono ?_;clear G;rintro en w1⟨_,a0,rfl,rfl,u,k0,a8⟩;have H0:=hide (Ya u (Ya k0 a8));clear u k0 a8;go_wp2_with fail;go_loopw [7,8] (fun sl fb wr=>∃(j Q:Nat) (a5:Bool) (sa:Option Addr) (sc:Nat),sl = .slice sa j sc/\fb = .bool a5/\j<=n/\j<=sc/\sc<=maxLen/\Hid (Qown PF 2 67 w wr (.slice sa j sc) (xs.take j)/\Rr rb g cap l wr Q d i 0 0/\Kp rb w wr/\Nxt l Q (leftQ fdQ xs j++sgQ se :: rest)/\a5=decide (j=0))) (fun sl _ _=>n+1 - lenV sl)
 case atStart=>
  obtain⟨u,k0,a8⟩:=Qa H0;exact⟨0,a0,true,none,0,rfl,rfl,Nat.zero_le _,Nat.le_refl _,by unfold maxLen;omega,hide ⟨Qown.nil _ _,u,k0,a8,rfl⟩⟩
 obtain⟨j,Q,a5,sa,sc,rfl,rfl,hj,aD,av,m⟩:=hrel;unfold maxLen at av;clear H0;go_upto_region 4 with fail;go_cut [31] from 13 to 48 (fun c wc=>∃(E:Nat),c = .bool (decide (j<n))/\Hid (Qown PF 2 67 w wc (.slice sa j sc) (xs.take j)/\Rr rb g cap l wc E d i 0 0/\Kp rb w wc/\(j<n -> ∃x,xs[j]?=some x/\Nxt l E (fdQ x++(leftQ fdQ xs (j+1)++sgQ se :: rest)))/\(¬j<n->Nxt l E (sgQ se :: rest))))
 case first=>
  have B:=Qaw (Qa m).2.1;rw[decide_eq_true rfl]at B;cases a5
  ·
   have u:j≠0:=by simpa using (Qa m).2.2.2.2.symm
   by_cases o:j<n
   ·
    obtain⟨x,t⟩:∃x,xs[j]?=some x:=⟨xs[j]'(by rw[Qa C];exact o),List.getElem?_eq_getElem _⟩;have k:=(Qa m).2.2.2.1;rw[Qcx fdQ u t]at k;simp only[List.cons_append,List.append_assoc]at k;have W:=Qdf (Qa m).2.1 k;have ar:=hide t;clear k t u;go_wp2_with fail;refine B.mono ?_;clear B;rintro en wq⟨rfl,rfl⟩;go_wp2_with fail;refine W.mono ?_;clear W;rintro en X⟨_,E,rfl,rfl,p,N,k⟩;have D:=hide (Ya ((Qa m).1.kp Qb N (Qa z).1) (Ya p (Ya ((Qa m).2.2.1.trans N) k)));clear p N k;go_wp2_with fail;go_meet;obtain⟨L,p,M,k⟩:=Qa D;exact⟨E,by rw[decide_eq_true o],hide ⟨L,p,M,fun _=>⟨x,Qa ar,k⟩,fun e=>absurd o e⟩⟩
   have k:=(Qa m).2.2.2.1;rw[show leftQ fdQ xs j=[] by rw[show j=n by omega,<- Qa C,Qcn],List.nil_append]at k;have W:=Qdq (s:=[44]) (Qa m).2.1 k (by unfold isSg;rw[decide_eq_false (show ¬(sgQ se).text=[44] from (Qa HX).2),Bool.and_false]);clear k u;go_wp2_with fail;refine B.mono ?_;clear B;rintro en wq⟨rfl,rfl⟩;go_wp2_with fail;refine W.mono ?_;clear W;rintro en X⟨_,E,rfl,rfl,p,N,k⟩;have D:=hide (Ya ((Qa m).1.kp Qb N (Qa z).1) (Ya p (Ya ((Qa m).2.2.1.trans N) k)));clear p N k;go_wp2_with fail;go_meet;obtain⟨L,p,M,k⟩:=Qa D;exact⟨E,by rw[decide_eq_false o],hide ⟨L,p,M,fun e=>absurd e o,fun _=>k⟩⟩
  have u:j=0:=by simpa using (Qa m).2.2.2.2.symm
  by_cases o:j<n
  ·
   obtain⟨x,t⟩:∃x,xs[j]?=some x:=⟨xs[j]'(by rw[Qa C];exact o),List.getElem?_eq_getElem _⟩;have k:=(Qa m).2.2.2.1;rw[show leftQ fdQ xs j=fdQ x++leftQ fdQ xs (j+1) by rw[u]at t ⊢;exact Qfd fdQ t,List.append_assoc]at k;have I:=Qcd (Qa m).2.1 (show Nxt l Q (nmR x.name :: _) from k) se;rw[show isSg (nmR x.name) se=false from rfl]at I;have HQ:=hide (Ya k t);clear k t u;go_wp2_with fail;refine B.mono ?_;clear B;rintro en wq⟨rfl,rfl⟩;go_wp2_with fail;refine I.mono ?_;clear I;rintro en X⟨rfl,F⟩;have D:=hide (Ya ((Qa m).1.kp Qb (Kp.of_below (rb:=rb) F) (Qa z).1) (Ya ((Qa m).2.1.later F) ((Qa m).2.2.1.trans (Kp.of_below F))));clear F;go_wp2_with fail;go_meet;obtain⟨L,p,M⟩:=Qa D;exact⟨Q,by rw[decide_eq_true o],hide ⟨L,p,M,fun _=>⟨x,(Qa HQ).2,(Qa HQ).1⟩,fun e=>absurd o e⟩⟩
  have k:=(Qa m).2.2.2.1;rw[show leftQ fdQ xs j=[] by rw[show j=n by omega,<- Qa C,Qcn],List.nil_append]at k;have I:=Qcd (Qa m).2.1 k se;rw[show isSg (sgQ se) se=true by simp[isSg,sgQ]]at I;have HQ:=hide k;clear k u;go_wp2_with fail;refine B.mono ?_;clear B;rintro en wq⟨rfl,rfl⟩;go_wp2_with fail;refine I.mono ?_;clear I;rintro en X⟨rfl,F⟩;have D:=hide (Ya ((Qa m).1.kp Qb (Kp.of_below (rb:=rb) F) (Qa z).1) (Ya ((Qa m).2.1.later F) ((Qa m).2.2.1.trans (Kp.of_below F))));clear F;go_wp2_with fail;go_meet;obtain⟨L,p,M⟩:=Qa D;exact⟨Q,by rw[decide_eq_false o],hide ⟨L,p,M,fun e=>absurd e o,fun _=>Qa HQ⟩⟩
 obtain⟨E,rfl,X0⟩:=hcut;by_cases o:j<n
 rotate_left
 ·
  rw[decide_eq_false o];obtain⟨k,Y,y,_,U⟩:=Qa X0;have G:=Qd Y (U o);have D:=hide (Ya k y);have ej:j=n:=by omega
  have HE:=hide (show xs.take j=xs by rw[ej,<- Qa C];exact List.take_length);clear k Y y U X0 ej;go_wp2_with fail;refine G.mono ?_;clear G;rintro en w9⟨_,a9,rfl,rfl,h9,k9,n9⟩;have HZ:=hide (Ya h9 (Ya k9 n9));clear h9 k9 n9;go_wp2_with fail;go_ret;obtain⟨h9,k9,n9⟩:=Qa HZ;obtain⟨k,y⟩:=Qa D;rw[Qa HE]at k;exact⟨_,_,rfl,(k.kp Qb k9 (Qa z).1).ls Qb,h9,y.trans k9,n9⟩
 rw[decide_eq_true o];obtain⟨k,Y,y,U,_⟩:=Qa X0;obtain⟨x,t,hA⟩:=U o;have ai:=(Qa HX).1 x (List.mem_of_getElem? t);have ao:=Qgx Y (show Nxt l E (nmR x.name :: _) from hA) ai.1 ai.2;have J:xs.take (j+1)=xs.take j++[x]:=by rw[List.take_add_one,t];rfl
 have g8:¬((8:Int)<=(j:Int)):=by omega
 have XF:=hide (Ya k (Ya y J));have aq:=hide (show(xs.take j).length=j by rw[List.length_take,Qa C];omega);obtain⟨X,au⟩:=JE wc;subst au;clear k Y y U t hA ai J X0;go_wp2_with fail;refine ao.mono ?_;clear ao;rintro en w4⟨_,a4,rfl,rfl,h4,R,n4⟩;obtain⟨W5,aa⟩:=JE (w4.alloc (.cells #[str x.name,Je] 67));have K:Below w4.heap.size w4 W5:=bnw aa;have S:W5.heap[w4.heap.size]?=some (.cells #[str x.name,Je] 67 (0,0)):=nnw aa;have G:=Qd (h4.later K) n4;obtain⟨P,V⟩:=JF w4.heap.size;have H4:=hide (Ya R (Ya K (Ya S V)));have aj:=hide aa;clear h4 R K S aa V n4;go_wp2_with fail;rw[<- Qa aj,(Qa H4).2.2.2];clear aj;refine G.mono ?_;clear G;rintro en w6⟨_,a6,rfl,rfl,h6,O,n6⟩;have am:=Qkt h6 n6;have H6:=hide O;clear h6 O n6;go_wp2_with fail;refine am.mono ?_;clear am;rintro en T⟨_,a7,rfl,rfl,h7,k7,af⟩;obtain⟨R,K,S,V⟩:=Qa H4;have O:=Qa H6;obtain⟨k,y,J⟩:=Qa XF;have aw:=R.size;have aA:=y.size;have ax:=K.size;have ay:=O.size;have az:=k7.size;rw[V]at S;have ab:P≠rb:=by have:=(Qa z).1;omega
 have al:P≠g:=by have:=(Qa z).2;omega
 have n7:T.heap[P]?=some (.cells #[str x.name,Je] 67 (0,0)):=k7.keep (O.keep S ab) ab;obtain⟨w8,A⟩:=JE (T.setCell (Ja P 1) (str x.type));have n8:w8.heap[P]?=some (.cells #[str x.name,str x.type] 67 (0,0)):=by rw[A];exact(Qah n7 1 _).trans rfl
 have s8:w8.heap.size=T.heap.size:=by rw[A];simp
 have o8:∀q,q≠P->w8.heap[q]?=T.heap[q]?:=fun q k=>by rw[A];exact hpS k
 have h8:=h7.move (w':=w8) (by omega) (o8 rb ab.symm) (o8 g al.symm);have ap:Kp rb X w8:=by
  have kk:=((R.trans (Kp.of_below K)).trans O).trans k7;refine⟨by rw[A];exact kk.os,by rw[A];exact kk.tape,by rw[A];exact kk.output,by rw[s8];exact kk.size,fun q k Z=>(o8 q (by omega)).trans (kk.block q k Z)⟩
 obtain⟨i0,hi,hz,an,ak⟩:=infoF;obtain⟨r,wz,a2,ae,ag,H⟩:=k.more Qb (by kernel_rfl:Tryz.prog.underlying 46=some (.slice 67)) hi hz an ak rfl (by decide) (by decide) y (x:=x) (cs:=[str x.name,str x.type]) rfl (by simp[Value.oneCell',str]) rfl h8 ap (Qa z).1 (Qa z).2 (by rw[Qa aq];omega);obtain⟨ra,rc,er,ac,ad⟩:=H.sl;subst er;rw[A]at a2;rw[show(T.setCell (Ja P 1) (str x.type)).heap.size=T.heap.size by simp]at a2;have ah:=hide a2;obtain⟨aE,aF,xf⟩:=cl2 n7;obtain⟨aB,aC,zf⟩:=cl2 n8;rw[A]at aB aC;rw[<- J]at H ac;have a3:(xs.take (j+1)).length=j+1:=by rw[List.length_take,Qa C];omega
 have HE:=hide (Ya H (Ya ag (Ya ae (Ya ac (Ya ad (Ya af (Ya a3 J)))))));clear R K S V O h7 k7 k y J aw aA ax ay az ab al n7 A n8 s8 o8 h8 ap hi hz an ak a2 ae ag H ac ad zf af a3;go_wp2_with (at_builtin;refine Qaj _ rfl _ _ 46 rfl _ _ rfl rfl _ _ (Qa ah) ?_;clear ah);go_roundw
 case rel=>
  obtain⟨H,ag,ae,ac,ad,af,a3,J⟩:=Qa HE;refine⟨j+1,_,false,ra,rc,by have:=Qa C;congr 1;omega,rfl,by omega,by omega,ad,hide ⟨?_,ag,ae,af,by simp⟩⟩;rw[a3]at H;exact H
 have:=Qa C;simp[lenV];omega
theorem Qdt{α : Type}(eq:α -> α -> Bool):∀(xs ys:List α) (x y:α),eqL eq xs ys=true->eq x y=true->eqL eq (xs++[x]) (ys++[y])=true
 | [],[],x,y,_,h=>by simp[eqL,h]
 | [],b :: ys,x,y,h,_=>by simp[eqL]at h
 |a :: xs,[],x,y,h,_=>by simp[eqL]at h
 |a :: xs,b :: ys,x,y,h,h2=>by
  rw[Qds,Bool.and_eq_true]at h;rw[List.cons_append,List.cons_append,Qds,h.1,Qdt eq xs ys x y h.2 h2];rfl
def YE(F rb g cap:Nat)(l:List Tok)(d:Nat)(Fol:List Tok->Prop)(K:List Tok)(x:Ex):Prop:=∀(w:World) (a i:Nat) (r:List Tok),Rr rb g cap l w a d i 0 0->Nxt l a (K++r)->Fol r ->
 Calls Tryz.prog F #[.pointer (some ⟨rb,0,none⟩)] w fun en w'=>XB rb g cap l w d (fun w' v=>∃x',VE (fun b=>w.heap.size<=b) w' v x'/\eqE x' x=true) r i en w'
theorem Qot{rb g cap a d i:Nat}{l:List Tok}{w:World}(h:Rr rb g cap l w a d i 0 0){Fol:List Tok->Prop}(hF1:∀r,Fol (sgQ [44] :: r))(hF2:∀r,Fol (sgQ [41] :: r)){K:Ex->List Tok}{xs:List Ex}(hx:∀x∈xs,YE 108 rb g cap l d Fol (K x) x /\ ∃t0 ks,K x=t0 :: ks/\isSg t0 [41]=false)(hm:xs.length<=8){rest:List Tok}(hA:Nxt l a (sgQ [40] :: (joinQ (xs.map K)++sgQ [41] :: rest))):
  Calls Tryz.prog 107 #[.pointer (Js rb)] w fun en w'=>XB rb g cap l w d (fun w' v=>∃ys,LsAt PE 5 (fun b=>w.heap.size<=b) w' v ys/\eqL eqE ys xs=true) rest i en w':=by
 have O:=Qd h hA;have E:=hide (Ya (Qaa h.box) h.row.lt);have HX:=hide hx;have ah:=hide hF1;have ai:=hide hF2;obtain⟨n,hn⟩:=JF xs.length;have G:=hide hn;rw[hn]at hm;clear h hA hx hF1 hF2 hn;go_enter Tryz.func107,Tryz.ntmps107;go_wp2_with fail;refine O.mono ?_;clear O;rintro en w1⟨_,a0,rfl,rfl,t,k0,U⟩;have H0:=hide (Ya t (Ya k0 U));clear t k0 U;go_wp2_with fail;go_loopw [3,4] (fun sl fb wr=>∃(j M:Nat) (T:Bool) (sa:Option Addr) (sc:Nat) (ys:List Ex),sl = .slice sa j sc/\fb = .bool T/\j<=n/\j<=sc/\sc<=maxLen/\Hid (Qown PE 5 59 w wr (.slice sa j sc) ys/\Rr rb g cap l wr M d i 0 0/\Kp rb w wr/\Nxt l M (leftQ K xs j++sgQ [41] :: rest)/\T=decide (j=0)/\ys.length=j/\eqL eqE ys (xs.take j)=true)) (fun sl _ _=>n+1 - lenV sl)
 case atStart=>
  obtain⟨t,k0,U⟩:=Qa H0;exact⟨0,a0,true,none,0,[],rfl,rfl,Nat.zero_le _,Nat.le_refl _,by unfold maxLen;omega,hide ⟨Qown.nil _ _,t,k0,U,rfl,rfl,rfl⟩⟩
 obtain⟨j,M,T,sa,sc,ys,rfl,rfl,hj,am,al,k⟩:=hrel;unfold maxLen at al;clear H0;go_upto_region 4 with fail;go_cut [24] from 7 to 34 (fun c wc=>∃(C:Nat),c = .bool (decide (j<n))/\Hid (Qown PE 5 59 w wc (.slice sa j sc) ys/\Rr rb g cap l wc C d i 0 0/\Kp rb w wc/\(j<n -> ∃x,xs[j]?=some x/\Nxt l C (K x++(leftQ K xs (j+1)++sgQ [41] :: rest)))/\(¬j<n->Nxt l C (sgQ [41] :: rest))))
 case first=>
  have y:=Qaw (Qa k).2.1;rw[decide_eq_true rfl]at y;cases T
  ·
   have t:j≠0:=by simpa using (Qa k).2.2.2.2.1.symm
   by_cases m:j<n
   ·
    obtain⟨x,o⟩:∃x,xs[j]?=some x:=⟨xs[j]'(by rw[Qa G];exact m),List.getElem?_eq_getElem _⟩;have f:=(Qa k).2.2.2.1;rw[Qcx K t o]at f;simp only[List.cons_append,List.append_assoc]at f;have P:=Qdf (Qa k).2.1 f;have aj:=hide o;clear f o t;go_wp2_with fail;refine y.mono ?_;clear y;rintro en wq⟨rfl,rfl⟩;go_wp2_with fail;refine P.mono ?_;clear P;rintro en WX⟨_,C,rfl,rfl,p,I,f⟩;have z:=hide (Ya ((Qa k).1.kp Qaf I (Qa E).1) (Ya p (Ya ((Qa k).2.2.1.trans I) f)));clear p I f;go_wp2_with fail;go_meet;obtain⟨B,p,H,f⟩:=Qa z;exact⟨C,by rw[decide_eq_true m],hide ⟨B,p,H,fun _=>⟨x,Qa aj,f⟩,fun e=>absurd m e⟩⟩
   have f:=(Qa k).2.2.2.1;rw[show leftQ K xs j=[] by rw[show j=n by omega,<- Qa G,Qcn],List.nil_append]at f;have P:=Qdq (s:=[44]) (Qa k).2.1 f (by decide);clear f t;go_wp2_with fail;refine y.mono ?_;clear y;rintro en wq⟨rfl,rfl⟩;go_wp2_with fail;refine P.mono ?_;clear P;rintro en WX⟨_,C,rfl,rfl,p,I,f⟩;have z:=hide (Ya ((Qa k).1.kp Qaf I (Qa E).1) (Ya p (Ya ((Qa k).2.2.1.trans I) f)));clear p I f;go_wp2_with fail;go_meet;obtain⟨B,p,H,f⟩:=Qa z;exact⟨C,by rw[decide_eq_false m],hide ⟨B,p,H,fun e=>absurd e m,fun _=>f⟩⟩
  have t:j=0:=by simpa using (Qa k).2.2.2.2.1.symm
  by_cases m:j<n
  ·
   obtain⟨x,o⟩:∃x,xs[j]?=some x:=⟨xs[j]'(by rw[Qa G];exact m),List.getElem?_eq_getElem _⟩;have f:=(Qa k).2.2.2.1;rw[show leftQ K xs j=K x++leftQ K xs (j+1) by rw[t]at o ⊢;exact Qfd K o,List.append_assoc]at f;obtain⟨t0,ks,ab,ac⟩:=(Qa HX x (List.mem_of_getElem? o)).2;have F:=Qcd (Qa k).2.1 (show Nxt l M (t0 :: (ks++_)) by have q:=f;rw[ab]at q;exact q) [41];rw[ac]at F;clear ab ac;have HQ:=hide (Ya f o);clear f o t;go_wp2_with fail;refine y.mono ?_;clear y;rintro en wq⟨rfl,rfl⟩;go_wp2_with fail;refine F.mono ?_;clear F;rintro en WX⟨rfl,A⟩;have z:=hide (Ya ((Qa k).1.kp Qaf (Kp.of_below (rb:=rb) A) (Qa E).1) (Ya ((Qa k).2.1.later A) ((Qa k).2.2.1.trans (Kp.of_below A))));clear A;go_wp2_with fail;go_meet;obtain⟨B,p,H⟩:=Qa z;exact⟨M,by rw[decide_eq_true m],hide ⟨B,p,H,fun _=>⟨x,(Qa HQ).2,(Qa HQ).1⟩,fun e=>absurd m e⟩⟩
  have f:=(Qa k).2.2.2.1;rw[show leftQ K xs j=[] by rw[show j=n by omega,<- Qa G,Qcn],List.nil_append]at f;have F:=Qcd (Qa k).2.1 f [41];rw[show isSg (sgQ [41]) [41]=true by simp[isSg,sgQ]]at F;have HQ:=hide f;clear f t;go_wp2_with fail;refine y.mono ?_;clear y;rintro en wq⟨rfl,rfl⟩;go_wp2_with fail;refine F.mono ?_;clear F;rintro en WX⟨rfl,A⟩;have z:=hide (Ya ((Qa k).1.kp Qaf (Kp.of_below (rb:=rb) A) (Qa E).1) (Ya ((Qa k).2.1.later A) ((Qa k).2.2.1.trans (Kp.of_below A))));clear A;go_wp2_with fail;go_meet;obtain⟨B,p,H⟩:=Qa z;exact⟨M,by rw[decide_eq_false m],hide ⟨B,p,H,fun e=>absurd e m,fun _=>Qa HQ⟩⟩
 obtain⟨C,rfl,X0⟩:=hcut;by_cases m:j<n
 rotate_left
 ·
  rw[decide_eq_false m];obtain⟨f,R,u,_,N⟩:=Qa X0;have O:=Qd R (N m);have z:=hide (Ya f u);have ej:j=n:=by omega
  have HE:=hide (show eqL eqE ys xs=true by have q:=(Qa k).2.2.2.2.2.2;rw[ej,<- Qa G,List.take_length]at q;exact q);clear f R u N X0 ej;go_wp2_with fail;refine O.mono ?_;clear O;rintro en w9⟨_,a9,rfl,rfl,h9,S,n9⟩;have HZ:=hide (Ya h9 (Ya S n9));clear h9 S n9;go_wp2_with fail;go_ret;obtain⟨h9,S,n9⟩:=Qa HZ;obtain⟨f,u⟩:=Qa z;exact⟨_,_,rfl,⟨ys,(f.kp Qaf S (Qa E).1).ls Qaf,Qa HE⟩,h9,u.trans S,n9⟩
 rw[decide_eq_true m];obtain⟨f,R,u,N,_⟩:=Qa X0;obtain⟨x,o,hA⟩:=N m;have ae:=(Qa HX x (List.mem_of_getElem? o)).1;have a3:Fol (leftQ K xs (j+1)++sgQ [41] :: rest):=by
  by_cases B:j+1<n
  ·
   rw[Qcx K (by omega) (List.getElem?_eq_getElem (show j+1<xs.length by rw[Qa G];exact B))];exact Qa ah _
  rw[show leftQ K xs (j+1)=[] by rw[show j+1=n by omega,<- Qa G,Qcn]];exact Qa ai _
 have aa:=ae _ _ _ _ R hA a3;have Q:xs.take (j+1)=xs.take j++[x]:=by rw[List.take_add_one,o];rfl
 have g8:¬((8:Int)<=(j:Int)):=by omega
 have XF:=hide (Ya f (Ya u Q));obtain⟨WX,ak⟩:=JE wc;subst ak;clear f R u N o hA ae Q a3 X0;go_wp2_with fail;refine aa.mono ?_;clear aa;rintro en w7⟨_,a7,rfl,⟨D,⟨_,rfl,⟨ka,kn,kc,rfl⟩,af⟩,a8⟩,h7,k7,Y⟩;obtain⟨f,u,Q⟩:=Qa XF;obtain⟨i0,hi,hz,ad,a6⟩:=infoE;obtain⟨r,wz,a4,X,Z,J⟩:=f.more Qaf (by kernel_rfl:Tryz.prog.underlying 40=some (.slice 59)) hi hz ad a6 rfl (by decide) (by decide) u (x:=D) (cs:=[Ji D.kind,Ji D.num,str D.txt,.slice ka kn kc,Ji D.at_]) rfl (by simp[Value.oneCell',str]) af h7 k7 (Qa E).1 (Qa E).2 (by rw[(Qa k).2.2.2.2.2.1];omega);obtain⟨ra,rc,er,a5,V⟩:=J.sl;subst er;have a2:=hide a4;have L:(ys++[D]).length=j+1:=by rw[List.length_append,(Qa k).2.2.2.2.2.1];rfl
 have W:eqL eqE (ys++[D]) (xs.take (j+1))=true:=by rw[Q];exact Qdt eqE _ _ _ _ (Qa k).2.2.2.2.2.2 a8
 have HE:=hide (Ya J (Ya Z (Ya X (Ya a5 (Ya V (Ya Y (Ya L W)))))));clear af a8 h7 k7 f u Q hi hz ad a6 a4 X Z J a5 V Y L W;go_wp2_with (at_builtin;refine Qaj _ rfl _ _ 40 rfl _ _ rfl rfl _ _ (Qa a2) ?_;clear a2);go_roundw
 case rel=>
  obtain⟨J,Z,X,a5,V,Y,L,W⟩:=Qa HE;have ag:=(Qa k).2.2.2.2.2.1;refine⟨j+1,_,false,ra,rc,ys++[D],by first|rw[L]|(congr 1;omega)|(simp[ag]),rfl,by omega,by omega,V,hide ⟨?_,Z,X,Y,by simp,L,W⟩⟩;rw[L]at J;exact J
 have ag:=(Qa k).2.2.2.2.2.1;simp[lenV];omega
theorem Qor{rb g cap a d i:Nat}{l:List Tok}{w:World}(h:Rr rb g cap l w a d i 0 0)(hd:d<32):
  Calls Tryz.prog 60 #[.pointer (Js rb)] w fun en w'=>XA rb g cap l w (d+1) noV a i en w':=by
 obtain⟨e,f,j,k,m,n,o⟩:=cl6 h.box;have H:=hide h;clear h;have c:¬((32:Int)<=(d:Int)):=by omega
 have b:=hide hd;clear hd;go_enter Tryz.func60,Tryz.ntmps60;go_wp2_with fail
 go_end0
 exact⟨_,rfl,rfl,(Qa H).setD (d':=d+1) (by have:=Qa b;omega),Kp.set _ _ _ _⟩
def YEa(F rb g cap:Nat)(l:List Tok)(d:Nat)(args:Array Value)(Fol:List Tok->Prop)(K:List Tok)(x:Ex):Prop:=∀(w:World) (a i:Nat) (r:List Tok),Rr rb g cap l w a d i 0 0->Nxt l a (K++r)->Fol r ->
 Calls Tryz.prog F args w fun en w'=>XB rb g cap l w d (fun w' v=>∃x',VE (fun b=>w.heap.size<=b) w' v x'/\eqE x' x=true) r i en w'
attribute [local go_sem ↓] Qbt Qc
theorem Qvc{rb g cap d:Nat}{l:List Tok}(hd:d<32){Fol:List Tok->Prop}{K:List Tok}{x:Ex}{F:Nat}(hF:(F=108/\YEa 121 rb g cap l (d+1) #[.pointer (Js rb),Ji 0] Fol K x)∨(F=132/\YEa 135 rb g cap l (d+1) #[.pointer (Js rb)] Fol K x)):YE F rb g cap l d Fol K x:=by
 rcases hF with ⟨rfl,hI⟩|⟨rfl,hI⟩
 all_goals
  intro w a i r h hA hF;have D:Below w.heap.size w (w.alloc (.cells #[Ji 0,Ji 0,Je,Jn,Ji 0] 59)):=(Below.refl _ w).alloc (Nat.le_refl _) _;have O:(w.alloc (.cells #[Ji 0,Ji 0,Je,Jn,Ji 0] 59)).heap[w.heap.size]?=some (.cells #[Ji 0,Ji 0,Je,Jn,Ji 0] 59 (0,0)):=heap_alloc_new w _;have Y:(w.alloc (.cells #[Ji 0,Ji 0,Je,Jn,Ji 0] 59)).heap.size=w.heap.size+1:=by simp
  have aa:=Qor (h.later D) hd;have ar:=Qaa h.box;have aq:=h.row.lt;have ag:=hide (show g≠w.heap.size by omega);have a5:=hide (Ya D (Ya O Y));have HI:=hide hI;have HA:=hide (Ya hA hF);clear h D O Y hI hA hF
  first|go_enter Tryz.func108,Tryz.ntmps108|go_enter Tryz.func132,Tryz.ntmps132
  go_wp2_with fail;refine aa.mono ?_;clear aa;rintro en A⟨_,rfl,rfl,h1,V⟩;obtain⟨D,O,Y⟩:=Qa a5;have a2:=V.size;obtain⟨z,t⟩:=JF A.heap.size;obtain⟨Q,I⟩:=JE (A.alloc (.cells #[Ji 0,Ji 0,Je,Jn,Ji 0] 59));have T:Below A.heap.size A Q:=by rw[I];exact(Below.refl _ A).alloc (Nat.le_refl _) _
  have M:Q.heap[z]?=some (.cells #[Ji 0,Ji 0,Je,Jn,Ji 0] 59 (0,0)):=by rw[I,<- t];exact heap_alloc_new A _
  have Z:Q.heap.size=A.heap.size+1:=by rw[I];simp
  have L:Q.heap[w.heap.size]?=some (.cells #[Ji 0,Ji 0,Je,Jn,Ji 0] 59 (0,0)):=(T.block _ (by omega)).trans (V.keep O (by omega));have N:=h1.later T;have k:Kp rb w Q:=((Kp.of_below D).trans V).trans (Kp.of_below T);have a3:=Qaw N;rw[decide_eq_true rfl]at a3;have ac:w.heap.size<z:=by omega
  have a6:=hide (show z≠rb/\w.heap.size≠rb/\z≠w.heap.size by omega);have S:=hide (Ya N (Ya k (Ya M (Ya L (Ya Z (Ya t ac))))));have a7:=hide I;have N2:=Qhm A (c0:=Ji 0) (c1:=Ji 0) (c2:=Je) (c3:=Jn) (c4:=Ji 0) (by simp[Value.oneCell']);clear D O Y a2 ac t I T M Z L N k h1 V a5;go_wp2_with fail;rw[<- Qa a7,(Qa S).2.2.2.2.2.1];clear a7 N2;have ab:=Qa HI _ _ _ _ (Qa S).1 (Qa HA).1 (Qa HA).2;refine a3.mono ?_;clear a3;rintro en aj⟨rfl,rfl⟩;go_wp2_with fail;refine ab.mono ?_;clear ab;rintro en w3⟨_,aX,rfl,⟨e,⟨_,rfl,⟨n,p,o,rfl⟩,ad⟩,a0⟩,h3,m,a8⟩;obtain⟨N,k,M,L,Z,t,a2⟩:=Qa S;obtain⟨e1,e2,e3⟩:=Qa a6;have ai:=m.size;have m3:=m.keep M e1;have z3:=m.keep L e2;have S3:=Qbv (new:=#[Ji e.kind,Ji e.num,str e.txt,.slice n p o,Ji e.at_]) m3 rfl rfl (by simp[Value.oneCell',str]);obtain⟨f,s⟩:=JE (w3.setRow z #[Ji e.kind,Ji e.num,str e.txt,.slice n p o,Ji e.at_]);rw[<- s]at S3;have H:∀q,q≠z->f.heap[q]?=w3.heap[q]?:=fun q j=>by rw[s];exact setRow_other _ _ _ _ j
  have sX:f.heap.size=w3.heap.size:=by rw[s,size_setRow]
  have mX:f.heap[z]?=some (.cells #[Ji e.kind,Ji e.num,str e.txt,.slice n p o,Ji e.at_] 59 (0,0)):=by rw[s];exact setRow_heap _ _ _ _ _ _ m3
  have hX:=h3.move (w':=f) (by omega) (H rb e1.symm) (H g (by omega));have kX:Kp rb w f:=⟨by rw[s];exact(k.trans m).os,by rw[s];exact(k.trans m).tape,by rw[s];exact(k.trans m).output,by rw[sX];exact(k.trans m).size,fun q j hn=>(H q (by omega)).trans ((k.trans m).block q j hn)⟩;have af:ExS (fun b=>w.heap.size<=b/\b≠rb/\b≠w.heap.size) f [Ji e.kind,Ji e.num,str e.txt,.slice n p o,Ji e.at_] e:=by
   have q1:=Qaf.same _ _ f _ _ (Qaf.mono _ (fun b=>aj.heap.size<=b) _ _ _ ad (fun b _ y=>y)) (by omega) (fun b y hl=>H b (by omega));exact Qaf.mono _ _ _ _ _ q1 (fun b _ y=>⟨by omega,by omega,by omega⟩)
  have XX:=hide (Ya hX (Ya kX (Ya mX (Ya ((H _ e3.symm).trans z3) (Ya af (Ya a0 a8))))));obtain⟨c,a4⟩:=JE e;rw[<- a4]at XX S3;rw[<- a4];clear ad a0 a8 h3 m N k M L Z t a2 e1 e2 e3 ai m3 z3 s H sX mX hX kX af a4 S HI HA;obtain⟨E,k4,m4,z4,ae,a9⟩:=Qa XX;obtain⟨av,aw,ax,ay,az,aA,xf⟩:=cl6 E.box;obtain⟨B,J⟩:=JE (f.setCell (Ja rb 2) (Ji (d:Int)));have h5:Rr rb g cap l B aX d i 0 0:=by rw[J];exact E.setD (by have:=E.dd;omega)
  have G:Kp rb w B:=by rw[J];exact k4.trans (Kp.set _ _ _ _)
  have X:∀q,q≠rb->B.heap[q]?=f.heap[q]?:=fun q j=>by rw[J];exact hpS j
  have s5:B.heap.size=f.heap.size:=by rw[J];simp
  obtain⟨t,a1,ah⟩:=Qa a6;have m5:=(X z t).trans m4;have z5:=(X w.heap.size a1).trans z4;have L5:=Qdm m5;have S5:=Qbv (new:=#[Ji c.kind,Ji c.num,str c.txt,.slice n p o,Ji c.at_]) z5 rfl rfl (by simp[Value.oneCell',str]);obtain⟨C,u⟩:=JE (B.setRow w.heap.size #[Ji c.kind,Ji c.num,str c.txt,.slice n p o,Ji c.at_]);rw[<- u]at S5;have P:∀q,q≠w.heap.size->C.heap[q]?=B.heap[q]?:=fun q j=>by rw[u];exact setRow_other _ _ _ _ j
  have s6:C.heap.size=B.heap.size:=by rw[u,size_setRow]
  have z6:C.heap[w.heap.size]?=some (.cells #[Ji c.kind,Ji c.num,str c.txt,.slice n p o,Ji c.at_] 59 (0,0)):=by rw[u];exact setRow_heap _ _ _ _ _ _ z5
  have U:=h5.move (w':=C) (by omega) (P rb a1.symm) (P g (Qa ag));have W:Kp rb w C:=⟨by rw[u];exact G.os,by rw[u];exact G.tape,by rw[u];exact G.output,by rw[s6];exact G.size,fun q j hn=>(P q (by omega)).trans (G.block q j hn)⟩;have R:ExS (fun b=>w.heap.size<=b) C [Ji c.kind,Ji c.num,str c.txt,.slice n p o,Ji c.at_] c:=by
   have q1:=Qaf.same _ _ C _ _ ae (by omega) (fun b y hl=>(P b y.2.2).trans (X b y.2.1));exact Qaf.mono _ _ _ _ _ q1 (fun b _ y=>y.1)
  have HF:=hide (Ya U (Ya W (Ya z6 R)));have au:IntKind.i64.wrap ((d:Int)+1 - 1)=(d:Int):=by rw[show(d:Int)+1 - 1=(d:Int) by omega];exact Qew d (by have:=E.dd;omega)
  have ap:=E.dd;clear E k4 m4 z4 ae h5 G X s5 t a1 ah m5 z5 P s6 z6 U W R u;subst J;go_wp2_with fail;obtain⟨U,W,z6,R⟩:=Qa HF;obtain⟨ak,al,am,an,ao,zf⟩:=ex5 z6;refine bodyPost_ret (v:=.agg #[Ji c.kind,Ji c.num,str c.txt,.slice n p o,Ji c.at_]) (by simp[results,Tryz.results108,Tryz.results132,go_sem,ak,al,am,an,ao]) rfl ?_;exact⟨_,_,rfl,⟨c,⟨_,rfl,⟨_,_,_,rfl⟩,R⟩,a9.1⟩,U,W,a9.2⟩
theorem Que{rb g cap d:Nat}{l:List Tok}(hd:d<32){Fol:List Tok->Prop}{K:List Tok}{x:Ex}(hI:YEa 121 rb g cap l (d+1) #[.pointer (Js rb),Ji 0] Fol K x):YE 108 rb g cap l d Fol K x:=Qvc hd (.inl ⟨rfl,hI⟩)
theorem Qou{rb g cap d:Nat}{l:List Tok}(hd:d<32){Fol:List Tok->Prop}{K:List Tok}{x:Ex}(hI:YEa 135 rb g cap l (d+1) #[.pointer (Js rb)] Fol K x):YE 132 rb g cap l d Fol K x:=Qvc hd (.inr ⟨rfl,hI⟩)
end
section
open Go.RowKit Go.Maps
attribute [local go_sem ↓] Qbt Qc
theorem Quj{rb g cap d:Nat}{l:List Tok}{Fol:List Tok->Prop}{K:List Tok}{x:Ex}(hF:YE 132 rb g cap l d Fol K x):YEa 121 rb g cap l d #[.pointer (Js rb),Ji 2] Fol K x:=by
 intro w a i r h P L;obtain⟨A,m⟩:=JE ((w.alloc (.cells #[Ji 0,Ji 0,Je,Jn,Ji 0] 59)).alloc (.cells #[.string ⟨#[43]⟩,.string ⟨#[45]⟩] 9));have j:Below w.heap.size w A:=by rw[m];exact((Below.refl _ w).alloc (Nat.le_refl _) _).alloc (by simp) _
 have s:A.heap[w.heap.size]?=some (.cells #[Ji 0,Ji 0,Je,Jn,Ji 0] 59 (0,0)):=by rw[m,Below.heap_alloc _ _ _ (by simp)];exact heap_alloc_new w _
 have M:=hF A a i r (h.later j) P L;have a2:=Qaa h.box;have a0:=h.row.lt;have E:A.heap.size=w.heap.size+2:=by rw[m];simp
 have X:=hide (Ya j (Ya s E));have J:=hide m;clear m j s h hF E P L;go_enter Tryz.func121,Tryz.ntmps121;go_wp2_with fail;rw[<- Qa J];clear J;refine M.mono ?_;clear M;rintro en H⟨_,a1,rfl,⟨c,⟨_,rfl,⟨n,p,o,rfl⟩,N⟩,u⟩,O,C,z⟩;obtain⟨j,s,E⟩:=Qa X;have R:=C.size;have I:=C.keep s (by omega);have Z:=Qbv (new:=#[Ji c.kind,Ji c.num,str c.txt,.slice n p o,Ji c.at_]) I rfl rfl (by simp[Value.oneCell',str]);obtain⟨f,e⟩:=JE (H.setRow w.heap.size #[Ji c.kind,Ji c.num,str c.txt,.slice n p o,Ji c.at_]);rw[<- e]at Z;have t:∀q,q≠w.heap.size->f.heap[q]?=H.heap[q]?:=fun q G=>by rw[e];exact setRow_other _ _ _ _ G
 have Q:f.heap.size=H.heap.size:=by rw[e,size_setRow]
 have F:f.heap[w.heap.size]?=some (.cells #[Ji c.kind,Ji c.num,str c.txt,.slice n p o,Ji c.at_] 59 (0,0)):=by rw[e];exact setRow_heap _ _ _ _ _ _ I
 have k:=(Kp.of_below (rb:=rb) j).trans C;have B:=O.move (w':=f) (by omega) (t rb (by omega)) (t g (by omega));have D:Kp rb w f:=⟨by rw[e];exact k.os,by rw[e];exact k.tape,by rw[e];exact k.output,by rw[Q];exact k.size,fun q G hn=>(t q (by omega)).trans (k.block q G hn)⟩;have y:ExS (fun b=>w.heap.size<=b) f [Ji c.kind,Ji c.num,str c.txt,.slice n p o,Ji c.at_] c:=by
  have q1:=Qaf.same _ _ f _ _ N (by omega) (fun b hb hl=>t b (by omega));exact Qaf.mono _ _ _ _ _ q1 (fun b _ hb=>by omega)
 have Y:=hide (Ya B (Ya D (Ya F (Ya y (Ya u z)))));clear O C N u z j s E R I e t Q F k B D y;go_wp2_with fail;obtain⟨B,D,F,y,u,z⟩:=Qa Y;obtain⟨S,T,U,V,W,zf⟩:=ex5 F;refine bodyPost_ret (v:=.agg #[Ji c.kind,Ji c.num,str c.txt,.slice n p o,Ji c.at_]) (by simp[results,Tryz.results121,go_sem,S,T,U,V,W]) rfl ?_;exact⟨_,_,rfl,⟨c,⟨_,rfl,⟨_,_,_,rfl⟩,y⟩,u⟩,B,D,z⟩
end
end Go.Proofs.YtmfpbepifnedjaaGreat
