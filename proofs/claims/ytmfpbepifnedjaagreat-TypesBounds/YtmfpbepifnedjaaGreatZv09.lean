/- The document's reader. -/
import Derived.Test.YtmfpbepifnedjaaGreatZv08
import Derived.Deep.Cut
import Derived.Deep.CutRange
import Derived.Test.YtmfpbepifnedjaaGreatZv01
set_option maxRecDepth 100000
set_option maxHeartbeats 32000000
namespace Go.Proofs.YtmfpbepifnedjaaGreat
section
open Go.RowKit Go.Maps
def MyA(rb g cap:Nat)(l:List Tok)(w:World)(a d i:Nat)(y:Int)(en:Ending)(w':World):Prop:=
 ∃b a' f',en = .returned (.bool b)/\(b=true->y=0/\a'=a+1)/\(b=false->a'=a)/\Rr rb g cap l w' a' d i y f'/\Kp rb w w'
def CoY(a i:Nat)(y:Int)(a' i':Nat)(y':Int):Prop:=i'=i/\a<=a'/\(y'=0->y=0/\a<a')
def txV(_:World)(v:Value):Prop:=∃x:Txt,v=str x/\x.length<=65536
theorem Qbf{rb g cap a d i:Nat}{l:List Tok}{w:World}{y f:Int}(h:Rr rb g cap l w a d i y f)(s:ByteArray):
  Calls Tryz.prog 57 #[.pointer (Js rb),.string s] w fun en w'=>MyA rb g cap l w a d i y en w':=by
 have v:=Qch h s;obtain⟨t,z⟩:=h.tok;have H:=hide (Ya h z);clear h z;go_enter Tryz.func57,Tryz.ntmps57;go_wp2_with fail;refine v.mono ?_;clear v;rintro en F⟨b,rfl,o,c⟩;have r:=Qbb ((Qa H).1.later c) (Qa H).2;have u:=hide (Ya o c);clear o c;cases b
 ·
  clear r;go_wp2_with fail;go_ret;exact⟨false,_,_,rfl,fun e=>(by cases e),fun _=>rfl,(Qa H).1.later (Qa u).2,Kp.of_below (Qa u).2⟩
 go_wp2_with fail;refine r.mono ?_;clear r;rintro en G⟨_,a',E,I,D,rfl,rfl,m,j,q⟩;have A:=hide (Ya m (Ya j q));clear m j q;go_wp2_with fail;go_ret;obtain⟨o,c⟩:=Qa u;obtain⟨⟨rfl,rfl,m⟩,j,q⟩:=Qa A;obtain⟨x,B⟩:=o (by trivial);rcases m with ⟨_,_,rfl⟩|⟨_,C⟩
 ·exact⟨true,_,_,rfl,fun _=>⟨x,rfl⟩,fun e=>(by cases e),j,(Kp.of_below c).trans q⟩
 ·exact absurd B (C x)
theorem Qbl{rb g cap a d i:Nat}{l:List Tok}{w:World}{y f:Int}(h:Rr rb g cap l w a d i y f)(s:ByteArray):
  Calls Tryz.prog 64 #[.pointer (Js rb),.string s] w fun en w'=>RA rb g cap l w d noV (CoY a i y) en w':=by
 have v:=Qbf h s;clear h;go_enter Tryz.func64,Tryz.ntmps64;go_wp2_with fail;refine v.mono ?_;clear v;rintro en F⟨b,a',C,rfl,o,m,j,c⟩;have u:=Qbe j (why:=10) (by decide);have x:=hide (Ya o (Ya m (Ya j c)));clear o m j c;cases b
 ·
  go_wp2_with fail;refine u.mono ?_;clear u;rintro en G⟨_,B,E,H,D,rfl,rfl,r,q,t⟩;have z:=hide (Ya r (Ya q t));clear r q t;go_wp2_with fail
  go_end0
  obtain⟨_,m,_,c⟩:=Qa x;obtain rfl:=m (by trivial);obtain⟨⟨rfl,rfl,r⟩,q,t⟩:=Qa z;exact⟨_,_,_,_,_,rfl,rfl,⟨rfl,Nat.le_refl _,fun e=>absurd e r⟩,q,c.trans t⟩
 clear u;go_wp2_with fail
 go_end0
 obtain⟨o,_,j,c⟩:=Qa x;obtain⟨A,rfl⟩:=o (by trivial);exact⟨_,_,_,_,_,rfl,rfl,⟨rfl,by omega,fun _=>⟨A,by omega⟩⟩,j,c⟩
theorem Qdn{rb g cap a d i:Nat}{l:List Tok}{w:World}{y f:Int}(h:Rr rb g cap l w a d i y f):
  Calls Tryz.prog 65 #[.pointer (Js rb)] w fun en w'=>RA rb g cap l w d txV (CoY a i y) en w':=by
 obtain⟨t,B⟩:=h.tok;have z:=Qap h B;unfold tkA at z;have H:=hide (Ya h B);clear h B;go_enter Tryz.func65,Tryz.ntmps65;go_wp2_with fail;refine z.mono ?_;clear z;rintro en P⟨rfl,A⟩;have r:=(Qa H).1.later A;have x:=Qbe r (why:=10) (by decide);have c:=Qbb r (Qa H).2;unfold tkA at c;have C:=hide (Ya r A);clear r A;go_wp2_with fail;rename_i j;refine j _ _ ?_;clear j;by_cases u:t.kind=1
 ·
  have G:(t.kind != 1)=false:=by simpa using u
  have E:=hide ((Qa H).1.more (Qa H).2 (by omega));clear u x;go_wp2_with fail;refine c.mono ?_;clear c;rintro en K⟨_,a',J,L,F,rfl,rfl,b,m,o⟩;have q:=hide (Ya b (Ya m o));clear b m o;go_wp2_with fail;rename_i j;refine j _ _ ?_;clear j;go_wp2_with fail;go_ret;obtain⟨⟨rfl,rfl,b⟩,m,o⟩:=Qa q;refine⟨_,_,_,_,_,rfl,⟨_,rfl,(Qa H).1.tx t (List.mem_of_getElem? (Qa H).2)⟩,⟨rfl,?_,?_⟩,m,(Kp.of_below (Qa C).2).trans o⟩
  ·rcases b with ⟨_,_,rfl⟩|⟨rfl,_⟩<;>omega
  intro e;rcases b with ⟨_,_,rfl⟩|⟨_,I⟩
  ·exact⟨e,by omega⟩
  ·exact absurd (Qa E) (I e)
 have G:(t.kind != 1)=true:=by simpa using u
 clear u c;go_wp2_with fail;refine x.mono ?_;clear x;rintro en K⟨_,M,O,R,N,rfl,rfl,⟨rfl,rfl,b⟩,m,o⟩;have c:=Qbb m (Qa H).2;unfold tkA at c;have q:=hide (Ya b o);clear b m o;go_wp2_with fail;refine c.mono ?_;clear c;rintro en Q⟨_,a',J,L,F,rfl,rfl,b,s,v⟩;have D:=hide (Ya b (Ya s v));clear b s v;go_wp2_with fail;rename_i j;refine j _ _ ?_;clear j;go_wp2_with fail;go_ret;obtain⟨⟨rfl,rfl,b⟩,s,v⟩:=Qa D;refine⟨_,_,_,_,_,rfl,⟨_,rfl,(Qa H).1.tx t (List.mem_of_getElem? (Qa H).2)⟩,⟨rfl,?_,fun e=>absurd e (Qa q).1⟩,s,((Kp.of_below (Qa C).2).trans (Qa q).2).trans v⟩;rcases b with ⟨_,_,rfl⟩|⟨rfl,_⟩<;>omega
theorem Qca{rb g cap a d i:Nat}{l:List Tok}{w:World}{y f:Int}(h:Rr rb g cap l w a d i y f):
  Calls Tryz.prog 63 #[.pointer (Js rb)] w fun en w'=>RA rb g cap l w d txV (CoY a i y) en w':=by
 obtain⟨t,F⟩:=h.tok;have P:∀w',Below w.heap.size w w'->Calls Tryz.prog 22 #[.pointer (Js rb)] w' fun en C=>en = .returned (.agg #[Ji t.kind,str t.text,Ji t.num,Ji (t.at_:Int)])/\Below w'.heap.size w' C:=fun w' hb=>Qap (h.later hb) F;have Q:(⟨t.text.toArray⟩:ByteArray).size<=140737488355328:=by
  have:=h.tx t (List.mem_of_getElem? F);have e:(⟨t.text.toArray⟩:ByteArray).size=t.text.length:=by simp[ByteArray.size]
  omega
 have R:∀w',Calls Tryz.prog 92 #[str t.text] w' fun e C=>e = .returned (.bool (wordP t.text))/\C=w':=fun w'=>by
  have:=Qke ⟨t.text.toArray⟩ Q w'
  simpa[str] using this
 have I:=hide P;have a0:=hide R;have H:=hide (Ya h F);have q:=Qa I w (Below.refl _ _);clear h F P R Q;go_enter Tryz.func63,Tryz.ntmps63;go_wp2_with fail;refine q.mono ?_;clear q;rintro en C⟨rfl,U⟩;have A:=hide (U);clear U;go_wp2_with fail;rename_i c;refine c _ _ ?_;clear c;by_cases E:t.kind=1
 rotate_left
 ·
  have gk:(t.kind != 1)=true:=by simpa using E
  clear E;have u:=(Qa H).1.later (Qa A);have r:=Qbe u (why:=10) (by decide);clear u;go_wp2_with fail;refine r.mono ?_;clear r;rintro en Z⟨_,S,Y,y3,X,rfl,rfl,⟨rfl,rfl,b⟩,v,x⟩;have o:=Qbb v (Qa H).2;unfold tkA at o;have s:=hide (Ya b x);clear b v x;go_wp2_with fail;refine o.mono ?_;clear o;rintro en M⟨_,a',L,N,K,rfl,rfl,b,j,m⟩;have z:=hide (Ya b (Ya j m));clear b j m;go_wp2_with fail;rename_i c;refine c _ _ ?_;clear c;go_wp2_with fail;go_ret;obtain⟨⟨rfl,rfl,b⟩,j,m⟩:=Qa z;refine⟨_,_,_,_,_,rfl,⟨_,rfl,(Qa H).1.tx t (List.mem_of_getElem? (Qa H).2)⟩,⟨rfl,?_,fun e=>absurd e (Qa s).1⟩,j,((Kp.of_below (Qa A)).trans (Qa s).2).trans m⟩;rcases b with ⟨_,_,rfl⟩|⟨rfl,_⟩<;>omega
 have gk:(t.kind != 1)=false:=by simpa using E
 have HM:=hide ((Qa H).1.more (Qa H).2 (by omega));have q:=Qa I C (Qa A);clear E;go_wp2_with fail;refine q.mono ?_;clear q;rintro en w3⟨rfl,V⟩;have B:=hide ((Qa A).trans (V.mono (Qa A).size));clear V;have J:=Qa a0 w3;obtain⟨bw,O⟩:=JE (wordP t.text);rw[<- O]at J;clear O;go_wp2_with fail;rename_i c;refine c _ _ ?_;clear c;go_wp2_with fail;refine J.mono ?_;clear J;rintro en a1⟨rfl,rfl⟩;cases bw
 ·
  have u:=(Qa H).1.later (Qa B);have r:=Qbe u (why:=10) (by decide);clear u;go_wp2_with fail;refine r.mono ?_;clear r;rintro en Z⟨_,S,Y,y3,X,rfl,rfl,⟨rfl,rfl,b⟩,v,x⟩;have o:=Qbb v (Qa H).2;unfold tkA at o;have s:=hide (Ya b x);clear b v x;go_wp2_with fail;refine o.mono ?_;clear o;rintro en M⟨_,a',L,N,K,rfl,rfl,b,j,m⟩;have z:=hide (Ya b (Ya j m));clear b j m;go_wp2_with fail;rename_i c;refine c _ _ ?_;clear c;go_wp2_with fail;go_ret;obtain⟨⟨rfl,rfl,b⟩,j,m⟩:=Qa z;refine⟨_,_,_,_,_,rfl,⟨_,rfl,(Qa H).1.tx t (List.mem_of_getElem? (Qa H).2)⟩,⟨rfl,?_,fun e=>absurd e (Qa s).1⟩,j,((Kp.of_below (Qa B)).trans (Qa s).2).trans m⟩;rcases b with ⟨_,_,rfl⟩|⟨rfl,_⟩<;>omega
 have q:=Qa I a1 (Qa B);go_wp2_with fail;refine q.mono ?_;clear q;rintro en w4⟨rfl,W⟩;have D:=hide ((Qa B).trans (W.mono (Qa B).size));clear W;go_wp2_with fail;rename_i c;refine c _ _ ?_;clear c;by_cases G:t.text=[95]
 ·
  have gu:(t.text==[95])=true:=by simpa using G
  clear G;have u:=(Qa H).1.later (Qa D);have r:=Qbe u (why:=10) (by decide);clear u;go_wp2_with fail;refine r.mono ?_;clear r;rintro en Z⟨_,S,Y,y3,X,rfl,rfl,⟨rfl,rfl,b⟩,v,x⟩;have o:=Qbb v (Qa H).2;unfold tkA at o;have s:=hide (Ya b x);clear b v x;go_wp2_with fail;refine o.mono ?_;clear o;rintro en M⟨_,a',L,N,K,rfl,rfl,b,j,m⟩;have z:=hide (Ya b (Ya j m));clear b j m;go_wp2_with fail;rename_i c;refine c _ _ ?_;clear c;go_wp2_with fail;go_ret;obtain⟨⟨rfl,rfl,b⟩,j,m⟩:=Qa z;refine⟨_,_,_,_,_,rfl,⟨_,rfl,(Qa H).1.tx t (List.mem_of_getElem? (Qa H).2)⟩,⟨rfl,?_,fun e=>absurd e (Qa s).1⟩,j,((Kp.of_below (Qa D)).trans (Qa s).2).trans m⟩;rcases b with ⟨_,_,rfl⟩|⟨rfl,_⟩<;>omega
 have gu:(t.text==[95])=false:=by simpa using G
 clear G;have o:=Qbb ((Qa H).1.later (Qa D)) (Qa H).2;unfold tkA at o;go_wp2_with fail;refine o.mono ?_;clear o;rintro en M⟨_,a',L,N,K,rfl,rfl,b,j,m⟩;have z:=hide (Ya b (Ya j m));clear b j m;go_wp2_with fail;rename_i c;refine c _ _ ?_;clear c;go_wp2_with fail;go_ret;obtain⟨⟨rfl,rfl,b⟩,j,m⟩:=Qa z;refine⟨_,_,_,_,_,rfl,⟨_,rfl,(Qa H).1.tx t (List.mem_of_getElem? (Qa H).2)⟩,⟨rfl,?_,?_⟩,j,(Kp.of_below (Qa D)).trans m⟩
 ·rcases b with ⟨_,_,rfl⟩|⟨rfl,_⟩<;>omega
 intro e;rcases b with ⟨_,_,rfl⟩|⟨_,hn⟩
 ·exact⟨e,by omega⟩
 ·exact absurd (Qa HM) (hn e)
def Qown{α : Type}(p:PS α)(k:Nat)(T:TypeId)(w wr:World)(sl:Value)(acc:List α):Prop:=∃css,wr.ownsRow w.heap.size T k sl acc.length css.flatten/\All p k (fun b=>w.heap.size<=b/\some b≠sl.ownBlock) wr css acc
section
variable {α : Type}{p:PS α}{k:Nat}{T:TypeId}
theorem Qown.nil(w wr:World):Qown p k T w wr (Jn) []:=⟨[],World.ownsRow_nil _ _ _ _,⟨rfl,fun j x c b=>by simp at b⟩⟩
theorem Qown.kp(hp:PSok p){rb:Nat}{w wr w':World}{sl:Value}{acc:List α}(h:Qown p k T w wr sl acc)(k2:Kp rb wr w')(hr:rb<w.heap.size):Qown p k T w w' sl acc:=by
 obtain⟨j,c,t⟩:=h;refine⟨j,⟨c.1,?_⟩,t.same hp k2.size (fun b v u=>k2.block b u (by omega))⟩;rcases c.2 with e|⟨g,cap,m,o,q,r,s⟩
 ·exact .inl e
 ·exact .inr ⟨g,cap,m,o,q,k2.keep r (by omega),s⟩
theorem Qown.sl{w wr:World}{sl:Value}{acc:List α}(h:Qown p k T w wr sl acc):∃a c,sl = .slice a acc.length c/\acc.length<=c/\c<=maxLen:=by
 obtain⟨q,o,_⟩:=h;rcases o.2 with ⟨e,b⟩|⟨g,cap,r,e,_,_,j,m,_⟩
 ·exact⟨none,0,by rw[e,b],by omega,by unfold maxLen;omega⟩
 ·exact⟨_,_,e,j,m⟩
theorem Qown.ls(hp:PSok p){w wr:World}{sl:Value}{acc:List α}(h:Qown p k T w wr sl acc):LsAt p k (fun b=>w.heap.size<=b) wr sl acc:=by
 obtain⟨m,e,c⟩:=h;exact LsAt.of e (c.mono hp (fun b _ j=>j.1))
theorem Qown.more(hp:PSok p){ST:TypeId}{i0:TypeInfo}{z:Value}{by_:Nat}(ht:Tryz.prog.underlying ST=some (.slice T))(hi:Tryz.prog.info? T=some i0)(hz:i0.zero=some z)(hsz:i0.size=k)(hby:i0.bytes=by_)(hzc:z.cells.size=k)(hk:0<k)(hb6:by_<=1000)
  {rb g cap a d i:Nat}{l:List Tok}{y f:Int}{w wr w2:World}{sl:Value}{acc:List α}(h:Qown p k T w wr sl acc)(kp:Kp rb w wr){x:α}{cs:List Value}
  (hl:cs.length=k)(h1:∀c∈cs,c.oneCell'=true)(hx:p (fun b=>wr.heap.size<=b) w2 cs x)(hR:Rr rb g cap l w2 a d i y f)(k2:Kp rb wr w2)(hrb:rb<w.heap.size)(hg:g<w.heap.size)(hf:acc.length<=65536):
  ∃r w8,(Builtin.append_ #[ST,ST] ST #[sl,.slice (Js w2.heap.size) 1 1]).run Tryz.prog (w2.alloc (.cells cs.toArray T)) = .ok r w8/\Kp rb w w8/\Rr rb g cap l w8 a d i y f/\Qown p k T w w8 r (acc++[x]):=by
 obtain⟨t,G,U⟩:=h;have X:=kp.size;have L:=k2.size;have s:∀b,some b=sl.ownBlock->w.heap.size<=b/\b<wr.heap.size:=fun b e=>World.ownsRow.lt G b e.symm;have K:(w2.alloc (.cells cs.toArray T)).ownsRow w.heap.size T k sl acc.length t.flatten:=by
  refine World.ownsRow.alloc ?_ _;refine⟨G.1,?_⟩;rcases G.2 with e|⟨g,cap,J,D,v,R,S⟩
  ·exact .inl e
  ·exact .inr ⟨g,cap,J,D,v,k2.keep R (by omega),S⟩
 obtain⟨r,w8,V,W,A,_,Q⟩:=run_append_own_at (P:=Tryz.prog) (w2.alloc (.cells cs.toArray T)) w.heap.size ST ST T i0 z k by_ ht hi hz hsz hby hzc hk sl acc.length t.flatten K (Ja w2.heap.size 0) 1 1 cs (by rw[hl,Nat.one_mul]) (fun j u F=>by
  have D:((Ja w2.heap.size 0):Addr).add j=(Ja w2.heap.size j):=by cases j<;>simp[Addr.add]
  rw[D,Qad (heap_alloc_new w2 _)]
  simpa using F) h1 (by unfold maxLen;omega) (by
  have B:acc.length+1<=65537:=by omega
  have:=Nat.mul_le_mul B hb6
  omega) (by simp;omega)
 have Z:(w2.alloc (.cells cs.toArray T)).heap.size=w2.heap.size+1:=by simp
 have Y:=A.size;have q:∀b,b<w2.heap.size->some b≠sl.ownBlock->w8.heap[b]?=w2.heap[b]?:=fun b o C=>by
  rw[A.block b (by omega) C,Below.heap_alloc _ _ _ o]
 have N:Kp rb w w8:=by
  have o:=(Below.refl w2.heap.size w2).alloc (Nat.le_refl _) (.cells cs.toArray T);refine⟨A.os.trans (o.os.trans (k2.os.trans kp.os)),A.tape.trans (o.tape.trans (k2.tape.trans kp.tape)),A.output.trans (o.output.trans (k2.output.trans kp.output)),by omega,fun j F C=>?_⟩;rw[q j (by omega) (fun e=>by have:=(s j e).1;omega),k2.block j (by omega) C];exact kp.block j F C
 have O:Rr rb g cap l w8 a d i y f:=hR.move (by omega) (q rb (by omega) (fun e=>by have:=(s rb e).1;omega)) (q g (by omega) (fun e=>by have:=(s g e).1;omega));have H:∀b,some b=r.ownBlock->some b=sl.ownBlock∨w2.heap.size<b+1/\w2.heap.size+1<=b:=fun b e=>by
  rcases Q with v|v
  ·exact .inl (e.trans v)
  rw[v]at e;simp only[Option.some.injEq]at e;exact .inr (by omega)
 refine⟨r,w8,V,N,O,t++[cs],by rw[List.length_append];simpa using W,?_⟩;have I:All p k (fun b=>w.heap.size<=b/\some b≠r.ownBlock) w8 t acc:=by
  have E:All p k (fun b=>(w.heap.size<=b/\some b≠sl.ownBlock)/\b<wr.heap.size) w2 t acc:=(U.mono hp (fun b o m=>⟨m,o⟩)).same hp L (fun b m o=>k2.block b o (by omega));have B:=E.same hp (w':=w8) (by omega) (fun b m o=>q b o m.1.2);refine B.mono hp (fun b _ m=>⟨m.1.1,fun e=>?_⟩);rcases H b e with e|e
  ·exact m.1.2 e
  have:=m.2;omega
 have M:p (fun b=>w.heap.size<=b/\some b≠r.ownBlock) w8 cs x:=by
  have E:=hp.mono _ (fun b=>wr.heap.size<=b/\b<w2.heap.size) _ _ _ hx (fun b o m=>⟨m,o⟩);have B:=hp.same _ _ w8 _ _ E (by omega) (fun b m o=>q b o (fun e=>by have:=(s b e).2;have:=m.1;omega));refine hp.mono _ _ _ _ _ B (fun b _ m=>⟨by have:=m.1;omega,fun e=>?_⟩);rcases H b e with e|e
  ·
   have:=(s b e).2;have:=m.1;omega
  have:=m.2;omega
 exact I.snoc hl M
end
def leftR(rb n:Nat)(w:World):Nat:=match w.cell? ⟨rb,4,none⟩ with
 |some (.int _ y)=>if y=0 then (match w.cell? ⟨rb,1,none⟩ with|some (.int _ a)=>n - a.toNat|_=>0)+1 else 0
 |_=>0
theorem Qam{rb g cap a d i:Nat}{l:List Tok}{w:World}{y f:Int}(h:Rr rb g cap l w a d i y f)(n:Nat):leftR rb n w=if y=0 then n - a+1 else 0:=by
 obtain⟨_,b,_,_,c,_,_⟩:=cl6 h.box;unfold leftR;rw[c,b];simp
def fdV(w:World)(w':World)(v:Value):Prop:=∃fs:List Fld,LsAt PF 2 (fun b=>w.heap.size<=b) w' v fs
theorem Qei{rb g cap a d i:Nat}{l:List Tok}{w:World}{y f:Int}(h:Rr rb g cap l w a d i y f)(so se:ByteArray):
  Calls Tryz.prog 90 #[.pointer (Js rb),.string so,.string se] w fun en w'=>RA rb g cap l w d (fdV w) (CoY a i y) en w':=by
 have G:=Qbl h so;have F:=hide (Ya (Qaa h.box) h.row.lt);clear h;go_enter Tryz.func90,Tryz.ntmps90;go_wp2_with fail;refine G.mono ?_;clear G;rintro en w1⟨_,a0,i0,y0,f0,rfl,rfl,⟨m,al,ae⟩,h0,k0⟩;rw[m]at h0;clear m;have H0:=hide (Ya al (Ya ae (Ya h0 k0)));clear al ae h0 k0;go_wp2_with fail;go_loopw [7,8] (fun sl fb wr=>∃(j:List Fld) (v:Nat) (W f1:Int) (ar:Bool) (sa:Option Addr) (sc:Nat),sl = .slice sa j.length sc/\fb = .bool ar/\j.length<=sc/\sc<=maxLen/\Hid (Qown PF 2 67 w wr sl j/\Rr rb g cap l wr v d i W f1/\Kp rb w wr/\j.length<=v+1/\a<=v/\(W=0->y=0/\a<v/\j.length<=v))) (fun _ _ wr=>leftR rb l.length wr)
 case atStart=>
  obtain⟨al,ae,h0,k0⟩:=Qa H0;exact⟨[],a0,y0,f0,true,none,0,rfl,rfl,Nat.le_refl _,by unfold maxLen;omega,hide ⟨Qown.nil _ _,h0,k0,Nat.zero_le _,al,fun e=>⟨(ae e).1,(ae e).2,Nat.zero_le _⟩⟩⟩
 obtain⟨j,v,W,f1,ar,sa,sc,rfl,rfl,aU,aJ,o⟩:=hrel;unfold maxLen at aJ;clear H0;go_upto_region 4 with fail;go_cut [31] from 13 to 48 (fun c wc=>∃(b:Bool) (B:Nat) (fX:Int),c = .bool b/\Hid (Qown PF 2 67 w wc (.slice sa j.length sc) j/\Rr rb g cap l wc B d i W fX/\Kp rb w wc/\j.length<=B+1/\(W=0->y=0)/\a<=B/\v<=B/\(b=true->W=0/\j.length<=B)))
 case first=>
  have H:=Qaw (Qa o).2.1;by_cases hy:W=0
  rotate_left
  ·
   rw[decide_eq_false hy]at H;have M:=hide hy;clear hy;go_wp2_with fail;refine H.mono ?_;clear H;rintro en wq⟨rfl,rfl⟩;go_wp2_with fail;go_meet;exact⟨false,v,f1,rfl,hide ⟨(Qa o).1,(Qa o).2.1,(Qa o).2.2.1,(Qa o).2.2.2.1,fun e=>absurd e (Qa M),(Qa o).2.2.2.2.1,Nat.le_refl _,fun e=>by cases e⟩⟩
  rw[decide_eq_true hy]at H;have M:=hide hy;clear hy;have u:=(Qa o).2.2.2.2;have Y:=u.2 (Qa M);have aj:=hide (Ya u Y);clear u Y;cases ar
  ·
   have aC:=Qbf (Qa o).2.1 ⟨#[44]⟩;go_wp2_with fail;refine H.mono ?_;clear H;rintro en wq⟨rfl,rfl⟩;go_wp2_with fail;refine aC.mono ?_;clear aC;rintro en N⟨b,a2,f2,rfl,ay,ax,z,k2⟩;have e2:v<=a2:=by
    cases b with
    |true=>have:=(ay rfl).2;omega
    |false=>have:=ax rfl;omega
   have s:=hide (Ya ((Qa o).1.kp Qb k2 (Qa F).1) (Ya z (Ya ((Qa o).2.2.1.trans k2) e2)));clear ay ax z k2 e2;cases b
   ·
    go_wp2_with fail;go_meet;obtain⟨P,z,A,e2⟩:=Qa s;obtain⟨u,Y⟩:=Qa aj;exact⟨false,a2,f2,rfl,hide ⟨P,z,A,by omega,fun e=>(u.2 e).1,by omega,e2,fun e=>by cases e⟩⟩
   go_wp2_with fail;go_meet;obtain⟨P,z,A,e2⟩:=Qa s;obtain⟨u,Y⟩:=Qa aj;exact⟨true,a2,f2,rfl,hide ⟨P,z,A,by omega,fun e=>(u.2 e).1,by omega,e2,fun _=>⟨Qa M,by omega⟩⟩⟩
  have aE:=Qch (Qa o).2.1 se;go_wp2_with fail;refine H.mono ?_;clear H;rintro en wq⟨rfl,rfl⟩;go_wp2_with fail;refine aE.mono ?_;clear aE;rintro en N⟨b,rfl,hb,b2⟩;have s:=hide (Ya ((Qa o).1.kp Qb (Kp.of_below (rb:=rb) b2) (Qa F).1) (Ya ((Qa o).2.1.later b2) ((Qa o).2.2.1.trans (Kp.of_below b2))));clear hb b2;cases b
  ·
   go_wp2_with fail;go_meet;obtain⟨P,z,A⟩:=Qa s;obtain⟨u,Y⟩:=Qa aj;exact⟨true,v,f1,rfl,hide ⟨P,z,A,by omega,fun e=>(u.2 e).1,u.1,Nat.le_refl _,fun _=>⟨Qa M,by omega⟩⟩⟩
  go_wp2_with fail;go_meet;obtain⟨P,z,A⟩:=Qa s;obtain⟨u,Y⟩:=Qa aj;exact⟨false,v,f1,rfl,hide ⟨P,z,A,by omega,fun e=>(u.2 e).1,u.1,Nat.le_refl _,fun e=>by cases e⟩⟩
 obtain⟨b,B,fX,rfl,t⟩:=hcut;cases b
 ·
  have s:=hide (Ya (Qa t).1 (Ya (Qa t).2.1 (Ya (Qa t).2.2.1 (Ya (Qa t).2.2.2.1 (Ya (Qa t).2.2.2.2.1 (Qa t).2.2.2.2.2)))));have G:=Qbl (Qa s).2.1 se;go_wp2_with fail;refine G.mono ?_;clear G;rintro en w9⟨_,a9,i9,y9,f9,rfl,rfl,⟨m,au,af⟩,h9,k9⟩;rw[m]at h9;clear m;have HZ:=hide (Ya au (Ya af (Ya h9 k9)));clear au af h9 k9;go_wp2_with fail;go_ret;obtain⟨au,af,h9,k9⟩:=Qa HZ;obtain⟨I,z,k2,aS,aP,aT,_⟩:=Qa s;exact⟨_,_,_,_,_,rfl,⟨j,(I.kp Qb k9 (Qa F).1).ls Qb⟩,⟨rfl,by omega,fun e=>⟨aP (af e).1,by have:=(af e).2;omega⟩⟩,h9,k2.trans k9⟩
 have M:=hide ((Qa t).2.2.2.2.2.2.2 rfl).1;have s:=hide (Ya (Qa t).1 (Ya (Qa t).2.1 (Ya (Qa t).2.2.1 (Ya ((Qa t).2.2.2.2.2.2.2 rfl).2 (Ya (Qa t).2.2.2.2.1 (Ya (Qa t).2.2.2.2.2.1 (Qa t).2.2.2.2.2.2.1))))));clear t
 go_upto_if 34 with fail
 go_cut [] from 13 to 48 (fun N=>∃(yF fF:Int),Hid (Qown PF 2 67 w N (.slice sa j.length sc) j/\Rr rb g cap l N B d i yF fF/\Kp rb w N/\j.length<=B/\(yF=0->y=0)/\a<=B/\v<=B))
 case first=>
  by_cases h8:8<=j.length
  ·
   have g8:(8:Int)<=(j.length:Int):=by omega
   have aA:=Qbe (Qa s).2.1 (why:=3) (by decide);clear h8;go_wp2_with fail;refine aA.mono ?_;clear aA;rintro en wf⟨_,a3,i3,y3,f3,rfl,rfl,⟨ea,m,aw⟩,A,k3⟩;rw[ea,m]at A;clear ea m;have XF:=hide (Ya ((Qa s).1.kp Qb k3 (Qa F).1) (Ya A (Ya ((Qa s).2.2.1.trans k3) (Ya (Qa s).2.2.2.1 (Ya (show y3=0->y=0 from fun e=>absurd e aw) (Qa s).2.2.2.2.2)))));clear A k3 aw;go_wp2_with fail;go_meet;exact⟨_,_,XF⟩
  have g8:¬((8:Int)<=(j.length:Int)):=by omega
  clear h8;go_wp2_with fail;go_meet;exact⟨_,_,s⟩
 obtain⟨yF,fF,XF⟩:=hcut;obtain⟨N,aI⟩:=JE wc;subst aI;clear s;have aG:=Qca (Qa XF).2.1;go_wp2_with fail;refine aG.mono ?_;clear aG;rintro en U⟨_,a4,i4,y4,f4,rfl,⟨V,rfl,-⟩,⟨m,J,D⟩,h4,k4⟩;rw[m]at h4;clear m;obtain⟨W5,ak⟩:=JE (U.alloc (.cells #[str V,Je] 67));have O:Below U.heap.size U W5:=by rw[ak];exact(Below.refl _ U).alloc (Nat.le_refl _) _
 have n5:W5.heap[U.heap.size]?=some (.cells #[str V,Je] 67 (0,0)):=by rw[ak];exact heap_alloc_new U _
 have G:=Qbl (h4.later O) ⟨#[58]⟩;obtain⟨S,a8⟩:=JF U.heap.size;have H4:=hide (Ya J (Ya D (Ya k4 (Ya O (Ya n5 a8)))));have av:=hide ak;clear J D h4 k4 O n5 ak a8;go_wp2_with fail;rw[<- Qa av,(Qa H4).2.2.2.2.2];clear av;refine G.mono ?_;clear G;rintro en w6⟨_,a6,i6,y6,f6,rfl,rfl,⟨m,K,E⟩,h6,R⟩;rw[m]at h6;clear m;have aD:=Qdn h6;have H6:=hide (Ya K (Ya E R));clear K E h6 R;go_wp2_with fail;refine aD.mono ?_;clear aD;rintro en w7⟨_,a7,i7,y7,f7,rfl,⟨x7,rfl,-⟩,⟨m,am,Z⟩,h7,k7⟩;rw[m]at h7;clear m;obtain⟨J,D,k4,O,n5,a8⟩:=Qa H4;obtain⟨K,E,R⟩:=Qa H6;obtain⟨I,Q,kX,an,ag,ap,ai⟩:=Qa XF;have aK:=k4.size;have aO:=kX.size;have aL:=O.size;have aM:=R.size;have aN:=k7.size;rw[a8]at n5;have ao:S≠rb:=by have:=(Qa F).1;omega
 have aB:S≠g:=by have:=(Qa F).2;omega
 have n7:w7.heap[S]?=some (.cells #[str V,Je] 67 (0,0)):=k7.keep (R.keep n5 ao) ao;obtain⟨w8,C⟩:=JE (w7.setCell (Ja S 1) (str x7));have n8:w8.heap[S]?=some (.cells #[str V,str x7] 67 (0,0)):=by rw[C];exact(Qah n7 1 _).trans rfl
 have s8:w8.heap.size=w7.heap.size:=by rw[C];simp
 have o8:∀q,q≠S->w8.heap[q]?=w7.heap[q]?:=fun q I=>by rw[C];exact hpS I
 have h8:=h7.move (w':=w8) (by omega) (o8 rb ao.symm) (o8 g aB.symm);have aH:Kp rb N w8:=by
  have kk:=((k4.trans (Kp.of_below O)).trans R).trans k7;refine⟨by rw[C];exact kk.os,by rw[C];exact kk.tape,by rw[C];exact kk.output,by rw[s8];exact kk.size,fun q I hn=>(o8 q (by omega)).trans (kk.block q I hn)⟩
 obtain⟨i0,hi,hz,aF,az⟩:=infoF;obtain⟨r,wz,a5,ah,L,X⟩:=I.more Qb (by kernel_rfl:Tryz.prog.underlying 46=some (.slice 67)) hi hz aF az rfl (by decide) (by decide) kX (x:=⟨V,x7⟩) (cs:=[str V,str x7]) rfl (by simp[Value.oneCell',str]) rfl h8 aH (Qa F).1 (Qa F).2 (by have:=Q.lt;have:=Q.few;omega);obtain⟨ra,rc,er,ac,ad⟩:=X.sl;subst er;rw[C]at a5;rw[show(w7.setCell (Ja S 1) (str x7)).heap.size=w7.heap.size by simp]at a5;have aq:=hide a5;obtain⟨aW,aY,xf⟩:=cl2 n7;obtain⟨aQ,aR,zf⟩:=cl2 n8;rw[C]at aQ aR;have aa:=Qam (Qa o).2.1 l.length;have ab:=Qam L l.length;have HE:=hide (Ya X (Ya L (Ya ah (Ya ac (Ya ad (Ya J (Ya D (Ya K (Ya E (Ya am (Ya Z (Ya an (Ya ag (Ya aa (Ya ab (Ya Q (Ya ap ai)))))))))))))))));clear J D k4 O n5 a8 K E R h7 k7 I Q kX an ag ap ai aK aO aL aM aN ao aB n7 C n8 s8 o8 h8 aH hi hz aF az a5 ah L X ac ad zf aa ab am Z;go_wp2_with (at_builtin;refine Qaj _ rfl _ _ 46 rfl _ _ rfl rfl _ _ (Qa aq) ?_;clear aq);go_roundw
 case rel=>
  obtain⟨X,L,ah,ac,ad,J,D,K,E,am,Z,an,ag,aa,ab,Q,ap,ai⟩:=Qa HE
  refine⟨j++[⟨V,x7⟩],_,_,_,false,ra,rc,by simp,rfl,ac,ad,hide ⟨by simpa only[List.length_append,List.length_singleton] using X,L,ah,by rw[List.length_append,List.length_singleton];omega,by omega,fun e=>by
   have e7:=Z e;have e6:=E e7.1;have e4:=D e6.1
   exact⟨ag e4.1,by omega,by rw[List.length_append,List.length_singleton];omega⟩⟩⟩
 obtain⟨X,L,ah,ac,ad,J,D,K,E,am,Z,an,ag,aa,ab,Q,ap,ai⟩:=Qa HE;have:=Q.lt;have aV:=(Qa o).2.1.lt;rw[aa,ab,if_pos (Qa M)];split
 ·
  rename_i e;have e7:=Z e;have e6:=E e7.1;have e4:=D e6.1;have:=L.lt;omega
 ·omega
end
section
mutual

def exQ:Ex->Nat
 | .mk _ _ _ ks _=>exQs ks+1
def exQs:List Ex->Nat
 | []=>0
 |x :: xs=>exQ x+exQs xs
end
theorem Qfx:∀xs ys:List Ex,exQs (xs++ys)=exQs xs+exQs ys
 | [],ys=>by rw[List.nil_append,exQs];omega
 |x :: xs,ys=>by rw[List.cons_append,exQs,exQs,Qfx xs ys];omega
theorem Qie(x:Ex):exQs [x]=exQ x:=by rw[exQs,exQs];omega

def lngQ(s:Txt):Nat:=s.length - 65536
theorem Qqj{s:Txt}(h:s.length<=65536):lngQ s=0:=by unfold lngQ;omega

def ltQ(y:Lt):Nat:=exQs y.atom.args+1+lngQ y.atom.rel
def ltQs:List Lt->Nat
 | []=>0
 |y :: ys=>ltQ y+ltQs ys
theorem Qgf:∀xs ys:List Lt,ltQs (xs++ys)=ltQs xs+ltQs ys
 | [],ys=>by rw[List.nil_append,ltQs];omega
 |x :: xs,ys=>by rw[List.cons_append,ltQs,ltQs,Qgf xs ys];omega
theorem Qtf(x:Lt):ltQs [x]=ltQ x:=by rw[ltQs,ltQs];omega

def ltB(y:Lt):Nat:=exQs y.atom.args+1
def ltBs:List Lt->Nat
 | []=>0
 |y :: ys=>ltB y+ltBs ys
theorem Qeh:∀xs ys:List Lt,ltBs (xs++ys)=ltBs xs+ltBs ys
 | [],ys=>by rw[List.nil_append,ltBs];omega
 |x :: xs,ys=>by rw[List.cons_append,ltBs,ltBs,Qeh xs ys];omega
theorem Qmo(x:Lt):ltBs [x]=ltB x:=by rw[ltBs,ltBs];omega
theorem Qlf:∀xs:List Lt,ltBs xs<=ltQs xs
 | []=>Nat.zero_le _
 |x :: xs=>by
  rw[ltBs,ltQs,ltB,ltQ];have:=Qlf xs;omega
end
section
open Go.RowKit Go.Maps
def rdOk(rb:Nat)(w:World):Prop:=w.cell? ⟨rb,4,none⟩=some (.int .i64 0)
theorem Qtv{rb:Nat}{w:World}{v0 v1 v2 v3 v5:Value}{y:Int}(h:w.heap[rb]?=some (.cells #[v0,v1,v2,v3,Ji y,v5] 75 (0,0))):rdOk rb w↔y=0:=by
 have e:w.cell? (Ja rb 4)=some (Ji y):=by rw[Qad h];rfl
 unfold rdOk;rw[e];constructor
 ·
  intro q
  simpa using q
 intro q;rw[q]
theorem Rr.ok{rb g cap a d i:Nat}{l:List Tok}{w:World}{y f:Int}(h:Rr rb g cap l w a d i y f):rdOk rb w↔y=0:=Qtv h.box
def szQ(rb a n:Nat)(w:World):Prop:=rdOk rb w -> ∀a':Nat,w.cell? ⟨rb,1,none⟩=some (.int .i64 (a':Int))->n+2*a<=2*a'
section
variable {rb g cap a a' d i n:Nat}{l:List Tok}{w:World}{y f:Int}
theorem Rr.idx(h:Rr rb g cap l w a' d i y f):w.cell? (Ja rb 1)=some (Ji (a':Int)):=(Qad h.box 1).trans rfl
theorem szQ.of(h:Rr rb g cap l w a' d i y f)(hn:y=0->n+2*a<=2*a'):szQ rb a n w:=fun e b c=>by
 rw[h.idx]at c;have j:=(Rr.ok h).1 e;simp only[Option.some.injEq,Value.int.injEq,true_and]at c;have:=hn j;omega
theorem szQ.at(s:szQ rb a n w)(h:Rr rb g cap l w a' d i y f)(hy:y=0):n+2*a<=2*a':=s ((Rr.ok h).2 hy) a' h.idx
theorem szQ.bad(h:Rr rb g cap l w a' d i y f)(hy:y≠0):szQ rb a n w:=szQ.of h (fun e=>absurd e hy)
end
def exV(rb a:Nat)(w:World)(w':World)(v:Value):Prop:=∃x:Ex,VE (fun b=>w.heap.size<=b) w' v x/\szQ rb a (exQ x) w'
def ExC(F rb g cap:Nat)(l:List Tok)(d:Nat)(args:Array Value):Prop:=∀(w:World) (a i:Nat) (y f:Int),Rr rb g cap l w a d i y f->Calls Tryz.prog F args w fun en w'=>RA rb g cap l w d (exV rb a w) (CoY a i y) en w'
def esV(rb a:Nat)(w:World)(w':World)(v:Value):Prop:=∃xs:List Ex,LsAt PE 5 (fun b=>w.heap.size<=b) w' v xs/\szQ rb a (exQs xs) w'
theorem Qkc{rb g cap a d i:Nat}{l:List Tok}{w:World}{y f:Int}(h:Rr rb g cap l w a d i y f)(hE:ExC 108 rb g cap l d #[.pointer (Js rb)]):
  Calls Tryz.prog 107 #[.pointer (Js rb)] w fun en w'=>RA rb g cap l w d (esV rb a w) (CoY a i y) en w':=by
 have V:=Qbl h ⟨#[40]⟩;have ar:=hide hE;have K:=hide (Ya (Qaa h.box) h.row.lt);clear h hE;go_enter Tryz.func107,Tryz.ntmps107;go_wp2_with fail;refine V.mono ?_;clear V;rintro en w1⟨_,a0,i0,y0,f0,rfl,rfl,⟨v,a6,M⟩,h0,k0⟩;rw[v]at h0;clear v;have H0:=hide (Ya a6 (Ya M (Ya h0 k0)));clear a6 M h0 k0;go_wp2_with fail;go_loopw [3,4] (fun sl fb wr=>∃(j:List Ex) (s:Nat) (B f1:Int) (ae:Bool) (sa:Option Addr) (sc:Nat),sl = .slice sa j.length sc/\fb = .bool ae/\j.length<=sc/\sc<=maxLen/\Hid (Qown PE 5 59 w wr sl j/\Rr rb g cap l wr s d i B f1/\Kp rb w wr/\j.length<=s+1/\a<=s/\(B=0->y=0/\a<s/\j.length<=s))/\Hid (B=0->exQs j+2*a<=2*s)) (fun _ _ wr=>leftR rb l.length wr)
 case atStart=>
  obtain⟨a6,M,h0,k0⟩:=Qa H0;exact⟨[],a0,y0,f0,true,none,0,rfl,rfl,Nat.le_refl _,by unfold maxLen;omega,hide ⟨Qown.nil _ _,h0,k0,Nat.zero_le _,a6,fun e=>⟨(M e).1,(M e).2,Nat.zero_le _⟩⟩,hide (fun e=>by rw[exQs];have:=(M e).2;omega)⟩
 obtain⟨j,s,B,f1,ae,sa,sc,rfl,rfl,az,av,m,SZ⟩:=hrel;unfold maxLen at av;clear H0;go_upto_region 4 with fail;go_cut [24] from 7 to 34 (fun c wc=>∃(b:Bool) (t:Nat) (fX:Int),c = .bool b/\Hid (Qown PE 5 59 w wc (.slice sa j.length sc) j/\Rr rb g cap l wc t d i B fX/\Kp rb w wc/\j.length<=t+1/\(B=0->y=0)/\a<=t/\s<=t/\(b=true->B=0/\j.length<=t))/\Hid (B=0->exQs j+2*a<=2*t))
 case first=>
  have C:=Qaw (Qa m).2.1;by_cases Q:B=0
  rotate_left
  ·
   rw[decide_eq_false Q]at C;have D:=hide Q;clear Q;go_wp2_with fail;refine C.mono ?_;clear C;rintro en wq⟨rfl,rfl⟩;go_wp2_with fail;go_meet;exact⟨false,s,f1,rfl,hide ⟨(Qa m).1,(Qa m).2.1,(Qa m).2.2.1,(Qa m).2.2.2.1,fun e=>absurd e (Qa D),(Qa m).2.2.2.2.1,Nat.le_refl _,fun e=>by cases e⟩,hide (fun e=>by have h:=Qa SZ e;omega)⟩
  rw[decide_eq_true Q]at C;have D:=hide Q;clear Q;have u:=(Qa m).2.2.2.2;have L:=u.2 (Qa D);have a5:=hide (Ya u L);clear u L;cases ae
  ·
   have am:=Qbf (Qa m).2.1 ⟨#[44]⟩;go_wp2_with fail;refine C.mono ?_;clear C;rintro en wq⟨rfl,rfl⟩;go_wp2_with fail;refine am.mono ?_;clear am;rintro en N⟨b,a2,f2,rfl,ai,ah,z,k2⟩;have O:s<=a2:=by
    cases b with
    |true=>have:=(ai rfl).2;omega
    |false=>have:=ah rfl;omega
   have o:=hide (Ya ((Qa m).1.kp Qaf k2 (Qa K).1) (Ya z (Ya ((Qa m).2.2.1.trans k2) O)));clear ai ah z k2 O;cases b
   ·
    go_wp2_with fail;go_meet;obtain⟨H,z,A,O⟩:=Qa o;obtain⟨u,L⟩:=Qa a5;exact⟨false,a2,f2,rfl,hide ⟨H,z,A,by omega,fun e=>(u.2 e).1,by omega,O,fun e=>by cases e⟩,hide (fun e=>by have h:=Qa SZ e;omega)⟩
   go_wp2_with fail;go_meet;obtain⟨H,z,A,O⟩:=Qa o;obtain⟨u,L⟩:=Qa a5;exact⟨true,a2,f2,rfl,hide ⟨H,z,A,by omega,fun e=>(u.2 e).1,by omega,O,fun _=>⟨Qa D,by omega⟩⟩,hide (fun e=>by have h:=Qa SZ e;omega)⟩
  have an:=Qch (Qa m).2.1 ⟨#[41]⟩;go_wp2_with fail;refine C.mono ?_;clear C;rintro en wq⟨rfl,rfl⟩;go_wp2_with fail;refine an.mono ?_;clear an;rintro en N⟨b,rfl,hb,b2⟩;have o:=hide (Ya ((Qa m).1.kp Qaf (Kp.of_below (rb:=rb) b2) (Qa K).1) (Ya ((Qa m).2.1.later b2) ((Qa m).2.2.1.trans (Kp.of_below b2))));clear hb b2;cases b
  ·
   go_wp2_with fail;go_meet;obtain⟨H,z,A⟩:=Qa o;obtain⟨u,L⟩:=Qa a5;exact⟨true,s,f1,rfl,hide ⟨H,z,A,by omega,fun e=>(u.2 e).1,u.1,Nat.le_refl _,fun _=>⟨Qa D,by omega⟩⟩,hide (fun e=>by have h:=Qa SZ e;omega)⟩
  go_wp2_with fail;go_meet;obtain⟨H,z,A⟩:=Qa o;obtain⟨u,L⟩:=Qa a5;exact⟨false,s,f1,rfl,hide ⟨H,z,A,by omega,fun e=>(u.2 e).1,u.1,Nat.le_refl _,fun e=>by cases e⟩,hide (fun e=>by have h:=Qa SZ e;omega)⟩
 obtain⟨b,t,fX,rfl,q,SX⟩:=hcut;cases b
 ·
  have o:=hide (Ya (Qa q).1 (Ya (Qa q).2.1 (Ya (Qa q).2.2.1 (Ya (Qa q).2.2.2.1 (Ya (Qa q).2.2.2.2.1 (Qa q).2.2.2.2.2)))));have V:=Qbl (Qa o).2.1 ⟨#[41]⟩;go_wp2_with fail;refine V.mono ?_;clear V;rintro en w9⟨_,a9,i9,y9,f9,rfl,rfl,⟨v,ag,F⟩,P,k9⟩;rw[v]at P;clear v;have HZ:=hide (Ya ag (Ya F (Ya P k9)));clear ag F P k9;go_wp2_with fail;go_ret;obtain⟨ag,F,P,k9⟩:=Qa HZ;obtain⟨hq,z,k2,ax,aw,ay,_⟩:=Qa o;exact⟨_,_,_,_,_,rfl,⟨j,(hq.kp Qaf k9 (Qa K).1).ls Qaf,szQ.of P (fun e=>by have h:=Qa SX (F e).1;have:=(F e).2;omega)⟩,⟨rfl,by omega,fun e=>⟨aw (F e).1,by have:=(F e).2;omega⟩⟩,P,k2.trans k9⟩
 have D:=hide ((Qa q).2.2.2.2.2.2.2 rfl).1;have o:=hide (Ya (Qa q).1 (Ya (Qa q).2.1 (Ya (Qa q).2.2.1 (Ya ((Qa q).2.2.2.2.2.2.2 rfl).2 (Ya (Qa q).2.2.2.2.1 (Ya (Qa q).2.2.2.2.2.1 (Qa q).2.2.2.2.2.2.1))))));clear q
 go_upto_if 27 with fail
 go_cut [] from 7 to 34 (fun N=>∃(yF fF:Int),Hid (Qown PE 5 59 w N (.slice sa j.length sc) j/\Rr rb g cap l N t d i yF fF/\Kp rb w N/\j.length<=t/\(yF=0->y=0)/\a<=t/\s<=t)/\Hid (yF=0->exQs j+2*a<=2*t))
 case first=>
  by_cases h8:8<=j.length
  ·
   have g8:(8:Int)<=(j.length:Int):=by omega
   have al:=Qbe (Qa o).2.1 (why:=3) (by decide);clear h8;go_wp2_with fail;refine al.mono ?_;clear al;rintro en wf⟨_,a3,i3,y3,f3,rfl,rfl,⟨ea,v,af⟩,A,k3⟩;rw[ea,v]at A;clear ea v;have XF:=hide (Ya ((Qa o).1.kp Qaf k3 (Qa K).1) (Ya A (Ya ((Qa o).2.2.1.trans k3) (Ya (Qa o).2.2.2.1 (Ya (show y3=0->y=0 from fun e=>absurd e af) (Qa o).2.2.2.2.2)))));have SF:=hide (show y3=0->exQs j+2*a<=2*t from fun e=>absurd e af);clear A k3 af;go_wp2_with fail;go_meet;exact⟨_,_,XF,SF⟩
  have g8:¬((8:Int)<=(j.length:Int)):=by omega
  clear h8;go_wp2_with fail;go_meet;exact⟨_,_,o,hide (fun _=>Qa SX (Qa D))⟩
 obtain⟨yF,fF,XF,SF⟩:=hcut;obtain⟨N,au⟩:=JE wc;subst au;clear o;have ak:=Qa ar _ _ _ _ _ (Qa XF).2.1;go_wp2_with fail;refine ak.mono ?_;clear ak;rintro en w7⟨_,a7,i7,y7,f7,rfl,⟨R,⟨_,rfl,⟨ka,kn,kc,rfl⟩,ap⟩,aq⟩,⟨v,a8,E⟩,h7,k7⟩;rw[v]at h7;clear v;have S7:=hide (fun e:y7=0=>aq.at h7 e);clear aq;obtain⟨hq,I,kX,aa,Y,ab,a4⟩:=Qa XF;obtain⟨i0,hi,hz,ao,aj⟩:=infoE;obtain⟨r,wz,ad,Z,G,J⟩:=hq.more Qaf (by kernel_rfl:Tryz.prog.underlying 40=some (.slice 59)) hi hz ao aj rfl (by decide) (by decide) kX (x:=R) (cs:=[Ji R.kind,Ji R.num,str R.txt,.slice ka kn kc,Ji R.at_]) rfl (by simp[Value.oneCell',str]) ap h7 k7 (Qa K).1 (Qa K).2 (by have:=I.lt;have:=I.few;omega);obtain⟨ra,rc,er,W,X⟩:=J.sl;subst er;have ac:=hide ad;have S:=Qam (Qa m).2.1 l.length;have U:=Qam G l.length;have HE:=hide (Ya J (Ya G (Ya Z (Ya W (Ya X (Ya a8 (Ya E (Ya aa (Ya Y (Ya S (Ya U (Ya I (Ya ab a4)))))))))))));clear ap h7 k7 hq I kX aa Y ab a4 hi hz ao aj ad Z G J W X S U a8 E;go_wp2_with (at_builtin;refine Qaj _ rfl _ _ 40 rfl _ _ rfl rfl _ _ (Qa ac) ?_;clear ac);go_roundw
 case rel=>
  obtain⟨J,G,Z,W,X,a8,E,aa,Y,S,U,I,ab,a4⟩:=Qa HE
  exact⟨j++[R],_,_,_,false,ra,rc,by simp,rfl,W,X,hide ⟨by simpa only[List.length_append,List.length_singleton] using J,G,Z,by rw[List.length_append,List.length_singleton];omega,by omega,fun e=>by
   have e7:=E e;exact⟨Y e7.1,by omega,by rw[List.length_append,List.length_singleton];omega⟩⟩,hide (fun e=>by
   have e7:=E e;have q1:=Qa SF e7.1;have q2:=Qa S7 e;rw[Qfx,Qie]
   omega)⟩
 obtain⟨J,G,Z,W,X,a8,E,aa,Y,S,U,I,ab,a4⟩:=Qa HE;have:=I.lt;have aA:=(Qa m).2.1.lt;rw[S,U,if_pos (Qa D)];split
 ·
  rename_i e;have e7:=E e;have:=G.lt;omega
 ·omega
end
end Go.Proofs.YtmfpbepifnedjaaGreat
