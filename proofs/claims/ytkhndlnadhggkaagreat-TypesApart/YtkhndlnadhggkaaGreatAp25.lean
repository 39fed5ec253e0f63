/- The document's reader. -/
import Derived.Test.YtkhndlnadhggkaaGreatAp01
import Derived.Test.YtkhndlnadhggkaaGreatAp16
import Derived.Test.YtkhndlnadhggkaaGreatAp15
import Derived.Test.YtkhndlnadhggkaaGreatAp04
import Derived.Deep.Cut
import Derived.Deep.CutRange
import Derived.Test.YtkhndlnadhggkaaGreatAp18
set_option maxRecDepth 100000
set_option maxHeartbeats 32000000
namespace Go.Proofs.YtkhndlnadhggkaaGreat
section
open Go.RowKit Go.Maps
def clV(rb a:Nat)(w:World)(w':World)(v:Value):Prop:=∃x:Cls,VCl (fun b=>w.heap.size<=b) w' v x/\szQ rb a (ltQs x.body) w'/\x.head.rel.length<=65536
def clE(w:World)(xb:Nat)(v:Value)(xs:List Ex)(W:World):Prop:=LsAt PE 5 (fun b=>w.heap.size<b/\b<xb) W v xs
theorem Qdw(w:World)(xb:Nat)(v:Value)(xs:List Ex):EK w xb (clE w xb v xs):=fun _ _ e c h=>LsAt.same Qag h e (fun b a d=>c b a.1 a.2 d)
theorem Qgb{rb g cap a d i:Nat}{l:List Tok}{w:World}{y f:Int}(h:Rr rb g cap l w a d i y f)(hd:d<=63):
  Calls Tryz.prog 66 #[.pointer (Js rb)] w fun en w'=>RA rb g cap l w d (clV rb a w) (CoY a i y) en w':=by
 have b0:Below w.heap.size w (w.alloc (.cells #[Je,Jn,Ji 0,Jn,Ji 0] 45)):=(Below.refl _ w).alloc (Nat.le_refl _) _;have n0:(w.alloc (.cells #[Je,Jn,Ji 0,Jn,Ji 0] 45)).heap[w.heap.size]?=some (.cells #[Je,Jn,Ji 0,Jn,Ji 0] 45 (0,0)):=heap_alloc_new w _;have s0:(w.alloc (.cells #[Je,Jn,Ji 0,Jn,Ji 0] 45)).heap.size=w.heap.size+1:=by simp
 obtain⟨t,ht⟩:=h.tok;have aF:Hid (∀w',Below w.heap.size w w'->Calls Tryz.prog 22 #[.pointer (Js rb)] w' fun en L=>en = .returned (.agg #[Ji t.kind,str t.text,Ji t.num,Ji (t.at_:Int)])/\Below w'.heap.size w' L):=fun w' bb=>Qap (h.later bb) ht;have HH:=hide h;have HD:=hide hd;have H0:=hide (Ya b0 (Ya n0 s0));clear h hd ht b0 n0 s0;go_enter Tryz.func66,Tryz.ntmps66;go_wp2_with fail;refine(Qa aF _ (Qa H0).1).mono ?_;rintro en w1⟨rfl,b1⟩;obtain⟨b0,n0,s0⟩:=Qa H0;have E:=b0.trans (b1.mono (by omega));have n1:=(b1.block _ (by omega)).trans n0;have aQ:=Qga ((Qa HH).later E) (Qa HD);have bf:=Qaa (Qa HH).box;have bc:=(Qa HH).row.lt;have bg:=b1.size;have K1:=hide (Ya (Kp.of_below (rb:=rb) E) (Ya n1 (show rb<w.heap.size/\g<w.heap.size/\w.heap.size<w1.heap.size by omega)));clear b1 b0 n0 s0 E n1 bf bc bg aF H0;go_wp2_with fail;rename_i z;refine z _ _ ?_;clear z;go_wp2_with fail;refine aQ.mono ?_;clear aQ;rintro en L⟨_,a2,i2,y2,f2,rfl,⟨j,⟨n,p,o,rfl,aV⟩,-,hnl⟩,⟨u,ha2,hy2⟩,h2,k2⟩;have ad:=hide hnl;clear hnl;rw[u]at h2;clear u;obtain⟨k1,n1,g1,g2,g3⟩:=Qa K1;have bh:=k2.size;have n2:=k2.keep n1 (by omega);obtain⟨A,az⟩:=JF L.heap.size;obtain⟨w3,ai⟩:=JE (L.alloc (.cells #[str j.rel,.slice n p o,Ji j.at_,Jn,Ji (t.at_:Int)] 45));have Y:Below L.heap.size L w3:=by rw[ai];exact(Below.refl _ L).alloc (Nat.le_refl _) _
 have n3:w3.heap[A]?=some (.cells #[str j.rel,.slice n p o,Ji j.at_,Jn,Ji (t.at_:Int)] 45 (0,0)):=by rw[ai,<- az];exact heap_alloc_new L _
 have C:=(Y.block _ (by omega)).trans n2;have aO:clE w A (.slice n p o) j.args w3:=LsAt.same Qag (aV.mono Qag (fun b hl Q=>(⟨by have aR:w1.heap.size<=b:=Q;omega,by omega⟩:w.heap.size<b/\b<A))) Y.size (fun q _ hl=>Y.block q hl);have G3:Hid (Gx PLt 16 61 rb g cap l w d i a y A 45 #[Je,Jn,Ji 0,Jn,Ji 0] (clE w A (.slice n p o) j.args) w3 #[str j.rel,.slice n p o,Ji j.at_,Jn,Ji (t.at_:Int)] a2 y2 f2 (Jn) []):=⟨h2.later Y,⟨(k1.trans k2).trans (Kp.of_below Y),n3,C,g1,g2,by omega⟩,aO,Qo.nil _,ha2,hy2,Nat.zero_le _,fun _=>Nat.zero_le _⟩;have a8:=Qbh (Qa G3).r ⟨#[58,45]⟩;have au:=hide (Ya ai az);clear k1 n1 g1 g2 g3 bh n2 az ai Y n3 C aO aV ha2 hy2 h2 k2 K1;go_wp2_with fail;rw[<- (Qa au).1,(Qa au).2];clear au;refine a8.mono ?_;clear a8;rintro en w4⟨b,a4,f4,rfl,E,a0,h4,k4⟩
 have G4:=hide ((Qa G3).call Qb (Qdw _ _ _ _) k4 h4 (by
  cases b with
  |true=>have:=(E rfl).2;omega
  |false=>have:=a0 rfl;omega) (fun e=>e))
 clear E a0 h4 k4 G3;cases b
 ·
  have a5:=Qbm (Qa G4).r ⟨#[46]⟩;go_wp2_with fail;refine a5.mono ?_;clear a5;rintro en w9⟨_,a9,i9,y9,f9,rfl,rfl,⟨u,Z,M⟩,P,k9⟩;rw[u]at P;clear u;have s:=(Qa G4).call Qb (Qdw _ _ _ _) k9 P Z (fun e=>(M e).1);obtain⟨ak,al,ao,ap,aq,xf⟩:=cl5 s.b.box;obtain⟨aA,aB,aC,aD,aE,yf⟩:=cl5 s.b.res;have HF:Hid (∀R G J C S,RA rb g cap l w d (clV rb a w) (CoY a i y) (.returned (.agg #[str j.rel,.slice n p o,Ji j.at_,Jn,Ji (t.at_:Int)])) (((((w9.setCell (Ja w.heap.size 0) R).setCell (Ja w.heap.size 1) G).setCell (Ja w.heap.size 2) J).setCell (Ja w.heap.size 3) C).setCell (Ja w.heap.size 4) S)):=fun R G J C S=>by
   obtain⟨R9,K9,E9,Q9⟩:=s.fin Qb (Qdw _ _ _ _) (W':=(((((w9.setCell (Ja w.heap.size 0) R).setCell (Ja w.heap.size 1) G).setCell (Ja w.heap.size 2) J).setCell (Ja w.heap.size 3) C).setCell (Ja w.heap.size 4) S)) (by simp[World.setCell]) ⟨rfl,rfl,rfl⟩ (fun q B=>by rw[hpS B,hpS B,hpS B,hpS B,hpS B]);have bk:=s.b.x1;exact⟨_,_,_,_,_,rfl,⟨⟨j,[],t.at_⟩,⟨n,p,o,_,_,_,rfl,E9.mono Qag (fun b _ Q=>by omega),(Q9.ls Qb).mono Qb (fun b _ Q=>by have aR:A+1<=b:=Q;omega)⟩,szQ.of R9 (fun e=>by have:=s.le;show ltQs []+2*a<=2*a9;rw[ltQs];omega),Qa ad⟩,⟨rfl,s.le,s.y0⟩,R9,K9⟩
  clear Z M P k9 s;go_wp2_with fail;refine bodyPost_ret (v:=.agg #[str j.rel,.slice n p o,Ji j.at_,Jn,Ji (t.at_:Int)]) (by simp[results,Tryz.results66,go_sem,aA,aB,aC,aD,aE]) rfl ?_;exact Qa HF _ _ _ _ _
 go_wp2_with fail;go_loopw [4] (fun fb wr=>∃(aw:Bool) (k:List Lt) (O:Nat) (T f1:Int) (D:Option Addr) (sc:Nat),fb = .bool aw/\k.length<=sc/\sc<=maxLen/\Hid (Gx PLt 16 61 rb g cap l w d i a y A 45 #[Je,Jn,Ji 0,Jn,Ji 0] (clE w A (.slice n p o) j.args) wr #[str j.rel,.slice n p o,Ji j.at_,.slice D k.length sc,Ji (t.at_:Int)] O T f1 (.slice D k.length sc) k)/\Hid (T=0->ltQs k+2*a<=2*O)) (fun _ wr=>leftR rb l.length wr)
 case atStart=>exact⟨true,[],a4,y2,f4,none,0,rfl,Nat.le_refl _,by unfold maxLen;omega,G4,hide (fun _=>by have:=(Qa G4).le;rw[ltQs];omega)⟩
 obtain⟨aw,k,O,T,f1,D,sc,rfl,bl,ba,F,SZ⟩:=hrel;unfold maxLen at ba;clear G4;go_upto_region 4 with fail;go_cut [21] from 13 to 34 (fun c wc=>∃(b:Bool) (X:Nat) (fX:Int),c = .bool b/\Hid (Gx PLt 16 61 rb g cap l w d i a y A 45 #[Je,Jn,Ji 0,Jn,Ji 0] (clE w A (.slice n p o) j.args) wc #[str j.rel,.slice n p o,Ji j.at_,.slice D k.length sc,Ji (t.at_:Int)] X T fX (.slice D k.length sc) k)/\Hid (O<=X/\(b=true->T=0/\k.length<=X)))
 case first=>
  have H:=Qax (Qa F).r;by_cases hy:T=0
  rotate_left
  ·
   rw[decide_eq_false hy]at H;clear hy;go_wp2_with fail;refine H.mono ?_;clear H;rintro en wq⟨rfl,rfl⟩;go_wp2_with fail;go_meet;exact⟨false,O,f1,rfl,F,hide ⟨Nat.le_refl _,fun e=>by cases e⟩⟩
  rw[decide_eq_true hy]at H;have W:=hide hy;clear hy;cases aw
  ·
   have a8:=Qbh (Qa F).r ⟨#[44]⟩;go_wp2_with fail;refine H.mono ?_;clear H;rintro en wq⟨rfl,rfl⟩;go_wp2_with fail;refine a8.mono ?_;clear a8;rintro en WX⟨b,a7,f7,rfl,E,a0,h7,k7⟩;have e7:O<=a7:=by
    cases b with
    |true=>have:=(E rfl).2;omega
    |false=>have:=a0 rfl;omega
   have G7:=hide ((Qa F).call Qb (Qdw _ _ _ _) k7 h7 e7 (fun e=>e));have U:=hide e7;clear E a0 h7 k7 e7;cases b
   ·
    go_wp2_with fail;go_meet;exact⟨false,a7,f7,rfl,G7,hide ⟨Qa U,fun e=>by cases e⟩⟩
   go_wp2_with fail;go_meet;exact⟨true,a7,f7,rfl,G7,hide ⟨Qa U,fun _=>⟨Qa W,by have:=(Qa F).n0 (Qa W);have:=Qa U;omega⟩⟩⟩
  go_wp2_with fail;refine H.mono ?_;clear H;rintro en wq⟨rfl,rfl⟩;go_wp2_with fail;go_meet;exact⟨true,O,f1,rfl,F,hide ⟨Nat.le_refl _,fun _=>⟨Qa W,(Qa F).n0 (Qa W)⟩⟩⟩
 obtain⟨b,X,fX,rfl,N,H5⟩:=hcut;obtain⟨wX,bi⟩:=JE wc;subst bi;cases b
 ·
  have a5:=Qbm (Qa N).r ⟨#[46]⟩;go_wp2_with fail;refine a5.mono ?_;clear a5;rintro en w9⟨_,a9,i9,y9,f9,rfl,rfl,⟨u,Z,M⟩,P,k9⟩;rw[u]at P;clear u;have s:=(Qa N).call Qb (Qdw _ _ _ _) k9 P Z (fun e=>(M e).1);obtain⟨ak,al,ao,ap,aq,xf⟩:=cl5 s.b.box;obtain⟨aA,aB,aC,aD,aE,yf⟩:=cl5 s.b.res;have HF:Hid (∀R G J C S,RA rb g cap l w d (clV rb a w) (CoY a i y) (.returned (.agg #[str j.rel,.slice n p o,Ji j.at_,.slice D k.length sc,Ji (t.at_:Int)])) (((((w9.setCell (Ja w.heap.size 0) R).setCell (Ja w.heap.size 1) G).setCell (Ja w.heap.size 2) J).setCell (Ja w.heap.size 3) C).setCell (Ja w.heap.size 4) S)):=fun R G J C S=>by
   obtain⟨R9,K9,E9,Q9⟩:=s.fin Qb (Qdw _ _ _ _) (W':=(((((w9.setCell (Ja w.heap.size 0) R).setCell (Ja w.heap.size 1) G).setCell (Ja w.heap.size 2) J).setCell (Ja w.heap.size 3) C).setCell (Ja w.heap.size 4) S)) (by simp[World.setCell]) ⟨rfl,rfl,rfl⟩ (fun q B=>by rw[hpS B,hpS B,hpS B,hpS B,hpS B]);have bk:=s.b.x1;exact⟨_,_,_,_,_,rfl,⟨⟨j,k,t.at_⟩,⟨n,p,o,_,_,_,rfl,E9.mono Qag (fun b _ Q=>by omega),(Q9.ls Qb).mono Qb (fun b _ Q=>by have aR:A+1<=b:=Q;omega)⟩,szQ.of R9 (fun e=>by have G:=Qa SZ (M e).1;have:=(Qa H5).1;have:=(M e).2;show ltQs k+2*a<=2*a9;omega),Qa ad⟩,⟨rfl,s.le,s.y0⟩,R9,K9⟩
  clear Z M P k9 s;go_wp2_with fail;refine bodyPost_ret (v:=.agg #[str j.rel,.slice n p o,Ji j.at_,.slice D k.length sc,Ji (t.at_:Int)]) (by simp[results,Tryz.results66,go_sem,aA,aB,aC,aD,aE]) rfl ?_;exact Qa HF _ _ _ _ _
 have W:=hide ((Qa H5).2 rfl).1;have ad:=hide ((Qa H5).2 rfl).2;have U:=hide (Qa H5).1;clear H5;obtain⟨ak,al,ao,ap,aq,xf⟩:=cl5 (Qa N).b.box
 go_upto_if 25 with fail
 go_cut [] from 13 to 34 (fun wc=>∃(yF fF:Int),Hid (Gx PLt 16 61 rb g cap l w d i a y A 45 #[Je,Jn,Ji 0,Jn,Ji 0] (clE w A (.slice n p o) j.args) wc #[str j.rel,.slice n p o,Ji j.at_,.slice D k.length sc,Ji (t.at_:Int)] X yF fF (.slice D k.length sc) k)/\Hid (yF=0->T=0))
 case first=>
  by_cases aN:16<=k.length
  ·
   have b9:(16:Int)<=(k.length:Int):=by omega
   have aU:=Qbf (Qa N).r (why:=3) (by decide);clear aN;go_wp2_with fail;refine aU.mono ?_;clear aU;rintro en wf⟨_,a3,i3,y3,f3,rfl,rfl,⟨ea,u,ax⟩,h3,k3⟩;rw[ea,u]at h3;clear ea u;have GF:=hide ((Qa N).call Qb (Qdw _ _ _ _) k3 h3 (Nat.le_refl _) (fun e=>absurd e ax));have b6:=hide ax;clear h3 k3 ax;go_wp2_with fail;go_meet;exact⟨_,_,GF,hide (fun e=>absurd e (Qa b6))⟩
  have b9:¬((16:Int)<=(k.length:Int)):=by omega
  clear aN;go_wp2_with fail;go_meet;exact⟨_,_,N,hide (fun e=>e)⟩
 obtain⟨yF,fF,GF,b8⟩:=hcut;obtain⟨wf,bj⟩:=JE wc;subst bj;clear ak al ao ap aq xf N;have V:=hide ((Qa GF).call Qb (Qdw _ _ _ _) (W':=wf.drew) (Kp.of_below (Below.refl _ wf).drew) ((Qa GF).r.later (Below.refl _ wf).drew) (Nat.le_refl _) (fun e=>e));have aT:=Qsx (Qa V).r (Qa HD);go_wp2_with fail;refine Qaq (m:=7) (ml:=[(0,1),(1,2),(2,1),(3,0),(4,0),(5,0),(6,1),(7,0)]) (fun ff w'=>ff=false->w'.heap[A]?=some (.cells #[str j.rel,.slice n p o,Ji j.at_,.slice D k.length sc,Ji (t.at_:Int)] 45 (0,0))) mixedO (by kernel_rfl) rfl (by rfl) (by kernel_rfl) (fun PP aP=>?_);refine Qae rfl (by kernel_rfl) (fun _ _ _=>by go_simp<;>rfl) ?_;refine Qay (v:=?_) rfl (by kernel_rfl) (fun w' hw=>?_) ?_;rotate_left
 ·(obtain⟨ak,al,ao,ap,aq,xf⟩:=cl5 (hw rfl);go_simp<;>rfl)
 refine Qae rfl (by kernel_rfl) (fun _ _ _=>by go_simp<;>rfl) ?_;refine Qab rfl (fun _=>(Qa V).b.box) (fun K z=>?_);go_simp;refine aT.mono ?_;clear aT;rintro en w6⟨_,a6,i6,y6,f6,rfl,⟨x,c0,c1,c2,c3,c4,c5,c6,c7,c8,c9,aH,aI,aJ,aK,aL,aM,rfl,ay,aY⟩,⟨u,af,I⟩,h6,k6⟩;rw[u]at h6;clear u;have S6:=hide (show y6=0->ltQ x+2*X<=2*a6 from fun e=>aY.at h6 e);clear aY;show K _ _;refine z _ _ ?_;clear z K;obtain⟨i0,hi,hz,aW,aS⟩:=infoL;obtain⟨ra,rc,w8,ar,bd,be,av,g8⟩:=(Qa V).more Qb (Qdw _ _ _ _) (by kernel_rfl:Tryz.prog.underlying 43=some (.slice 61)) hi hz aW aS rfl (by decide) (by decide) (cx:=[c0,c1,c2,c3,c4,c5,c6,c7,c8,c9,aH,aI,aJ,aK,aL,aM]) rfl (Qg ay) ay h6 k6 af (fun e=>⟨(I e).1,(I e).2⟩) (by have:=Qa ad;omega) 3;obtain⟨w7,aj⟩:=JE (w6.alloc (.cells #[c0,c1,c2,c3,c4,c5,c6,c7,c8,c9,aH,aI,aJ,aK,aL,aM] 61));have b7:Below w6.heap.size w6 w7:=by rw[aj];exact(Below.refl _ w6).alloc (Nat.le_refl _) _
 have ae:=k6.keep (Qa V).b.box (by have:=(Qa V).b.r1;have:=(Qa V).b.x1;omega);have aZ:=hide ae;have b2:=hide ((b7.block _ (Qaa ae)).trans ae);have b4:=hide av;obtain⟨bm,bn,bo,bp,bq,zf⟩:=cl5 av;have ab:(Builtin.append_ #[43,43] 43 #[.slice D k.length sc,.slice (Js w6.heap.size) 1 1]).run Tryz.prog w7 = .ok (.slice ra (k.length+1) rc) w8:=by rw[aj];exact ar
 have aG:=hide aj;have ag:=Qam (Qa F).r l.length;have ah:=Qam g8.r l.length;have HM:=hide (Ya ag (Ya ah (Ya (Qa F).r.lt (Ya g8.r.lt (Ya af I)))));have b5:=hide g8;clear ay af I h6 k6 hi hz aW aS ar aj b7 ae av g8 ag ah;refine Qab rfl (fun _=>Qa aZ) (fun K z=>?_);go_simp;rw[<- Qa aG];clear aG;refine z _ _ ?_;clear z K;refine Qab rfl (fun _=>Qa b2) (fun K z=>Qai rfl _ _ 43 rfl _ _ rfl rfl ab (z _ _ ?_));clear z K ab;refine Qae rfl (by kernel_rfl) (fun _ _ _=>by go_simp<;>rfl) ?_;refine Qab rfl (fun _=>Qa b4) (fun K z=>?_);go_simp;refine z _ _ ?_;clear z K;refine Qau (fun h=>by cases h) (aP _ _ ?_);clear aP PP;go_wp2_with fail;go_roundw
 case rel=>exact⟨false,k++[x],a6,y6,f6,ra,rc,rfl,by simpa using bd,be,hide (by simpa using Qa b5),hide (fun e=>by
   obtain⟨_,_,_,_,_,I⟩:=Qa HM;have G:=Qa SZ (Qa b8 (I e).1);have J:=Qa S6 e;have C:=Qa U;rw[Qfw,Qsn]
   omega)⟩
 obtain⟨ag,ah,m1,m2,af,I⟩:=Qa HM;rw[ag,ah,if_pos (Qa W)];split
 ·
  rename_i e;have:=I e;have:=Qa U;omega
 ·omega
def nmV(rb:Nat)(l:List Tok)(w':World)(v:Value):Prop:=∃x:Txt,v=str x/\(rdOk rb w'->NeT l->x≠[])
def tyV(rb:Nat)(l:List Tok)(w:World)(w':World)(v:Value):Prop:=∃x:Typ,VTy (fun b=>w.heap.size<=b) w' v x/\(rdOk rb w'->NeT l->(x.sub=[]↔x.ctors≠[]))
theorem Qsy{rb g cap a d i:Nat}{l:List Tok}{w:World}{y f:Int}(h:Rr rb g cap l w a d i y f):
  Calls Tryz.prog 65 #[.pointer (Js rb)] w fun en w'=>RA rb g cap l w d (nmV rb l) (CoY a i y) en w':=by
 obtain⟨t,x⟩:=h.tok;have u:=Qap h x;unfold tkA at u;have H:=hide (Ya h x);clear h x;go_enter Tryz.func65,Tryz.ntmps65;go_wp2_with fail;refine u.mono ?_;clear u;rintro en Q⟨rfl,v⟩;have q:=(Qa H).1.later v;have s:=Qbf q (why:=10) (by decide);have c:=Qba q (Qa H).2;unfold tkA at c;have z:=hide (Ya q v);clear q v;go_wp2_with fail;rename_i j;refine j _ _ ?_;clear j;by_cases p:t.kind=1
 ·
  have G:(t.kind != 1)=false:=by simpa using p
  have D:=hide ((Qa H).1.more (Qa H).2 (by omega));have C:=hide p;clear p s;go_wp2_with fail;refine c.mono ?_;clear c;rintro en L⟨_,E,K,M,F,rfl,rfl,b,k,m⟩;have n:=hide (Ya b (Ya k m));clear b k m;go_wp2_with fail;rename_i j;refine j _ _ ?_;clear j;go_wp2_with fail;go_ret;obtain⟨⟨rfl,rfl,b⟩,k,m⟩:=Qa n;refine⟨_,_,_,_,_,rfl,⟨_,rfl,fun _ A=>A t (List.mem_of_getElem? (Qa H).2) (Qa C)⟩,⟨rfl,?_,?_⟩,k,(Kp.of_below (Qa z).2).trans m⟩
  ·rcases b with ⟨_,_,rfl⟩|⟨rfl,_⟩<;>omega
  intro e;rcases b with ⟨_,_,rfl⟩|⟨_,I⟩
  ·exact⟨e,by omega⟩
  ·exact absurd (Qa D) (I e)
 have G:(t.kind != 1)=true:=by simpa using p
 clear p c;go_wp2_with fail;refine s.mono ?_;clear s;rintro en L⟨_,N,P,S,O,rfl,rfl,⟨rfl,rfl,b⟩,k,m⟩;have c:=Qba k (Qa H).2;unfold tkA at c;have n:=hide (Ya b m);clear b k m;go_wp2_with fail;refine c.mono ?_;clear c;rintro en R⟨_,E,K,M,F,rfl,rfl,b,o,r⟩;have B:=hide (Ya b (Ya o r));clear b o r;go_wp2_with fail;rename_i j;refine j _ _ ?_;clear j;go_wp2_with fail;go_ret;obtain⟨⟨rfl,rfl,b⟩,o,r⟩:=Qa B;refine⟨_,_,_,_,_,rfl,⟨_,rfl,fun J _=>absurd ((Rr.ok o).1 J) (Qa n).1⟩,⟨rfl,?_,fun e=>absurd e (Qa n).1⟩,o,((Kp.of_below (Qa z).2).trans (Qa n).2).trans r⟩;rcases b with ⟨_,_,rfl⟩|⟨rfl,_⟩<;>omega
theorem Qqn{rb g cap a d i:Nat}{l:List Tok}{w:World}{y f:Int}(h:Rr rb g cap l w a d i y f)(at0:Int):
  Calls Tryz.prog 58 #[.pointer (Js rb),Ji at0] w fun en w'=>RA rb g cap l w d (tyV rb l w) (CoY a i y) en w':=by
 have b0:Below w.heap.size w (w.alloc (.cells #[Je,Je,Jn,Ji 0] 54)):=(Below.refl _ w).alloc (Nat.le_refl _) _;have n0:(w.alloc (.cells #[Je,Je,Jn,Ji 0] 54)).heap[w.heap.size]?=some (.cells #[Je,Je,Jn,Ji 0] 54 (0,0)):=heap_alloc_new w _;have s0:(w.alloc (.cells #[Je,Je,Jn,Ji 0] 54)).heap.size=w.heap.size+1:=by simp
 have a3:=Qca (h.later b0);have HH:=hide (Ya (Qaa h.box) h.row.lt);have H0:=hide (Ya b0 (Ya n0 s0));clear h b0 n0 s0;go_enter Tryz.func58,Tryz.ntmps58;go_wp2_with fail;refine a3.mono ?_;clear a3;rintro en w2⟨_,a2,i2,y2,f2,rfl,⟨E,rfl,-⟩,⟨m,ha2,hy2⟩,h2,k2⟩;rw[m]at h2;clear m;obtain⟨b0,n0,s0⟩:=Qa H0;obtain⟨g1,g2⟩:=Qa HH;have aT:=k2.size;have n2:=k2.keep n0 (by omega);obtain⟨xb,aG⟩:=JF w2.heap.size;obtain⟨w3,av⟩:=JE (w2.alloc (.cells #[str E,Je,Jn,Ji at0] 54));have b3:Below w2.heap.size w2 w3:=by rw[av];exact(Below.refl _ w2).alloc (Nat.le_refl _) _
 have n3:w3.heap[xb]?=some (.cells #[str E,Je,Jn,Ji at0] 54 (0,0)):=by rw[av,<- aG];exact heap_alloc_new w2 _
 have D:=(b3.block _ (by omega)).trans n2;have G3:Hid (Gx PC 2 97 rb g cap l w d i a y xb 54 #[Je,Je,Jn,Ji 0] (fun _=>True) w3 #[str E,Je,Jn,Ji at0] a2 y2 f2 (Jn) []):=⟨h2.later b3,⟨((Kp.of_below b0).trans k2).trans (Kp.of_below b3),n3,D,g1,g2,by omega⟩,trivial,Qo.nil _,ha2,hy2,Nat.zero_le _,fun _=>Nat.zero_le _⟩;have al:=Qbh (Qa G3).r ⟨#[60,58]⟩;have az:=hide (Ya av aG);clear b0 n0 s0 g1 g2 aT n2 aG av b3 n3 D ha2 hy2 h2 k2 H0;go_wp2_with fail;rw[<- (Qa az).1,(Qa az).2];clear az;refine al.mono ?_;clear al;rintro en w4⟨b,a4,f4,rfl,R,ai,h4,k4⟩
 have G4:=hide ((Qa G3).call Qcg (EK.none _ _) k4 h4 (by
  cases b with
  |true=>have:=(R rfl).2;omega
  |false=>have:=ai rfl;omega) (fun e=>e))
 clear R ai h4 k4 G3;cases b
 rotate_left
 ·
  have aL:=Qsy (Qa G4).r;go_wp2_with fail;refine aL.mono ?_;clear aL;rintro en u⟨_,a5,i5,y5,f5,rfl,⟨k,rfl,aN⟩,⟨m,o,c⟩,t,K⟩;rw[m]at t;clear m;have aP:=hide (show y5=0->NeT l->k≠[] from fun e=>aN ((Rr.ok t).2 e));clear aN;have L:=(Qa G4).call Qcg (EK.none _ _) K t o (fun e=>(c e).1);obtain⟨A,C⟩:=JE (u.setCell (Ja xb 1) (str k));have g6:Gx PC 2 97 rb g cap l w d i a y xb 54 #[Je,Je,Jn,Ji 0] (fun _=>True) A #[str E,str k,Jn,Ji at0] a5 y5 f5 (Jn) []:=by
   have aF:=L.b.x1;rw[C];exact⟨L.r.atBox ⟨by have:=L.b.r1;omega,by have:=L.b.g1;omega⟩ 1 _,L.b.set 1 _,trivial,Qo.nil _,L.le,L.y0,L.n,L.n0⟩
  obtain⟨aW,b7,aX,aY,wf⟩:=cl4 L.b.box;obtain⟨ac,ad,ae,af,xf⟩:=cl4 g6.b.box;obtain⟨ao,ap,aq,ar,yf⟩:=cl4 g6.b.res;have HF:Hid (∀N O P D,RA rb g cap l w d (tyV rb l w) (CoY a i y) (.returned (.agg #[str E,str k,Jn,Ji at0])) ((((A.setCell (Ja w.heap.size 0) N).setCell (Ja w.heap.size 1) O).setCell (Ja w.heap.size 2) P).setCell (Ja w.heap.size 3) D)):=fun N O P D=>by
   obtain⟨R9,K9,_,Q9⟩:=g6.fin Qcg (EK.none _ _) (W':=((((A.setCell (Ja w.heap.size 0) N).setCell (Ja w.heap.size 1) O).setCell (Ja w.heap.size 2) P).setCell (Ja w.heap.size 3) D)) (by simp[World.setCell]) ⟨rfl,rfl,rfl⟩ (fun q p=>by rw[hpS p,hpS p,hpS p,hpS p]);have aF:=g6.b.x1;exact⟨_,_,_,_,_,rfl,⟨⟨E,k,[],at0⟩,⟨_,_,_,rfl,(Q9.ls Qcg).mono Qcg (fun b _ J=>by have ab:xb+1<=b:=J;omega)⟩,fun ho aS=>⟨fun e=>absurd e (Qa aP ((Rr.ok R9).1 ho) aS),fun e=>absurd rfl e⟩⟩,⟨rfl,g6.le,g6.y0⟩,R9,K9⟩
  clear t K o c L g6 aW aX aY;subst C;go_wp2_with fail;refine bodyPost_ret (v:=.agg #[str E,str k,Jn,Ji at0]) (by simp[results,Tryz.results58,go_sem,ao,ap,aq,ar]) rfl ?_;exact Qa HF _ _ _ _
 have aK:=Qbm (Qa G4).r ⟨#[61]⟩;go_wp2_with fail;refine aK.mono ?_;clear aK;rintro en u⟨_,a5,i5,y5,f5,rfl,rfl,⟨m,o,c⟩,t,K⟩;rw[m]at t;clear m;have G5:=hide ((Qa G4).call Qcg (EK.none _ _) K t o (fun e=>(c e).1));clear o c t K G4;go_wp2_with fail;go_loopw [6] (fun fb wr=>∃(au:Bool) (x:List Ctr) (a1:Nat) (y1 f1:Int) (sa:Option Addr) (sc:Nat),fb = .bool au/\x.length<=sc/\sc<=maxLen/\Hid (Gx PC 2 97 rb g cap l w d i a y xb 54 #[Je,Je,Jn,Ji 0] (fun _=>True) wr #[str E,Je,.slice sa x.length sc,Ji at0] a1 y1 f1 (.slice sa x.length sc) x)/\Hid (au=false->x≠[])) (fun _ wr=>leftR rb l.length wr)
 case atStart=>exact⟨true,[],a5,y5,f5,none,0,rfl,Nat.le_refl _,by unfold maxLen;omega,G5,hide (fun e=>by cases e)⟩
 obtain⟨au,x,a1,y1,f1,sa,sc,rfl,b5,aR,s,aO⟩:=hrel;unfold maxLen at aR;clear G5;have a6:=Qax (Qa s).r;by_cases hy:y1=0
 rotate_left
 ·
  rw[decide_eq_false hy]at a6;have aQ:=hide hy;clear hy;go_wp2_with fail;refine a6.mono ?_;clear a6;rintro en wq⟨rfl,rfl⟩;have j:=Qa s;obtain⟨ac,ad,ae,af,xf⟩:=cl4 j.b.box;obtain⟨ao,ap,aq,ar,yf⟩:=cl4 j.b.res;have HF:Hid (∀N O P D,RA rb g cap l w d (tyV rb l w) (CoY a i y) (.returned (.agg #[str E,Je,.slice sa x.length sc,Ji at0])) ((((wq.setCell (Ja w.heap.size 0) N).setCell (Ja w.heap.size 1) O).setCell (Ja w.heap.size 2) P).setCell (Ja w.heap.size 3) D)):=fun N O P D=>by
   obtain⟨R9,K9,_,Q9⟩:=j.fin Qcg (EK.none _ _) (W':=((((wq.setCell (Ja w.heap.size 0) N).setCell (Ja w.heap.size 1) O).setCell (Ja w.heap.size 2) P).setCell (Ja w.heap.size 3) D)) (by simp[World.setCell]) ⟨rfl,rfl,rfl⟩ (fun q p=>by rw[hpS p,hpS p,hpS p,hpS p]);have aF:=j.b.x1;exact⟨_,_,_,_,_,rfl,⟨⟨E,[],x,at0⟩,⟨_,_,_,rfl,(Q9.ls Qcg).mono Qcg (fun b _ J=>by have ab:xb+1<=b:=J;omega)⟩,fun ho _=>absurd ((Rr.ok R9).1 ho) (Qa aQ)⟩,⟨rfl,j.le,j.y0⟩,R9,K9⟩
  clear j;go_wp2_with fail;refine bodyPost_ret (v:=.agg #[str E,Je,.slice sa x.length sc,Ji at0]) (by simp[results,Tryz.results58,go_sem,ao,ap,aq,ar]) rfl ?_;exact Qa HF _ _ _ _
 rw[decide_eq_true hy]at a6;have HY:=hide hy;clear hy;cases au
 rotate_left
 ·
  go_wp2_with fail;refine a6.mono ?_;clear a6;rintro en wq⟨rfl,rfl⟩;have ay:=hide ((Qa s).n0 (Qa HY));have aw:=hide (Nat.le_refl a1);have a3:=Qca (Qa s).r;go_wp2_with fail;refine a3.mono ?_;clear a3;rintro en u⟨_,a5,i5,y5,f5,rfl,⟨k,rfl,-⟩,⟨m,o,c⟩,t,K⟩;rw[m]at t;clear m;obtain⟨H,z⟩:=JF u.heap.size;obtain⟨A,C⟩:=JE (u.alloc (.cells #[str k,Jn] 97));have b6:Below u.heap.size u A:=by rw[C];exact(Below.refl _ u).alloc (Nat.le_refl _) _
  have M:A.heap[H]?=some (.cells #[str k,Jn] 97 (0,0)):=by rw[C,<- z];exact heap_alloc_new u _
  have Y:A.heap.size=H+1:=by rw[C,<- z];simp
  have ak:=Qeb (t.later b6) ⟨#[123]⟩ ⟨#[125]⟩;have K6:=hide (Ya (K.trans (Kp.of_below b6)) (Ya M (Ya Y (Ya (show wq.heap.size<=H by have:=K.size;omega) (Ya o c)))));have a8:=hide (Ya C z);clear o c t K z C b6 M Y;go_wp2_with fail;rw[<- (Qa a8).1,(Qa a8).2];clear a8;refine ak.mono ?_;clear ak;rintro en Z⟨_,a7,i7,y7,f7,rfl,⟨I,aa⟩,⟨m,a9,G⟩,h7,U⟩;rw[m]at h7;clear m;obtain⟨V,W,rfl⟩:=aa.sl;obtain⟨k6,M,Y,z,o,c⟩:=Qa K6;have R:=(Qa s).b.r1;have aA:=(Qa s).b.g1;have aB:=(Qa s).b.x1;have aH:=Qaa (Qa s).b.box;have aE:=U.size;have n7:=U.keep M (by omega);obtain⟨B,F⟩:=JE (Z.setCell (Ja H 1) (.slice V I.length W));have n8:B.heap[H]?=some (.cells #[str k,.slice V I.length W] 97 (0,0)):=by rw[F];exact(Qah n7 1 _).trans rfl
  have X:∀q,q≠H->B.heap[q]?=Z.heap[q]?:=fun q p=>by rw[F,hpS p]
  have s8:B.heap.size=Z.heap.size:=by rw[F];simp
  have h8:Rr rb g cap l B a7 d i y7 f7:=h7.move (by omega) (X rb (by omega)) (X g (by omega));have k8:Kp rb wq B:=by rw[F];exact(k6.trans U).set2 z
  have ag:=k8.keep (Qa s).b.box (by omega);have an:PC (fun b=>wq.heap.size<=b) B [str k,.slice V I.length W] ⟨k,I⟩:=⟨_,_,_,rfl,(aa.same Qbb (by omega) (fun b J hl=>X b (by have ab:A.heap.size<=b:=J;omega))).mono Qbb (fun b _ J=>by have ab:A.heap.size<=b:=J;omega)⟩;obtain⟨i0,hi,hz,am,aj⟩:=infoC;obtain⟨ra,rc,w9,Q,aC,aD,ah,j⟩:=(Qa s).more Qcg (EK.none _ _) (by kernel_rfl:Tryz.prog.underlying 52=some (.slice 97)) hi hz am aj rfl (by decide) (by decide) (cx:=[str k,.slice V I.length W]) rfl (by simp[Value.oneCell',str]) an h8 k8 (by omega) (fun e=>⟨(c (G e).1).1,by have:=(c (G e).1).2;omega⟩) (by have:=Qa ay;omega) 2;obtain⟨ac,ad,ae,af,xf⟩:=cl4 ag;obtain⟨aU,aV,uf⟩:=cl2 n7;obtain⟨aI,aJ,vf⟩:=cl2 n8;obtain⟨aZ,b1,b2,b4,zf⟩:=cl4 ah;have S:=Qam (Qa s).r l.length;have T:=Qam j.r l.length;have HM:=hide (Ya S (Ya T (Ya (Qa s).r.lt (Ya j.r.lt (Ya o (Ya c (Ya a9 G)))))));rw[show B.heap.size=Z.heap.size from s8]at Q;rw[F]at Q ae aI aJ;have a0:=hide Q;have ax:=hide j;clear aa h7 U k6 M Y z o c R aA aB aH aE n7 F n8 X s8 h8 k8 ag an hi hz am aj Q ah j S T a9 G ac ad af xf;go_wp2_with (at_builtin;refine Qaj _ rfl _ _ 52 rfl _ _ rfl rfl _ _ (Qa a0) ?_;clear a0);go_roundw
  case rel=>exact⟨false,x++[⟨k,I⟩],a7,y7,f7,ra,rc,rfl,by simpa using aC,aD,hide (by simpa using Qa ax),hide (fun _=>by simp)⟩
  obtain⟨S,T,m1,m2,o,c,a9,G⟩:=Qa HM;rw[S,T,if_pos (Qa HY)];split
  ·
   rename_i e;have e7:=G e;have e5:=c e7.1;have:=Qa aw;omega
  ·omega
 have al:=Qbh (Qa s).r ⟨#[124]⟩;go_wp2_with fail;refine a6.mono ?_;clear a6;rintro en wq⟨rfl,rfl⟩;go_wp2_with fail;refine al.mono ?_;clear al;rintro en WX⟨b,aM,fM,rfl,R,ai,hM,kM⟩;have eM:a1<=aM:=by
  cases b with
  |true=>have:=(R rfl).2;omega
  |false=>have:=ai rfl;omega
 have GM:=hide ((Qa s).call Qcg (EK.none _ _) kM hM eM (fun e=>e));have ay:=hide (show x.length<=aM by have:=(Qa s).n0 (Qa HY);omega);have aw:=hide eM;clear R ai hM kM eM;cases b
 ·
  have j:=Qa GM;obtain⟨ac,ad,ae,af,xf⟩:=cl4 j.b.box;obtain⟨ao,ap,aq,ar,yf⟩:=cl4 j.b.res;have HF:Hid (∀N O P D,RA rb g cap l w d (tyV rb l w) (CoY a i y) (.returned (.agg #[str E,Je,.slice sa x.length sc,Ji at0])) ((((WX.setCell (Ja w.heap.size 0) N).setCell (Ja w.heap.size 1) O).setCell (Ja w.heap.size 2) P).setCell (Ja w.heap.size 3) D)):=fun N O P D=>by
   obtain⟨R9,K9,_,Q9⟩:=j.fin Qcg (EK.none _ _) (W':=((((WX.setCell (Ja w.heap.size 0) N).setCell (Ja w.heap.size 1) O).setCell (Ja w.heap.size 2) P).setCell (Ja w.heap.size 3) D)) (by simp[World.setCell]) ⟨rfl,rfl,rfl⟩ (fun q p=>by rw[hpS p,hpS p,hpS p,hpS p]);have aF:=j.b.x1;exact⟨_,_,_,_,_,rfl,⟨⟨E,[],x,at0⟩,⟨_,_,_,rfl,(Q9.ls Qcg).mono Qcg (fun b _ J=>by have ab:xb+1<=b:=J;omega)⟩,fun _ _=>⟨fun _=>Qa aO (by trivial),fun _=>rfl⟩⟩,⟨rfl,j.le,j.y0⟩,R9,K9⟩
  clear j;go_wp2_with fail;refine bodyPost_ret (v:=.agg #[str E,Je,.slice sa x.length sc,Ji at0]) (by simp[results,Tryz.results58,go_sem,ao,ap,aq,ar]) rfl ?_;exact Qa HF _ _ _ _
 have a3:=Qca (Qa GM).r;go_wp2_with fail;refine a3.mono ?_;clear a3;rintro en u⟨_,a5,i5,y5,f5,rfl,⟨k,rfl,-⟩,⟨m,o,c⟩,t,K⟩;rw[m]at t;clear m;obtain⟨H,z⟩:=JF u.heap.size;obtain⟨A,C⟩:=JE (u.alloc (.cells #[str k,Jn] 97));have b6:Below u.heap.size u A:=by rw[C];exact(Below.refl _ u).alloc (Nat.le_refl _) _
 have M:A.heap[H]?=some (.cells #[str k,Jn] 97 (0,0)):=by rw[C,<- z];exact heap_alloc_new u _
 have Y:A.heap.size=H+1:=by rw[C,<- z];simp
 have ak:=Qeb (t.later b6) ⟨#[123]⟩ ⟨#[125]⟩;have K6:=hide (Ya (K.trans (Kp.of_below b6)) (Ya M (Ya Y (Ya (show WX.heap.size<=H by have:=K.size;omega) (Ya o c)))));have a8:=hide (Ya C z);clear o c t K z C b6 M Y;go_wp2_with fail;rw[<- (Qa a8).1,(Qa a8).2];clear a8;refine ak.mono ?_;clear ak;rintro en Z⟨_,a7,i7,y7,f7,rfl,⟨I,aa⟩,⟨m,a9,G⟩,h7,U⟩;rw[m]at h7;clear m;obtain⟨V,W,rfl⟩:=aa.sl;obtain⟨k6,M,Y,z,o,c⟩:=Qa K6;have R:=(Qa GM).b.r1;have aA:=(Qa GM).b.g1;have aB:=(Qa GM).b.x1;have aH:=Qaa (Qa GM).b.box;have aE:=U.size;have n7:=U.keep M (by omega);obtain⟨B,F⟩:=JE (Z.setCell (Ja H 1) (.slice V I.length W));have n8:B.heap[H]?=some (.cells #[str k,.slice V I.length W] 97 (0,0)):=by rw[F];exact(Qah n7 1 _).trans rfl
 have X:∀q,q≠H->B.heap[q]?=Z.heap[q]?:=fun q p=>by rw[F,hpS p]
 have s8:B.heap.size=Z.heap.size:=by rw[F];simp
 have h8:Rr rb g cap l B a7 d i y7 f7:=h7.move (by omega) (X rb (by omega)) (X g (by omega));have k8:Kp rb WX B:=by rw[F];exact(k6.trans U).set2 z
 have ag:=k8.keep (Qa GM).b.box (by omega);have an:PC (fun b=>WX.heap.size<=b) B [str k,.slice V I.length W] ⟨k,I⟩:=⟨_,_,_,rfl,(aa.same Qbb (by omega) (fun b J hl=>X b (by have ab:A.heap.size<=b:=J;omega))).mono Qbb (fun b _ J=>by have ab:A.heap.size<=b:=J;omega)⟩;obtain⟨i0,hi,hz,am,aj⟩:=infoC;obtain⟨ra,rc,w9,Q,aC,aD,ah,j⟩:=(Qa GM).more Qcg (EK.none _ _) (by kernel_rfl:Tryz.prog.underlying 52=some (.slice 97)) hi hz am aj rfl (by decide) (by decide) (cx:=[str k,.slice V I.length W]) rfl (by simp[Value.oneCell',str]) an h8 k8 (by omega) (fun e=>⟨(c (G e).1).1,by have:=(c (G e).1).2;omega⟩) (by have:=Qa ay;omega) 2;obtain⟨ac,ad,ae,af,xf⟩:=cl4 ag;obtain⟨aU,aV,uf⟩:=cl2 n7;obtain⟨aI,aJ,vf⟩:=cl2 n8;obtain⟨aZ,b1,b2,b4,zf⟩:=cl4 ah;have S:=Qam (Qa s).r l.length;have T:=Qam j.r l.length;have HM:=hide (Ya S (Ya T (Ya (Qa s).r.lt (Ya j.r.lt (Ya o (Ya c (Ya a9 G)))))));rw[show B.heap.size=Z.heap.size from s8]at Q;rw[F]at Q ae aI aJ;have a0:=hide Q;have ax:=hide j;clear aa h7 U k6 M Y z o c R aA aB aH aE n7 F n8 X s8 h8 k8 ag an hi hz am aj Q ah j S T a9 G ac ad af xf;go_wp2_with (at_builtin;refine Qaj _ rfl _ _ 52 rfl _ _ rfl rfl _ _ (Qa a0) ?_;clear a0);go_roundw
 case rel=>exact⟨false,x++[⟨k,I⟩],a7,y7,f7,ra,rc,rfl,by simpa using aC,aD,hide (by simpa using Qa ax),hide (fun _=>by simp)⟩
 obtain⟨S,T,m1,m2,o,c,a9,G⟩:=Qa HM;rw[S,T,if_pos (Qa HY)];split
 ·
  rename_i e;have e7:=G e;have e5:=c e7.1;have:=Qa aw;omega
 ·omega
end
end Go.Proofs.YtkhndlnadhggkaaGreat
