/- The document's reader. -/
import Derived.Test.YtkhndlnadhggkaaGreatAp01
import Derived.Test.YtkhndlnadhggkaaGreatAp10
import Derived.Deep.Cut
import Derived.Deep.CutRange
import Derived.Test.YtkhndlnadhggkaaGreatAp08
set_option maxRecDepth 100000
set_option maxHeartbeats 32000000
namespace Go.Proofs.YtkhndlnadhggkaaGreat
section
open Go.RowKit Go.Maps
def fdV(w:World)(w':World)(v:Value):Prop:=∃fs:List Fld,LsAt PF 2 (fun b=>w.heap.size<=b) w' v fs
theorem Qeb{rb g cap a d i:Nat}{l:List Tok}{w:World}{y f:Int}(h:Rr rb g cap l w a d i y f)(so se:ByteArray):
  Calls Tryz.prog 90 #[.pointer (Js rb),.string so,.string se] w fun en w'=>RA rb g cap l w d (fdV w) (CoY a i y) en w':=by
 have E:=Qbm h so;have D:=hide (Ya (Qaa h.box) h.row.lt);clear h;go_enter Tryz.func90,Tryz.ntmps90;go_wp2_with fail;refine E.mono ?_;clear E;rintro en w1⟨_,a0,i0,y0,f0,rfl,rfl,⟨k,al,ae⟩,h0,k0⟩;rw[k]at h0;clear k;have H0:=hide (Ya al (Ya ae (Ya h0 k0)));clear al ae h0 k0;go_wp2_with fail;go_loopw [7,8] (fun sl fb wr=>∃(j:List Fld) (t:Nat) (T f1:Int) (ar:Bool) (sa:Option Addr) (sc:Nat),sl = .slice sa j.length sc/\fb = .bool ar/\j.length<=sc/\sc<=maxLen/\Hid (Qown PF 2 67 w wr sl j/\Rr rb g cap l wr t d i T f1/\Kp rb w wr/\j.length<=t+1/\a<=t/\(T=0->y=0/\a<t/\j.length<=t))) (fun _ _ wr=>leftR rb l.length wr)
 case atStart=>
  obtain⟨al,ae,h0,k0⟩:=Qa H0;exact⟨[],a0,y0,f0,true,none,0,rfl,rfl,Nat.le_refl _,by unfold maxLen;omega,hide ⟨Qown.nil _ _,h0,k0,Nat.zero_le _,al,fun e=>⟨(ae e).1,(ae e).2,Nat.zero_le _⟩⟩⟩
 obtain⟨j,t,T,f1,ar,sa,sc,rfl,rfl,aU,aJ,m⟩:=hrel;unfold maxLen at aJ;clear H0;go_upto_region 4 with fail;go_cut [31] from 13 to 48 (fun c wc=>∃(b:Bool) (z:Nat) (fX:Int),c = .bool b/\Hid (Qown PF 2 67 w wc (.slice sa j.length sc) j/\Rr rb g cap l wc z d i T fX/\Kp rb w wc/\j.length<=z+1/\(T=0->y=0)/\a<=z/\t<=z/\(b=true->T=0/\j.length<=z)))
 case first=>
  have F:=Qax (Qa m).2.1;by_cases Y:T=0
  rotate_left
  ·
   rw[decide_eq_false Y]at F;have K:=hide Y;clear Y;go_wp2_with fail;refine F.mono ?_;clear F;rintro en wq⟨rfl,rfl⟩;go_wp2_with fail;go_meet;exact⟨false,t,f1,rfl,hide ⟨(Qa m).1,(Qa m).2.1,(Qa m).2.2.1,(Qa m).2.2.2.1,fun e=>absurd e (Qa K),(Qa m).2.2.2.2.1,Nat.le_refl _,fun e=>by cases e⟩⟩
  rw[decide_eq_true Y]at F;have K:=hide Y;clear Y;have s:=(Qa m).2.2.2.2;have V:=s.2 (Qa K);have aj:=hide (Ya s V);clear s V;cases ar
  ·
   have aC:=Qbh (Qa m).2.1 ⟨#[44]⟩;go_wp2_with fail;refine F.mono ?_;clear F;rintro en wq⟨rfl,rfl⟩;go_wp2_with fail;refine aC.mono ?_;clear aC;rintro en L⟨b,a2,f2,rfl,ay,ax,u,k2⟩;have X:t<=a2:=by
    cases b with
    |true=>have:=(ay rfl).2;omega
    |false=>have:=ax rfl;omega
   have o:=hide (Ya ((Qa m).1.kp Qbb k2 (Qa D).1) (Ya u (Ya ((Qa m).2.2.1.trans k2) X)));clear ay ax u k2 X;cases b
   ·
    go_wp2_with fail;go_meet;obtain⟨N,u,v,X⟩:=Qa o;obtain⟨s,V⟩:=Qa aj;exact⟨false,a2,f2,rfl,hide ⟨N,u,v,by omega,fun e=>(s.2 e).1,by omega,X,fun e=>by cases e⟩⟩
   go_wp2_with fail;go_meet;obtain⟨N,u,v,X⟩:=Qa o;obtain⟨s,V⟩:=Qa aj;exact⟨true,a2,f2,rfl,hide ⟨N,u,v,by omega,fun e=>(s.2 e).1,by omega,X,fun _=>⟨Qa K,by omega⟩⟩⟩
  have aE:=Qch (Qa m).2.1 se;go_wp2_with fail;refine F.mono ?_;clear F;rintro en wq⟨rfl,rfl⟩;go_wp2_with fail;refine aE.mono ?_;clear aE;rintro en L⟨b,rfl,hb,b2⟩;have o:=hide (Ya ((Qa m).1.kp Qbb (Kp.of_below (rb:=rb) b2) (Qa D).1) (Ya ((Qa m).2.1.later b2) ((Qa m).2.2.1.trans (Kp.of_below b2))));clear hb b2;cases b
  ·
   go_wp2_with fail;go_meet;obtain⟨N,u,v⟩:=Qa o;obtain⟨s,V⟩:=Qa aj;exact⟨true,t,f1,rfl,hide ⟨N,u,v,by omega,fun e=>(s.2 e).1,s.1,Nat.le_refl _,fun _=>⟨Qa K,by omega⟩⟩⟩
  go_wp2_with fail;go_meet;obtain⟨N,u,v⟩:=Qa o;obtain⟨s,V⟩:=Qa aj;exact⟨false,t,f1,rfl,hide ⟨N,u,v,by omega,fun e=>(s.2 e).1,s.1,Nat.le_refl _,fun e=>by cases e⟩⟩
 obtain⟨b,z,fX,rfl,p⟩:=hcut;cases b
 ·
  have o:=hide (Ya (Qa p).1 (Ya (Qa p).2.1 (Ya (Qa p).2.2.1 (Ya (Qa p).2.2.2.1 (Ya (Qa p).2.2.2.2.1 (Qa p).2.2.2.2.2)))));have E:=Qbm (Qa o).2.1 se;go_wp2_with fail;refine E.mono ?_;clear E;rintro en w9⟨_,a9,i9,y9,f9,rfl,rfl,⟨k,au,af⟩,h9,k9⟩;rw[k]at h9;clear k;have HZ:=hide (Ya au (Ya af (Ya h9 k9)));clear au af h9 k9;go_wp2_with fail;go_ret;obtain⟨au,af,h9,k9⟩:=Qa HZ;obtain⟨G,u,k2,aS,aP,aT,_⟩:=Qa o;exact⟨_,_,_,_,_,rfl,⟨j,(G.kp Qbb k9 (Qa D).1).ls Qbb⟩,⟨rfl,by omega,fun e=>⟨aP (af e).1,by have:=(af e).2;omega⟩⟩,h9,k2.trans k9⟩
 have K:=hide ((Qa p).2.2.2.2.2.2.2 rfl).1;have o:=hide (Ya (Qa p).1 (Ya (Qa p).2.1 (Ya (Qa p).2.2.1 (Ya ((Qa p).2.2.2.2.2.2.2 rfl).2 (Ya (Qa p).2.2.2.2.1 (Ya (Qa p).2.2.2.2.2.1 (Qa p).2.2.2.2.2.2.1))))));clear p
 go_upto_if 34 with fail
 go_cut [] from 13 to 48 (fun L=>∃(yF fF:Int),Hid (Qown PF 2 67 w L (.slice sa j.length sc) j/\Rr rb g cap l L z d i yF fF/\Kp rb w L/\j.length<=z/\(yF=0->y=0)/\a<=z/\t<=z))
 case first=>
  by_cases h8:8<=j.length
  ·
   have g8:(8:Int)<=(j.length:Int):=by omega
   have aA:=Qbf (Qa o).2.1 (why:=3) (by decide);clear h8;go_wp2_with fail;refine aA.mono ?_;clear aA;rintro en wf⟨_,a3,i3,y3,f3,rfl,rfl,⟨ea,k,aw⟩,v,k3⟩;rw[ea,k]at v;clear ea k;have XF:=hide (Ya ((Qa o).1.kp Qbb k3 (Qa D).1) (Ya v (Ya ((Qa o).2.2.1.trans k3) (Ya (Qa o).2.2.2.1 (Ya (show y3=0->y=0 from fun e=>absurd e aw) (Qa o).2.2.2.2.2)))));clear v k3 aw;go_wp2_with fail;go_meet;exact⟨_,_,XF⟩
  have g8:¬((8:Int)<=(j.length:Int)):=by omega
  clear h8;go_wp2_with fail;go_meet;exact⟨_,_,o⟩
 obtain⟨yF,fF,XF⟩:=hcut;obtain⟨L,aI⟩:=JE wc;subst aI;clear o;have aG:=Qca (Qa XF).2.1;go_wp2_with fail;refine aG.mono ?_;clear aG;rintro en R⟨_,a4,i4,y4,f4,rfl,⟨S,rfl,-⟩,⟨k,H,B⟩,h4,Z⟩;rw[k]at h4;clear k;obtain⟨W5,ak⟩:=JE (R.alloc (.cells #[str S,Je] 67));have M:Below R.heap.size R W5:=by rw[ak];exact(Below.refl _ R).alloc (Nat.le_refl _) _
 have n5:W5.heap[R.heap.size]?=some (.cells #[str S,Je] 67 (0,0)):=by rw[ak];exact heap_alloc_new R _
 have E:=Qbm (h4.later M) ⟨#[58]⟩;obtain⟨Q,a8⟩:=JF R.heap.size;have H4:=hide (Ya H (Ya B (Ya Z (Ya M (Ya n5 a8)))));have av:=hide ak;clear H B h4 Z M n5 ak a8;go_wp2_with fail;rw[<- Qa av,(Qa H4).2.2.2.2.2];clear av;refine E.mono ?_;clear E;rintro en w6⟨_,a6,i6,y6,f6,rfl,rfl,⟨k,I,C⟩,h6,P⟩;rw[k]at h6;clear k;have aD:=Qdh h6;have H6:=hide (Ya I (Ya C P));clear I C h6 P;go_wp2_with fail;refine aD.mono ?_;clear aD;rintro en w7⟨_,a7,i7,y7,f7,rfl,⟨x7,rfl,-⟩,⟨k,am,W⟩,h7,k7⟩;rw[k]at h7;clear k;obtain⟨H,B,Z,M,n5,a8⟩:=Qa H4;obtain⟨I,C,P⟩:=Qa H6;obtain⟨G,O,kX,an,ag,ap,ai⟩:=Qa XF;have aK:=Z.size;have aO:=kX.size;have aL:=M.size;have aM:=P.size;have aN:=k7.size;rw[a8]at n5;have ao:Q≠rb:=by have:=(Qa D).1;omega
 have aB:Q≠g:=by have:=(Qa D).2;omega
 have n7:w7.heap[Q]?=some (.cells #[str S,Je] 67 (0,0)):=k7.keep (P.keep n5 ao) ao;obtain⟨w8,A⟩:=JE (w7.setCell (Ja Q 1) (str x7));have n8:w8.heap[Q]?=some (.cells #[str S,str x7] 67 (0,0)):=by rw[A];exact(Qah n7 1 _).trans rfl
 have s8:w8.heap.size=w7.heap.size:=by rw[A];simp
 have o8:∀q,q≠Q->w8.heap[q]?=w7.heap[q]?:=fun q G=>by rw[A];exact hpS G
 have h8:=h7.move (w':=w8) (by omega) (o8 rb ao.symm) (o8 g aB.symm);have aH:Kp rb L w8:=by
  have kk:=((Z.trans (Kp.of_below M)).trans P).trans k7;refine⟨by rw[A];exact kk.os,by rw[A];exact kk.tape,by rw[A];exact kk.output,by rw[s8];exact kk.size,fun q G hn=>(o8 q (by omega)).trans (kk.block q G hn)⟩
 obtain⟨i0,hi,hz,aF,az⟩:=infoF;obtain⟨r,wz,a5,ah,J,U⟩:=G.more Qbb (by kernel_rfl:Tryz.prog.underlying 46=some (.slice 67)) hi hz aF az rfl (by decide) (by decide) kX (x:=⟨S,x7⟩) (cs:=[str S,str x7]) rfl (by simp[Value.oneCell',str]) rfl h8 aH (Qa D).1 (Qa D).2 (by have:=O.lt;have:=O.few;omega);obtain⟨ra,rc,er,ac,ad⟩:=U.sl;subst er;rw[A]at a5;rw[show(w7.setCell (Ja Q 1) (str x7)).heap.size=w7.heap.size by simp]at a5;have aq:=hide a5;obtain⟨aW,aY,xf⟩:=cl2 n7;obtain⟨aQ,aR,zf⟩:=cl2 n8;rw[A]at aQ aR;have aa:=Qam (Qa m).2.1 l.length;have ab:=Qam J l.length;have HE:=hide (Ya U (Ya J (Ya ah (Ya ac (Ya ad (Ya H (Ya B (Ya I (Ya C (Ya am (Ya W (Ya an (Ya ag (Ya aa (Ya ab (Ya O (Ya ap ai)))))))))))))))));clear H B Z M n5 a8 I C P h7 k7 G O kX an ag ap ai aK aO aL aM aN ao aB n7 A n8 s8 o8 h8 aH hi hz aF az a5 ah J U ac ad zf aa ab am W;go_wp2_with (at_builtin;refine Qaj _ rfl _ _ 46 rfl _ _ rfl rfl _ _ (Qa aq) ?_;clear aq);go_roundw
 case rel=>
  obtain⟨U,J,ah,ac,ad,H,B,I,C,am,W,an,ag,aa,ab,O,ap,ai⟩:=Qa HE
  refine⟨j++[⟨S,x7⟩],_,_,_,false,ra,rc,by simp,rfl,ac,ad,hide ⟨by simpa only[List.length_append,List.length_singleton] using U,J,ah,by rw[List.length_append,List.length_singleton];omega,by omega,fun e=>by
   have e7:=W e;have e6:=C e7.1;have e4:=B e6.1
   exact⟨ag e4.1,by omega,by rw[List.length_append,List.length_singleton];omega⟩⟩⟩
 obtain⟨U,J,ah,ac,ad,H,B,I,C,am,W,an,ag,aa,ab,O,ap,ai⟩:=Qa HE;have:=O.lt;have aV:=(Qa m).2.1.lt;rw[aa,ab,if_pos (Qa K)];split
 ·
  rename_i e;have e7:=W e;have e6:=C e7.1;have e4:=B e6.1;have:=J.lt;omega
 ·omega
def rdOk(rb:Nat)(w:World):Prop:=w.cell? ⟨rb,4,none⟩=some (.int .i64 0)
theorem Qtc{rb:Nat}{w:World}{v0 v1 v2 v3 v5:Value}{y:Int}(h:w.heap[rb]?=some (.cells #[v0,v1,v2,v3,Ji y,v5] 75 (0,0))):rdOk rb w↔y=0:=by
 have e:w.cell? (Ja rb 4)=some (Ji y):=by rw[Qad h];rfl
 unfold rdOk;rw[e];constructor
 ·
  intro q
  simpa using q
 intro q;rw[q]
theorem Rr.ok{rb g cap a d i:Nat}{l:List Tok}{w:World}{y f:Int}(h:Rr rb g cap l w a d i y f):rdOk rb w↔y=0:=Qtc h.box
def szQ(rb a n:Nat)(w:World):Prop:=rdOk rb w -> ∀a':Nat,w.cell? ⟨rb,1,none⟩=some (.int .i64 (a':Int))->n+2*a<=2*a'
section
variable {rb g cap a a' d i n:Nat}{l:List Tok}{w:World}{y f:Int}
theorem Rr.idx(h:Rr rb g cap l w a' d i y f):w.cell? (Ja rb 1)=some (Ji (a':Int)):=(Qad h.box 1).trans rfl
theorem szQ.of(h:Rr rb g cap l w a' d i y f)(hn:y=0->n+2*a<=2*a'):szQ rb a n w:=fun e b c=>by
 rw[h.idx]at c;have j:=(Rr.ok h).1 e;simp only[Option.some.injEq,Value.int.injEq,true_and]at c;have:=hn j;omega
theorem szQ.at(s:szQ rb a n w)(h:Rr rb g cap l w a' d i y f)(hy:y=0):n+2*a<=2*a':=s ((Rr.ok h).2 hy) a' h.idx
theorem szQ.bad(h:Rr rb g cap l w a' d i y f)(hy:y≠0):szQ rb a n w:=szQ.of h (fun e=>absurd e hy)
end
def exV(rb a:Nat)(w:World)(w':World)(v:Value):Prop:=∃x:Ex,VE (fun b=>w.heap.size<=b) w' v x/\szQ rb a (exQ x) w'
def ExC(F rb g cap:Nat)(l:List Tok)(d:Nat)(args:Array Value):Prop:=∀(w:World) (a i:Nat) (y f:Int),Rr rb g cap l w a d i y f->Calls Tryz.prog F args w fun en w'=>RA rb g cap l w d (exV rb a w) (CoY a i y) en w'
def esV(rb a:Nat)(w:World)(w':World)(v:Value):Prop:=∃xs:List Ex,LsAt PE 5 (fun b=>w.heap.size<=b) w' v xs/\szQ rb a (exQs xs) w'
theorem Qjk{rb g cap a d i:Nat}{l:List Tok}{w:World}{y f:Int}(h:Rr rb g cap l w a d i y f)(hE:ExC 108 rb g cap l d #[.pointer (Js rb)]):
  Calls Tryz.prog 107 #[.pointer (Js rb)] w fun en w'=>RA rb g cap l w d (esV rb a w) (CoY a i y) en w':=by
 have S:=Qbm h ⟨#[40]⟩;have ar:=hide hE;have I:=hide (Ya (Qaa h.box) h.row.lt);clear h hE;go_enter Tryz.func107,Tryz.ntmps107;go_wp2_with fail;refine S.mono ?_;clear S;rintro en w1⟨_,a0,i0,y0,f0,rfl,rfl,⟨t,a6,K⟩,Z,k0⟩;rw[t]at Z;clear t;have H0:=hide (Ya a6 (Ya K (Ya Z k0)));clear a6 K Z k0;go_wp2_with fail;go_loopw [3,4] (fun sl fb wr=>∃(j:List Ex) (p:Nat) (z Y:Int) (ae:Bool) (sa:Option Addr) (sc:Nat),sl = .slice sa j.length sc/\fb = .bool ae/\j.length<=sc/\sc<=maxLen/\Hid (Qown PE 5 59 w wr sl j/\Rr rb g cap l wr p d i z Y/\Kp rb w wr/\j.length<=p+1/\a<=p/\(z=0->y=0/\a<p/\j.length<=p))/\Hid (z=0->exQs j+2*a<=2*p)) (fun _ _ wr=>leftR rb l.length wr)
 case atStart=>
  obtain⟨a6,K,Z,k0⟩:=Qa H0;exact⟨[],a0,y0,f0,true,none,0,rfl,rfl,Nat.le_refl _,by unfold maxLen;omega,hide ⟨Qown.nil _ _,Z,k0,Nat.zero_le _,a6,fun e=>⟨(K e).1,(K e).2,Nat.zero_le _⟩⟩,hide (fun e=>by rw[exQs];have:=(K e).2;omega)⟩
 obtain⟨j,p,z,Y,ae,sa,sc,rfl,rfl,az,av,k,X⟩:=hrel;unfold maxLen at av;clear H0;go_upto_region 4 with fail;go_cut [24] from 7 to 34 (fun c wc=>∃(b:Bool) (q:Nat) (fX:Int),c = .bool b/\Hid (Qown PE 5 59 w wc (.slice sa j.length sc) j/\Rr rb g cap l wc q d i z fX/\Kp rb w wc/\j.length<=q+1/\(z=0->y=0)/\a<=q/\p<=q/\(b=true->z=0/\j.length<=q))/\Hid (z=0->exQs j+2*a<=2*q))
 case first=>
  have A:=Qax (Qa k).2.1;by_cases O:z=0
  rotate_left
  ·
   rw[decide_eq_false O]at A;have B:=hide O;clear O;go_wp2_with fail;refine A.mono ?_;clear A;rintro en wq⟨rfl,rfl⟩;go_wp2_with fail;go_meet;exact⟨false,p,Y,rfl,hide ⟨(Qa k).1,(Qa k).2.1,(Qa k).2.2.1,(Qa k).2.2.2.1,fun e=>absurd e (Qa B),(Qa k).2.2.2.2.1,Nat.le_refl _,fun e=>by cases e⟩,hide (fun e=>by have h:=Qa X e;omega)⟩
  rw[decide_eq_true O]at A;have B:=hide O;clear O;have s:=(Qa k).2.2.2.2;have J:=s.2 (Qa B);have a5:=hide (Ya s J);clear s J;cases ae
  ·
   have am:=Qbh (Qa k).2.1 ⟨#[44]⟩;go_wp2_with fail;refine A.mono ?_;clear A;rintro en wq⟨rfl,rfl⟩;go_wp2_with fail;refine am.mono ?_;clear am;rintro en L⟨b,a2,f2,rfl,ai,ah,u,k2⟩;have M:p<=a2:=by
    cases b with
    |true=>have:=(ai rfl).2;omega
    |false=>have:=ah rfl;omega
   have m:=hide (Ya ((Qa k).1.kp Qag k2 (Qa I).1) (Ya u (Ya ((Qa k).2.2.1.trans k2) M)));clear ai ah u k2 M;cases b
   ·
    go_wp2_with fail;go_meet;obtain⟨F,u,v,M⟩:=Qa m;obtain⟨s,J⟩:=Qa a5;exact⟨false,a2,f2,rfl,hide ⟨F,u,v,by omega,fun e=>(s.2 e).1,by omega,M,fun e=>by cases e⟩,hide (fun e=>by have h:=Qa X e;omega)⟩
   go_wp2_with fail;go_meet;obtain⟨F,u,v,M⟩:=Qa m;obtain⟨s,J⟩:=Qa a5;exact⟨true,a2,f2,rfl,hide ⟨F,u,v,by omega,fun e=>(s.2 e).1,by omega,M,fun _=>⟨Qa B,by omega⟩⟩,hide (fun e=>by have h:=Qa X e;omega)⟩
  have an:=Qch (Qa k).2.1 ⟨#[41]⟩;go_wp2_with fail;refine A.mono ?_;clear A;rintro en wq⟨rfl,rfl⟩;go_wp2_with fail;refine an.mono ?_;clear an;rintro en L⟨b,rfl,hb,b2⟩;have m:=hide (Ya ((Qa k).1.kp Qag (Kp.of_below (rb:=rb) b2) (Qa I).1) (Ya ((Qa k).2.1.later b2) ((Qa k).2.2.1.trans (Kp.of_below b2))));clear hb b2;cases b
  ·
   go_wp2_with fail;go_meet;obtain⟨F,u,v⟩:=Qa m;obtain⟨s,J⟩:=Qa a5;exact⟨true,p,Y,rfl,hide ⟨F,u,v,by omega,fun e=>(s.2 e).1,s.1,Nat.le_refl _,fun _=>⟨Qa B,by omega⟩⟩,hide (fun e=>by have h:=Qa X e;omega)⟩
  go_wp2_with fail;go_meet;obtain⟨F,u,v⟩:=Qa m;obtain⟨s,J⟩:=Qa a5;exact⟨false,p,Y,rfl,hide ⟨F,u,v,by omega,fun e=>(s.2 e).1,s.1,Nat.le_refl _,fun e=>by cases e⟩,hide (fun e=>by have h:=Qa X e;omega)⟩
 obtain⟨b,q,fX,rfl,o,SX⟩:=hcut;cases b
 ·
  have m:=hide (Ya (Qa o).1 (Ya (Qa o).2.1 (Ya (Qa o).2.2.1 (Ya (Qa o).2.2.2.1 (Ya (Qa o).2.2.2.2.1 (Qa o).2.2.2.2.2)))));have S:=Qbm (Qa m).2.1 ⟨#[41]⟩;go_wp2_with fail;refine S.mono ?_;clear S;rintro en w9⟨_,a9,i9,y9,f9,rfl,rfl,⟨t,ag,D⟩,N,k9⟩;rw[t]at N;clear t;have HZ:=hide (Ya ag (Ya D (Ya N k9)));clear ag D N k9;go_wp2_with fail;go_ret;obtain⟨ag,D,N,k9⟩:=Qa HZ;obtain⟨hq,u,k2,ax,aw,ay,_⟩:=Qa m;exact⟨_,_,_,_,_,rfl,⟨j,(hq.kp Qag k9 (Qa I).1).ls Qag,szQ.of N (fun e=>by have h:=Qa SX (D e).1;have:=(D e).2;omega)⟩,⟨rfl,by omega,fun e=>⟨aw (D e).1,by have:=(D e).2;omega⟩⟩,N,k2.trans k9⟩
 have B:=hide ((Qa o).2.2.2.2.2.2.2 rfl).1;have m:=hide (Ya (Qa o).1 (Ya (Qa o).2.1 (Ya (Qa o).2.2.1 (Ya ((Qa o).2.2.2.2.2.2.2 rfl).2 (Ya (Qa o).2.2.2.2.1 (Ya (Qa o).2.2.2.2.2.1 (Qa o).2.2.2.2.2.2.1))))));clear o
 go_upto_if 27 with fail
 go_cut [] from 7 to 34 (fun L=>∃(yF fF:Int),Hid (Qown PE 5 59 w L (.slice sa j.length sc) j/\Rr rb g cap l L q d i yF fF/\Kp rb w L/\j.length<=q/\(yF=0->y=0)/\a<=q/\p<=q)/\Hid (yF=0->exQs j+2*a<=2*q))
 case first=>
  by_cases h8:8<=j.length
  ·
   have g8:(8:Int)<=(j.length:Int):=by omega
   have al:=Qbf (Qa m).2.1 (why:=3) (by decide);clear h8;go_wp2_with fail;refine al.mono ?_;clear al;rintro en wf⟨_,a3,i3,y3,f3,rfl,rfl,⟨ea,t,af⟩,v,k3⟩;rw[ea,t]at v;clear ea t;have XF:=hide (Ya ((Qa m).1.kp Qag k3 (Qa I).1) (Ya v (Ya ((Qa m).2.2.1.trans k3) (Ya (Qa m).2.2.2.1 (Ya (show y3=0->y=0 from fun e=>absurd e af) (Qa m).2.2.2.2.2)))));have SF:=hide (show y3=0->exQs j+2*a<=2*q from fun e=>absurd e af);clear v k3 af;go_wp2_with fail;go_meet;exact⟨_,_,XF,SF⟩
  have g8:¬((8:Int)<=(j.length:Int)):=by omega
  clear h8;go_wp2_with fail;go_meet;exact⟨_,_,m,hide (fun _=>Qa SX (Qa B))⟩
 obtain⟨yF,fF,XF,SF⟩:=hcut;obtain⟨L,au⟩:=JE wc;subst au;clear m;have ak:=Qa ar _ _ _ _ _ (Qa XF).2.1;go_wp2_with fail;refine ak.mono ?_;clear ak;rintro en w7⟨_,a7,i7,y7,f7,rfl,⟨P,⟨_,rfl,⟨ka,kn,kc,rfl⟩,ap⟩,aq⟩,⟨t,a8,C⟩,h7,k7⟩;rw[t]at h7;clear t;have S7:=hide (fun e:y7=0=>aq.at h7 e);clear aq;obtain⟨hq,G,kX,aa,V,ab,a4⟩:=Qa XF;obtain⟨i0,hi,hz,ao,aj⟩:=infoE;obtain⟨r,wz,ad,W,E,H⟩:=hq.more Qag (by kernel_rfl:Tryz.prog.underlying 40=some (.slice 59)) hi hz ao aj rfl (by decide) (by decide) kX (x:=P) (cs:=[Ji P.kind,Ji P.num,str P.txt,.slice ka kn kc,Ji P.at_]) rfl (by simp[Value.oneCell',str]) ap h7 k7 (Qa I).1 (Qa I).2 (by have:=G.lt;have:=G.few;omega);obtain⟨ra,rc,er,T,U⟩:=H.sl;subst er;have ac:=hide ad;have Q:=Qam (Qa k).2.1 l.length;have R:=Qam E l.length;have HE:=hide (Ya H (Ya E (Ya W (Ya T (Ya U (Ya a8 (Ya C (Ya aa (Ya V (Ya Q (Ya R (Ya G (Ya ab a4)))))))))))));clear ap h7 k7 hq G kX aa V ab a4 hi hz ao aj ad W E H T U Q R a8 C;go_wp2_with (at_builtin;refine Qaj _ rfl _ _ 40 rfl _ _ rfl rfl _ _ (Qa ac) ?_;clear ac);go_roundw
 case rel=>
  obtain⟨H,E,W,T,U,a8,C,aa,V,Q,R,G,ab,a4⟩:=Qa HE
  exact⟨j++[P],_,_,_,false,ra,rc,by simp,rfl,T,U,hide ⟨by simpa only[List.length_append,List.length_singleton] using H,E,W,by rw[List.length_append,List.length_singleton];omega,by omega,fun e=>by
   have e7:=C e;exact⟨V e7.1,by omega,by rw[List.length_append,List.length_singleton];omega⟩⟩,hide (fun e=>by
   have e7:=C e;have q1:=Qa SF e7.1;have q2:=Qa S7 e;rw[Qfm,Qhr]
   omega)⟩
 obtain⟨H,E,W,T,U,a8,C,aa,V,Q,R,G,ab,a4⟩:=Qa HE;have:=G.lt;have aA:=(Qa k).2.1.lt;rw[Q,R,if_pos (Qa B)];split
 ·
  rename_i e;have e7:=C e;have:=E.lt;omega
 ·omega
theorem Qdg{w:World}{b:Nat}{c0 c1 c2 c3 c4:Value}(h:w.heap[b]?=some (.cells #[c0,c1,c2,c3,c4] 59 (0,0))):(qeLoad (.pointer (Js b))).run Tryz.prog w = .ok (.agg #[c0,c1,c2,c3,c4]) w:=
 run_loadAt_mid w b 0 59 [c0,c1,c2,c3,c4] _ (fun q v c=>by rw[Qad h,Nat.zero_add];simpa using c) Tryz.underlying59 rfl (by kernel_rfl)
theorem Qbv{w:World}{b:Nat}{old new:Array Value}(hb:w.heap[b]?=some (.cells old 59 (0,0)))(h0:old.size=5)(hn:new.size=5)(h1:new.all (·.oneCell')=true):(qeStore (.pointer (Js b)) (.agg new)).run Tryz.prog w = .ok () (w.setRow b new):=by
 unfold qeStore;simp only[Instr.storeAt,Instr.sureAddr,Sem.run_bind,Sem.run_pure,Result.andThen_ok];exact run_storeVar_row w b 59 59 old new hb (by rw[hn];kernel_rfl) (by rw[h0,hn]) h1
theorem Qen(n:Nat)(h:n<=65537):IntKind.i64.wrap (n:Int)=(n:Int):=by
 have b:(2:Int) ^ IntKind.i64.bits=18446744073709551616:=by decide
 have c:(2:Int) ^ (IntKind.i64.bits - 1)=9223372036854775808:=by decide
 have e:(n:Int) % 18446744073709551616=(n:Int):=by omega
 unfold IntKind.wrap;simp only[b,c,e];rw[if_neg (by simp;intro _;omega)]
attribute [local go_sem ↓] Qbu Qc
theorem Quf{rb g cap a d i:Nat}{l:List Tok}{w:World}{y f:Int}(h:Rr rb g cap l w a d i y f)(hd:d<64){F:Nat}(hF:(F=108/\(d<32->ExC 121 rb g cap l (d+1) #[.pointer (Js rb),Ji 0]))∨(F=132/\(d<32->ExC 135 rb g cap l (d+1) #[.pointer (Js rb)]))):
  Calls Tryz.prog F #[.pointer (Js rb)] w fun en w'=>RA rb g cap l w d (exV rb a w) (CoY a i y) en w':=by
 rcases hF with ⟨rfl,hI⟩|⟨rfl,hI⟩
 all_goals
  have b0:Below w.heap.size w (w.alloc (.cells #[Ji 0,Ji 0,Je,Jn,Ji 0] 59)):=(Below.refl _ w).alloc (Nat.le_refl _) _;have n0:(w.alloc (.cells #[Ji 0,Ji 0,Je,Jn,Ji 0] 59)).heap[w.heap.size]?=some (.cells #[Ji 0,Ji 0,Je,Jn,Ji 0] 59 (0,0)):=heap_alloc_new w _;have s0:(w.alloc (.cells #[Ji 0,Ji 0,Je,Jn,Ji 0] 59)).heap.size=w.heap.size+1:=by simp
  have ai:=Qhd (h.later b0) hd;have aH:=Qaa h.box;have aG:=h.row.lt;have ag:=hide (show g≠w.heap.size by omega);have af:=hide (Ya b0 (Ya n0 s0));have HI:=hide hI;clear h b0 n0 s0 hI
  first|go_enter Tryz.func108,Tryz.ntmps108|go_enter Tryz.func132,Tryz.ntmps132
  go_wp2_with fail;refine ai.mono ?_;clear ai;rintro en S⟨_,a1,i1,y1,f1,rfl,rfl,⟨ea,ei,ao⟩,h1,k1⟩;rw[ea,ei]at h1;clear ea ei;obtain⟨b0,n0,s0⟩:=Qa af;have a0:=k1.size;obtain⟨E,s⟩:=JF S.heap.size;obtain⟨T,a2⟩:=JE (S.alloc (.cells #[Ji 0,Ji 0,Je,Jn,Ji 0] 59));have b2:Below S.heap.size S T:=by rw[a2];exact(Below.refl _ S).alloc (Nat.le_refl _) _
  have P:T.heap[E]?=some (.cells #[Ji 0,Ji 0,Je,Jn,Ji 0] 59 (0,0)):=by rw[a2,<- s];exact heap_alloc_new S _
  have s2:T.heap.size=S.heap.size+1:=by rw[a2];simp
  have O:T.heap[w.heap.size]?=some (.cells #[Ji 0,Ji 0,Je,Jn,Ji 0] 59 (0,0)):=(b2.block _ (by omega)).trans (k1.keep n0 (by omega));have Q:=h1.later b2;have A:Kp rb w T:=((Kp.of_below b0).trans k1).trans (Kp.of_below b2);have W:=Qax Q;have al:w.heap.size<E:=by omega
  have a4:=hide (show E≠rb/\w.heap.size≠rb/\E≠w.heap.size by omega);have Y:=hide (Ya Q (Ya A (Ya P (Ya O (Ya s2 (Ya s al))))));have ah:=hide a2;have a5:=hide ao;have N2:=Qhb S (c0:=Ji 0) (c1:=Ji 0) (c2:=Je) (c3:=Jn) (c4:=Ji 0) (by simp[Value.oneCell']);clear b0 n0 s0 a0 al s a2 b2 P s2 O Q A h1 k1 ao af;go_wp2_with fail;rw[<- Qa ah,(Qa Y).2.2.2.2.2.1];clear ah N2;by_cases R:y1=0
  ·
   rw[decide_eq_true R]at W;have ak:=Qa HI (Qa a5 R).2 _ _ _ _ _ (Qa Y).1;have HY:=hide (Qa a5 R);clear R;refine W.mono ?_;clear W;rintro en au⟨rfl,rfl⟩;go_wp2_with fail;refine ak.mono ?_;clear ak;rintro en w3⟨_,Z,i3,yX,fX,rfl,⟨j,⟨_,rfl,⟨J,L,K,rfl⟩,an⟩,ar⟩,⟨ei,av,ap⟩,h3,H⟩;rw[ei]at h3;clear ei;have SX:=hide (show yX=0->exQ j+2*a<=2*Z from fun e=>ar.at h3 e);clear ar;obtain⟨Q,A,P,O,s2,s,a0⟩:=Qa Y;obtain⟨e1,e2,e3⟩:=Qa a4;have ay:=H.size;have m3:=H.keep P e1;have z3:=H.keep O e2;have S3:=Qbv (new:=#[Ji j.kind,Ji j.num,str j.txt,.slice J L K,Ji j.at_]) m3 rfl rfl (by simp[Value.oneCell',str]);obtain⟨r,z⟩:=JE (w3.setRow E #[Ji j.kind,Ji j.num,str j.txt,.slice J L K,Ji j.at_]);rw[<- z]at S3;have oX:∀q,q≠E->r.heap[q]?=w3.heap[q]?:=fun q m=>by rw[z];exact setRow_other _ _ _ _ m
   have sX:r.heap.size=w3.heap.size:=by rw[z,size_setRow]
   have mX:r.heap[E]?=some (.cells #[Ji j.kind,Ji j.num,str j.txt,.slice J L K,Ji j.at_] 59 (0,0)):=by rw[z];exact setRow_heap _ _ _ _ _ _ m3
   have hX:=h3.move (w':=r) (by omega) (oX rb e1.symm) (oX g (by omega));have kX:Kp rb w r:=⟨by rw[z];exact(A.trans H).os,by rw[z];exact(A.trans H).tape,by rw[z];exact(A.trans H).output,by rw[sX];exact(A.trans H).size,fun q m hn=>(oX q (by omega)).trans ((A.trans H).block q m hn)⟩;have X:ExS (fun b=>w.heap.size<=b/\b≠rb/\b≠w.heap.size) r [Ji j.kind,Ji j.num,str j.txt,.slice J L K,Ji j.at_] j:=by
    have q1:=Qag.same _ _ r _ _ (Qag.mono _ (fun b=>au.heap.size<=b) _ _ _ an (fun b _ u=>u)) (by omega) (fun b u hl=>oX b (by omega));exact Qag.mono _ _ _ _ _ q1 (fun b _ u=>⟨by omega,by omega,by omega⟩)
   have XX:=hide (Ya hX (Ya kX (Ya mX (Ya ((oX _ e3.symm).trans z3) (Ya X (show CoY a i y Z i yX from ⟨rfl,by omega,fun e=>⟨(Qa HY).1,(ap e).2⟩⟩))))));obtain⟨c,a8⟩:=JE j;rw[<- a8]at XX S3 SX;rw[<- a8];clear an av ap h3 H Q A P O s2 s a0 e1 e2 e3 ay m3 z3 z oX sX mX hX kX X a8 Y HI a5;obtain⟨t,k4,m4,z4,a3,a6⟩:=Qa XX;obtain⟨aA,aB,aC,aD,aE,aF,xf⟩:=cl6 t.box;obtain⟨o,B⟩:=JE (r.setCell (Ja rb 2) (Ji (d:Int)));have h5:Rr rb g cap l o Z d i yX fX:=by rw[B];exact t.setD (by have:=t.dd;omega)
   have x:Kp rb w o:=by rw[B];exact k4.trans (Kp.set _ _ _ _)
   have M:∀q,q≠rb->o.heap[q]?=r.heap[q]?:=fun q m=>by rw[B];exact hpS m
   have s5:o.heap.size=r.heap.size:=by rw[B];simp
   obtain⟨s,U,a7⟩:=Qa a4;have m5:=(M E s).trans m4;have V:=(M w.heap.size U).trans z4;have L5:=Qdg m5;have S5:=Qbv (new:=#[Ji c.kind,Ji c.num,str c.txt,.slice J L K,Ji c.at_]) V rfl rfl (by simp[Value.oneCell',str]);obtain⟨p,k⟩:=JE (o.setRow w.heap.size #[Ji c.kind,Ji c.num,str c.txt,.slice J L K,Ji c.at_]);rw[<- k]at S5;have D:∀q,q≠w.heap.size->p.heap[q]?=o.heap[q]?:=fun q m=>by rw[k];exact setRow_other _ _ _ _ m
   have s6:p.heap.size=o.heap.size:=by rw[k,size_setRow]
   have N:p.heap[w.heap.size]?=some (.cells #[Ji c.kind,Ji c.num,str c.txt,.slice J L K,Ji c.at_] 59 (0,0)):=by rw[k];exact setRow_heap _ _ _ _ _ _ V
   have C:=h5.move (w':=p) (by omega) (D rb U.symm) (D g (Qa ag));have I:Kp rb w p:=⟨by rw[k];exact x.os,by rw[k];exact x.tape,by rw[k];exact x.output,by rw[s6];exact x.size,fun q m hn=>(D q (by omega)).trans (x.block q m hn)⟩;have G:ExS (fun b=>w.heap.size<=b) p [Ji c.kind,Ji c.num,str c.txt,.slice J L K,Ji c.at_] c:=by
    have q1:=Qag.same _ _ p _ _ a3 (by omega) (fun b u hl=>(D b u.2.2).trans (M b u.2.1));exact Qag.mono _ _ _ _ _ q1 (fun b _ u=>u.1)
   have HF:=hide (Ya C (Ya I (Ya N G)));have az:IntKind.i64.wrap ((d:Int)+1 - 1)=(d:Int):=by rw[show(d:Int)+1 - 1=(d:Int) by omega];exact Qen d (by have:=t.dd;omega)
   have ax:=t.dd;clear t k4 m4 z4 a3 h5 x M s5 s U a7 m5 V D s6 N C I G k;subst B;go_wp2_with fail;obtain⟨C,I,N,G⟩:=Qa HF;obtain⟨aa,ab,ac,ad,ae,zf⟩:=ex5 N;refine bodyPost_ret (v:=.agg #[Ji c.kind,Ji c.num,str c.txt,.slice J L K,Ji c.at_]) (by simp[results,Tryz.results108,Tryz.results132,go_sem,aa,ab,ac,ad,ae]) rfl ?_;exact⟨_,_,_,_,_,rfl,⟨c,⟨_,rfl,⟨_,_,_,rfl⟩,G⟩,szQ.of C (Qa SX)⟩,a6,C,I⟩
  rw[decide_eq_false R]at W;obtain⟨r,z⟩:=JE T;obtain⟨Q,A,P,O,s2,s,a0⟩:=Qa Y;obtain⟨e1,e2,e3⟩:=Qa a4;obtain⟨yX,a9⟩:=JE y1;obtain⟨fX,aj⟩:=JE f1;obtain⟨Z,aw⟩:=JE a;obtain⟨c,X⟩:=JE Ex.none;have am:ExS (fun b=>w.heap.size<=b/\b≠rb/\b≠w.heap.size) T [Ji c.kind,Ji c.num,str c.txt,Jn,Ji c.at_] c:=by rw[X];exact Qcf _ _ 0 0 0 []
  have aq:T.heap[E]?=some (.cells #[Ji c.kind,Ji c.num,str c.txt,Jn,Ji c.at_] 59 (0,0)):=by rw[X];exact P
  have XX:=hide (Ya Q (Ya A (Ya aq (Ya O (Ya am (show CoY a i y a i y1 from ⟨rfl,Nat.le_refl _,fun e=>absurd e R⟩))))));have SX:=hide (show yX=0->exQ c+2*a<=2*Z from fun e=>absurd (a9.symm.trans e) R);clear R Q A P O s2 s a0 e1 e2 e3 am aq Y HI a5 X;refine W.mono ?_;clear W;rintro en au⟨rfl,rfl⟩;rw[<- z,<- a9,<- aj]at XX;rw[<- z];clear z a9 aj;subst aw;obtain⟨t,k4,m4,z4,a3,a6⟩:=Qa XX;obtain⟨aA,aB,aC,aD,aE,aF,xf⟩:=cl6 t.box;obtain⟨o,B⟩:=JE (r.setCell (Ja rb 2) (Ji (d:Int)));have h5:Rr rb g cap l o Z d i yX fX:=by rw[B];exact t.setD (by have:=t.dd;omega)
  have x:Kp rb w o:=by rw[B];exact k4.trans (Kp.set _ _ _ _)
  have M:∀q,q≠rb->o.heap[q]?=r.heap[q]?:=fun q m=>by rw[B];exact hpS m
  have s5:o.heap.size=r.heap.size:=by rw[B];simp
  obtain⟨s,U,a7⟩:=Qa a4;have m5:=(M E s).trans m4;have V:=(M w.heap.size U).trans z4;have L5:=Qdg m5;have S5:=Qbv (new:=#[Ji c.kind,Ji c.num,str c.txt,Jn,Ji c.at_]) V rfl rfl (by simp[Value.oneCell',str]);obtain⟨p,k⟩:=JE (o.setRow w.heap.size #[Ji c.kind,Ji c.num,str c.txt,Jn,Ji c.at_]);rw[<- k]at S5;have D:∀q,q≠w.heap.size->p.heap[q]?=o.heap[q]?:=fun q m=>by rw[k];exact setRow_other _ _ _ _ m
  have s6:p.heap.size=o.heap.size:=by rw[k,size_setRow]
  have N:p.heap[w.heap.size]?=some (.cells #[Ji c.kind,Ji c.num,str c.txt,Jn,Ji c.at_] 59 (0,0)):=by rw[k];exact setRow_heap _ _ _ _ _ _ V
  have C:=h5.move (w':=p) (by omega) (D rb U.symm) (D g (Qa ag));have I:Kp rb w p:=⟨by rw[k];exact x.os,by rw[k];exact x.tape,by rw[k];exact x.output,by rw[s6];exact x.size,fun q m hn=>(D q (by omega)).trans (x.block q m hn)⟩;have G:ExS (fun b=>w.heap.size<=b) p [Ji c.kind,Ji c.num,str c.txt,Jn,Ji c.at_] c:=by
   have q1:=Qag.same _ _ p _ _ a3 (by omega) (fun b u hl=>(D b u.2.2).trans (M b u.2.1));exact Qag.mono _ _ _ _ _ q1 (fun b _ u=>u.1)
  have HF:=hide (Ya C (Ya I (Ya N G)));have az:IntKind.i64.wrap ((d:Int)+1 - 1)=(d:Int):=by rw[show(d:Int)+1 - 1=(d:Int) by omega];exact Qen d (by have:=t.dd;omega)
  have ax:=t.dd;clear t k4 m4 z4 a3 h5 x M s5 s U a7 m5 V D s6 N C I G k;subst B;go_wp2_with fail;obtain⟨C,I,N,G⟩:=Qa HF;obtain⟨aa,ab,ac,ad,ae,zf⟩:=ex5 N;refine bodyPost_ret (v:=.agg #[Ji c.kind,Ji c.num,str c.txt,Jn,Ji c.at_]) (by simp[results,Tryz.results108,Tryz.results132,go_sem,aa,ab,ac,ad,ae]) rfl ?_;exact⟨_,_,_,_,_,rfl,⟨c,⟨_,rfl,⟨_,_,_,rfl⟩,G⟩,szQ.of C (Qa SX)⟩,a6,C,I⟩
theorem Qme{rb g cap a d i:Nat}{l:List Tok}{w:World}{y f:Int}(h:Rr rb g cap l w a d i y f)(hd:d<64)(hI:d<32->ExC 121 rb g cap l (d+1) #[.pointer (Js rb),Ji 0]):
  Calls Tryz.prog 108 #[.pointer (Js rb)] w fun en w'=>RA rb g cap l w d (exV rb a w) (CoY a i y) en w':=Quf h hd (.inl ⟨rfl,hI⟩)
theorem Qhc{rb g cap a d i:Nat}{l:List Tok}{w:World}{y f:Int}(h:Rr rb g cap l w a d i y f)(hd:d<64)(hI:d<32->ExC 135 rb g cap l (d+1) #[.pointer (Js rb)]):
  Calls Tryz.prog 132 #[.pointer (Js rb)] w fun en w'=>RA rb g cap l w d (exV rb a w) (CoY a i y) en w':=Quf h hd (.inr ⟨rfl,hI⟩)
end
end Go.Proofs.YtkhndlnadhggkaaGreat
