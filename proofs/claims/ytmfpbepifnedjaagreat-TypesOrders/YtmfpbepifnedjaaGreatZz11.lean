/- The document's reader. -/
import Derived.Test.YtmfpbepifnedjaaGreatZz01
import Derived.Test.YtmfpbepifnedjaaGreatZz10
import Derived.Deep.Cut
import Derived.Deep.CutRange
import Derived.Test.YtmfpbepifnedjaaGreatZz08
set_option maxRecDepth 100000
set_option maxHeartbeats 32000000
namespace Go.Proofs.YtmfpbepifnedjaaGreat
section
open Go.RowKit Go.Maps
def fdV(w:World)(w':World)(v:Value):Prop:=∃fs:List Fld,LsAt PF 2 (fun b=>w.heap.size<=b) w' v fs
theorem Qeg{rb g cap a d i:Nat}{l:List Tok}{w:World}{y f:Int}(h:Rr rb g cap l w a d i y f)(so se:ByteArray):
  Calls Tryz.prog 90 #[.pointer (Js rb),.string so,.string se] w fun en w'=>RA rb g cap l w d (fdV w) (CoY a i y) en w':=by
 have E:=Qbl h so
 have D:=hide (Ya (Qaa h.box) h.row.lt)
 clear h
 go_enter Tryz.func90,Tryz.ntmps90
 go_wp2_with fail
 refine E.mono ?_
 clear E
 rintro en w1⟨_,a0,i0,y0,f0,rfl,rfl,⟨k,an,aa⟩,h0,k0⟩
 rw[k]at h0
 clear k
 have H0:=hide (Ya an (Ya aa (Ya h0 k0)))
 clear an aa h0 k0
 go_wp2_with fail
 go_loopw [7,8] (fun sl fb wr=>∃(j:List Fld) (t:Nat) (S f1:Int) (au:Bool) (sa:Option Addr) (sc:Nat),sl = .slice sa j.length sc/\fb = .bool au/\j.length<=sc/\sc<=maxLen/\Hid (Qown PF 2 67 w wr sl j/\Rr rb g cap l wr t d i S f1/\Kp rb w wr/\j.length<=t+1/\a<=t/\(S=0->y=0/\a<t/\j.length<=t))) (fun _ _ wr=>leftR rb l.length wr)
 case atStart=>
  obtain⟨an,aa,h0,k0⟩:=Qa H0
  exact⟨[],a0,y0,f0,true,none,0,rfl,rfl,Nat.le_refl _,by unfold maxLen;omega,hide ⟨Qown.nil _ _,h0,k0,Nat.zero_le _,an,fun e=>⟨(aa e).1,(aa e).2,Nat.zero_le _⟩⟩⟩
 obtain⟨j,t,S,f1,au,sa,sc,rfl,rfl,aW,aM,m⟩:=hrel
 unfold maxLen at aM
 clear H0
 go_upto_region 4 with fail
 go_cut [31] from 13 to 48 (fun c wc=>∃(b:Bool) (z:Nat) (fX:Int),c = .bool b/\Hid (Qown PF 2 67 w wc (.slice sa j.length sc) j/\Rr rb g cap l wc z d i S fX/\Kp rb w wc/\j.length<=z+1/\(S=0->y=0)/\a<=z/\t<=z/\(b=true->S=0/\j.length<=z)))
 case first=>
  have F:=Qaw (Qa m).2.1
  by_cases hy:S=0
  ·
   rw[decide_eq_true hy]at F
   have M:=hide hy
   clear hy
   have s:=(Qa m).2.2.2.2
   have W:=s.2 (Qa M)
   have ap:=hide (Ya s W)
   clear s W
   cases au
   ·
    have aB:=Qbf (Qa m).2.1 ⟨#[44]⟩
    go_wp2_with fail
    refine F.mono ?_
    clear F
    rintro en wq⟨rfl,rfl⟩
    go_wp2_with fail
    refine aB.mono ?_
    clear aB
    rintro en P⟨b,a2,f2,rfl,aG,ax,v,k2⟩
    have e2:t<=a2:=by
     cases b with
     |true=>have:=(aG rfl).2;omega
     |false=>have:=ax rfl;omega
    have o:=hide (Ya ((Qa m).1.kp Qbb k2 (Qa D).1) (Ya v (Ya ((Qa m).2.2.1.trans k2) e2)))
    clear aG ax v k2 e2
    cases b
    ·
     go_wp2_with fail
     go_meet
     obtain⟨O,v,u,e2⟩:=Qa o
     obtain⟨s,W⟩:=Qa ap
     exact⟨false,a2,f2,rfl,hide ⟨O,v,u,by omega,fun e=>(s.2 e).1,by omega,e2,fun e=>by cases e⟩⟩
    go_wp2_with fail
    go_meet
    obtain⟨O,v,u,e2⟩:=Qa o
    obtain⟨s,W⟩:=Qa ap
    exact⟨true,a2,f2,rfl,hide ⟨O,v,u,by omega,fun e=>(s.2 e).1,by omega,e2,fun _=>⟨Qa M,by omega⟩⟩⟩
   have aw:=Qcj (Qa m).2.1 se
   go_wp2_with fail
   refine F.mono ?_
   clear F
   rintro en wq⟨rfl,rfl⟩
   go_wp2_with fail
   refine aw.mono ?_
   clear aw
   rintro en P⟨b,rfl,hb,b2⟩
   have o:=hide (Ya ((Qa m).1.kp Qbb (Kp.of_below (rb:=rb) b2) (Qa D).1) (Ya ((Qa m).2.1.later b2) ((Qa m).2.2.1.trans (Kp.of_below b2))))
   clear hb b2
   cases b
   ·
    go_wp2_with fail
    go_meet
    obtain⟨O,v,u⟩:=Qa o
    obtain⟨s,W⟩:=Qa ap
    exact⟨true,t,f1,rfl,hide ⟨O,v,u,by omega,fun e=>(s.2 e).1,s.1,Nat.le_refl _,fun _=>⟨Qa M,by omega⟩⟩⟩
   go_wp2_with fail
   go_meet
   obtain⟨O,v,u⟩:=Qa o
   obtain⟨s,W⟩:=Qa ap
   exact⟨false,t,f1,rfl,hide ⟨O,v,u,by omega,fun e=>(s.2 e).1,s.1,Nat.le_refl _,fun e=>by cases e⟩⟩
  rw[decide_eq_false hy]at F
  have M:=hide hy
  clear hy
  go_wp2_with fail
  refine F.mono ?_
  clear F
  rintro en wq⟨rfl,rfl⟩
  go_wp2_with fail
  go_meet
  exact⟨false,t,f1,rfl,hide ⟨(Qa m).1,(Qa m).2.1,(Qa m).2.2.1,(Qa m).2.2.2.1,fun e=>absurd e (Qa M),(Qa m).2.2.2.2.1,Nat.le_refl _,fun e=>by cases e⟩⟩
 obtain⟨b,z,fX,rfl,p⟩:=hcut
 cases b
 ·
  have o:=hide (Ya (Qa p).1 (Ya (Qa p).2.1 (Ya (Qa p).2.2.1 (Ya (Qa p).2.2.2.1 (Ya (Qa p).2.2.2.2.1 (Qa p).2.2.2.2.2)))))
  have E:=Qbl (Qa o).2.1 se
  go_wp2_with fail
  refine E.mono ?_
  clear E
  rintro en w9⟨_,a9,i9,y9,f9,rfl,rfl,⟨k,ar,ae⟩,h9,k9⟩
  rw[k]at h9
  clear k
  have HZ:=hide (Ya ar (Ya ae (Ya h9 k9)))
  clear ar ae h9 k9
  go_wp2_with fail
  go_ret
  obtain⟨ar,ae,h9,k9⟩:=Qa HZ
  obtain⟨G,v,k2,aS,aP,aU,_⟩:=Qa o
  exact⟨_,_,_,_,_,rfl,⟨j,(G.kp Qbb k9 (Qa D).1).ls Qbb⟩,⟨rfl,by omega,fun e=>⟨aP (ae e).1,by have:=(ae e).2;omega⟩⟩,h9,k2.trans k9⟩
 have M:=hide ((Qa p).2.2.2.2.2.2.2 rfl).1
 have o:=hide (Ya (Qa p).1 (Ya (Qa p).2.1 (Ya (Qa p).2.2.1 (Ya ((Qa p).2.2.2.2.2.2.2 rfl).2 (Ya (Qa p).2.2.2.2.1 (Ya (Qa p).2.2.2.2.2.1 (Qa p).2.2.2.2.2.2.1))))))
 clear p
 go_upto_if 34 with fail
 go_cut [] from 13 to 48 (fun P=>∃(yF fF:Int),Hid (Qown PF 2 67 w P (.slice sa j.length sc) j/\Rr rb g cap l P z d i yF fF/\Kp rb w P/\j.length<=z/\(yF=0->y=0)/\a<=z/\t<=z))
 case first=>
  by_cases h8:8<=j.length
  ·
   have g8:(8:Int)<=(j.length:Int):=by omega
   have aH:=Qbe (Qa o).2.1 (why:=3) (by decide)
   clear h8
   go_wp2_with fail
   refine aH.mono ?_
   clear aH
   rintro en wf⟨_,a3,i3,y3,f3,rfl,rfl,⟨ea,k,aD⟩,u,k3⟩
   rw[ea,k]at u
   clear ea k
   have XF:=hide (Ya ((Qa o).1.kp Qbb k3 (Qa D).1) (Ya u (Ya ((Qa o).2.2.1.trans k3) (Ya (Qa o).2.2.2.1 (Ya (show y3=0->y=0 from fun e=>absurd e aD) (Qa o).2.2.2.2.2)))))
   clear u k3 aD
   go_wp2_with fail
   go_meet
   exact⟨_,_,XF⟩
  have g8:¬((8:Int)<=(j.length:Int)):=by omega
  clear h8
  go_wp2_with fail
  go_meet
  exact⟨_,_,o⟩
 obtain⟨yF,fF,XF⟩:=hcut
 obtain⟨P,aI⟩:=JE wc
 subst aI
 clear o
 have aE:=Qcb (Qa XF).2.1
 go_wp2_with fail
 refine aE.mono ?_
 clear aE
 rintro en N⟨_,a4,i4,y4,f4,rfl,⟨R,rfl,-⟩,⟨k,H,A⟩,h4,k4⟩
 rw[k]at h4
 clear k
 obtain⟨W5,aj⟩:=JE (N.alloc (.cells #[str R,Je] 67))
 have L:Below N.heap.size N W5:=by rw[aj];exact(Below.refl _ N).alloc (Nat.le_refl _) _
 have X:W5.heap[N.heap.size]?=some (.cells #[str R,Je] 67 (0,0)):=by rw[aj];exact heap_alloc_new N _
 have E:=Qbl (h4.later L) ⟨#[58]⟩
 obtain⟨Q,ag⟩:=JF N.heap.size
 have H4:=hide (Ya H (Ya A (Ya k4 (Ya L (Ya X ag)))))
 have aC:=hide aj
 clear H A h4 k4 L X aj ag
 go_wp2_with fail
 rw[<- Qa aC,(Qa H4).2.2.2.2.2]
 clear aC
 refine E.mono ?_
 clear E
 rintro en w6⟨_,a6,i6,y6,f6,rfl,rfl,⟨k,I,B⟩,h6,T⟩
 rw[k]at h6
 clear k
 have ay:=Qdm h6
 have H6:=hide (Ya I (Ya B T))
 clear I B h6 T
 go_wp2_with fail
 refine ay.mono ?_
 clear ay
 rintro en Z⟨_,a7,i7,y7,f7,rfl,⟨Y,rfl,-⟩,⟨k,al,V⟩,h7,k7⟩
 rw[k]at h7
 clear k
 obtain⟨H,A,k4,L,X,ag⟩:=Qa H4
 obtain⟨I,B,T⟩:=Qa H6
 obtain⟨G,K,kX,ao,ac,am,ak⟩:=Qa XF
 have aK:=k4.size
 have aL:=kX.size
 have aO:=L.size
 have aN:=T.size
 have aR:=k7.size
 rw[ag]at X
 have ai:Q≠rb:=by have:=(Qa D).1;omega
 have aA:Q≠g:=by have:=(Qa D).2;omega
 have n7:Z.heap[Q]?=some (.cells #[str R,Je] 67 (0,0)):=k7.keep (T.keep X ai) ai
 obtain⟨w8,C⟩:=JE (Z.setCell (Ja Q 1) (str Y))
 have n8:w8.heap[Q]?=some (.cells #[str R,str Y] 67 (0,0)):=by rw[C];exact(Qah n7 1 _).trans rfl
 have s8:w8.heap.size=Z.heap.size:=by rw[C];simp
 have o8:∀q,q≠Q->w8.heap[q]?=Z.heap[q]?:=fun q G=>by rw[C];exact hpS G
 have h8:=h7.move (w':=w8) (by omega) (o8 rb ai.symm) (o8 g aA.symm)
 have az:Kp rb P w8:=by
  have kk:=((k4.trans (Kp.of_below L)).trans T).trans k7
  refine⟨by rw[C];exact kk.os,by rw[C];exact kk.tape,by rw[C];exact kk.output,by rw[s8];exact kk.size,fun q G hn=>(o8 q (by omega)).trans (kk.block q G hn)⟩
 obtain⟨i0,hi,hz,aF,av⟩:=infoF
 obtain⟨r,wz,a5,af,J,U⟩:=G.more Qbb (by kernel_rfl:Tryz.prog.underlying 46=some (.slice 67)) hi hz aF av rfl (by decide) (by decide) kX (x:=⟨R,Y⟩) (cs:=[str R,str Y]) rfl (by simp[Value.oneCell',str]) rfl h8 az (Qa D).1 (Qa D).2 (by have:=K.lt;have:=K.few;omega)
 obtain⟨ra,rc,er,ad,ab⟩:=U.sl
 subst er
 rw[C]at a5
 rw[show(Z.setCell (Ja Q 1) (str Y)).heap.size=Z.heap.size by simp]at a5
 have aq:=hide a5
 obtain⟨aV,aT,xf⟩:=cl2 n7
 obtain⟨aJ,aQ,zf⟩:=cl2 n8
 rw[C]at aJ aQ
 have ah:=Qan (Qa m).2.1 l.length
 have a8:=Qan J l.length
 have HE:=hide (Ya U (Ya J (Ya af (Ya ad (Ya ab (Ya H (Ya A (Ya I (Ya B (Ya al (Ya V (Ya ao (Ya ac (Ya ah (Ya a8 (Ya K (Ya am ak)))))))))))))))))
 clear H A k4 L X ag I B T h7 k7 G K kX ao ac am ak aK aL aO aN aR ai aA n7 C n8 s8 o8 h8 az hi hz aF av a5 af J U ad ab zf ah a8 al V
 go_wp2_with (at_builtin;refine Qai _ rfl _ _ 46 rfl _ _ rfl rfl _ _ (Qa aq) ?_;clear aq)
 go_roundw
 case rel=>
  obtain⟨U,J,af,ad,ab,H,A,I,B,al,V,ao,ac,ah,a8,K,am,ak⟩:=Qa HE
  refine⟨j++[⟨R,Y⟩],_,_,_,false,ra,rc,by simp,rfl,ad,ab,hide ⟨by simpa only[List.length_append,List.length_singleton] using U,J,af,by rw[List.length_append,List.length_singleton];omega,by omega,fun e=>by
   have e7:=V e
   have e6:=B e7.1
   have e4:=A e6.1
   exact⟨ac e4.1,by omega,by rw[List.length_append,List.length_singleton];omega⟩⟩⟩
 obtain⟨U,J,af,ad,ab,H,A,I,B,al,V,ao,ac,ah,a8,K,am,ak⟩:=Qa HE
 have:=K.lt
 have aY:=(Qa m).2.1.lt
 rw[ah,a8,if_pos (Qa M)]
 split
 ·
  rename_i e
  have e7:=V e
  have e6:=B e7.1
  have e4:=A e6.1
  have:=J.lt
  omega
 ·omega
def rdOk(rb:Nat)(w:World):Prop:=w.cell? ⟨rb,4,none⟩=some (.int .i64 0)
theorem Qtb{rb:Nat}{w:World}{v0 v1 v2 v3 v5:Value}{y:Int}(h:w.heap[rb]?=some (.cells #[v0,v1,v2,v3,Ji y,v5] 75 (0,0))):rdOk rb w↔y=0:=by
 have e:w.cell? (Ja rb 4)=some (Ji y):=by rw[Qad h];rfl
 unfold rdOk
 rw[e]
 constructor
 ·
  intro q
  simpa using q
 intro q
 rw[q]
theorem Rr.ok{rb g cap a d i:Nat}{l:List Tok}{w:World}{y f:Int}(h:Rr rb g cap l w a d i y f):rdOk rb w↔y=0:=Qtb h.box
def szQ(rb a n:Nat)(w:World):Prop:=rdOk rb w -> ∀a':Nat,w.cell? ⟨rb,1,none⟩=some (.int .i64 (a':Int))->n+2*a<=2*a'
section
variable {rb g cap a a' d i n:Nat}{l:List Tok}{w:World}{y f:Int}
theorem Rr.idx(h:Rr rb g cap l w a' d i y f):w.cell? (Ja rb 1)=some (Ji (a':Int)):=(Qad h.box 1).trans rfl
theorem szQ.of(h:Rr rb g cap l w a' d i y f)(hn:y=0->n+2*a<=2*a'):szQ rb a n w:=fun j b c=>by
 rw[h.idx]at c
 have e:=(Rr.ok h).1 j
 simp only[Option.some.injEq,Value.int.injEq,true_and]at c
 have:=hn e
 omega
theorem szQ.at(s:szQ rb a n w)(h:Rr rb g cap l w a' d i y f)(hy:y=0):n+2*a<=2*a':=s ((Rr.ok h).2 hy) a' h.idx
theorem szQ.bad(h:Rr rb g cap l w a' d i y f)(hy:y≠0):szQ rb a n w:=szQ.of h (fun e=>absurd e hy)
end
def exV(rb a:Nat)(w:World)(w':World)(v:Value):Prop:=∃x:Ex,VE (fun b=>w.heap.size<=b) w' v x/\szQ rb a (exQ x) w'
def ExC(F rb g cap:Nat)(l:List Tok)(d:Nat)(args:Array Value):Prop:=∀(w:World) (a i:Nat) (y f:Int),Rr rb g cap l w a d i y f->Calls Tryz.prog F args w fun en w'=>RA rb g cap l w d (exV rb a w) (CoY a i y) en w'
def esV(rb a:Nat)(w:World)(w':World)(v:Value):Prop:=∃xs:List Ex,LsAt PE 5 (fun b=>w.heap.size<=b) w' v xs/\szQ rb a (exQs xs) w'
theorem Qjt{rb g cap a d i:Nat}{l:List Tok}{w:World}{y f:Int}(h:Rr rb g cap l w a d i y f)(hE:ExC 108 rb g cap l d #[.pointer (Js rb)]):
  Calls Tryz.prog 107 #[.pointer (Js rb)] w fun en w'=>RA rb g cap l w d (esV rb a w) (CoY a i y) en w':=by
 have T:=Qbl h ⟨#[40]⟩
 have av:=hide hE
 have J:=hide (Ya (Qaa h.box) h.row.lt)
 clear h hE
 go_enter Tryz.func107,Tryz.ntmps107
 go_wp2_with fail
 refine T.mono ?_
 clear T
 rintro en w1⟨_,a0,i0,y0,f0,rfl,rfl,⟨u,a5,I⟩,Y,k0⟩
 rw[u]at Y
 clear u
 have H0:=hide (Ya a5 (Ya I (Ya Y k0)))
 clear a5 I Y k0
 go_wp2_with fail
 go_loopw [3,4] (fun sl fb wr=>∃(j:List Ex) (s:Nat) (z Z:Int) (af:Bool) (sa:Option Addr) (sc:Nat),sl = .slice sa j.length sc/\fb = .bool af/\j.length<=sc/\sc<=maxLen/\Hid (Qown PE 5 59 w wr sl j/\Rr rb g cap l wr s d i z Z/\Kp rb w wr/\j.length<=s+1/\a<=s/\(z=0->y=0/\a<s/\j.length<=s))/\Hid (z=0->exQs j+2*a<=2*s)) (fun _ _ wr=>leftR rb l.length wr)
 case atStart=>
  obtain⟨a5,I,Y,k0⟩:=Qa H0
  exact⟨[],a0,y0,f0,true,none,0,rfl,rfl,Nat.le_refl _,by unfold maxLen;omega,hide ⟨Qown.nil _ _,Y,k0,Nat.zero_le _,a5,fun e=>⟨(I e).1,(I e).2,Nat.zero_le _⟩⟩,hide (fun e=>by rw[exQs];have:=(I e).2;omega)⟩
 obtain⟨j,s,z,Z,af,sa,sc,rfl,rfl,aA,aw,k,SZ⟩:=hrel
 unfold maxLen at aw
 clear H0
 go_upto_region 4 with fail
 go_cut [24] from 7 to 34 (fun c wc=>∃(b:Bool) (q:Nat) (fX:Int),c = .bool b/\Hid (Qown PE 5 59 w wc (.slice sa j.length sc) j/\Rr rb g cap l wc q d i z fX/\Kp rb w wc/\j.length<=q+1/\(z=0->y=0)/\a<=q/\s<=q/\(b=true->z=0/\j.length<=q))/\Hid (z=0->exQs j+2*a<=2*q))
 case first=>
  have A:=Qaw (Qa k).2.1
  by_cases L:z=0
  ·
   rw[decide_eq_true L]at A
   have B:=hide L
   clear L
   have p:=(Qa k).2.2.2.2
   have K:=p.2 (Qa B)
   have ab:=hide (Ya p K)
   clear p K
   cases af
   ·
    have an:=Qbf (Qa k).2.1 ⟨#[44]⟩
    go_wp2_with fail
    refine A.mono ?_
    clear A
    rintro en wq⟨rfl,rfl⟩
    go_wp2_with fail
    refine an.mono ?_
    clear an
    rintro en O⟨b,a2,f2,rfl,ao,aj,t,X⟩
    have M:s<=a2:=by
     cases b with
     |true=>have:=(ao rfl).2;omega
     |false=>have:=aj rfl;omega
    have m:=hide (Ya ((Qa k).1.kp Qaf X (Qa J).1) (Ya t (Ya ((Qa k).2.2.1.trans X) M)))
    clear ao aj t X M
    cases b
    ·
     go_wp2_with fail
     go_meet
     obtain⟨G,t,v,M⟩:=Qa m
     obtain⟨p,K⟩:=Qa ab
     exact⟨false,a2,f2,rfl,hide ⟨G,t,v,by omega,fun e=>(p.2 e).1,by omega,M,fun e=>by cases e⟩,hide (fun e=>by have h:=Qa SZ e;omega)⟩
    go_wp2_with fail
    go_meet
    obtain⟨G,t,v,M⟩:=Qa m
    obtain⟨p,K⟩:=Qa ab
    exact⟨true,a2,f2,rfl,hide ⟨G,t,v,by omega,fun e=>(p.2 e).1,by omega,M,fun _=>⟨Qa B,by omega⟩⟩,hide (fun e=>by have h:=Qa SZ e;omega)⟩
   have ai:=Qcj (Qa k).2.1 ⟨#[41]⟩
   go_wp2_with fail
   refine A.mono ?_
   clear A
   rintro en wq⟨rfl,rfl⟩
   go_wp2_with fail
   refine ai.mono ?_
   clear ai
   rintro en O⟨b,rfl,hb,b2⟩
   have m:=hide (Ya ((Qa k).1.kp Qaf (Kp.of_below (rb:=rb) b2) (Qa J).1) (Ya ((Qa k).2.1.later b2) ((Qa k).2.2.1.trans (Kp.of_below b2))))
   clear hb b2
   cases b
   ·
    go_wp2_with fail
    go_meet
    obtain⟨G,t,v⟩:=Qa m
    obtain⟨p,K⟩:=Qa ab
    exact⟨true,s,Z,rfl,hide ⟨G,t,v,by omega,fun e=>(p.2 e).1,p.1,Nat.le_refl _,fun _=>⟨Qa B,by omega⟩⟩,hide (fun e=>by have h:=Qa SZ e;omega)⟩
   go_wp2_with fail
   go_meet
   obtain⟨G,t,v⟩:=Qa m
   obtain⟨p,K⟩:=Qa ab
   exact⟨false,s,Z,rfl,hide ⟨G,t,v,by omega,fun e=>(p.2 e).1,p.1,Nat.le_refl _,fun e=>by cases e⟩,hide (fun e=>by have h:=Qa SZ e;omega)⟩
  rw[decide_eq_false L]at A
  have B:=hide L
  clear L
  go_wp2_with fail
  refine A.mono ?_
  clear A
  rintro en wq⟨rfl,rfl⟩
  go_wp2_with fail
  go_meet
  exact⟨false,s,Z,rfl,hide ⟨(Qa k).1,(Qa k).2.1,(Qa k).2.2.1,(Qa k).2.2.2.1,fun e=>absurd e (Qa B),(Qa k).2.2.2.2.1,Nat.le_refl _,fun e=>by cases e⟩,hide (fun e=>by have h:=Qa SZ e;omega)⟩
 obtain⟨b,q,fX,rfl,o,SX⟩:=hcut
 cases b
 ·
  have m:=hide (Ya (Qa o).1 (Ya (Qa o).2.1 (Ya (Qa o).2.2.1 (Ya (Qa o).2.2.2.1 (Ya (Qa o).2.2.2.2.1 (Qa o).2.2.2.2.2)))))
  have T:=Qbl (Qa m).2.1 ⟨#[41]⟩
  go_wp2_with fail
  refine T.mono ?_
  clear T
  rintro en w9⟨_,a9,i9,y9,f9,rfl,rfl,⟨u,ag,C⟩,N,k9⟩
  rw[u]at N
  clear u
  have HZ:=hide (Ya ag (Ya C (Ya N k9)))
  clear ag C N k9
  go_wp2_with fail
  go_ret
  obtain⟨ag,C,N,k9⟩:=Qa HZ
  obtain⟨hq,t,X,ax,au,az,_⟩:=Qa m
  exact⟨_,_,_,_,_,rfl,⟨j,(hq.kp Qaf k9 (Qa J).1).ls Qaf,szQ.of N (fun e=>by have h:=Qa SX (C e).1;have:=(C e).2;omega)⟩,⟨rfl,by omega,fun e=>⟨au (C e).1,by have:=(C e).2;omega⟩⟩,N,X.trans k9⟩
 have B:=hide ((Qa o).2.2.2.2.2.2.2 rfl).1
 have m:=hide (Ya (Qa o).1 (Ya (Qa o).2.1 (Ya (Qa o).2.2.1 (Ya ((Qa o).2.2.2.2.2.2.2 rfl).2 (Ya (Qa o).2.2.2.2.1 (Ya (Qa o).2.2.2.2.2.1 (Qa o).2.2.2.2.2.2.1))))))
 clear o
 go_upto_if 27 with fail
 go_cut [] from 7 to 34 (fun O=>∃(yF fF:Int),Hid (Qown PE 5 59 w O (.slice sa j.length sc) j/\Rr rb g cap l O q d i yF fF/\Kp rb w O/\j.length<=q/\(yF=0->y=0)/\a<=q/\s<=q)/\Hid (yF=0->exQs j+2*a<=2*q))
 case first=>
  by_cases h8:8<=j.length
  ·
   have g8:(8:Int)<=(j.length:Int):=by omega
   have aq:=Qbe (Qa m).2.1 (why:=3) (by decide)
   clear h8
   go_wp2_with fail
   refine aq.mono ?_
   clear aq
   rintro en wf⟨_,a3,i3,y3,f3,rfl,rfl,⟨ea,u,ae⟩,v,k3⟩
   rw[ea,u]at v
   clear ea u
   have XF:=hide (Ya ((Qa m).1.kp Qaf k3 (Qa J).1) (Ya v (Ya ((Qa m).2.2.1.trans k3) (Ya (Qa m).2.2.2.1 (Ya (show y3=0->y=0 from fun e=>absurd e ae) (Qa m).2.2.2.2.2)))))
   have SF:=hide (show y3=0->exQs j+2*a<=2*q from fun e=>absurd e ae)
   clear v k3 ae
   go_wp2_with fail
   go_meet
   exact⟨_,_,XF,SF⟩
  have g8:¬((8:Int)<=(j.length:Int)):=by omega
  clear h8
  go_wp2_with fail
  go_meet
  exact⟨_,_,m,hide (fun _=>Qa SX (Qa B))⟩
 obtain⟨yF,fF,XF,SF⟩:=hcut
 obtain⟨O,ar⟩:=JE wc
 subst ar
 clear m
 have am:=Qa av _ _ _ _ _ (Qa XF).2.1
 go_wp2_with fail
 refine am.mono ?_
 clear am
 rintro en w7⟨_,a7,i7,y7,f7,rfl,⟨P,⟨_,rfl,⟨ka,kn,kc,rfl⟩,al⟩,ap⟩,⟨u,aa,E⟩,h7,k7⟩
 rw[u]at h7
 clear u
 have S7:=hide (fun e:y7=0=>ap.at h7 e)
 clear ap
 obtain⟨hq,F,kX,a6,Q,a4,a8⟩:=Qa XF
 obtain⟨i0,hi,hz,ak,ah⟩:=infoE
 obtain⟨r,wz,ac,S,D,H⟩:=hq.more Qaf (by kernel_rfl:Tryz.prog.underlying 40=some (.slice 59)) hi hz ak ah rfl (by decide) (by decide) kX (x:=P) (cs:=[Ji P.kind,Ji P.num,str P.txt,.slice ka kn kc,Ji P.at_]) rfl (by simp[Value.oneCell',str]) al h7 k7 (Qa J).1 (Qa J).2 (by have:=F.lt;have:=F.few;omega)
 obtain⟨ra,rc,er,W,U⟩:=H.sl
 subst er
 have ad:=hide ac
 have V:=Qan (Qa k).2.1 l.length
 have R:=Qan D l.length
 have HE:=hide (Ya H (Ya D (Ya S (Ya W (Ya U (Ya aa (Ya E (Ya a6 (Ya Q (Ya V (Ya R (Ya F (Ya a4 a8)))))))))))))
 clear al h7 k7 hq F kX a6 Q a4 a8 hi hz ak ah ac S D H W U V R aa E
 go_wp2_with (at_builtin;refine Qai _ rfl _ _ 40 rfl _ _ rfl rfl _ _ (Qa ad) ?_;clear ad)
 go_roundw
 case rel=>
  obtain⟨H,D,S,W,U,aa,E,a6,Q,V,R,F,a4,a8⟩:=Qa HE
  exact⟨j++[P],_,_,_,false,ra,rc,by simp,rfl,W,U,hide ⟨by simpa only[List.length_append,List.length_singleton] using H,D,S,by rw[List.length_append,List.length_singleton];omega,by omega,fun e=>by
   have e7:=E e
   exact⟨Q e7.1,by omega,by rw[List.length_append,List.length_singleton];omega⟩⟩,hide (fun e=>by
   have e7:=E e
   have q1:=Qa SF e7.1
   have q2:=Qa S7 e
   rw[Qft,Qhx]
   omega)⟩
 obtain⟨H,D,S,W,U,aa,E,a6,Q,V,R,F,a4,a8⟩:=Qa HE
 have:=F.lt
 have ay:=(Qa k).2.1.lt
 rw[V,R,if_pos (Qa B)]
 split
 ·
  rename_i e
  have e7:=E e
  have:=D.lt
  omega
 ·omega
theorem Qdl{w:World}{b:Nat}{c0 c1 c2 c3 c4:Value}(h:w.heap[b]?=some (.cells #[c0,c1,c2,c3,c4] 59 (0,0))):(qeLoad (.pointer (Js b))).run Tryz.prog w = .ok (.agg #[c0,c1,c2,c3,c4]) w:=
 run_loadAt_mid w b 0 59 [c0,c1,c2,c3,c4] _ (fun q v c=>by rw[Qad h,Nat.zero_add];simpa using c) Tryz.underlying59 rfl (by kernel_rfl)
theorem Qbv{w:World}{b:Nat}{old new:Array Value}(hb:w.heap[b]?=some (.cells old 59 (0,0)))(h0:old.size=5)(hn:new.size=5)(h1:new.all (·.oneCell')=true):(qeStore (.pointer (Js b)) (.agg new)).run Tryz.prog w = .ok () (w.setRow b new):=by
 unfold qeStore
 simp only[Instr.storeAt,Instr.sureAddr,Sem.run_bind,Sem.run_pure,Result.andThen_ok]
 exact run_storeVar_row w b 59 59 old new hb (by rw[hn];kernel_rfl) (by rw[h0,hn]) h1
theorem Qes(n:Nat)(h:n<=65537):IntKind.i64.wrap (n:Int)=(n:Int):=by
 have e:(2:Int) ^ IntKind.i64.bits=18446744073709551616:=by decide
 have b:(2:Int) ^ (IntKind.i64.bits - 1)=9223372036854775808:=by decide
 have c:(n:Int) % 18446744073709551616=(n:Int):=by omega
 unfold IntKind.wrap
 simp only[e,b,c]
 rw[if_neg (by simp;intro _;omega)]
attribute [local go_sem ↓] Qbt Qca
theorem Que{rb g cap a d i:Nat}{l:List Tok}{w:World}{y f:Int}(h:Rr rb g cap l w a d i y f)(hd:d<64){F:Nat}(hF:(F=108/\(d<32->ExC 121 rb g cap l (d+1) #[.pointer (Js rb),Ji 0]))∨(F=132/\(d<32->ExC 135 rb g cap l (d+1) #[.pointer (Js rb)]))):
  Calls Tryz.prog F #[.pointer (Js rb)] w fun en w'=>RA rb g cap l w d (exV rb a w) (CoY a i y) en w':=by
 rcases hF with ⟨rfl,hI⟩|⟨rfl,hI⟩
 all_goals
  have Y:Below w.heap.size w (w.alloc (.cells #[Ji 0,Ji 0,Je,Jn,Ji 0] 59)):=(Below.refl _ w).alloc (Nat.le_refl _) _
  have n0:(w.alloc (.cells #[Ji 0,Ji 0,Je,Jn,Ji 0] 59)).heap[w.heap.size]?=some (.cells #[Ji 0,Ji 0,Je,Jn,Ji 0] 59 (0,0)):=heap_alloc_new w _
  have s0:(w.alloc (.cells #[Ji 0,Ji 0,Je,Jn,Ji 0] 59)).heap.size=w.heap.size+1:=by simp
  have ai:=Qhi (h.later Y) hd
  have aG:=Qaa h.box
  have aH:=h.row.lt
  have aq:=hide (show g≠w.heap.size by omega)
  have am:=hide (Ya Y (Ya n0 s0))
  have HI:=hide hI
  clear h Y n0 s0 hI
  first|go_enter Tryz.func108,Tryz.ntmps108|go_enter Tryz.func132,Tryz.ntmps132
  go_wp2_with fail
  refine ai.mono ?_
  clear ai
  rintro en S⟨_,a1,i1,y1,f1,rfl,rfl,⟨ea,ei,af⟩,h1,k1⟩
  rw[ea,ei]at h1
  clear ea ei
  obtain⟨Y,n0,s0⟩:=Qa am
  have a0:=k1.size
  obtain⟨E,s⟩:=JF S.heap.size
  obtain⟨T,a2⟩:=JE (S.alloc (.cells #[Ji 0,Ji 0,Je,Jn,Ji 0] 59))
  have b2:Below S.heap.size S T:=by rw[a2];exact(Below.refl _ S).alloc (Nat.le_refl _) _
  have P:T.heap[E]?=some (.cells #[Ji 0,Ji 0,Je,Jn,Ji 0] 59 (0,0)):=by rw[a2,<- s];exact heap_alloc_new S _
  have s2:T.heap.size=S.heap.size+1:=by rw[a2];simp
  have O:T.heap[w.heap.size]?=some (.cells #[Ji 0,Ji 0,Je,Jn,Ji 0] 59 (0,0)):=(b2.block _ (by omega)).trans (k1.keep n0 (by omega))
  have R:=h1.later b2
  have A:Kp rb w T:=((Kp.of_below Y).trans k1).trans (Kp.of_below b2)
  have W:=Qaw R
  have ao:w.heap.size<E:=by omega
  have a5:=hide (show E≠rb/\w.heap.size≠rb/\E≠w.heap.size by omega)
  have H2:=hide (Ya R (Ya A (Ya P (Ya O (Ya s2 (Ya s ao))))))
  have an:=hide a2
  have a4:=hide af
  have N2:=Qhg S (c0:=Ji 0) (c1:=Ji 0) (c2:=Je) (c3:=Jn) (c4:=Ji 0) (by simp[Value.oneCell'])
  clear Y n0 s0 a0 ao s a2 b2 P s2 O R A h1 k1 af am
  go_wp2_with fail
  rw[<- Qa an,(Qa H2).2.2.2.2.2.1]
  clear an N2
  by_cases Q:y1=0
  ·
   rw[decide_eq_true Q]at W
   have ah:=Qa HI (Qa a4 Q).2 _ _ _ _ _ (Qa H2).1
   have HY:=hide (Qa a4 Q)
   clear Q
   refine W.mono ?_
   clear W
   rintro en al⟨rfl,rfl⟩
   go_wp2_with fail
   refine ah.mono ?_
   clear ah
   rintro en w3⟨_,aX,i3,yX,fX,rfl,⟨j,⟨_,rfl,⟨H,N,J,rfl⟩,ar⟩,ag⟩,⟨ei,aE,ap⟩,h3,L⟩
   rw[ei]at h3
   clear ei
   have SX:=hide (show yX=0->exQ j+2*a<=2*aX from fun e=>ag.at h3 e)
   clear ag
   obtain⟨R,A,P,O,s2,s,a0⟩:=Qa H2
   obtain⟨e1,e2,e3⟩:=Qa a5
   have az:=L.size
   have m3:=L.keep P e1
   have z3:=L.keep O e2
   have S3:=Qbv (new:=#[Ji j.kind,Ji j.num,str j.txt,.slice H N J,Ji j.at_]) m3 rfl rfl (by simp[Value.oneCell',str])
   obtain⟨r,z⟩:=JE (w3.setRow E #[Ji j.kind,Ji j.num,str j.txt,.slice H N J,Ji j.at_])
   rw[<- z]at S3
   have Z:∀q,q≠E->r.heap[q]?=w3.heap[q]?:=fun q o=>by rw[z];exact setRow_other _ _ _ _ o
   have sX:r.heap.size=w3.heap.size:=by rw[z,size_setRow]
   have mX:r.heap[E]?=some (.cells #[Ji j.kind,Ji j.num,str j.txt,.slice H N J,Ji j.at_] 59 (0,0)):=by rw[z];exact setRow_heap _ _ _ _ _ _ m3
   have hX:=h3.move (w':=r) (by omega) (Z rb e1.symm) (Z g (by omega))
   have kX:Kp rb w r:=⟨by rw[z];exact(A.trans L).os,by rw[z];exact(A.trans L).tape,by rw[z];exact(A.trans L).output,by rw[sX];exact(A.trans L).size,fun q o hn=>(Z q (by omega)).trans ((A.trans L).block q o hn)⟩
   have X:ExS (fun b=>w.heap.size<=b/\b≠rb/\b≠w.heap.size) r [Ji j.kind,Ji j.num,str j.txt,.slice H N J,Ji j.at_] j:=by
    have q1:=Qaf.same _ _ r _ _ (Qaf.mono _ (fun b=>al.heap.size<=b) _ _ _ ar (fun b _ x=>x)) (by omega) (fun b x hl=>Z b (by omega))
    exact Qaf.mono _ _ _ _ _ q1 (fun b _ x=>⟨by omega,by omega,by omega⟩)
   have XX:=hide (Ya hX (Ya kX (Ya mX (Ya ((Z _ e3.symm).trans z3) (Ya X (show CoY a i y aX i yX from ⟨rfl,by omega,fun e=>⟨(Qa HY).1,(ap e).2⟩⟩))))))
   obtain⟨c,ae⟩:=JE j
   rw[<- ae]at XX S3 SX
   rw[<- ae]
   clear ar aE ap h3 L R A P O s2 s a0 e1 e2 e3 az m3 z3 z Z sX mX hX kX X ae H2 HI a4
   obtain⟨t,k4,m4,z4,a3,ab⟩:=Qa XX
   obtain⟨ax,aB,aD,aw,aF,aA,xf⟩:=cl6 t.box
   obtain⟨p,B⟩:=JE (r.setCell (Ja rb 2) (Ji (d:Int)))
   have h5:Rr rb g cap l p aX d i yX fX:=by rw[B];exact t.setD (by have:=t.dd;omega)
   have u:Kp rb w p:=by rw[B];exact k4.trans (Kp.set _ _ _ _)
   have I:∀q,q≠rb->p.heap[q]?=r.heap[q]?:=fun q o=>by rw[B];exact hpS o
   have s5:p.heap.size=r.heap.size:=by rw[B];simp
   obtain⟨s,U,ad⟩:=Qa a5
   have m5:=(I E s).trans m4
   have V:=(I w.heap.size U).trans z4
   have L5:=Qdl m5
   have S5:=Qbv (new:=#[Ji c.kind,Ji c.num,str c.txt,.slice H N J,Ji c.at_]) V rfl rfl (by simp[Value.oneCell',str])
   obtain⟨m,k⟩:=JE (p.setRow w.heap.size #[Ji c.kind,Ji c.num,str c.txt,.slice H N J,Ji c.at_])
   rw[<- k]at S5
   have D:∀q,q≠w.heap.size->m.heap[q]?=p.heap[q]?:=fun q o=>by rw[k];exact setRow_other _ _ _ _ o
   have s6:m.heap.size=p.heap.size:=by rw[k,size_setRow]
   have K:m.heap[w.heap.size]?=some (.cells #[Ji c.kind,Ji c.num,str c.txt,.slice H N J,Ji c.at_] 59 (0,0)):=by rw[k];exact setRow_heap _ _ _ _ _ _ V
   have C:=h5.move (w':=m) (by omega) (D rb U.symm) (D g (Qa aq))
   have M:Kp rb w m:=⟨by rw[k];exact u.os,by rw[k];exact u.tape,by rw[k];exact u.output,by rw[s6];exact u.size,fun q o hn=>(D q (by omega)).trans (u.block q o hn)⟩
   have G:ExS (fun b=>w.heap.size<=b) m [Ji c.kind,Ji c.num,str c.txt,.slice H N J,Ji c.at_] c:=by
    have q1:=Qaf.same _ _ m _ _ a3 (by omega) (fun b x hl=>(D b x.2.2).trans (I b x.2.1))
    exact Qaf.mono _ _ _ _ _ q1 (fun b _ x=>x.1)
   have HF:=hide (Ya C (Ya M (Ya K G)))
   have aC:IntKind.i64.wrap ((d:Int)+1 - 1)=(d:Int):=by rw[show(d:Int)+1 - 1=(d:Int) by omega];exact Qes d (by have:=t.dd;omega)
   have av:=t.dd
   clear t k4 m4 z4 a3 h5 u I s5 s U ad m5 V D s6 K C M G k
   subst B
   go_wp2_with fail
   obtain⟨C,M,K,G⟩:=Qa HF
   obtain⟨aa,a8,a7,a9,ac,zf⟩:=ex5 K
   refine bodyPost_ret (v:=.agg #[Ji c.kind,Ji c.num,str c.txt,.slice H N J,Ji c.at_]) (by simp[results,Tryz.results108,Tryz.results132,go_sem,aa,a8,a7,a9,ac]) rfl ?_
   exact⟨_,_,_,_,_,rfl,⟨c,⟨_,rfl,⟨_,_,_,rfl⟩,G⟩,szQ.of C (Qa SX)⟩,ab,C,M⟩
  rw[decide_eq_false Q]at W
  obtain⟨r,z⟩:=JE T
  obtain⟨R,A,P,O,s2,s,a0⟩:=Qa H2
  obtain⟨e1,e2,e3⟩:=Qa a5
  obtain⟨yX,a6⟩:=JE y1
  obtain⟨fX,au⟩:=JE f1
  obtain⟨aX,ay⟩:=JE a
  obtain⟨c,X⟩:=JE Ex.none
  have ak:ExS (fun b=>w.heap.size<=b/\b≠rb/\b≠w.heap.size) T [Ji c.kind,Ji c.num,str c.txt,Jn,Ji c.at_] c:=by rw[X];exact Qcg _ _ 0 0 0 []
  have aj:T.heap[E]?=some (.cells #[Ji c.kind,Ji c.num,str c.txt,Jn,Ji c.at_] 59 (0,0)):=by rw[X];exact P
  have XX:=hide (Ya R (Ya A (Ya aj (Ya O (Ya ak (show CoY a i y a i y1 from ⟨rfl,Nat.le_refl _,fun e=>absurd e Q⟩))))))
  have SX:=hide (show yX=0->exQ c+2*a<=2*aX from fun e=>absurd (a6.symm.trans e) Q)
  clear Q R A P O s2 s a0 e1 e2 e3 ak aj H2 HI a4 X
  refine W.mono ?_
  clear W
  rintro en al⟨rfl,rfl⟩
  rw[<- z,<- a6,<- au]at XX
  rw[<- z]
  clear z a6 au
  subst ay
  obtain⟨t,k4,m4,z4,a3,ab⟩:=Qa XX
  obtain⟨ax,aB,aD,aw,aF,aA,xf⟩:=cl6 t.box
  obtain⟨p,B⟩:=JE (r.setCell (Ja rb 2) (Ji (d:Int)))
  have h5:Rr rb g cap l p aX d i yX fX:=by rw[B];exact t.setD (by have:=t.dd;omega)
  have u:Kp rb w p:=by rw[B];exact k4.trans (Kp.set _ _ _ _)
  have I:∀q,q≠rb->p.heap[q]?=r.heap[q]?:=fun q o=>by rw[B];exact hpS o
  have s5:p.heap.size=r.heap.size:=by rw[B];simp
  obtain⟨s,U,ad⟩:=Qa a5
  have m5:=(I E s).trans m4
  have V:=(I w.heap.size U).trans z4
  have L5:=Qdl m5
  have S5:=Qbv (new:=#[Ji c.kind,Ji c.num,str c.txt,Jn,Ji c.at_]) V rfl rfl (by simp[Value.oneCell',str])
  obtain⟨m,k⟩:=JE (p.setRow w.heap.size #[Ji c.kind,Ji c.num,str c.txt,Jn,Ji c.at_])
  rw[<- k]at S5
  have D:∀q,q≠w.heap.size->m.heap[q]?=p.heap[q]?:=fun q o=>by rw[k];exact setRow_other _ _ _ _ o
  have s6:m.heap.size=p.heap.size:=by rw[k,size_setRow]
  have K:m.heap[w.heap.size]?=some (.cells #[Ji c.kind,Ji c.num,str c.txt,Jn,Ji c.at_] 59 (0,0)):=by rw[k];exact setRow_heap _ _ _ _ _ _ V
  have C:=h5.move (w':=m) (by omega) (D rb U.symm) (D g (Qa aq))
  have M:Kp rb w m:=⟨by rw[k];exact u.os,by rw[k];exact u.tape,by rw[k];exact u.output,by rw[s6];exact u.size,fun q o hn=>(D q (by omega)).trans (u.block q o hn)⟩
  have G:ExS (fun b=>w.heap.size<=b) m [Ji c.kind,Ji c.num,str c.txt,Jn,Ji c.at_] c:=by
   have q1:=Qaf.same _ _ m _ _ a3 (by omega) (fun b x hl=>(D b x.2.2).trans (I b x.2.1))
   exact Qaf.mono _ _ _ _ _ q1 (fun b _ x=>x.1)
  have HF:=hide (Ya C (Ya M (Ya K G)))
  have aC:IntKind.i64.wrap ((d:Int)+1 - 1)=(d:Int):=by rw[show(d:Int)+1 - 1=(d:Int) by omega];exact Qes d (by have:=t.dd;omega)
  have av:=t.dd
  clear t k4 m4 z4 a3 h5 u I s5 s U ad m5 V D s6 K C M G k
  subst B
  go_wp2_with fail
  obtain⟨C,M,K,G⟩:=Qa HF
  obtain⟨aa,a8,a7,a9,ac,zf⟩:=ex5 K
  refine bodyPost_ret (v:=.agg #[Ji c.kind,Ji c.num,str c.txt,Jn,Ji c.at_]) (by simp[results,Tryz.results108,Tryz.results132,go_sem,aa,a8,a7,a9,ac]) rfl ?_
  exact⟨_,_,_,_,_,rfl,⟨c,⟨_,rfl,⟨_,_,_,rfl⟩,G⟩,szQ.of C (Qa SX)⟩,ab,C,M⟩
theorem Qmj{rb g cap a d i:Nat}{l:List Tok}{w:World}{y f:Int}(h:Rr rb g cap l w a d i y f)(hd:d<64)(hI:d<32->ExC 121 rb g cap l (d+1) #[.pointer (Js rb),Ji 0]):
  Calls Tryz.prog 108 #[.pointer (Js rb)] w fun en w'=>RA rb g cap l w d (exV rb a w) (CoY a i y) en w':=Que h hd (.inl ⟨rfl,hI⟩)
theorem Qhh{rb g cap a d i:Nat}{l:List Tok}{w:World}{y f:Int}(h:Rr rb g cap l w a d i y f)(hd:d<64)(hI:d<32->ExC 135 rb g cap l (d+1) #[.pointer (Js rb)]):
  Calls Tryz.prog 132 #[.pointer (Js rb)] w fun en w'=>RA rb g cap l w d (exV rb a w) (CoY a i y) en w':=Que h hd (.inr ⟨rfl,hI⟩)
end
end Go.Proofs.YtmfpbepifnedjaaGreat
