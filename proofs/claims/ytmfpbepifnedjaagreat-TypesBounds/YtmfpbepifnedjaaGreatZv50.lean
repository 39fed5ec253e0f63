/- types. -/
import Derived.Test.YtmfpbepifnedjaaGreatZv01
import Derived.Test.YtmfpbepifnedjaaGreatZv49
import Derived.Test.YtmfpbepifnedjaaGreatZv43
import Derived.Test.YtmfpbepifnedjaaGreatZv23
import Derived.Test.YtmfpbepifnedjaaGreatZv20
import Derived.Test.YtmfpbepifnedjaaGreatZv28
set_option maxRecDepth 100000
set_option maxHeartbeats 32000000
namespace Go.Proofs.YtmfpbepifnedjaaGreat
section
open Go.RowKit Go.Maps
theorem mem_1{S:Nat->Prop}{w:World}{a0 a1 a2 a3 a4:Option Addr}{n0 q0 n1 q1 n2 q2 n3 q3 n4 q4:Nat}{a b c:Int}{o:Pl}(hP:PgS S w [.slice a0 n0 q0,.slice a1 n1 q1,.slice a2 n2 q2,.slice a3 n3 q3,.slice a4 n4 q4] (pg1 a b c o)):∃cb aa an ac ba bn bc,a4=some (Ja cb 0)/\n4=1/\cb<w.heap.size/\(∀q v,([str tQ,.slice aa an ac,Ji o.b,.slice ba bn bc,Ji o.m]:List Value)[q]?=some v->w.cell? (Ja cb q)=some v)/\LsAt PE 5 S w (.slice aa an ac) (caQ o).head.args/\LsAt PLt 16 S w (.slice ba bn bc) (caQ o).body:=by
 obtain⟨z,A,B,C,D,e,s,t,u,x,f⟩:=hP.cells;obtain⟨rfl,rfl,rfl,rfl,rfl⟩:=list5 e;obtain⟨cb,cap,r,d,i,_,y,l,k⟩:=f.elem (j:=0) rfl;obtain⟨aa,an,ac,ba,bn,bc,rfl,g,h⟩:=l;simp only[Value.slice.injEq]at d;exact⟨cb,aa,an,ac,ba,bn,bc,d.1,d.2.1,i,fun q v n=>by simpa using k q v n,g,h⟩
theorem mem_2{S:Nat->Prop}{w:World}{a0 a1 a2 a3 a4:Option Addr}{n0 q0 n1 q1 n2 q2 n3 q3 n4 q4:Nat}{a b c:Int}{o u:Pl}(hP:PgS S w [.slice a0 n0 q0,.slice a1 n1 q1,.slice a2 n2 q2,.slice a3 n3 q3,.slice a4 n4 q4] (pg2 a b c o u)):n2=0/\n3=0:=by
 obtain⟨l,m,n,q,r,f,i,j,g,h,k⟩:=hP.cells;obtain⟨rfl,rfl,rfl,rfl,rfl⟩:=list5 f;obtain⟨_,_,_,d,_⟩:=g;obtain⟨_,_,_,e,_⟩:=h;simp only[Value.slice.injEq]at d e;exact⟨d.2.1,e.2.1⟩
theorem row_1{w:World}{b:Nat}{sl:Value}(h:w.ownsRow b 67 2 sl 1 (fdCells [⟨tX,tA⟩])):∃g cap,sl = .slice (Js g) 1 cap/\b<=g/\g<w.heap.size/\w.cell? (Ja g 0)=some (str tX)/\w.cell? (Ja g 1)=some (str tA):=by
 rcases h.2 with ⟨_,e⟩|⟨g,cap,j,f,i,c,k,l,m,d⟩
 ·cases e
 refine⟨g,cap,f,i,Qaa c,?_,?_⟩
 ·
  rw[Qad c];have a:(fdCells [⟨tX,tA⟩])[0]?=some (str tX):=rfl;rw[<- d,List.getElem?_take_of_lt (by omega)]at a
  simpa using a
 rw[Qad c];have a:(fdCells [⟨tX,tA⟩])[1]?=some (str tA):=rfl;rw[<- d,List.getElem?_take_of_lt (by omega)]at a
 simpa using a
theorem lt_Q{o:Pl}:ltBs (caQ o).body<=1000000000:=by
 simp[caQ,vaL,vaA,vaX,ltBs,ltB,exQ,exQs,tX]
theorem lt_E{o:Pl}:ltBs (caE o).body<=1000000000:=by
 simp[caE,vaL,vaA,vaX,ltBs,ltB,exQ,exQs,tX]
theorem Qkv(w:World):Calls Tryz.prog 12 #[] w fun e w'=>e = .returned (.bool true)/\Below w.heap.size w w':=by
 have aK:=parse_1 w;have aL:=hide (fun W=>parse_2 W);unfold sm1 at aK;unfold sm2 at aL;go_enter Tryz.func12,Tryz.ntmps12;go_wp2_with fail;refine aK.mono ?_;clear aK;rintro e s⟨z,B,A,C,E,D,F,H,G,I,L,J,bv,bw,M,p,rfl,b1,aS,a,b,c,o,rfl⟩;have a5:=Qak.mono _ (fun q=>q<s.heap.size) _ _ _ aS (fun q hl _=>hl);obtain⟨k,aa,an,ac,ba,bn,bc,rfl,rfl,aH,aT,hA,hB⟩:=mem_1 a5;obtain⟨d,ab⟩:=JE ((s.alloc (.cells #[.slice z B A,.slice C E D,.slice F H G,.slice I L J,.slice (Js k) 1 M] 28)).alloc (.cells #[Ji 0,Ji 0] 31));have c1:Below s.heap.size s d:=by rw[ab];exact((Below.refl _ s).alloc (Nat.le_refl _) _).alloc (by simp) _
 have Z:d.heap[s.heap.size]?=some (.cells #[.slice z B A,.slice C E D,.slice F H G,.slice I L J,.slice (Js k) 1 M] 28 (0,0)):=by rw[ab,Below.heap_alloc _ _ _ (by simp)];exact heap_alloc_new s _
 have f1:d.heap[s.heap.size+1]?=some (.cells #[Ji 0,Ji 0] 31 (0,0)):=by
  rw[ab];have:=heap_alloc_new (s.alloc (.cells #[.slice z B A,.slice C E D,.slice F H G,.slice I L J,.slice (Js k) 1 M] 28)) (.cells #[Ji 0,Ji 0] 31)
  simpa using this
 obtain⟨kp,aJ⟩:=JF s.heap.size;have B1:Below w.heap.size w d:=b1.trans (c1.mono b1.size);rw[aJ]at a5 aH hA hB Z f1 c1;have aF:∀W,Below d.heap.size d W->PgS (fun q=>q<kp) W [.slice z B A,.slice C E D,.slice F H G,.slice I L J,.slice (Js k) 1 M] (pg1 a b c o):=fun W i=>by
  have P:=c1.trans (i.mono (by have:=c1.size;omega));exact Qak.same _ _ _ _ _ a5 (by have:=P.size;omega) (fun q X _=>P.block q X)
 have aQ:∀W,Below d.heap.size d W->LsAt PE 5 (fun q=>q<kp) W (.slice aa an ac) (caQ o).head.args:=fun W i=>by
  have P:=c1.trans (i.mono (by have:=c1.size;omega));exact hA.same Qaf (by have:=P.size;omega) (fun q X _=>P.block q X)
 have aR:∀W,Below d.heap.size d W->LsAt PLt 16 (fun q=>q<kp) W (.slice ba bn bc) (caQ o).body:=fun W i=>by
  have P:=c1.trans (i.mono (by have:=c1.size;omega));exact hB.same Qaz (by have:=P.size;omega) (fun q X _=>P.block q X)
 have N:Hid (∀W:World,Below d.heap.size d W->W.heap[kp]?=some (.cells #[.slice z B A,.slice C E D,.slice F H G,.slice I L J,.slice (Js k) 1 M] 28 (0,0)) /\ ∀q v,([str tQ,.slice aa an ac,Ji o.b,.slice ba bn bc,Ji o.m]:List Value)[q]?=some v->W.cell? (Ja k q)=some v):=fun W i=>⟨(i.block _ (Qaa Z)).trans Z,fun q v hv=>by
  rw[i.cell (p:=(Ja k q)) (by have:=c1.size;show k<_;omega),c1.cell (p:=(Ja k q)) aH]
  exact aT q v hv⟩
 have HL:Hid (∀W:World,Below d.heap.size d W->Calls Tryz.prog 14 #[.agg #[.slice z B A,.slice C E D,.slice F H G,.slice I L J,.slice (Js k) 1 M],.agg #[str tQ,.slice aa an ac,Ji o.b,.slice ba bn bc,Ji o.m]] W fun Q w'=>∃g cap,Q = .returned (.tuple #[.slice (Js g) 1 cap,.agg #[Ji 0,Ji 0]])/\g<w'.heap.size/\w'.cell? (Ja g 0)=some (str tX)/\w'.cell? (Ja g 1)=some (str tA)/\Below W.heap.size W w'):=fun W i=>by
  have:=Qki (n0:=kp) (by have h1:=i.size;have h2:=Qaa Z;omega) (aF W i) (by show 1<=1000000000;decide) (caQ o) (aQ W i) (aR W i) (fun cc=>Qgc lt_Q cc);rw[inf_Q1]at this;refine this.mono ?_;rintro Q w'⟨b9,sl,rfl,hr⟩;obtain⟨g,cap,rfl,_,e2,e3,e4⟩:=row_1 hr;exact⟨g,cap,rfl,e2,e3,e4,b9⟩
 have bo:Hid (∀W:World,Below d.heap.size d W->Calls Tryz.prog 18 #[.agg #[.slice z B A,.slice C E D,.slice F H G,.slice I L J,.slice (Js k) 1 M],str tA,str tNum] W fun Q w'=>Q = .returned (.bool true)/\Below W.heap.size W w'):=fun W i=>by
  have:=Qhr (n0:=kp) (by have h1:=i.size;have h2:=Qaa Z;omega) (aF W i) (by show 1<=1000000000;decide) tA tNum;rw[below_1]at this;exact this
 have aN:=hide B1;have HF:=hide (Ya Z f1);have bp:=hide ab;have HK:=hide aJ;clear aS a5 aH aT hA hB c1 Z f1 B1 aF aQ aR ab b1 aJ;go_upto_region 2 with fail;rw[<- Qa bp,Qa HK];obtain⟨ax,ay,az,aA,aB,xf⟩:=cl5 (Qa HF).1;obtain⟨aC,aD,yf⟩:=cl2 (Qa HF).2;go_upto_region 4 with fail;clear ax ay az aA aB xf aC aD yf;go_cut [3,4] from 5 (fun u3 u4 wc=>∃(r cap fb:Nat),u3 = .slice (Js r) 1 cap/\u4 = .pointer (Js fb)/\Hid (Below d.heap.size d wc/\wc.heap[fb]?=some (.cells #[Ji 0,Ji 0] 31 (0,0))/\r<wc.heap.size/\wc.cell? (Ja r 0)=some (str tX)/\wc.cell? (Ja r 1)=some (str tA)))
 case first=>
  go_wp2_with fail;refine Qat (tr:=(.take 0 (.take 1 (.take 2 (.take 3 (.take 4 (.two 5 9 (.take 6 (.take 7 (.take 8 (.one 9 (.take 10 (.one 11 .nil)))))) (.one 5 (.take 6 (.take 7 (.take 8 (.take 10 (.one 11 .nil)))))))))))) ) (fun W=>W.heap[kp]?=some (.cells #[.slice z B A,.slice C E D,.slice F H G,.slice I L J,.slice (Js k) 1 M] 28 (0,0)) /\ ∀q v,([str tQ,.slice aa an ac,Ji o.b,.slice ba bn bc,Ji o.m]:List Value)[q]?=some v->W.cell? (Ja k q)=some v) mixedO (by kernel_rfl) rfl (by kernel_rfl) (fun PP ae=>?_);refine tT (v:=?_) (fun w' hw=>?_) ?_;rotate_left
  ·(obtain⟨y,f⟩:=hw;obtain⟨ak,al,am,ao,ap,kf⟩:=cl5 y;have aq:=f 0 _ rfl;have ar:=f 1 _ rfl;have au:=f 2 _ rfl;have av:=f 3 _ rfl;have aw:=f 4 _ rfl;go_simp<;>rfl)
  refine tT (v:=?_) (fun w' hw=>?_) ?_;rotate_left
  ·(obtain⟨y,f⟩:=hw;obtain⟨ak,al,am,ao,ap,kf⟩:=cl5 y;have aq:=f 0 _ rfl;have ar:=f 1 _ rfl;have au:=f 2 _ rfl;have av:=f 3 _ rfl;have aw:=f 4 _ rfl;go_simp<;>rfl)
  refine tT (v:=?_) (fun w' hw=>?_) ?_;rotate_left
  ·(obtain⟨y,f⟩:=hw;obtain⟨ak,al,am,ao,ap,kf⟩:=cl5 y;have aq:=f 0 _ rfl;have ar:=f 1 _ rfl;have au:=f 2 _ rfl;have av:=f 3 _ rfl;have aw:=f 4 _ rfl;go_simp<;>rfl)
  refine tT (v:=?_) (fun w' hw=>?_) ?_;rotate_left
  ·(obtain⟨y,f⟩:=hw;obtain⟨ak,al,am,ao,ap,kf⟩:=cl5 y;have aq:=f 0 _ rfl;have ar:=f 1 _ rfl;have au:=f 2 _ rfl;have av:=f 3 _ rfl;have aw:=f 4 _ rfl;go_simp<;>rfl)
  refine tT (v:=?_) (fun w' hw=>?_) ?_;rotate_left
  ·(obtain⟨y,f⟩:=hw;obtain⟨ak,al,am,ao,ap,kf⟩:=cl5 y;have aq:=f 0 _ rfl;have ar:=f 1 _ rfl;have au:=f 2 _ rfl;have av:=f 3 _ rfl;have aw:=f 4 _ rfl;go_simp<;>rfl)
  refine Qbu rfl rfl (Qa N d.drew (Below.refl _ d).drew) (fun K h=>?_) (fun K h=>?_)
  ·
   go_simp;refine(Qa HL d.drew (Below.refl _ d).drew).mono ?_;rintro Q u⟨g,cap,rfl,hg,j,l,b5⟩;show K _ _;refine h _ _ ?_;clear h K;have n:Below d.heap.size d u:=(Below.refl _ d).drew.trans b5
   iterate 3 (refine tT (v:=?_) (fun w' hw=>?_) ?_;rotate_left;· (go_simp<;>rfl))
   refine Qag rfl (Qa N u n) (fun K h=>?_);go_simp;refine h _ _ ?_;clear h K;have b6:Below u.heap.size u (u.alloc (.cells #[Ji 0,Ji 0] 31)):=(Below.refl _ u).alloc (Nat.le_refl _) _;refine tT (v:=?_) (fun w' hw=>?_) ?_;rotate_left
   ·(go_simp<;>rfl)
   refine Qag rfl (Qa N _ (n.trans (b6.mono n.size))) (fun K h=>?_);go_simp;refine h _ _ ?_;clear h K;obtain⟨W7,T⟩:=JE (u.alloc (.cells #[Ji 0,Ji 0] 31));have O:=bnw T;have n7:=nnw T;rw[<- T];have R:=n.trans (O.mono n.size);refine Qao (Qa N _ R) (ae _ _ ?_);clear ae PP;have a7:=hide (Ya R (Ya n7 (Ya (show g<W7.heap.size by have:=O.size;omega) (Ya ((O.cell (p:=(Ja g 0)) hg).trans j) ((O.cell (p:=(Ja g 1)) hg).trans l)))));clear hg j l b5 n b6 T O n7 R;go_wp2_with fail;go_meet;exact⟨g,cap,_,rfl,rfl,a7⟩
  go_simp;refine h _ _ ?_;clear h K;obtain⟨w4,ai⟩:=JE ((d.alloc (.cells #[Ji 0,Ji 0] 31)).drew);have b4:Below d.heap.size d w4:=by rw[ai];exact((Below.refl _ _).alloc (Nat.le_refl _) _).drew
  have n4:w4.heap[d.heap.size]?=some (.cells #[Ji 0,Ji 0] 31 (0,0)):=by rw[ai];exact heap_alloc_new d _
  rw[<- ai];clear ai;refine Qag rfl (Qa N w4 b4) (fun K h=>?_);go_simp;refine(Qa HL w4 b4).mono ?_;rintro Q u⟨g,cap,rfl,hg,j,l,b5⟩;show K _ _;refine h _ _ ?_;clear h K;have n:=b4.trans (b5.mono b4.size);have n5:=(b5.block _ (Qaa n4)).trans n4
  iterate 4 (refine tT (v:=?_) (fun w' hw=>?_) ?_;rotate_left;· (go_simp<;>rfl))
  obtain⟨W7,T,sc⟩:=sc2 n5 (Ji 0) (Ji 0);obtain⟨aC,aD,yf⟩:=cl2 n5;have aU:g≠d.heap.size:=fun e=>by
   subst e;rw[Qad n5]at j;cases j
  refine Qag rfl (Qa N u n) (fun K h=>?_);go_simp;rw[<- T];refine h _ _ ?_;clear h K;have R:=sc.below n (Nat.le_refl _);refine Qao (Qa N _ R) (ae _ _ ?_);clear ae PP;have aI:∀q,W7.cell? (Ja g q)=u.cell? (Ja g q):=fun q=>by
   have:=sc.oth g aU;simp only[World.cell?,this]
  have a7:=hide (Ya R (Ya sc.box (Ya (show g<W7.heap.size by rw[sc.size];exact hg) (Ya ((aI 0).trans j) ((aI 1).trans l)))));clear hg j l b4 n4 b5 n n5 T sc R aI aU aC aD yf;go_wp2_with fail;go_meet;exact⟨g,cap,_,rfl,rfl,a7⟩
 obtain⟨r,cap,fb,rfl,rfl,HE⟩:=hcut;obtain⟨WX,bq⟩:=JE wc;subst bq;have aW:=Qa aL WX;clear HL aL;go_wp2_with fail;refine aW.mono ?_;clear aW;rintro e t⟨aY,b0,aZ,b3,be,bd,bf,bx,bg,bh,bz,bi,bj,bl,bk,p2,rfl,b2,aG,a',b',c',o',u',rfl⟩;obtain⟨rfl,rfl⟩:=mem_2 aG;have a9:=Qak.mono _ (fun q=>q<t.heap.size) _ _ _ aG (fun q hl _=>hl);obtain⟨W2,af⟩:=JE ((t.alloc (.cells #[.slice aY b0 aZ,.slice b3 be bd,.slice bf 0 bg,.slice bh 0 bi,.slice bj bl bk] 28)).alloc (.cells #[Ji 0,Ji 0] 31));have c2:Below t.heap.size t W2:=by rw[af];exact((Below.refl _ t).alloc (Nat.le_refl _) _).alloc (by simp) _
 have p2:W2.heap[t.heap.size]?=some (.cells #[.slice aY b0 aZ,.slice b3 be bd,.slice bf 0 bg,.slice bh 0 bi,.slice bj bl bk] 28 (0,0)):=by rw[af,Below.heap_alloc _ _ _ (by simp)];exact heap_alloc_new t _
 obtain⟨kq,ah⟩:=JF t.heap.size;rw[ah]at a9 p2 c2
 have ag:=Qhe (n0:=kq) (w:=W2) (by have h2:=Qaa p2;omega) (Qak.same _ _ _ _ _ a9 c2.size (fun q X _=>c2.block q X)) (by show 1<=1000000000;decide) (fun cc x hx=>by
  have aX:x∈[caQ o',caE u']:=hx;simp only[List.mem_cons,List.not_mem_nil,or_false]at aX;rcases aX with rfl|rfl
  ·exact Qgc lt_Q cc
  ·exact Qgc lt_E cc)
 rw[ck_2]at ag;unfold ftV at ag;obtain⟨V,Y,U,j,l⟩:=Qa HE;have a6:=b2.trans ((ah▸c2:Below t.heap.size t W2).mono b2.size);have H2:=hide (Ya (V.trans (a6.mono V.size)) (Ya ((a6.block _ (Qaa Y)).trans Y) (Ya (show r<W2.heap.size by have:=a6.size;omega) (Ya ((a6.cell (p:=(Ja r 0)) U).trans j) ((a6.cell (p:=(Ja r 1)) U).trans l)))));obtain⟨ax,ay,az,aA,aB,xf⟩:=cl5 p2;have aE:=hide (Ya af ah);clear b2 aG a9 af c2 p2 ah V Y U j l a6 HE;go_upto_region 6 with fail;rw[<- (Qa aE).1,(Qa aE).2];go_wp2_with fail;refine ag.mono ?_;clear ag ax ay az aA aB xf aE;rintro Q w6⟨rfl,b6⟩;obtain⟨w7,aj⟩:=JE (w6.alloc (.cells #[Ji 13,Ji u'.a] 31));have O:=bnw aj;have n7:=nnw aj;obtain⟨xb,aM⟩:=JF w6.heap.size;rw[aM]at n7;have a8:=b6.trans (O.mono b6.size);obtain⟨V,Y,U,j,l⟩:=Qa H2;have ad:=V.trans (a8.mono V.size);have aV:=Qa bo w7 ad;have aC:=(a8.cell (p:=(Ja r 0)) U).trans j;have aD:=(a8.cell (p:=(Ja r 1)) U).trans l;obtain⟨bt,bu,ff⟩:=cl2 ((a8.block _ (Qaa Y)).trans Y);obtain⟨br,bs,df⟩:=cl2 n7;obtain⟨ax,ay,az,aA,aB,xf⟩:=cl5 (Qa N w7 ad).1;have aO:=hide ((Qa aN).trans (ad.mono (Qa aN).size));have aP:=hide (Ya aj aM);clear b6 aj O n7 aM a8 V Y U j l ad H2;go_upto_region 7 with fail;rw[<- (Qa aP).1,(Qa aP).2];go_wp2_with fail;refine aV.mono ?_;clear aV;rintro Q w8⟨rfl,b8⟩;have bm:=hide ((Qa aO).trans (b8.mono (Qa aO).size));clear b8;go_wp2_with fail;go_ret;exact⟨rfl,Qa bm⟩
theorem OwL.later{n1:Nat}{V W W':World}{sl:Value}{acc:List Txt}(h:OwL n1 V W sl acc)(b:Below W.heap.size W W'):OwL n1 V W' sl acc:=
 ⟨h.b.trans (b.mono (Nat.le_trans h.l h.b.size)),h.row.mv Qan b.size (fun q a _=>b.block q a) (fun _ _ c=>c),h.l⟩
theorem OwL.two(v:World)(s t:Txt):OwL v.heap.size v (v.alloc (.cells #[str s,str t] 9)) (.slice (Js v.heap.size) 2 2) [s,t]:=by
 refine⟨(Below.refl _ v).alloc (Nat.le_refl _) _,⟨[[str s],[str t]],⟨rfl,.inr ⟨v.heap.size,2,_,rfl,Nat.le_refl _,heap_alloc_new v _,Nat.le_refl _,by unfold maxLen;omega,rfl,rfl⟩⟩,rfl,fun j x c a b=>?_⟩,Nat.le_refl _⟩;rcases j with _|_|j
 ·simp at a b;subst a;subst b;exact⟨rfl,rfl⟩
 ·simp at a b;subst a;subst b;exact⟨rfl,rfl⟩
 ·simp at a
def nmsP(q:Pg):List Txt:=[tNum,tSym]++q.types.map (·.name)
def DeA(S:Nat->Prop)(p:Pg)(t:Txt)(w:World)(en:Ending)(w':World):Prop:=Below w.heap.size w w' /\ ∃ca cn cc i o a r b,
 en = .returned (.tuple #[.agg #[str r,.slice ca cn cc,.bool i,.bool o,.int .i64 a],.bool b]) /\
 (match declP2 p t with|none=>cn=0/\ca=none|some d=>LsAt PF 2 S w' (.slice ca cn cc) d.cols)
section
variable {S:Nat->Prop}{p:Pg}{w:World}{a0 a1 a2 a3 a4:Option Addr}{k0 k1 k2 k3 k4 c0 c1 c2 c3 c4:Nat}
theorem Qrj(hP:PgS S w [.slice a0 k0 c0,.slice a1 k1 c1,.slice a2 k2 c2,.slice a3 k3 c3,.slice a4 k4 c4] p)(t:Txt):
  Calls Tryz.prog 19 #[.agg #[.slice a0 k0 c0,.slice a1 k1 c1,.slice a2 k2 c2,.slice a3 k3 c3,.slice a4 k4 c4],str t] w fun en w'=>DeA S p t w en w':=by
 obtain⟨Q,f⟩:=JE (w.alloc (.cells #[.slice a0 k0 c0,.slice a1 k1 c1,.slice a2 k2 c2,.slice a3 k3 c3,.slice a4 k4 c4] 28));obtain⟨o,k⟩:=JE (Q.alloc (.cells #[Je,Jn,.bool false,.bool false,Ji 0] 63));have B:=bnw f;have n:=nnw f;have C:=bnw k;have G:=nnw k;have P:Q.heap.size=w.heap.size+1:=by rw[f];simp
 obtain⟨kb,j⟩:=JF w.heap.size;rw[P,j]at G;rw[j]at n;have J:=(C.block _ (Qaa n)).trans n;have h:Below w.heap.size w o:=B.trans (C.mono B.size);have D:LsAt PDc 5 (fun q=>S q/\q<w.heap.size) o (.slice a1 k1 c1) p.decls:=by
  obtain⟨_,_,_,_,_,ee,_,h1,_,_,_⟩:=PgS.cells (Qak.same _ _ o _ _ (Qak.mono _ (fun q=>S q/\q<w.heap.size) _ _ _ hP (fun q F g=>⟨g,F⟩)) h.size (fun q _ F=>h.block q F));obtain⟨-,rfl,-,-,-⟩:=list5 ee;exact h1
 have N:p.decls.length=k1:=(Qka hP).2.1;have ab:=D.cap rfl;have H:=hide (Ya J (Ya G (Ya D (Ya N h))));have b:=hide (Ya f (Ya k j));have K:=hide (show declP2 p t=(p.decls.drop 0).find? fun d=>decide (d.name=t) from Qph p t);clear hP f k B n C G P j J h D N;go_enter Tryz.func19,Tryz.ntmps19;go_upto_region 1 with fail;rw[<- (Qa b).1,<- (Qa b).2.1,(Qa b).2.2];go_wp2_with fail;go_loopw [6] (fun v wr=>∃(i:Nat),v = Ji (i:Int)/\i<=k1/\wr=o/\Hid (declP2 p t=(p.decls.drop i).find? fun d=>decide (d.name=t))) (fun v _=>k1 - (intOf v).toNat)
 case atStart=>exact⟨0,rfl,Nat.zero_le _,rfl,K⟩
 obtain⟨i,rfl,hi,a5,A⟩:=hrel;subst a5;clear K;obtain⟨ac,ad,ae,af,ag,xf⟩:=cl5 (Qa H).1;by_cases Z:i<k1
 ·
  obtain⟨d,m⟩:∃d,p.decls[i]?=some d:=⟨p.decls[i]'(by rw[(Qa H).2.2.2.1];exact Z),List.getElem?_eq_getElem _⟩;obtain⟨gb,cap,cs,L,W,V,Y,⟨R,U,T,rfl,M⟩,I⟩:=(Qa H).2.2.1.elem m;simp only[Value.slice.injEq]at L;obtain⟨rfl,-,rfl⟩:=L;obtain⟨ah,ai,aj,ak,al⟩:=cs5 I;have e:p.decls.drop i=d :: p.decls.drop (i+1):=by
   rw[List.drop_eq_getElem_cons (List.getElem?_eq_some_iff.1 m).1,(List.getElem?_eq_some_iff.1 m).2]
  obtain⟨z,O⟩:=JF ((d.name==t));obtain⟨W7,c,sc⟩:=sc5 (Qa H).2.1 (str d.name) (.slice R U T) (.bool d.input) (.bool d.output) (Ji d.at_);obtain⟨a6,a7,a8,a9,aa,yf⟩:=cl5 (Qa H).2.1;have HX:=hide M;have l:=hide e;have a:=hide (Ya c sc);clear m W V Y M I e c sc;cases z
  ·
   go_wp2_with fail;go_roundw
   case rel=>exact⟨i+1,by congr 1,by omega,trivial,hide (by rw[Qa A,Qa l,List.find?_cons,decide_eq_false (by simpa using O)])⟩
   case measure=>simp[intOf];omega
  go_wp2_with fail;rw[<- (Qa a).1];obtain⟨r,s,u,x,y,uf⟩:=cl5 (Qa a).2.box;refine bodyPost_ret (v:=.tuple #[.agg #[str d.name,.slice R U T,.bool d.input,.bool d.output,Ji d.at_],.bool true]) (by simp[results,Tryz.results19,go_sem,r,s,u,x,y]) rfl ?_;have sc:=(Qa a).2;have E:=(Qa H).2.2.2.2;refine⟨sc.below E (by have:=(Qa b).2.2;omega),_,_,_,_,_,_,_,_,rfl,?_⟩;rw[Qa A,Qa l,List.find?_cons,decide_eq_true (by simpa using O)];exact((Qa HX).same Qb (by rw[sc.size];exact Nat.le_refl _) (fun q g _=>sc.oth q (by have:=g.2;have:=(Qa b).2.2;omega))).mono Qb (fun q _ g=>g.1)
 have X:i=k1:=by omega
 subst X;have e:p.decls.drop i=[]:=List.drop_eq_nil_of_le (by rw[(Qa H).2.2.2.1];exact Nat.le_refl _);obtain⟨W7,c,sc⟩:=sc5 (Qa H).2.1 (Je) (Jn) (.bool false) (.bool false) (Ji 0);obtain⟨a6,a7,a8,a9,aa,yf⟩:=cl5 (Qa H).2.1;have l:=hide e;have a:=hide (Ya c sc);clear e c sc;go_wp2_with fail;rw[<- (Qa a).1];obtain⟨r,s,u,x,y,uf⟩:=cl5 (Qa a).2.box;refine bodyPost_ret (v:=.tuple #[.agg #[Je,Jn,.bool false,.bool false,Ji 0],.bool false]) (by simp[results,Tryz.results19,go_sem,r,s,u,x,y]) rfl ?_;have sc:=(Qa a).2;have E:=(Qa H).2.2.2.2;refine⟨sc.below E (by have:=(Qa b).2.2;omega),_,_,_,_,_,_,[],_,rfl,?_⟩;rw[Qa A,Qa l];exact⟨rfl,rfl⟩
end
end
end Go.Proofs.YtmfpbepifnedjaaGreat
