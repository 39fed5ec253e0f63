/- Walk of the document's sign. -/
import Derived.Test.YtkhndlnadhggkaaGreatAp01
import Derived.Test.YtkhndlnadhggkaaGreatAp05
import Derived.Test.YtkhndlnadhggkaaGreatAp04
set_option maxRecDepth 100000
set_option maxHeartbeats 32000000
namespace Go.Proofs.YtkhndlnadhggkaaGreat
section
open Go.RowKit
abbrev hdO:Obj:=.cells #[str [46,100,101,99,108],str [46,116,121,112,101],str [46,99,111,109,112],str [46,105,110,105,116]] 9
abbrev twO:Obj:=.cells #[str [58,45],str [60,58],str [60,61],str [62,61],str [33,61]] 9
theorem hdO_at(w:World){j:Nat}(h:j<4):(w.alloc hdO).cell? (Ja w.heap.size j)=some (str (hds.getD j [])):=by
 rw[Lib.cell_of_heap (heap_alloc_new w hdO)];rcases(by omega:j=0∨j=1∨j=2∨j=3) with rfl|rfl|rfl|rfl<;>rfl
theorem twO_at(w:World){j:Nat}(h:j<5):(w.alloc twO).cell? (Ja w.heap.size j)=some (str (twos.getD j [])):=by
 rw[Lib.cell_of_heap (heap_alloc_new w twO)];rcases(by omega:j=0∨j=1∨j=2∨j=3∨j=4) with rfl|rfl|rfl|rfl|rfl<;>rfl
theorem wd_hd{r:Txt}{j:Nat}(hj:j<4)(hp:pre (hds.getD j []) r=true):(decide (wdLen (r.drop 1)=4))=noW (r.drop 5):=by
 have i:hds.getD j []∈hds:=by
  rcases(by omega:j=0∨j=1∨j=2∨j=3) with rfl|rfl|rfl|rfl<;>decide
 have k:=Qlv hj;generalize hds.getD j []=h at hp i k;simp only[hds,List.mem_cons,List.not_mem_nil,or_false]at i;have g:=Qfd hp;rw[k]at g
 match r,g with
 |a :: b :: c :: d :: e :: t,g=>
  simp only[List.take_succ_cons,List.take_zero]at g;have m:isL (bv b)=true/\inW (bv c)=true/\inW (bv d)=true/\inW (bv e)=true:=by
   rcases i with rfl|rfl|rfl|rfl
   all_goals
    simp only[List.cons.injEq]at g;obtain⟨rfl,rfl,rfl,rfl,rfl,_⟩:=g;decide
  obtain⟨o,p,q,s⟩:=m;have n:wdLen ((a :: b :: c :: d :: e :: t).drop 1)=wcn t+4:=by
   show wdLen (b :: c :: d :: e :: t)=_;rw[Qgh,if_pos o];simp[wcn,p,q,s]
  rw[n];show decide (wcn t+4=4)=noW t
  cases t with
  |nil=>rfl
  |cons f u=>
   cases l:inW (bv f) with
   |true=>simp[noW,wcn,l]
   |false=>simp[noW,wcn,l]
 | [],g=>rcases i with rfl|rfl|rfl|rfl<;>simp at g
 | [a],g=>rcases i with rfl|rfl|rfl|rfl<;>simp at g
 | [a,b],g=>rcases i with rfl|rfl|rfl|rfl<;>simp at g
 | [a,b,c],g=>rcases i with rfl|rfl|rfl|rfl<;>simp at g
 | [a,b,c,d],g=>rcases i with rfl|rfl|rfl|rfl<;>simp at g
theorem two_hit{l:Txt}{j:Nat}(hj:j<5)(h0:isHd l=false)(hp:pre (twos.getD j []) l=true):sgLen l=2:=by
 unfold sgLen;rw[h0,Qoh (l:=twos) (p:=fun h=>pre h l) [] (show j<twos.length from hj) hp];rfl
theorem Qra{j:Nat}(h:j<5):(twos.getD j []).length=2:=by
 rcases(by omega:j=0∨j=1∨j=2∨j=3∨j=4) with rfl|rfl|rfl|rfl|rfl<;>rfl
theorem one_hit{l:Txt}{j:Nat}(hj:j<18)(h0:isHd l=false)(h2:twos.any (fun h=>pre h l)=false)(hp:pre [ones.getD j 0] l=true):sgLen l=1:=by
 unfold sgLen;rw[h0,h2,Qoh (l:=ones) (p:=fun c=>pre [c] l) 0 (show j<ones.length from hj) hp];rfl
theorem Qsr{l:Txt}(h0:isHd l=false)(h2:twos.any (fun h=>pre h l)=false)(h:∀j,j<18->pre [ones.getD j 0] l=false):sgLen l=0:=by
 unfold sgLen;rw[h0,h2,Qoj (l:=ones) (p:=fun c=>pre [c] l) 0 (fun j a=>h j a)];rfl
theorem Qic{a b:ByteArray}(h:a=b):Ending.returned (.string a) = .returned (.string b):=by rw[h]
theorem one_at{s:ByteArray}{k:Nat}(hk:k<s.size)(c:UInt8):pre [c] (s.data.toList.drop k)=(c==s[k]):=by
 rw[Qar s k hk];show(c==s[k]&&_)=_;simp[List.isPrefixOf]
def sgStr(s:ByteArray)(k:Nat):ByteArray:=⟨((s.data.toList.drop k).take (sgLen (s.data.toList.drop k))).toArray⟩
theorem Qqu(s:ByteArray)(k:Nat)(hk:k<s.size)(hs:s.size<=65536)(w:World):
  Calls Tryz.prog 55 #[.string s,Ji (k:Int)] w fun e w'=>e = .returned (.string (sgStr s k))/\Below w.heap.size w w':=by
 have o:s.size<=140737488355328:=by omega
 have S:=hide ((Below.refl w.heap.size w).alloc (Nat.le_refl _) hdO);have F:=hide (((Below.refl w.heap.size w).alloc (Nat.le_refl _) hdO).alloc (by simp) twO);have T:=hide (fun (j:Nat) (h:j<4)=>hdO_at w h);have M:=hide (fun (j:Nat) (h:j<5)=>twO_at (w.alloc hdO) h);obtain⟨I,G⟩:=JF (w.alloc hdO);have a3:=hide G;rw[G]at S F T M;have X:I.heap.size=w.heap.size+1:=by rw[<- G];simp
 have a9:=hide X;clear G X;go_enter Tryz.func55,Tryz.ntmps55;go_wp2_with fail;rw[show w.alloc (.cells #[.string ⟨#[46,100,101,99,108]⟩,.string ⟨#[46,116,121,112,101]⟩,.string ⟨#[46,99,111,109,112]⟩,.string ⟨#[46,105,110,105,116]⟩] 9)=I from Qa a3]
 go_loop [13] (fun i=>∃j:Nat,i = Ji (j:Int)/\j<=4/\Hid (∀q,q<j->(pre (hds.getD q []) (s.data.toList.drop k)&&noW ((s.data.toList.drop k).drop 5))=false)) (fun i=>4 - (intOf i).toNat)
 case atStart=>exact⟨0,rfl,by omega,hide fun q c=>absurd c (Nat.not_lt_zero q)⟩
 obtain⟨j,rfl,hj,d⟩:=hrel;by_cases b:j<4
 ·
  have y:=Qa T j b;obtain⟨p,t⟩:∃p:ByteArray,(⟨(hds.getD j []).toArray⟩:ByteArray)=p:=⟨_,rfl⟩;have n:p.data.toList=hds.getD j []:=by rw[<- t]
  have C:p.size=5:=by rw[Qcs,n,Qlv b]
  unfold str at y;rw[t]at y;have g:=hide n;have v:=hide C;clear t n C
  cases a:pre (hds.getD j []) (s.data.toList.drop k) with
  |false=>
   have f:=hide (show pre p.data.toList (s.data.toList.drop k)=false by rw[Qa g];exact a)
   have r:=hide (show ∀q,q<j+1->(pre (hds.getD q []) (s.data.toList.drop k)&&noW ((s.data.toList.drop k).drop 5))=false from fun q c=>by
    by_cases D:q<j
    ·exact Qa d q D
    ·rw[show q=j by omega,a];rfl)
   clear a;go_wp2_with (go_at_call 87;refine(Qdy s _ k p false rfl (Qa f) (by omega) o (by rw[Qa v];decide) _).mono ?_;rintro e w'⟨rfl,rfl⟩)
   go_round
   case rel=>exact⟨j+1,by go_num,by omega,r⟩
   case measure=>simp[intOf];omega
  |true=>
   have f:=hide (show pre p.data.toList (s.data.toList.drop k)=true by rw[Qa g];exact a);have ad:k+5<=s.size:=by
    have:=Qev a;rw[Qlv b,Qbp]at this;omega
   have x:=wd_hd b a;rw[List.drop_drop]at x;obtain⟨m,Q⟩:=JF (wdLen (s.data.toList.drop (k+1)));have Y:=hide Q;rw[Q]at x;clear Q;by_cases J:m=4
   ·
    have z:noW ((s.data.toList.drop k).drop 5)=true:=by rw[<- x,decide_eq_true J]
    have H:=hide (show p=sgStr s k by
     unfold sgStr
     rw[hd_hit b a z,<- Qlv b,Qfd a,<- Qa g])
    have a6:((m:Int)==4)=true:=by rw[beq_iff_eq];omega
    clear a z x J
    go_wp2_with (first
     |(go_at_call 87;refine(Qdy s _ k p true rfl (Qa f) (by omega) o (by rw[Qa v];decide) _).mono ?_;rintro e w'⟨rfl,rfl⟩)
     |(go_at_call 88;refine(Qek s _ (k+1) m (by omega) (Qa Y) (by omega) o _).mono ?_;rintro e w'⟨rfl,rfl⟩))
    go_ret;exact⟨Qic (Qa H),Qa S⟩
   have z:noW ((s.data.toList.drop k).drop 5)=false:=by rw[<- x,decide_eq_false J]
   have r:=hide (show ∀q,q<j+1->(pre (hds.getD q []) (s.data.toList.drop k)&&noW ((s.data.toList.drop k).drop 5))=false from fun q c=>by rw[z,Bool.and_false]);have a6:((m:Int)==4)=false:=by rw[beq_eq_false_iff_ne];omega
   clear a z x J
   go_wp2_with (first
    |(go_at_call 87;refine(Qdy s _ k p true rfl (Qa f) (by omega) o (by rw[Qa v];decide) _).mono ?_;rintro e w'⟨rfl,rfl⟩)
    |(go_at_call 88;refine(Qek s _ (k+1) m (by omega) (Qa Y) (by omega) o _).mono ?_;rintro e w'⟨rfl,rfl⟩))
   go_round
   case rel=>exact⟨j+1,by go_num,by omega,r⟩
   case measure=>simp[intOf];omega
 have e4:j=4:=by omega
 subst e4;have P:=hide (hd_none (Qa d));clear d;have U:=hide (fun (q:Nat) (h:q<5)=>Qa M q h);obtain⟨W2,N⟩:=JF (I.alloc twO);have a4:=hide N;rw[N]at F U;clear N M;go_wp2_with fail;rw[show I.alloc (.cells #[.string ⟨#[58,45]⟩,.string ⟨#[60,58]⟩,.string ⟨#[60,61]⟩,.string ⟨#[62,61]⟩,.string ⟨#[33,61]⟩] 9)=W2 from Qa a4]
 go_loop [32] (fun i=>∃j:Nat,i = Ji (j:Int)/\j<=5/\Hid (∀q,q<j->pre (twos.getD q []) (s.data.toList.drop k)=false)) (fun i=>5 - (intOf i).toNat)
 case atStart=>exact⟨0,rfl,by omega,hide fun q c=>absurd c (Nat.not_lt_zero q)⟩
 obtain⟨j,rfl,hj,d⟩:=hrel;by_cases b:j<5
 ·
  have y:=Qa U j b;obtain⟨p,t⟩:∃p:ByteArray,(⟨(twos.getD j []).toArray⟩:ByteArray)=p:=⟨_,rfl⟩;have n:p.data.toList=twos.getD j []:=by rw[<- t]
  have C:p.size=2:=by rw[Qcs,n,Qra b]
  unfold str at y;rw[t]at y;have g:=hide n;have v:=hide C;clear t n C
  cases a:pre (twos.getD j []) (s.data.toList.drop k) with
  |false=>
   have f:=hide (show pre p.data.toList (s.data.toList.drop k)=false by rw[Qa g];exact a)
   have r:=hide (show ∀q,q<j+1->pre (twos.getD q []) (s.data.toList.drop k)=false from fun q c=>by
    by_cases D:q<j
    ·exact Qa d q D
    ·rw[show q=j by omega,a])
   clear a;go_wp2_with (go_at_call 87;refine(Qdy s _ k p false rfl (Qa f) (by omega) o (by rw[Qa v];decide) _).mono ?_;rintro e w'⟨rfl,rfl⟩)
   go_round
   case rel=>exact⟨j+1,by go_num,by omega,r⟩
   case measure=>simp[intOf];omega
  |true=>
   have f:=hide (show pre p.data.toList (s.data.toList.drop k)=true by rw[Qa g];exact a)
   have H:=hide (show p=sgStr s k by
    unfold sgStr
    rw[two_hit b (Qa P) a,<- Qra b,Qfd a,<- Qa g])
   clear a;go_wp2_with (go_at_call 87;refine(Qdy s _ k p true rfl (Qa f) (by omega) o (by rw[Qa v];decide) _).mono ?_;rintro e w'⟨rfl,rfl⟩);go_ret;exact⟨Qic (Qa H),Qa F⟩
 have e5:j=5:=by omega
 subst e5;have Z:=hide (Qoj (l:=twos) (p:=fun h=>pre h (s.data.toList.drop k)) [] (fun q c=>Qa d q c));clear d;go_wp2_with fail;obtain⟨O,K⟩:∃O:ByteArray,(⟨#[40,41,123,125,44,46,58,124,33,61,60,62,43,45,42,47,37,36]⟩:ByteArray)=O:=⟨_,rfl⟩;have V:O.data.toList=ones:=by rw[<- K];rfl
 have a7:O.size=18:=by rw[<- K];rfl
 rw[K];have aa:O.size<=18:=by omega
 have ab:18<=O.size:=by omega
 have a1:=hide V;clear K V a7;have a0:=Qjn s k 1 (k:Int) ((k:Int)+1) rfl (by omega) (by omega);obtain⟨u,R⟩:=JF (s.extract k (k+1));have W:u.data.toList=(s.data.toList.drop k).take 1:=by rw[<- R];exact Qiz s k 1
 rw[R]at a0;have a2:=hide W;clear R W;go_loopw [10] (fun i wr=>∃j:Nat,i = Ji (j:Int)/\j<=18/\Hid (∀q,q<j->pre [ones.getD q 0] (s.data.toList.drop k)=false)/\Hid (Below w.heap.size w wr)) (fun i _=>18 - (intOf i).toNat)
 case atStart=>exact⟨0,rfl,by omega,hide fun q c=>absurd c (Nat.not_lt_zero q),F⟩
 obtain⟨j,rfl,hj,d,L⟩:=hrel;by_cases b:j<18
 rotate_left
 ·
  have a5:j=18:=by omega
  subst a5;have H:=hide (show(⟨#[]⟩:ByteArray)=sgStr s k by unfold sgStr;rw[Qsr (Qa P) (Qa Z) (Qa d)];rfl);have ac:((18:Int)<(O.size:Int))=False:=by simp;omega
  go_wp2_with fail;go_ret;exact⟨Qic (Qa H),Qa L⟩
 have a8:j<O.size:=by omega
 have A:ones.getD j 0=O[j]:=by
  have h1:=Qar O j a8;rw[Qa a1]at h1;rw[List.getD_eq_getElem?_getD,<- List.head?_drop,h1];rfl
 have B:=one_at hk (ones.getD j 0);rw[A]at B
 cases heq:((s[k].toNat:Int)==(O[j].toNat:Int)) with
 |true=>
  have E:O[j]=s[k]:=UInt8.toNat_inj.1 (by have:=beq_iff_eq.1 heq;omega)
  have H:=hide (show u=sgStr s k by
   unfold sgStr
   rw[one_hit b (Qa P) (Qa Z) (by rw[A,B,E];simp),<- Qa a2])
  clear B E A;go_wp2_with fail
  go_region
  all_goals
   go_wp2_with fail;go_ret;exact⟨Qic (Qa H),(Qa L).drew⟩
 |false=>
  have E:¬O[j]=s[k]:=fun e=>beq_eq_false_iff_ne.1 heq (by rw[e])
  have r:=hide (show ∀q,q<j+1->pre [ones.getD q 0] (s.data.toList.drop k)=false from fun q c=>by
   by_cases D:q<j
   ·exact Qa d q D
   ·rw[show q=j by omega,A,B];exact beq_eq_false_iff_ne.2 E)
  clear B E A;go_wp2_with fail
  go_region
  all_goals
   go_wp2_with fail;go_roundw
   case rel=>exact⟨j+1,by go_num,by omega,r,hide (Qa L).drew⟩
   case measure=>simp[intOf];omega
structure RkInv(s:ByteArray)(w:World)(v:Value)(wr:World)(toks:List Tok)(m:Nat):Prop where
 own:wr.ownsRow (w.heap.size+1) 73 4 v toks.length (tokCells toks)
 bel:Below w.heap.size w wr
 rb:wr.heap[w.heap.size]?=some fltZ
 ms:m<=s.size
 tl:toks.length<=m
 sc:scan 0 s.data.toList=(scan m (s.data.toList.drop m)).app toks
def RkRel(s:ByteArray)(w:World)(v i:Value)(wr:World):Prop:=∃(toks:List Tok) (m:Nat),i = .int .i64 (m:Int)/\Hid (RkInv s w v wr toks m)
structure Aft(w wr w8:World)(v:Value)(toks:List Tok)(kd:Int)(tx:ByteArray)(nm a why fa:Int):Prop where
 ft:w8.heap[wr.heap.size]?=some (.cells #[.int .i64 kd,.string tx,.int .i64 nm,.int .i64 a] 73)
 ff:w8.heap[wr.heap.size+1]?=some (.cells #[.int .i64 why,.int .i64 fa] 31)
 fr:w8.heap[w.heap.size]?=some fltZ
 bel:Below w.heap.size w w8
 own:w8.ownsRow (w.heap.size+1) 73 4 v toks.length (tokCells toks)
 sz:wr.heap.size+2<=w8.heap.size
theorem aft0{s:ByteArray}{w wr w6:World}{v:Value}{toks:List Tok}{m:Nat}(h:RkInv s w v wr toks m)(b6:Below (wr.heap.size+2) ((wr.alloc tokZ).alloc fltZ) w6):Aft w wr w6 v toks 0 ⟨#[]⟩ 0 0 0 0:=by
 have c:=h.bel.size;have b:w.heap.size<wr.heap.size:=(Array.getElem?_eq_some_iff.1 h.rb).1;have e:=b6.size;simp at e;refine⟨?_,?_,?_,?_,?_,by omega⟩
 ·rw[b6.block _ (by omega),Lib.alloc_old (wr.alloc tokZ) _ _ (by simp)];exact heap_alloc_new wr _
 ·
  rw[b6.block _ (by omega)];have:=heap_alloc_new (wr.alloc tokZ) fltZ;rwa [show(wr.alloc tokZ).heap.size=wr.heap.size+1 by simp]at this
 ·rw[b6.block _ (by omega),Lib.alloc_old (wr.alloc tokZ) _ _ (by simp;omega),Lib.alloc_old wr _ _ b];exact h.rb
 ·exact((h.bel.alloc c _).alloc (by simp;omega) _).trans (b6.mono (by omega))
 refine Qsu h.own fun g f d=>?_;have a:g<wr.heap.size:=(Array.getElem?_eq_some_iff.1 d).1;rw[b6.block _ (by omega),Lib.alloc_old (wr.alloc tokZ) _ _ (by simp;omega),Lib.alloc_old wr _ _ a]
theorem Qqe{wr:World}{B:Nat}{v:Value}{n:Nat}{xs:List Value}(h:wr.ownsRow B 73 4 v n xs){w8:World}(h8:w8.ownsRow B 73 4 v n xs)(hk:∀g,g<wr.heap.size -> ∀w9:World,(∀k,k<wr.heap.size->w9.heap[k]?=w8.heap[k]?)->w9.heap[g]?=w8.heap[g]?)(w9:World)(h9:∀k,k<wr.heap.size->w9.heap[k]?=w8.heap[k]?):w9.ownsRow B 73 4 v n xs:=by
 refine⟨h8.1,?_⟩;rcases h8.2 with e|⟨g,cap,b,a,o,p,i,j,l,m⟩
 ·exact .inl e
 refine .inr ⟨g,cap,b,a,o,?_,i,j,l,m⟩;have d:g<wr.heap.size:=by
  rcases h.2 with ⟨e,_⟩|⟨s,q,r,f,_,c,_⟩
  ·rw[e]at a;cases a
  rw[f]at a;injection a with e1 _ _
  injection e1 with e1
  injection e1 with e1 _ _
  subst e1;exact(Array.getElem?_eq_some_iff.1 c).1
 rw[hk g d w9 h9];exact p
theorem Qep{w wr w6:World}{v:Value}{toks:List Tok}{kd0 nm0 a0 why fa:Int}{tx0:ByteArray}(h0:wr.ownsRow (w.heap.size+1) 73 4 v toks.length (tokCells toks))(hb:w.heap.size<wr.heap.size)(h:Aft w wr w6 v toks kd0 tx0 nm0 a0 why fa)(kd nm a:Int)(tx:ByteArray):
  ∃w7,(tkStore (.pointer (Js wr.heap.size)) (.agg #[Ji kd,.string tx,Ji nm,Ji a])).run Tryz.prog w6 = .ok () w7/\Aft w wr w7 v toks kd tx nm a why fa:=by
 have c:∀k,k≠wr.heap.size->((((w6.setCell (Ja wr.heap.size 0) (Ji kd)).setCell (Ja wr.heap.size 1) (.string tx)).setCell (Ja wr.heap.size 2) (Ji nm)).setCell (Ja wr.heap.size 3) (Ji a)).heap[k]?=w6.heap[k]?:=fun k b=>by
  rw[heap_setCell_other _ _ _ _ b,heap_setCell_other _ _ _ _ b,heap_setCell_other _ _ _ _ b,heap_setCell_other _ _ _ _ b]
 refine⟨_,Qth h.ft kd nm a tx,heap_setCell_same _ _ 3 _ _ _ (heap_setCell_same _ _ 2 _ _ _ (heap_setCell_same _ _ 1 _ _ _ (heap_setCell_same _ _ 0 _ _ _ h.ft))),by rw[c _ (by omega)];exact h.ff,by rw[c _ (by omega)];exact h.fr,?_,?_,?_⟩
 ·exact(((h.bel.setCell (p:=(Ja wr.heap.size 0)) (by show w.heap.size<=wr.heap.size;omega) _).setCell (p:=(Ja wr.heap.size 1)) (by show w.heap.size<=wr.heap.size;omega) _).setCell (p:=(Ja wr.heap.size 2)) (by show w.heap.size<=wr.heap.size;omega) _).setCell (p:=(Ja wr.heap.size 3)) (by show w.heap.size<=wr.heap.size;omega) _
 ·exact Qqe h0 h.own (fun g e f d=>d g e) _ (fun k b=>c k (by omega))
 ·simp;exact h.sz
theorem Qfg{w wr w6:World}{v:Value}{toks:List Tok}{kd nm a why0 fa0:Int}{tx:ByteArray}(h0:wr.ownsRow (w.heap.size+1) 73 4 v toks.length (tokCells toks))(hb:w.heap.size<wr.heap.size)(h:Aft w wr w6 v toks kd tx nm a why0 fa0)(why fa:Int):
  ∃w7,(flStore (.pointer (Js (wr.heap.size+1))) (.agg #[Ji why,Ji fa])).run Tryz.prog w6 = .ok () w7/\Aft w wr w7 v toks kd tx nm a why fa:=by
 have c:∀k,k≠wr.heap.size+1->((w6.setCell (Ja (wr.heap.size+1) 0) (Ji why)).setCell (Ja (wr.heap.size+1) 1) (Ji fa)).heap[k]?=w6.heap[k]?:=fun k b=>by
  rw[heap_setCell_other _ _ _ _ b,heap_setCell_other _ _ _ _ b]
 refine⟨_,Qlt h.ff why fa,by rw[c _ (by omega)];exact h.ft,Qr _ _ _ _ _ _ h.ff,by rw[c _ (by omega)];exact h.fr,?_,?_,?_⟩
 ·exact(h.bel.setCell (p:=(Ja (wr.heap.size+1) 0)) (by show w.heap.size<=wr.heap.size+1;omega) _).setCell (p:=(Ja (wr.heap.size+1) 1)) (by show w.heap.size<=wr.heap.size+1;omega) _
 ·exact Qqe h0 h.own (fun g e f d=>d g e) _ (fun k b=>c k (by omega))
 ·simp;exact h.sz
theorem Qog{w wr w6 w7:World}{v:Value}{toks:List Tok}{kd nm a why fa:Int}{tx:ByteArray}(hb:w.heap.size<wr.heap.size)(h0:wr.ownsRow (w.heap.size+1) 73 4 v toks.length (tokCells toks))(h:Aft w wr w6 v toks kd tx nm a why fa)(b:Below w6.heap.size w6 w7):Aft w wr w7 v toks kd tx nm a why fa:=by
 have f:=h.sz;refine⟨by rw[b.block _ (by omega)];exact h.ft,by rw[b.block _ (by omega)];exact h.ff,by rw[b.block _ (by omega)];exact h.fr,h.bel.trans (b.mono h.bel.size),?_,by have:=b.size;omega⟩;exact Qqe h0 h.own (fun g d i c=>c g d) _ (fun k e=>b.block k (by omega))
theorem app_nil(o:Out):o.app []=o:=by cases o<;>rfl
theorem Qid{s:ByteArray}{w wr w8 w9:World}{v v':Value}{toks:List Tok}{m n:Nat}{kd nm:Int}{tx:Txt}(h:RkInv s w v wr toks m)(ha:Aft w wr w8 v toks kd ⟨tx.toArray⟩ nm (m:Int) 0 0)(hg:gapAt (s.data.toList.drop m) = .none)(ht:tokAt (s.data.toList.drop m) = .tok kd tx nm n)
  (hown:w9.ownsRow (w.heap.size+1) 73 4 v' (toks.length+1) (tokCells toks++[Ji kd,.string ⟨tx.toArray⟩,Ji nm,Ji (m:Int)]))
  (hgrow:(w8.alloc (.cells #[Ji kd,.string ⟨tx.toArray⟩,Ji nm,Ji (m:Int)] 73)).grownBy w9 v.ownBlock):
  RkInv s w v' w9 (toks++[⟨kd,tx,nm,m⟩]) (m+n):=by
 have c:=Qcu ht;rw[Qbp]at c;have d:=h.ms;have a:=ha.bel.size;have b:w.heap.size<w8.heap.size:=(Array.getElem?_eq_some_iff.1 ha.fr).1;refine⟨?_,?_,?_,by omega,by have:=h.tl;rw[List.length_append];simp;omega,?_⟩
 ·
  have e:tokCells (toks++[⟨kd,tx,nm,m⟩])=tokCells toks++[Ji kd,.string ⟨tx.toArray⟩,Ji nm,Ji (m:Int)]:=Qem _ _;rw[e,List.length_append];exact hown
 ·exact(ha.bel.alloc a _).grown hgrow (by simp;omega) (fun g hg=>by have:=(ha.own.lt g hg).1;omega)
 ·
  rw[hgrow.block _ (by simp;omega) (fun e=>by have:=(ha.own.lt _ e.symm).1;omega),Lib.alloc_old _ _ _ b];exact ha.fr
 ·rw[h.sc,Qel hg ht,Qsa,List.drop_drop]
theorem nm0{s:ByteArray}{m:Nat}(h:m<s.size):rnm (s.data.toList.drop m)=if isL (bv s[m]) then nmLen (s.data.toList.drop m) else 0:=by
 unfold rnm;rw[Qar s m h,Qgh]
 cases a:isL (bv s[m]) with
 |true=>simp
 |false=>simp
attribute [local go_sem ↓] Qdr Qhf Qej Qjc
theorem Qlc(s:ByteArray)(hs:s.size<=65536)(w:World):
  Calls Tryz.prog 20 #[.string s] w fun e w'=>TokAns (lexP s.data.toList) w w' e:=by
 have H:=hide (show lexP s.data.toList=scan 0 s.data.toList by unfold lexP;rw[<- Qcs,if_neg (by omega)]);obtain⟨T,hi,ax,ay,az⟩:=Qft;have h:=hide (show Tryz.prog.info? 73=some T/\T.zero=some (.agg #[Ji 0,Je,Ji 0,Ji 0])/\T.size=4/\T.bytes=40 from ⟨hi,ax,ay,az⟩);have aa:=hide (show RkInv s w (Jn) (w.alloc fltZ) [] 0 from ⟨World.ownsRow_nil _ _ _ _,(Below.refl _ w).alloc (Nat.le_refl _) _,heap_alloc_new w _,Nat.zero_le _,Nat.zero_le _,by rw[List.drop_zero,app_nil]⟩);obtain⟨W1,ad⟩:=JF (w.alloc fltZ);have al:=hide ad;rw[ad]at aa;clear hi ax ay az ad;go_enter Tryz.func20,Tryz.ntmps20;go_wp2_with fail;rw[show w.alloc (.cells #[Ji 0,Ji 0] 31)=W1 from Qa al];go_loopw [4,5] (fun v i wr=>RkRel s w v i wr) (fun _ i _=>s.size - (intOf i).toNat)
 case atStart=>exact⟨[],0,rfl,aa⟩
 clear aa al;obtain⟨toks,m,rfl,b⟩:=hrel;have aK:=(Qa b).ms;have aL:=(Qa b).tl;have aF:=(Qa b).bel.size;by_cases G:m<s.size
 rotate_left
 ·
  have E:=hide (show scan 0 s.data.toList = .ok toks by rw[(Qa b).sc,Qby s m (by omega),Qck];simp[Out.app]);have HO:=hide (Qa b).own;obtain⟨y,a5,K,L,J,aj⟩:=last (Qa b).bel (Qa b).rb 0 0;have aA:=hide (out_own (Qa HO) aj);clear b HO aj;go_wp2_with fail;refine bodyPost_ret (v:=.tuple #[u4,.agg #[Ji 0,Ji 0]]) (by simp[results,Tryz.results20,go_sem,K,L]) rfl ?_;rw[Qa H,Qa E];exact⟨u4,rfl,Qa aA,J⟩
 have ai:=hide (Qa b).bel;have ak:=hide (Qa b).rb;have z:=hide (Array.getElem?_eq_some_iff.1 (Qa b).rb).1;have D:=hide (Qtd s m G (by omega) wr)
 cases S:gapAt (s.data.toList.drop m) with
 |never=>
  rw[S]at D;have Z:=ai;have a1:=ak;have aq:gapV m .never = -1:=rfl;rw[aq]at D;go_wp2_with fail;refine(Qa D).mono ?_;rintro e t⟨rfl,rfl⟩;have E:=hide (show scan 0 s.data.toList = .bad 7 m by rw[(Qa b).sc,Qcw S];rfl);go_wp2_with fail;refine(Qbq _ _ _).mono ?_;rintro e w3⟨rfl,X⟩;have a0:=(Qa Z).trans (X.mono (Qa Z).size);have a4:w3.heap[w.heap.size]?=some fltZ:=by rw[X.block _ (Array.getElem?_eq_some_iff.1 (Qa a1)).1];exact Qa a1
  obtain⟨y,a5,K,L,J,_⟩:=last a0 a4 7 (m:Int);clear X a0 a4;go_wp2_with fail;refine bodyPost_ret (v:=.tuple #[Jn,.agg #[Ji 7,Ji (m:Int)]]) (by simp[results,Tryz.results20,go_sem,K,L]) rfl ?_;rw[Qa H,Qa E];exact⟨_,rfl,World.ownsRow_nil _ _ _ _,J⟩
 |gap n=>
  have hp:=Qdd S;rw[Qbp]at hp;rw[S,show gapV m (.gap n)=(m:Int)+(n:Int) from rfl]at D;have O:=hide (show RkRel s w u4 (Ji ((m+n:Nat):Int)) wr from ⟨_,_,rfl,hide ⟨(Qa b).own,(Qa b).bel,(Qa b).rb,by omega,by omega,by rw[(Qa b).sc,Qdq S,List.drop_drop]⟩⟩);have h1:decide ((m:Int)<(m:Int)+(n:Int))=true:=decide_eq_true (by omega);have h2:decide ((m:Int)+(n:Int)<0)=false:=decide_eq_false (by omega);go_wp2_with fail;refine(Qa D).mono ?_;rintro e t⟨rfl,rfl⟩;go_wp2_with fail;go_roundw
  case rel=>exact Qa O
  case measure=>simp[intOf];omega
 |none=>
  rw[S,show gapV m .none=(m:Int) from rfl]at D;have R:=hide S;clear S;have aI:=tk_new wr 0 0 0 ⟨#[]⟩;have aB:=fl_new (wr.alloc tokZ) 0 0;rw[show(wr.alloc tokZ).heap.size=wr.heap.size+1 by simp]at aB;have f:=Qds s[m] (s.data.toList.drop (m+1));rw[<- Qar s m G]at f;have M:=nm0 G;have A:=aft0 (Qa b) (Below.refl _ _);have Z:=hide A.bel;have a1:=hide A.fr;obtain⟨W5,a6⟩:=JF ((wr.alloc tokZ).alloc fltZ);have Q:=hide a6;have a9:W5.heap.size=wr.heap.size+2:=by rw[<- a6];simp
  have ab:=hide a9
  have a3:=hide (show ∀n,rnm (s.data.toList.drop m)=n->Calls Tryz.prog 51 #[.string s,Ji (m:Int)] ((wr.alloc tokZ).alloc fltZ) fun e w'=>e = .returned (Ji (n:Int))/\w'=(wr.alloc tokZ).alloc fltZ from
   fun n l=>by have:=Qqq s m (by omega) (by omega) ((wr.alloc tokZ).alloc fltZ);rwa [l]at this)
  rw[a6]at A Z a1 a3;clear a6 a9
  cases hl:isL (bv s[m]) with
  |true=>
   rw[hl,if_pos rfl]at M f;obtain⟨n,l⟩:=JF (nmLen (s.data.toList.drop m));have af:=Qsq (s.data.toList.drop m);rw[Qbp,l]at af;have aG:0<n:=by rw[<- l,Qar s m G,Qsp (Qpe hl)];omega
   have P:=hide (Qa a3 n (by rw[M,l]));by_cases an:64<n
   ·
    have c:tokAt (s.data.toList.drop m) = .bad 2 0:=by rw[f];unfold nmRes;rw[l,if_pos an]
    clear A M;go_wp2_with fail;refine(Qa D).mono ?_;rintro e t⟨rfl,rfl⟩;go_wp2_with fail;rw[show(t.alloc (.cells #[Ji 0,Je,Ji 0,Ji 0] 73)).alloc (.cells #[Ji 0,Ji 0] 31)=W5 from Qa Q];refine(Qa P).mono ?_;rintro e a8⟨rfl,rfl⟩;have E:=hide (show scan 0 s.data.toList = .bad 2 m by rw[(Qa b).sc];exact Qhk _ _ _ _ (Qcr (by rw[Qar s m G];simp) (Qa R) c));go_wp2_with fail;refine(Qbq _ _ _).mono ?_;rintro e w3⟨rfl,X⟩;have a0:=(Qa Z).trans (X.mono (Qa Z).size);have a4:w3.heap[w.heap.size]?=some fltZ:=by rw[X.block _ (Array.getElem?_eq_some_iff.1 (Qa a1)).1];exact Qa a1
    obtain⟨y,a5,K,L,J,_⟩:=last a0 a4 2 (m:Int);clear X a0 a4;go_wp2_with fail;refine bodyPost_ret (v:=.tuple #[Jn,.agg #[Ji 2,Ji (m:Int)]]) (by simp[results,Tryz.results20,go_sem,K,L]) rfl ?_;rw[Qa H,Qa E];exact⟨_,rfl,World.ownsRow_nil _ _ _ _,J⟩
   have av:=Qjn s m n (m:Int) ((m:Int)+(n:Int)) rfl (by omega) (by omega);obtain⟨u,hu⟩:=JF (s.extract m (m+n));have aw:u.data.toList=(s.data.toList.drop m).take n:=by rw[<- hu];exact Qiz s m n
   rw[hu]at av;have c:tokAt (s.data.toList.drop m) = .tok 1 u.data.toList 0 n:=by rw[f];unfold nmRes;rw[l,if_neg an,aw]
   obtain⟨g,U,a⟩:=Qep (Qa b).own (Qa z) A 1 0 (m:Int) u;clear hu aw A f M l;go_wp2_with fail;refine(Qa D).mono ?_;rintro e t⟨rfl,rfl⟩;go_wp2_with fail;rw[show(t.alloc (.cells #[Ji 0,Je,Ji 0,Ji 0] 73)).alloc (.cells #[Ji 0,Ji 0] 31)=W5 from Qa Q];refine(Qa P).mono ?_;rintro e a8⟨rfl,rfl⟩;have hL:=Qct (w:=g) a.ff;have hT:=Qif (w:=g) a.ft;have I:=hide a;have ag:=a.sz;have ae:=a.bel.size;have V:=hide c;clear a c;go_wp2_with (at_builtin;refine wpList_append_own _ rfl _ _ 69 rfl (w.heap.size+1) 73 T (.agg #[Ji 0,Je,Ji 0,Ji 0]) 4 40 Tryz.underlying69 (Qa h).1 (Qa h).2.1 (Qa h).2.2.1 (Qa h).2.2.2 rfl (by decide) _ _ _ rfl ((Qa I).own.alloc _) (Ja _ 0) 1 1 [Ji 1,.string u,Ji 0,Ji (m:Int)] rfl rfl (Qfe _ _ _ _ _) (Qig _ _ _ _) (by unfold maxLen;omega) (by omega) (by simp;omega) ?_;intro Y y C B _);have O:=hide (show RkRel s w Y (Ji ((m+n:Nat):Int)) y from ⟨_,_,rfl,hide (Qid (tx:=u.data.toList) (Qa b) (by rw[show(⟨u.data.toList.toArray⟩:ByteArray)=u from (Qdk rfl).symm];exact Qa I) (Qa R) (Qa V) (by rw[show(⟨u.data.toList.toArray⟩:ByteArray)=u from (Qdk rfl).symm];exact C) (by rw[show(⟨u.data.toList.toArray⟩:ByteArray)=u from (Qdk rfl).symm];exact B))⟩);clear C B;go_roundw
   case rel=>exact Qa O
   case measure=>simp[intOf];omega
  |false=>
   rw[hl,if_neg (by simp)]at M f
   cases a2:isD (bv s[m]) with
   |true=>
    rw[a2,if_pos rfl]at f;have p:=hide (fun W=>Qlb s m G a2 hs W);rw[<- f]at p;have P:=hide (Qa a3 0 M);go_wp2_with fail;refine(Qa D).mono ?_;rintro e t⟨rfl,rfl⟩;go_wp2_with fail;rw[show(t.alloc (.cells #[Ji 0,Je,Ji 0,Ji 0] 73)).alloc (.cells #[Ji 0,Ji 0] 31)=W5 from Qa Q];refine(Qa P).mono ?_;rintro e a8⟨rfl,rfl⟩;go_wp2_with fail;refine(Qbn _ _).mono ?_;rintro e w5⟨rfl,rfl⟩;rw[show isD (s[m].toNat:Int)=true from a2];go_wp2_with fail;refine(Qa p _).mono ?_;rintro e w6⟨rfl,r⟩;have x:=aft0 (w6:=w6) (Qa b) (by rw[Qa ab]at r;rw[show(t.alloc tokZ).alloc fltZ=w5 from Qa Q];exact r)
    cases c:tokAt (s.data.toList.drop m) with
    |bad why o=>
     rw[show resT m (.bad why o)=⟨0,⟨#[]⟩,0,0,0,why,((m+o:Nat):Int)⟩ from rfl];obtain⟨w7,ac,F⟩:=Qep (Qa b).own (Qa z) x 0 0 0 ⟨#[]⟩;obtain⟨g,U,a⟩:=Qfg (Qa b).own (Qa z) F why ((m+o:Nat):Int);have aD:(why==0)=false:=beq_eq_false_iff_ne.2 (Qlg c).1;obtain⟨q,j⟩:∃q:Int,((m+o:Nat):Int)=q:=⟨_,rfl⟩;rw[j]at U a ⊢;have N:=hide j;clear j;have E:=hide (show scan 0 s.data.toList = .bad why (m+o) by rw[(Qa b).sc];exact Qhk _ _ _ _ (Qcr (by rw[Qar s m G];simp) (Qa R) c));have hL:=Qct (w:=g) a.ff;have ap:=Qct (w:=g.drew) a.ff;obtain⟨y,a5,K,L,J,_⟩:=last (wr:=g.drew) a.bel.drew a.fr why q;clear a;clear c f x F r p A;go_wp2_with fail
     go_region
     all_goals
      go_wp2_with fail;refine bodyPost_ret (v:=.tuple #[Jn,.agg #[Ji why,Ji q]]) (by simp[results,Tryz.results20,go_sem,K,L]) rfl ?_;rw[Qa H,Qa E,<- Qa N];exact⟨_,rfl,World.ownsRow_nil _ _ _ _,J⟩
    |tok kd tx nm n=>
     have hp:=Qcu c;rw[Qbp]at hp;rw[show resT m (.tok kd tx nm n)=⟨kd,⟨tx.toArray⟩,nm,(m:Int),((m+n:Nat):Int),0,0⟩ from rfl];obtain⟨w7,ac,F⟩:=Qep (Qa b).own (Qa z) x kd nm (m:Int) ⟨tx.toArray⟩;obtain⟨g,U,a⟩:=Qfg (Qa b).own (Qa z) F 0 0;clear f x F r p A;obtain⟨q,j⟩:∃q:Int,((m+n:Nat):Int)=q:=⟨_,rfl⟩;rw[j];have N:=hide j;have ar:(m:Int)<q:=by omega
     have au:q<=65536:=by omega
     clear j;have hL:=Qct (w:=g) a.ff;have hT:=Qif (w:=g) a.ft;have I:=hide a;have ag:=a.sz;have ae:=a.bel.size;have V:=hide c;clear a c;go_wp2_with (at_builtin;refine wpList_append_own _ rfl _ _ 69 rfl (w.heap.size+1) 73 T (.agg #[Ji 0,Je,Ji 0,Ji 0]) 4 40 Tryz.underlying69 (Qa h).1 (Qa h).2.1 (Qa h).2.2.1 (Qa h).2.2.2 rfl (by decide) _ _ _ rfl ((Qa I).own.alloc _) (Ja _ 0) 1 1 [Ji kd,.string ⟨tx.toArray⟩,Ji nm,Ji (m:Int)] rfl rfl (Qfe _ _ _ _ _) (Qig _ _ _ _) (by unfold maxLen;omega) (by omega) (by simp;omega) ?_;intro Y y C B _);have O:=hide (show RkRel s w Y (Ji ((m+n:Nat):Int)) y from ⟨_,_,rfl,hide (Qid (tx:=tx) (Qa b) (by exact Qa I) (Qa R) (Qa V) (by exact C) (by exact B))⟩);clear C B;go_roundw
     case rel=>rw[<- Qa N];exact Qa O
     case measure=>simp[intOf];omega
   |false=>
    rw[a2,if_neg (by simp)]at f
    cases am:((s[m].toNat:Int)==34) with
    |true=>
     rw[if_pos (show s[m]=34 from (Qfi (k:=34) (by omega)).1 (beq_iff_eq.1 am))]at f;have p:=hide (fun W=>Qqv s m G hs W);rw[<- f]at p;have P:=hide (Qa a3 0 M);go_wp2_with fail;refine(Qa D).mono ?_;rintro e t⟨rfl,rfl⟩;go_wp2_with fail;rw[show(t.alloc (.cells #[Ji 0,Je,Ji 0,Ji 0] 73)).alloc (.cells #[Ji 0,Ji 0] 31)=W5 from Qa Q];refine(Qa P).mono ?_;rintro e a8⟨rfl,rfl⟩;go_wp2_with fail;refine(Qbn _ _).mono ?_;rintro e w5⟨rfl,rfl⟩;rw[show isD (s[m].toNat:Int)=false from a2];go_wp2_with fail;refine(Qa p _).mono ?_;rintro e w6⟨rfl,r⟩;have x:=aft0 (w6:=w6) (Qa b) (by rw[Qa ab]at r;rw[show(t.alloc tokZ).alloc fltZ=w5 from Qa Q];exact r)
     cases c:tokAt (s.data.toList.drop m) with
     |bad why o=>
      rw[show resT m (.bad why o)=⟨0,⟨#[]⟩,0,0,0,why,((m+o:Nat):Int)⟩ from rfl];obtain⟨w7,ac,F⟩:=Qep (Qa b).own (Qa z) x 0 0 0 ⟨#[]⟩;obtain⟨g,U,a⟩:=Qfg (Qa b).own (Qa z) F why ((m+o:Nat):Int);have aD:(why==0)=false:=beq_eq_false_iff_ne.2 (Qlg c).1;obtain⟨q,j⟩:∃q:Int,((m+o:Nat):Int)=q:=⟨_,rfl⟩;rw[j]at U a ⊢;have N:=hide j;clear j;have E:=hide (show scan 0 s.data.toList = .bad why (m+o) by rw[(Qa b).sc];exact Qhk _ _ _ _ (Qcr (by rw[Qar s m G];simp) (Qa R) c));have hL:=Qct (w:=g) a.ff;have ap:=Qct (w:=g.drew) a.ff;obtain⟨y,a5,K,L,J,_⟩:=last (wr:=g.drew) a.bel.drew a.fr why q;clear a;clear c f x F r p A;go_wp2_with fail
      go_region
      all_goals
       go_wp2_with fail;refine bodyPost_ret (v:=.tuple #[Jn,.agg #[Ji why,Ji q]]) (by simp[results,Tryz.results20,go_sem,K,L]) rfl ?_;rw[Qa H,Qa E,<- Qa N];exact⟨_,rfl,World.ownsRow_nil _ _ _ _,J⟩
     |tok kd tx nm n=>
      have hp:=Qcu c;rw[Qbp]at hp;rw[show resT m (.tok kd tx nm n)=⟨kd,⟨tx.toArray⟩,nm,(m:Int),((m+n:Nat):Int),0,0⟩ from rfl];obtain⟨w7,ac,F⟩:=Qep (Qa b).own (Qa z) x kd nm (m:Int) ⟨tx.toArray⟩;obtain⟨g,U,a⟩:=Qfg (Qa b).own (Qa z) F 0 0;clear f x F r p A;obtain⟨q,j⟩:∃q:Int,((m+n:Nat):Int)=q:=⟨_,rfl⟩;rw[j];have N:=hide j;have ar:(m:Int)<q:=by omega
      have au:q<=65536:=by omega
      clear j;have hL:=Qct (w:=g) a.ff;have hT:=Qif (w:=g) a.ft;have I:=hide a;have ag:=a.sz;have ae:=a.bel.size;have V:=hide c;clear a c;go_wp2_with (at_builtin;refine wpList_append_own _ rfl _ _ 69 rfl (w.heap.size+1) 73 T (.agg #[Ji 0,Je,Ji 0,Ji 0]) 4 40 Tryz.underlying69 (Qa h).1 (Qa h).2.1 (Qa h).2.2.1 (Qa h).2.2.2 rfl (by decide) _ _ _ rfl ((Qa I).own.alloc _) (Ja _ 0) 1 1 [Ji kd,.string ⟨tx.toArray⟩,Ji nm,Ji (m:Int)] rfl rfl (Qfe _ _ _ _ _) (Qig _ _ _ _) (by unfold maxLen;omega) (by omega) (by simp;omega) ?_;intro Y y C B _);have O:=hide (show RkRel s w Y (Ji ((m+n:Nat):Int)) y from ⟨_,_,rfl,hide (Qid (tx:=tx) (Qa b) (by exact Qa I) (Qa R) (Qa V) (by exact C) (by exact B))⟩);clear C B;go_roundw
      case rel=>rw[<- Qa N];exact Qa O
      case measure=>simp[intOf];omega
    |false=>
     rw[if_neg (fun e=>beq_eq_false_iff_ne.1 am (by rw[e];rfl))]at f;have af:=sg_le (s.data.toList.drop m);obtain⟨n,l⟩:=JF (sgLen (s.data.toList.drop m));rw[Qbp,l]at af;obtain⟨d,hd⟩:=JF (sgStr s m);have a7:d.data.toList=(s.data.toList.drop m).take n:=by rw[<- hd,sgStr,l]
     have hds:d.size=n:=by rw[Qcs,a7,List.length_take,Qbp];omega
     have p:=hide (fun W=>Qqu s m G hs W);rw[hd]at p;have P:=hide (Qa a3 0 M);have aH:=hide hds;go_wp2_with fail;refine(Qa D).mono ?_;rintro e t⟨rfl,rfl⟩;go_wp2_with fail;rw[show(t.alloc (.cells #[Ji 0,Je,Ji 0,Ji 0] 73)).alloc (.cells #[Ji 0,Ji 0] 31)=W5 from Qa Q];refine(Qa P).mono ?_;rintro e a8⟨rfl,rfl⟩;go_wp2_with fail;refine(Qbn _ _).mono ?_;rintro e w5⟨rfl,rfl⟩;rw[show isD (s[m].toNat:Int)=false from a2];go_wp2_with fail;refine(Qa p _).mono ?_;rintro e w6⟨rfl,r⟩;have x:=aft0 (w6:=w6) (Qa b) (by rw[Qa ab]at r;rw[show(t.alloc tokZ).alloc fltZ=w5 from Qa Q];exact r);obtain⟨g,U,a⟩:=Qep (Qa b).own (Qa z) x 4 0 (m:Int) d;by_cases h0:n=0
     ·
      have c:tokAt (s.data.toList.drop m) = .bad 7 0:=by rw[f];unfold sgRes;rw[l,if_pos h0]
      have aC:d=⟨#[]⟩:=Qlp (by omega);have ao:=a;clear a;subst aC;clear hd a7 hds f l M x r p A;go_wp2_with fail;refine(Qbq _ _ _).mono ?_;rintro e w7⟨rfl,b7⟩;obtain⟨ah,aE,a⟩:=Qfg (Qa b).own (Qa z) (Qog (Qa z) (Qa b).own ao b7) 7 (m:Int);clear ao b7;have E:=hide (show scan 0 s.data.toList = .bad 7 m by rw[(Qa b).sc];exact Qhk _ _ _ _ (Qcr (by rw[Qar s m G];simp) (Qa R) c));have hL:=Qct (w:=ah) a.ff;have ap:=Qct (w:=ah.drew) a.ff;obtain⟨y,a5,K,L,J,_⟩:=last (wr:=ah.drew) a.bel.drew a.fr 7 (m:Int);clear a c;go_wp2_with fail
      go_region
      all_goals
       go_wp2_with fail;refine bodyPost_ret (v:=.tuple #[Jn,.agg #[Ji 7,Ji (m:Int)]]) (by simp[results,Tryz.results20,go_sem,K,L]) rfl ?_;rw[Qa H,Qa E];exact⟨_,rfl,World.ownsRow_nil _ _ _ _,J⟩
     have c:tokAt (s.data.toList.drop m) = .tok 4 d.data.toList 0 n:=by rw[f];unfold sgRes;rw[l,if_neg h0,a7]
     have aJ:d.toList.isEmpty=false:=by
      have:0<d.size:=by omega
      rw[Lib.toList_data,Qfl this];rfl
     obtain⟨q,j⟩:∃q:Int,(d.size:Int)=q:=⟨_,rfl⟩;have N:=hide (show q=(n:Int) by omega);have ar:0<q:=by omega
     have au:(m:Int)+q<=65536:=by omega
     clear hd a7 hds f l M x r p A;have hL:=Qct (w:=g) a.ff;have hT:=Qif (w:=g) a.ft;have I:=hide a;have ag:=a.sz;have ae:=a.bel.size;have V:=hide c;clear a c;go_wp2_with (at_builtin;refine wpList_append_own _ rfl _ _ 69 rfl (w.heap.size+1) 73 T (.agg #[Ji 0,Je,Ji 0,Ji 0]) 4 40 Tryz.underlying69 (Qa h).1 (Qa h).2.1 (Qa h).2.2.1 (Qa h).2.2.2 rfl (by decide) _ _ _ rfl ((Qa I).own.alloc _) (Ja _ 0) 1 1 [Ji 4,.string d,Ji 0,Ji (m:Int)] rfl rfl (Qfe _ _ _ _ _) (Qig _ _ _ _) (by unfold maxLen;omega) (by omega) (by simp;omega) ?_;intro Y y C B _);have O:=hide (show RkRel s w Y (Ji ((m+n:Nat):Int)) y from ⟨_,_,rfl,hide (Qid (tx:=d.data.toList) (Qa b) (by rw[show(⟨d.data.toList.toArray⟩:ByteArray)=d from (Qdk rfl).symm];exact Qa I) (Qa R) (Qa V) (by rw[show(⟨d.data.toList.toArray⟩:ByteArray)=d from (Qdk rfl).symm];exact C) (by rw[show(⟨d.data.toList.toArray⟩:ByteArray)=d from (Qdk rfl).symm];exact B))⟩);clear C B;go_roundw
     case rel=>rw[show(m:Int)+q=((m+n:Nat):Int) by rw[Qa N];omega];exact Qa O
     case measure=>simp[intOf];omega
end
end Go.Proofs.YtkhndlnadhggkaaGreat
