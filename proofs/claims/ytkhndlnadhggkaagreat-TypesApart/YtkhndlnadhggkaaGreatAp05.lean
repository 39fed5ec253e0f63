/- syn. -/
import Derived.Test.YtkhndlnadhggkaaGreatAp01
import Derived.Test.YtkhndlnadhggkaaGreatAp04
set_option maxRecDepth 100000
set_option maxHeartbeats 32000000
namespace Go.Proofs.YtkhndlnadhggkaaGreat
section
open Go.RowKit Go.Maps
mutual
def eqE:Ex->Ex->Bool
 | .mk k n s ks _,.mk k' n' s' ks' _=>decide (k=k')&&decide (n=n')&&decide (s=s')&&eqEs ks ks'
def eqEs:List Ex->List Ex->Bool
 | [],[]=>true
 |x :: xs,y :: ys=>eqE x y&&eqEs xs ys
 |_,_=>false
end
theorem Qdl{α : Type}(eq:α -> α -> Bool)(x y:α)(xs ys:List α):eqL eq (x :: xs) (y :: ys)=(eq x y&&eqL eq xs ys):=by
 unfold eqL;simp only[List.length_cons,List.zip_cons_cons,List.all_cons,Nat.add_right_cancel_iff];cases eq x y<;>simp
theorem Qou:∀xs ys:List Ex,eqEs xs ys=eqL eqE xs ys
 | [],[]=>by simp[eqEs,eqL]
 | [],y :: ys=>by simp[eqEs,eqL]
 |x :: xs,[]=>by simp[eqEs,eqL]
 |x :: xs,y :: ys=>by rw[Qdl,eqEs,Qou xs ys]
theorem Qtw(x y:Ex):eqE x y=(decide (x.kind=y.kind)&&decide (x.num=y.num)&&decide (x.txt=y.txt)&&eqL eqE x.kids y.kids):=by
 cases x with
 |mk k n s ks a=>
  cases y with
  |mk k' n' s' ks' a'=>rw[eqE,Qou];rfl
def eqA(x y:Atm):Bool:=decide (x.rel=y.rel)&&eqL eqE x.args y.args
def eqLt(x y:Lt):Bool:=decide (x.kind=y.kind)&&eqA x.atom y.atom&&decide (x.op=y.op)&&eqE x.l y.l&&eqE x.r y.r
def eqCt(x y:Ctr):Bool:=decide (x.name=y.name)&&eqL eqFd x.fields y.fields
def eqTy(x y:Typ):Bool:=decide (x.name=y.name)&&decide (x.sub=y.sub)&&eqL eqCt x.ctors y.ctors
def eqDc(x y:Dcl):Bool:=decide (x.name=y.name)&&eqL eqFd x.cols y.cols&&decide (x.input=y.input)&&decide (x.output=y.output)
def eqIn(x y:Ini):Bool:=decide (x.name=y.name)&&decide (x.comp=y.comp)
def eqCl(x y:Cls):Bool:=eqA x.head y.head&&eqL eqLt x.body y.body
mutual
def eqPg:Pg->Pg->Bool
 | .mk ts ds cs is ls,.mk ts' ds' cs' is' ls'=>eqL eqTy ts ts'&&eqL eqDc ds ds'&&eqCps cs cs'&&eqL eqIn is is'&&eqL eqCl ls ls'
def eqCps:List Cp->List Cp->Bool
 | [],[]=>true
 |(n,bs,p,_) :: xs,(n',bs',p',_) :: ys=>(decide (n=n')&&eqL eqTx bs bs'&&eqPg p p')&&eqCps xs ys
 |_,_=>false
end
def eqCp(x y:Cp):Bool:=decide (x.1=y.1)&&eqL eqTx x.2.1 y.2.1&&eqPg x.2.2.1 y.2.2.1
theorem Qlq:∀xs ys:List Cp,eqCps xs ys=eqL eqCp xs ys
 | [],[]=>by simp[eqCps,eqL]
 | [],y :: ys=>by simp[eqCps,eqL]
 |x :: xs,[]=>by simp[eqCps,eqL]
 |(n,bs,p,a) :: xs,(n',bs',p',a') :: ys=>by rw[Qdl,eqCps,Qlq xs ys];rfl
theorem Qet(p q:Pg):eqPg p q=(eqL eqTy p.types q.types&&eqL eqDc p.decls q.decls&&eqL eqCp p.comps q.comps&&eqL eqIn p.inits q.inits&&eqL eqCl p.clauses q.clauses):=by
 cases p
 cases q
 rw[eqPg,Qlq];rfl
theorem pty_one(S:Nat->Prop)(w:World)(cs:List Value)(x:Typ)(h:PTy S w cs x):∀c∈cs,c.oneCell'=true:=by
 obtain⟨_,_,_,rfl,_⟩:=h;simp[Value.oneCell',str]
theorem Qqh(S:Nat->Prop)(w:World)(cs:List Value)(x:Dcl)(h:PDc S w cs x):∀c∈cs,c.oneCell'=true:=by
 obtain⟨_,_,_,rfl,_⟩:=h;simp[Value.oneCell',str]
theorem pin_one(S:Nat->Prop)(w:World)(cs:List Value)(x:Ini)(h:PIn S w cs x):∀c∈cs,c.oneCell'=true:=by
 have e:cs=_:=h;subst e;simp[Value.oneCell',str]
theorem Qqf(S:Nat->Prop)(w:World)(cs:List Value)(x:Cls)(h:PCl S w cs x):∀c∈cs,c.oneCell'=true:=by
 obtain⟨_,_,_,_,_,_,rfl,_⟩:=h;simp[Value.oneCell',str]
theorem list5{a b c d e a' b' c' d' e':Value}(h:[a,b,c,d,e]=[a',b',c',d',e']):a=a'/\b=b'/\c=c'/\d=d'/\e=e':=by simpa using h
def vx(c:UInt8)(a:Int):Ex:=.mk 1 0 [c] [] a
def live:Pg:=.mk [] [] [] [] [⟨⟨[112],[vx 120 2,vx 121 5],0⟩,[⟨1,⟨[101],[vx 120 13,vx 122 16],11⟩,[],.none,.none,11⟩,⟨1,⟨[112],[vx 122 22,vx 121 25],20⟩,[],.none,.none,20⟩,⟨3,.none,[60],vx 120 29,.mk 2 (-3) [] [] 33,29⟩],0⟩]
def ltoks:List Tok:=(lexP (⟨#[112,40,120,44,32,121,41,32,58,45,32,101,40,120,44,32,122,41,44,32,112,40,122,44,32,121,41,44,32,120,32,60,32,45,51,46]⟩:ByteArray).data.toList).toks
attribute [local go_sem ↓] Qbi Qbo
theorem lt_at{w:World}{b o:Nat}{c0 c1 c2 c3 c4 c5 c6 c7 c8 c9 c10 c11 c12 c13 c14 c15:Value}(h:∀q c,([c0,c1,c2,c3,c4,c5,c6,c7,c8,c9,c10,c11,c12,c13,c14,c15]:List Value)[q]?=some c->w.cell? (Ja b (o+q))=some c):(ltLoad (.pointer (some (Ja b o)))).run Tryz.prog w = .ok (.agg #[c0,c1,c2,c3,c4,c5,c6,c7,c8,c9,c10,c11,c12,c13,c14,c15]) w:=
 run_loadAt_mid w b o 61 [c0,c1,c2,c3,c4,c5,c6,c7,c8,c9,c10,c11,c12,c13,c14,c15] _ (fun q v a=>h q v a) Tryz.underlying61 rfl Qdi
end
section
open Go.RowKit
def SlAt(w:World)(v:Value)(toks:List Tok):Prop:=∃ao cap,v = .slice ao toks.length cap/\toks.length<=cap/\cap<=maxLen/\(toks=[] ∨ ∃g,ao=some ⟨g,0,none⟩/\RowAt w g cap toks)
theorem SlAt.later{w w':World}{v:Value}{toks:List Tok}(h:SlAt w v toks)(hb:Below w.heap.size w w'):SlAt w' v toks:=by
 obtain⟨a,cap,i,b,c,d⟩:=h;refine⟨a,cap,i,b,c,?_⟩;rcases d with h|⟨g,e,f⟩
 ·exact .inl h
 ·exact .inr ⟨g,e,f.later hb⟩
def Alike(p:Bool)(x y:Tok):Prop:=x.kind=y.kind/\x.text=y.text/\x.num=y.num/\(p=true->x.at_=y.at_)
theorem Qbq(why a:Int)(w:World):
  Calls Tryz.prog 49 #[Ji why,Ji a] w fun e w'=>e = .returned (.agg #[Ji why,Ji a])/\Below w.heap.size w w':=by
 go_enter Tryz.func49,Tryz.ntmps49;go_wp2_with fail;refine bodyPost_ret (v:=.agg #[Ji why,Ji a]) (by simp[results,Tryz.results49,go_sem]) rfl ?_;exact⟨rfl,(Below.refl _ w).alloc (Nat.le_refl _) _⟩
def gapV(k:Nat):G->Int
 | .none=>(k:Int)
 | .gap n=>(k:Int)+(n:Int)
 | .never=>-1
theorem ln_at{s:ByteArray}{k m:Nat}(h:m<s.size)(hd:¬bv s[m]=10)(hh:k+lnLen (s.data.toList.drop k)=m+lnLen (s.data.toList.drop m)):
  k+lnLen (s.data.toList.drop k)=(m+1)+lnLen (s.data.toList.drop (m+1)):=by
 rw[Qar s m h]at hh;have:lnLen (s[m] :: s.data.toList.drop (m+1))=lnLen (s.data.toList.drop (m+1))+1:=by
  unfold lnLen;rw[if_neg (fun e=>hd (by rw[e];rfl))];cases s.data.toList.drop (m+1)<;>rfl
 omega
theorem Quc{s:ByteArray}{k m:Nat}(h:∀hm:m<s.size,bv s[m]=10)(hh:k+lnLen (s.data.toList.drop k)=m+lnLen (s.data.toList.drop m)):k+lnLen (s.data.toList.drop k)=m:=by
 by_cases hm:m<s.size
 ·
  have e:s[m]=10:=(Qfi (k:=10) (by omega)).1 (h hm);rw[Qar s m hm,e]at hh;simp[lnLen]at hh;exact hh
 rw[Qby s m (by omega)]at hh;exact hh
theorem ce_at{s:ByteArray}{m:Nat}(h:m<s.size)(hp:pre [42,47] (s.data.toList.drop m)=false):cEnd (s.data.toList.drop m)=(cEnd (s.data.toList.drop (m+1))).map (· + 1):=by
 rw[Qar s m h]at hp ⊢;rw[cEnd,if_neg (by rw[hp];simp)]
theorem ce_hit{s:ByteArray}{m:Nat}(h:m<s.size)(hp:pre [42,47] (s.data.toList.drop m)=true):cEnd (s.data.toList.drop m)=some 0:=by
 rw[Qar s m h]at hp ⊢;rw[cEnd,if_pos hp]
def CeAt(s:ByteArray)(k m:Nat):Prop:=k<=m/\m<=s.size/\cEnd (s.data.toList.drop k)=(cEnd (s.data.toList.drop m)).map (· + (m - k))
theorem CeAt.step{s:ByteArray}{k m:Nat}(h:CeAt s k m)(hm:m<s.size)(hp:pre [42,47] (s.data.toList.drop m)=false):CeAt s k (m+1):=by
 obtain⟨b,c,a⟩:=h;refine⟨by omega,by omega,?_⟩;rw[a,ce_at hm hp,Option.map_map]
 cases cEnd (s.data.toList.drop (m+1)) with
 |none=>rfl
 |some j=>simp;omega
theorem Qtd(s:ByteArray)(k:Nat)(hk:k<s.size)(hs:s.size<=140737488355328)(w:World):
  Calls Tryz.prog 50 #[.string s,Ji (k:Int)] w fun e w'=>e = .returned (Ji (gapV k (gapAt (s.data.toList.drop k))))/\w'=w:=by
 cases d:isB (s[k].toNat:Int) with
 |true=>
  have H:=hide (show gapV k (gapAt (s.data.toList.drop k))=(k:Int)+1 by rw[Qpc hk d];rfl);have o:(s[k].toNat:Int)=32∨(s[k].toNat:Int)=9∨(s[k].toNat:Int)=10∨(s[k].toNat:Int)=13:=by
   simp only[isB,Bool.or_eq_true,decide_eq_true_eq]at d;omega
  go_enter Tryz.func50,Tryz.ntmps50;rcases o with e|e|e|e
  all_goals
   go_wp2_with fail;go_ret;exact⟨Qci (Qa H).symm,rfl⟩
 |false=>
  have o:¬(s[k].toNat:Int)=32 /\ ¬(s[k].toNat:Int)=9 /\ ¬(s[k].toNat:Int)=10 /\ ¬(s[k].toNat:Int)=13:=by
   simp only[isB,Bool.or_eq_false_iff,decide_eq_false_iff_not]at d;omega
  obtain⟨r,t,z,u⟩:=o;have B:((s[k].toNat:Int)==32)=false:=beq_eq_false_iff_ne.2 r;have C:((s[k].toNat:Int)==9)=false:=beq_eq_false_iff_ne.2 t;have D:((s[k].toNat:Int)==10)=false:=beq_eq_false_iff_ne.2 z;have E:((s[k].toNat:Int)==13)=false:=beq_eq_false_iff_ne.2 u;clear r t u
  cases b:pre [47,47] (s.data.toList.drop k) with
  |true=>
   have g:=hide b;have H:=hide (show gapV k (gapAt (s.data.toList.drop k))=(k:Int)+(lnLen (s.data.toList.drop k):Int) by rw[Qsh hk d b];rfl);clear b;go_enter Tryz.func50,Tryz.ntmps50;go_wp2_with (go_at_call 87;refine(Qdy s _ k ⟨#[47,47]⟩ true rfl (Qa g) (by omega) hs (by decide) _).mono ?_;rintro e w'⟨rfl,rfl⟩)
   go_loop [1] (fun i=>∃m:Nat,i = Ji (m:Int)/\m<=s.size/\Hid (k+lnLen (s.data.toList.drop k)=m+lnLen (s.data.toList.drop m))) (fun i=>s.size - (intOf i).toNat)
   case atStart=>exact⟨k,rfl,by omega,hide rfl⟩
   obtain⟨m,rfl,y,a⟩:=hrel;by_cases f:m<s.size
   ·
    cases q:((s[m].toNat:Int) != 10) with
    |true=>
     go_wp2_with fail
     go_round
     case rel=>exact⟨m+1,by go_num,by omega,hide (ln_at f (bne_iff_ne.1 q) (Qa a))⟩
     case measure=>simp[intOf];omega
    |false=>
     go_wp2_with fail;go_ret;have v:(s[m].toNat:Int)=10:=by simpa using q
     exact⟨Qci (by rw[Qa H];have:=Quc (fun _=>v) (Qa a);omega),rfl⟩
   go_wp2_with fail;go_ret;exact⟨Qci (by rw[Qa H];have:=Quc (fun h=>absurd h f) (Qa a);omega),rfl⟩
  |false=>
   cases c:pre [47,42] (s.data.toList.drop k) with
   |false=>
    have g:=hide b;have p:=hide c;have H:=hide (show gapV k (gapAt (s.data.toList.drop k))=(k:Int) by rw[gap_not hk d b c];rfl);clear b c;go_enter Tryz.func50,Tryz.ntmps50;go_wp2_with fail;refine(Qdy s _ k ⟨#[47,47]⟩ false rfl (Qa g) (by omega) hs (by decide) _).mono ?_;rintro e w'⟨rfl,rfl⟩;go_wp2_with fail;refine(Qdy s _ k ⟨#[47,42]⟩ false rfl (Qa p) (by omega) hs (by decide) _).mono ?_;rintro e w'⟨rfl,rfl⟩;go_wp2_with fail;go_ret;exact⟨Qci (Qa H).symm,rfl⟩
   |true=>
    have g:=hide b;have p:=hide c;have x:=pre_two c
    have H:=hide (show gapV k (gapAt (s.data.toList.drop k))=match cEnd (s.data.toList.drop (k+2)) with|some n=>(k:Int)+((n+4:Nat):Int)|none=>-1 by
     rw[Qsg hk d b c];unfold cGap;cases cEnd (s.data.toList.drop (k+2))<;>rfl)
    clear b c;go_enter Tryz.func50,Tryz.ntmps50;go_wp2_with fail;refine(Qdy s _ k ⟨#[47,47]⟩ false rfl (Qa g) (by omega) hs (by decide) _).mono ?_;rintro e w'⟨rfl,rfl⟩;go_wp2_with fail;refine(Qdy s _ k ⟨#[47,42]⟩ true rfl (Qa p) (by omega) hs (by decide) _).mono ?_;rintro e w'⟨rfl,rfl⟩;go_wp2_with fail
    go_loop [6] (fun i=>∃m:Nat,i = Ji (m:Int)/\Hid (CeAt s (k+2) m)) (fun i=>s.size - (intOf i).toNat)
    case atStart=>exact⟨k+2,by go_num,hide ⟨Nat.le_refl _,x,by rw[Nat.sub_self];cases cEnd (s.data.toList.drop (k+2))<;>rfl⟩⟩
    obtain⟨m,rfl,a⟩:=hrel;have y:=(Qa a).2.1;have A:=(Qa a).1;by_cases f:m<s.size
    ·
     cases l:pre [42,47] (s.data.toList.drop m) with
     |true=>
      have j:=hide l;clear l;go_wp2_with (go_at_call 87;refine(Qdy s _ m ⟨#[42,47]⟩ true rfl (Qa j) (by omega) hs (by decide) _).mono ?_;rintro e w'⟨rfl,rfl⟩);go_ret;refine⟨Qci ?_,rfl⟩;rw[Qa H,(Qa a).2.2,ce_hit f (Qa j),Option.map_some];show(m:Int)+2=(k:Int)+((0+(m - (k+2))+4:Nat):Int);omega
     |false=>
      have j:=hide l;clear l;go_wp2_with (go_at_call 87;refine(Qdy s _ m ⟨#[42,47]⟩ false rfl (Qa j) (by omega) hs (by decide) _).mono ?_;rintro e w'⟨rfl,rfl⟩)
      go_round
      case rel=>exact⟨m+1,by go_num,hide ((Qa a).step f (Qa j))⟩
      case measure=>simp[intOf];omega
    go_wp2_with fail;go_ret;refine⟨Qci ?_,rfl⟩;rw[Qa H,(Qa a).2.2,Qby s m (by omega)];rfl
theorem Qph{n:Int}:isD n=true↔48<=n/\n<=57:=by simp[isD]
theorem Qrl:∀(l:Txt) (acc:Nat) (c:UInt8),vl acc (l++[c])=vl acc l*10+(c.toNat - 48)
 | [],_,_=>rfl
 |_ :: l,_,c=>Qrl l _ c
def vlAt(s:ByteArray)(k m:Nat):Nat:=vl 0 ((s.data.toList.drop k).take (m - k))
theorem Qhi(s:ByteArray)(k:Nat):vlAt s k k=0:=by unfold vlAt;rw[Nat.sub_self];rfl
theorem Qjv{s:ByteArray}{k m:Nat}(hk:k<=m)(hm:m<s.size):vlAt s k (m+1)=vlAt s k m*10+(s[m].toNat - 48):=by
 unfold vlAt;have e:m+1 - k=(m - k)+1:=by omega
 have a:m - k<(s.data.toList.drop k).length:=by rw[Qbp];omega
 have b:(s.data.toList.drop k)[m - k]=s[m]:=by
  rw[List.getElem_drop];have c:k+(m - k)=m:=by omega
  simp only[c];rfl
 rw[e,List.take_succ_eq_append_getElem a,Qrl,b]
theorem dg_more{s:ByteArray}{k m:Nat}(hk:k<s.size)(h1:k<=m)(h2:m<k+dgLen (s.data.toList.drop k))(hd:isD (bv s[k])=true):∃hm:m<s.size,isD (bv s[m])=true/\(m=k ∨ ¬bv s[k]=48):=by
 by_cases a:bv s[k]=48
 ·
  rw[Qor hk a]at h2;have e:m=k:=by omega
  subst e;exact⟨hk,hd,.inl rfl⟩
 rw[Qln hk a]at h2;obtain⟨j,rfl⟩:∃j,m=k+j:=⟨m - k,by omega⟩;have b:∀(j:Nat) (k:Nat),j<dcn (s.data.toList.drop k) -> ∃hm:k+j<s.size,isD (bv s[k+j])=true:=by
  intro j
  induction j with
  |zero=>
   intro k h;by_cases hk:k<s.size
   ·
    rw[Qar s k hk]at h
    cases hd:isD (bv s[k]) with
    |true=>exact⟨hk,hd⟩
    |false=>simp[dcn,hd]at h
   ·rw[Qby s k (by omega)]at h;simp[dcn]at h
  |succ j ih=>
   intro k h;by_cases hk:k<s.size
   ·
    rw[Qar s k hk]at h
    cases hd:isD (bv s[k]) with
    |false=>simp[dcn,hd]at h
    |true=>
     have:j<dcn (s.data.toList.drop (k+1)):=by simp[dcn,hd]at h;omega
     obtain⟨h1,h2⟩:=ih (k+1) this;have e:k+(j+1)=k+1+j:=by omega
     simp only[e];exact⟨h1,h2⟩
   ·rw[Qby s k (by omega)]at h;simp[dcn]at h
 obtain⟨c,d⟩:=b j k (by omega);exact⟨c,d,.inr a⟩
theorem dg_stop{s:ByteArray}{k m:Nat}(hk:k<s.size)(h2:m=k+dgLen (s.data.toList.drop k))(hm:m<s.size):isD (bv s[m])=false∨(¬m=k/\bv s[k]=48):=by
 by_cases b:bv s[k]=48
 ·
  rw[Qor hk b]at h2;exact .inr ⟨by omega,b⟩
 left;rw[Qln hk b]at h2;have c:∀(j:Nat) (k:Nat),j=dcn (s.data.toList.drop k) -> ∀hm:k+j<s.size,isD (bv s[k+j])=false:=by
  intro j
  induction j with
  |zero=>
   intro k h hm;have hk:k<s.size:=hm;rw[Qar s k hk]at h
   cases a:isD (bv s[k]) with
   |false=>first|exact a|rfl
   |true=>simp[dcn,a]at h
  |succ j ih=>
   intro k h hm;by_cases hk:k<s.size
   ·
    rw[Qar s k hk]at h
    cases a:isD (bv s[k]) with
    |false=>simp[dcn,a]at h
    |true=>
     have d:j=dcn (s.data.toList.drop (k+1)):=by simp[dcn,a]at h;omega
     have e:k+(j+1)=k+1+j:=by omega
     simp only[e];exact ih (k+1) d (by omega)
   ·omega
 subst h2;exact c _ k rfl hm
structure NuI(s:ByteArray)(k m:Nat)(n:Int)(ov:Bool):Prop where
 h1:k<=m
 h2:m<=k+dgLen (s.data.toList.drop k)
 v:ov=decide (9223372036854775807<vlAt s k m)
 n0:0<=n
 n1:n<=9223372036854775807
 n:ov=false->n=(vlAt s k m:Int)
theorem NuI.over{s:ByteArray}{k m:Nat}{n:Int}(h:NuI s k m n true)(hm:m<s.size)(hlt:m<k+dgLen (s.data.toList.drop k)):NuI s k (m+1) n true:=by
 refine⟨by have:=h.h1;omega,by omega,?_,h.n0,h.n1,(fun e=>by cases e)⟩;have a:=of_decide_eq_true h.v.symm;rw[eq_comm,decide_eq_true_eq,Qjv h.h1 hm];omega
theorem NuI.step{s:ByteArray}{k m:Nat}{n:Int}(h:NuI s k m n false)(hm:m<s.size)(hlt:m<k+dgLen (s.data.toList.drop k))(hd:isD (bv s[m])=true):
  (¬(9223372036854775807 - ((s[m].toNat:Int) - 48)) / 10<n->NuI s k (m+1) (n*10+((s[m].toNat:Int) - 48)) false)/\((9223372036854775807 - ((s[m].toNat:Int) - 48)) / 10<n->NuI s k (m+1) n true):=by
 have c:=h.n rfl;have b:48<=(s[m].toNat:Int)/\(s[m].toNat:Int)<=57:=by
  exact Qph.1 hd
 have e:=Qjv h.h1 hm;have d:=h.n0;constructor
 ·
  intro a;refine⟨by have:=h.h1;omega,by omega,?_,by omega,by omega,fun _=>by rw[e];omega⟩;rw[eq_comm,decide_eq_false_iff_not,e];omega
 intro a;refine⟨by have:=h.h1;omega,by omega,?_,h.n0,h.n1,(fun e=>by cases e)⟩;rw[eq_comm,decide_eq_true_eq,e];omega
theorem Qlb(s:ByteArray)(k:Nat)(hk:k<s.size)(hdg:isD (bv s[k])=true)(hs:s.size<=65536)(w:World):
  Calls Tryz.prog 53 #[.string s,Ji (k:Int)] w fun e w'=>e = .returned (resT k (dgRes (s.data.toList.drop k))).val/\Below w.heap.size w w':=by
 have l:=Qmk w;have V:=dg_le (s.data.toList.drop k);rw[Qbp]at V;have HD:=hide hdg;obtain⟨L,R⟩:=JF (dgLen (s.data.toList.drop k));have E:=hide R;rw[R]at V;clear hdg R;go_enter Tryz.func53,Tryz.ntmps53;go_wp2_with fail
 go_loop [7,8,9] (fun i nv ov=>∃(m:Nat) (n:Int) (o:Bool),i = Ji (m:Int)/\nv = Ji n/\ov = .bool o/\m<=k+L/\0<=n/\n<=9223372036854775807/\Hid (NuI s k m n o)) (fun i _ _=>k+L - (intOf i).toNat)
 case atStart=>exact⟨k,0,false,rfl,rfl,rfl,by omega,by omega,by omega,hide ⟨Nat.le_refl _,by omega,by rw[Qhi];rfl,by omega,by omega,fun _=>by rw[Qhi];rfl⟩⟩
 obtain⟨m,n,o,rfl,rfl,rfl,a6,S,T,D⟩:=hrel;have U:=(Qa D).h1;by_cases N:m<k+L
 ·
  obtain⟨q,J,W⟩:=dg_more hk U (by rw[Qa E];exact N) (Qa HD);have d:isD (s[m].toNat:Int)=true:=J;have a0:48<=(s[m].toNat:Int)/\(s[m].toNat:Int)<=57:=by
   exact Qph.1 J
  obtain⟨d1,d2⟩:=a0;have a4:=hide J;clear J;have g:((m:Int)==(k:Int))=true∨(((m:Int)==(k:Int))=false/\((s[k].toNat:Int) != 48)=true):=by
   by_cases e:m=k
   ·left;rw[beq_iff_eq,e]
   right;refine⟨beq_eq_false_iff_ne.2 (by omega),bne_iff_ne.2 ?_⟩;rcases W with h|h
   ·exact absurd h e
   ·exact h
  clear W;cases o
  ·
   have F:=hide ((Qa D).step q (by rw[Qa E];exact N) (Qa a4));by_cases C:(9223372036854775807 - ((s[m].toNat:Int) - 48)) / 10<n
   ·
    have a1:decide ((9223372036854775807 - ((s[m].toNat:Int) - 48)) / 10<n)=true:=decide_eq_true C;have O:=hide C;clear C;rcases g with g|⟨g,M⟩
    all_goals
     go_wp2_with (go_at_call 52;refine(Qbn _ _).mono ?_;rintro e w'⟨rfl,rfl⟩;rw[d])
     go_round
     case rel=>exact⟨m+1,n,true,by go_num,rfl,rfl,by omega,S,T,hide ((Qa F).2 (Qa O))⟩
     case measure=>simp[intOf];omega
   have a1:decide ((9223372036854775807 - ((s[m].toNat:Int) - 48)) / 10<n)=false:=decide_eq_false C;have a7:wrap64 (n*10)=n*10:=by unfold wrap64;omega
   have a5:wrap64 (n*10+((s[m].toNat:Int) - 48))=n*10+((s[m].toNat:Int) - 48):=by unfold wrap64;omega
   have O:=hide C;have X:0<=n*10+((s[m].toNat:Int) - 48):=by omega
   have Y:n*10+((s[m].toNat:Int) - 48)<=9223372036854775807:=by omega
   have a2:=hide X;have a3:=hide Y;clear C X Y;rcases g with g|⟨g,M⟩
   all_goals
    go_wp2_with (go_at_call 52;refine(Qbn _ _).mono ?_;rintro e w'⟨rfl,rfl⟩;rw[d])
    go_round
    case rel=>exact⟨m+1,n*10+((s[m].toNat:Int) - 48),false,by go_num,by first|rfl|(rw[a5]),rfl,by omega,Qa a2,Qa a3,hide ((Qa F).1 (Qa O))⟩
    case measure=>simp[intOf];omega
  have F:=hide ((Qa D).over q (by rw[Qa E];exact N));rcases g with g|⟨g,M⟩
  ·
   go_wp2_with (go_at_call 52;refine(Qbn _ _).mono ?_;rintro e w'⟨rfl,rfl⟩;rw[d])
   go_round
   case rel=>exact⟨m+1,n,true,by go_num,rfl,rfl,by omega,S,T,F⟩
   case measure=>simp[intOf];omega
  go_wp2_with (go_at_call 52;refine(Qbn _ _).mono ?_;rintro e w'⟨rfl,rfl⟩;rw[d])
  go_round
  case rel=>exact⟨m+1,n,true,by go_num,rfl,rfl,by omega,S,T,F⟩
  case measure=>simp[intOf];omega
 have K:m=k+L:=by omega
 have f:=(Qa D).v;have j:=(Qa D).n
 have c:=hide (show dgRes (s.data.toList.drop k)=if noW (s.data.toList.drop m)=false then .bad 7 L else if 9223372036854775807<vlAt s k m then .bad 8 0 else .tok 2 [] (vlAt s k m) L by
  unfold dgRes vlAt
  rw[Qa E,List.drop_drop,<- K,show m - k=L by omega])
 have p:=hide (fun hm=>dg_stop hk (show m=k+dgLen (s.data.toList.drop k) by rw[Qa E];exact K) hm);have I:=hide K;clear K;clear D U;by_cases q:m<s.size
 rotate_left
 ·
  have a:noW (s.data.toList.drop m)=true:=by rw[Qby s m (by omega)];rfl
  cases o
  ·
   have H:=hide (show resT k (dgRes (s.data.toList.drop k))=⟨2,⟨#[]⟩,n,(k:Int),(m:Int),0,0⟩ by
    have e:=Qa c;rw[if_neg (by rw[show noW (s.data.toList.drop m)=true from a];simp),if_neg (of_decide_eq_false f.symm)]at e;have:=Qa I
    rw[e,resT,<- j rfl];simp;omega)
   clear f j c;clear p a;go_wp2_with fail;refine bodyPost_ret (v:=TV.val ⟨2,⟨#[]⟩,n,(k:Int),(m:Int),0,0⟩) (by simp[results,Tryz.results53,go_sem]) rfl ?_;exact⟨Qdb (Qa H).symm,((Below.refl _ w).alloc (Nat.le_refl _) _).alloc (by simp) _⟩
  have H:=hide (show resT k (dgRes (s.data.toList.drop k))=⟨0,⟨#[]⟩,0,0,0,8,(k:Int)⟩ by
   have e:=Qa c;rw[if_neg (by rw[show noW (s.data.toList.drop m)=true from a];simp),if_pos (of_decide_eq_true f.symm)]at e
   rw[e];simp[resT])
  clear f j c;clear p a;go_wp2_with fail;refine(Qbq _ _ _).mono ?_;rintro e w2⟨rfl,b⟩;have t:=Qcm (w:=w) (w2:=w2) (by simpa using b);have r:Below w.heap.size w w2:=l.trans (b.mono (by simp;omega));obtain⟨u,x,y,z,A,B,P,Q⟩:=t;clear b l;go_wp2_with fail;refine bodyPost_ret (v:=TV.val ⟨0,⟨#[]⟩,0,0,0,8,(k:Int)⟩) (by simp[results,Tryz.results53,go_sem,u,x,y,z,A,B]) rfl ?_;exact⟨Qdb (Qa H).symm,Qbw r (Nat.le_refl _) (Nat.le_succ _) _ _ _ _ _ _⟩
 cases d:isD (s[m].toNat:Int) with
 |true=>
  obtain⟨e1,Z⟩:¬m=k/\bv s[k]=48:=by
   rcases Qa p q with h|h
   ·rw[show isD (bv s[m])=true from d]at h;cases h
   ·exact h
  have g:((m:Int)==(k:Int))=false:=beq_eq_false_iff_ne.2 (by omega);have M:((s[k].toNat:Int) != 48)=false:=by rw[show(s[k].toNat:Int)=48 from Z];rfl
  have a:noW (s.data.toList.drop m)=false:=by rw[Qq q,inW_D (show isD (bv s[m])=true from d)];rfl
  have H:=hide (show resT k (dgRes (s.data.toList.drop k))=⟨0,⟨#[]⟩,0,0,0,7,(m:Int)⟩ by
   have e:=Qa c;rw[if_pos a]at e
   rw[e,resT,<- Qa I])
  clear f j c p a e1 Z;go_wp2_with (go_at_call 52;refine(Qbn _ _).mono ?_;rintro e w'⟨rfl,rfl⟩;rw[d]);refine(Qbq _ _ _).mono ?_;rintro e w2⟨rfl,b⟩;have t:=Qcm (w:=w) (w2:=w2) (by simpa using b);have r:Below w.heap.size w w2:=l.trans (b.mono (by simp;omega));obtain⟨u,x,y,z,A,B,P,Q⟩:=t;clear b l;go_wp2_with fail;refine bodyPost_ret (v:=TV.val ⟨0,⟨#[]⟩,0,0,0,7,(m:Int)⟩) (by simp[results,Tryz.results53,go_sem,u,x,y,z,A,B]) rfl ?_;exact⟨Qdb (Qa H).symm,Qbw r (Nat.le_refl _) (Nat.le_succ _) _ _ _ _ _ _⟩
 |false=>
  cases G:isL (s[m].toNat:Int) with
  |true=>
   have a:noW (s.data.toList.drop m)=false:=by rw[Qq q,Qpe (show isL (bv s[m])=true from G)];rfl
   have H:=hide (show resT k (dgRes (s.data.toList.drop k))=⟨0,⟨#[]⟩,0,0,0,7,(m:Int)⟩ by
    have e:=Qa c;rw[if_pos a]at e
    rw[e,resT,<- Qa I])
   clear f j c p a
   go_wp2_with (first
    |(go_at_call 52;refine(Qbn _ _).mono ?_;rintro e w'⟨rfl,rfl⟩;rw[d])
    |(go_at_call 89;refine(Qce _ _).mono ?_;rintro e w'⟨rfl,rfl⟩;rw[G]))
   refine(Qbq _ _ _).mono ?_;rintro e w2⟨rfl,b⟩;have t:=Qcm (w:=w) (w2:=w2) (by simpa using b);have r:Below w.heap.size w w2:=l.trans (b.mono (by simp;omega));obtain⟨u,x,y,z,A,B,P,Q⟩:=t;clear b l;go_wp2_with fail;refine bodyPost_ret (v:=TV.val ⟨0,⟨#[]⟩,0,0,0,7,(m:Int)⟩) (by simp[results,Tryz.results53,go_sem,u,x,y,z,A,B]) rfl ?_;exact⟨Qdb (Qa H).symm,Qbw r (Nat.le_refl _) (Nat.le_succ _) _ _ _ _ _ _⟩
  |false=>
   have a:noW (s.data.toList.drop m)=true:=by rw[Qq q];unfold inW;rw[show isL (bv s[m])=false from G,show isD (bv s[m])=false from d];rfl
   cases o
   ·
    have H:=hide (show resT k (dgRes (s.data.toList.drop k))=⟨2,⟨#[]⟩,n,(k:Int),(m:Int),0,0⟩ by
     have e:=Qa c;rw[if_neg (by rw[show noW (s.data.toList.drop m)=true from a];simp),if_neg (of_decide_eq_false f.symm)]at e;have:=Qa I
     rw[e,resT,<- j rfl];simp;omega)
    clear f j c;clear p a
    go_wp2_with (first
     |(go_at_call 52;refine(Qbn _ _).mono ?_;rintro e w'⟨rfl,rfl⟩;rw[d])
     |(go_at_call 89;refine(Qce _ _).mono ?_;rintro e w'⟨rfl,rfl⟩;rw[G]))
    refine bodyPost_ret (v:=TV.val ⟨2,⟨#[]⟩,n,(k:Int),(m:Int),0,0⟩) (by simp[results,Tryz.results53,go_sem]) rfl ?_;exact⟨Qdb (Qa H).symm,((Below.refl _ w).alloc (Nat.le_refl _) _).alloc (by simp) _⟩
   have H:=hide (show resT k (dgRes (s.data.toList.drop k))=⟨0,⟨#[]⟩,0,0,0,8,(k:Int)⟩ by
    have e:=Qa c;rw[if_neg (by rw[show noW (s.data.toList.drop m)=true from a];simp),if_pos (of_decide_eq_true f.symm)]at e
    rw[e];simp[resT])
   clear f j c;clear p a
   go_wp2_with (first
    |(go_at_call 52;refine(Qbn _ _).mono ?_;rintro e w'⟨rfl,rfl⟩;rw[d])
    |(go_at_call 89;refine(Qce _ _).mono ?_;rintro e w'⟨rfl,rfl⟩;rw[G]))
   refine(Qbq _ _ _).mono ?_;rintro e w2⟨rfl,b⟩;have t:=Qcm (w:=w) (w2:=w2) (by simpa using b);have r:Below w.heap.size w w2:=l.trans (b.mono (by simp;omega));obtain⟨u,x,y,z,A,B,P,Q⟩:=t;clear b l;go_wp2_with fail;refine bodyPost_ret (v:=TV.val ⟨0,⟨#[]⟩,0,0,0,8,(k:Int)⟩) (by simp[results,Tryz.results53,go_sem,u,x,y,z,A,B]) rfl ?_;exact⟨Qdb (Qa H).symm,Qbw r (Nat.le_refl _) (Nat.le_succ _) _ _ _ _ _ _⟩
end
section
open Go.ChangeShapes Go.WideShapes Go.RowKit
theorem Qqv(s:ByteArray)(k:Nat)(hk:k<s.size)(hs:s.size<=65536)(w:World):
    Calls Tryz.prog 54 #[.string s,Ji (k:Int)] w fun e w'=>e = .returned (resT k (txRes (s.data.toList.drop (k+1)))).val/\Below w.heap.size w w':=by
  have hb:=Qmk w;obtain⟨E,hi,Y,Z,a0⟩:=Qkn;have a:=hide (show Tryz.prog.info? 5=some E/\E.zero=some (.int .u8 0)/\E.size=1/\E.bytes=1 from ⟨hi,Y,Z,a0⟩);clear hi Y Z a0;obtain⟨V,U⟩:=JF ((w.alloc tokZ).alloc fltZ);have X:V.heap.size=w.heap.size+2:=by rw[<- U];simp
  have j:=hide (show ∀o,Below (w.heap.size+2) V o->Boxes o w.heap.size (w.heap.size+1)/\Below w.heap.size w o from fun o h=>by
    rw[<- U]at h
    exact⟨Qcm h,hb.trans (h.mono (by omega))⟩)
  have J:=hide X;go_enter Tryz.func54,Tryz.ntmps54
  go_wp2
  clear U X hb;go_loopw [7,8] (fun v i wr=>TxRel s k (w.heap.size+2) V v i wr) (fun _ i _=>s.size - (intOf i).toNat)
  case atStart=>exact⟨k+1,[],by go_num,hide ⟨Nat.le_refl _,by omega,Nat.zero_le _,World.ownsRow_nil _ _ _ _,Below.refl _ _,by rw[Nat.sub_self,TR.app_nil],fun _=>rfl⟩⟩
  obtain⟨m,R,rfl,K⟩:=hrel;obtain⟨a4,a5,a3,g,F,b,f⟩:=Qa K;have a2:=F.size;rw[Qa J]at a2;by_cases L:m<s.size
  · cases W:((s[m].toNat:Int)==34) with
    |true=>
      by_cases Q:R=[]
      · have H:=hide (show resT k (txRes (s.data.toList.drop (k+1)))=⟨3,⟨R.toArray⟩,0,(k:Int),(m:Int)+1,0,0⟩ by
          unfold txRes;rw[b,(show s.data.toList.drop m=34 :: s.data.toList.drop (m+1) by rw[Qar s m L,(Qfi (k:=34) (by omega)).1 (beq_iff_eq.1 W)];rfl),Qmn]
          simp only[TR.app,resT,List.append_nil];congr 1;omega)
        obtain⟨⟨r,t,x,y,z,A,N,O⟩,p⟩:=Qa j wr F;have hv:=f Q;subst hv Q;have a1:=Qsc wr;clear b f g j;go_wp2_with fail;refine bodyPost_ret (v:=TV.val ⟨3,⟨#[]⟩,0,(k:Int),(m:Int)+1,0,0⟩) (by simp[results,Tryz.results54,go_sem,r,t,x,y,z,A]) rfl ?_;exact⟨Qdb (Qa H).symm,Qbw p (Nat.le_refl _) (Nat.le_succ _) _ _ _ _ _ _⟩
      · have H:=hide (show resT k (txRes (s.data.toList.drop (k+1)))=⟨3,⟨R.toArray⟩,0,(k:Int),(m:Int)+1,0,0⟩ by
          unfold txRes;rw[b,(show s.data.toList.drop m=34 :: s.data.toList.drop (m+1) by rw[Qar s m L,(Qfi (k:=34) (by omega)).1 (beq_iff_eq.1 W)];rfl),Qmn]
          simp only[TR.app,resT,List.append_nil];congr 1;omega)
        obtain⟨⟨r,t,x,y,z,A,N,O⟩,p⟩:=Qa j wr F;have a1:=Qsd g Q;clear b f g Q j;go_wp2_with fail;refine bodyPost_ret (v:=TV.val ⟨3,⟨R.toArray⟩,0,(k:Int),(m:Int)+1,0,0⟩) (by simp[results,Tryz.results54,go_sem,r,t,x,y,z,A]) rfl ?_;exact⟨Qdb (Qa H).symm,Qbw p (Nat.le_refl _) (Nat.le_succ _) _ _ _ _ _ _⟩
    |false=>
      have n1:=beq_eq_false_iff_ne.1 W
      cases e2:((s[m].toNat:Int)==10) with
      |true=>
        have H:=hide (show resT k (txRes (s.data.toList.drop (k+1)))=⟨0,⟨#[]⟩,0,0,0,7,(m:Int)⟩ by
          unfold txRes;rw[b,(show s.data.toList.drop m=10 :: s.data.toList.drop (m+1) by rw[Qar s m L,(Qfi (k:=10) (by omega)).1 (beq_iff_eq.1 e2)];rfl),tx_line]
          simp only[TR.app,resT];congr 1;omega)
        clear b f g;go_wp2_with fail;refine(Qbq _ _ _).mono ?_;rintro e o⟨rfl,I⟩;obtain⟨⟨r,t,x,y,z,A,N,O⟩,p⟩:=Qa j o (F.trans (I.mono (by omega)));clear j;go_wp2_with fail;refine bodyPost_ret (v:=TV.val ⟨0,⟨#[]⟩,0,0,0,7,(m:Int)⟩) (by simp[results,Tryz.results54,go_sem,r,t,x,y,z,A]) rfl ?_;exact⟨Qdb (Qa H).symm,Qbw p (Nat.le_refl _) (Nat.le_succ _) _ _ _ _ _ _⟩
      |false=>
        have n2:=beq_eq_false_iff_ne.1 e2
        cases e3:((s[m].toNat:Int)==92) with
        |true=>
          have l:=esc_at L (beq_iff_eq.1 e3);by_cases P:m+1<s.size
          · cases f1:((s[m+1].toNat:Int)==34) with
            |true=>
              have q:s[m+1]=34:=(Qfi (k:=34) (by omega)).1 (beq_iff_eq.1 f1);have G:=hide q;clear q
              have D:=hide (show txScan (s.data.toList.drop m)=(txScan (s.data.toList.drop (m+2))).pre s[m+1] 2 by
                rw[l,Qar s (m+1) P,Qml (show esc s[m+1]=some s[m+1] from by rw[Qa G];rfl)])
              clear l b f;go_wp2_with (at_builtin;refine wpList_append_own _ rfl _ _ 149 rfl (w.heap.size+2) 5 E (.int .u8 0) 1 1 Tryz.underlying149 (Qa a).1 (Qa a).2.1 (Qa a).2.2.1 (Qa a).2.2.2 rfl (by decide) _ _ _ rfl (g.alloc _) (Ja _ 0) 1 1 [.int .u8 (s[m+1].toNat:Int)] rfl rfl (Qdc _ _) (Qeg _) (by unfold maxLen;omega) (by omega) (by simp;omega) ?_;intro S T C B _);go_roundw
              case rel=>
                have:=Qgg (n:=2) (c:=s[m+1]) rfl (by have:=Qa J;omega) (Qa K) (by omega) (by omega) (Qa D) C B;rw[show((m+2:Nat):Int)=(m:Int)+1+1 by omega]at this;exact this
              case measure=>simp[intOf];omega
            |false=>
              cases f2:((s[m+1].toNat:Int)==92) with
              |true=>
                have q:s[m+1]=92:=(Qfi (k:=92) (by omega)).1 (beq_iff_eq.1 f2);have G:=hide q;clear q
                have D:=hide (show txScan (s.data.toList.drop m)=(txScan (s.data.toList.drop (m+2))).pre s[m+1] 2 by
                  rw[l,Qar s (m+1) P,Qml (show esc s[m+1]=some s[m+1] from by rw[Qa G];rfl)])
                clear l b f;go_wp2_with (at_builtin;refine wpList_append_own _ rfl _ _ 149 rfl (w.heap.size+2) 5 E (.int .u8 0) 1 1 Tryz.underlying149 (Qa a).1 (Qa a).2.1 (Qa a).2.2.1 (Qa a).2.2.2 rfl (by decide) _ _ _ rfl (g.alloc _) (Ja _ 0) 1 1 [.int .u8 (s[m+1].toNat:Int)] rfl rfl (Qdc _ _) (Qeg _) (by unfold maxLen;omega) (by omega) (by simp;omega) ?_;intro S T C B _);go_roundw
                case rel=>
                  have:=Qgg (n:=2) (c:=s[m+1]) rfl (by have:=Qa J;omega) (Qa K) (by omega) (by omega) (Qa D) C B;rw[show((m+2:Nat):Int)=(m:Int)+1+1 by omega]at this;exact this
                case measure=>simp[intOf];omega
              |false=>
                cases f3:((s[m+1].toNat:Int)==110) with
                |true=>
                  have q:s[m+1]=110:=(Qfi (k:=110) (by omega)).1 (beq_iff_eq.1 f3);have G:=hide q;clear q
                  have D:=hide (show txScan (s.data.toList.drop m)=(txScan (s.data.toList.drop (m+2))).pre 10 2 by
                    rw[l,Qar s (m+1) P,Qml (show esc s[m+1]=some 10 from by rw[Qa G];rfl)])
                  clear l b f;go_wp2_with (at_builtin;refine wpList_append_own _ rfl _ _ 149 rfl (w.heap.size+2) 5 E (.int .u8 0) 1 1 Tryz.underlying149 (Qa a).1 (Qa a).2.1 (Qa a).2.2.1 (Qa a).2.2.2 rfl (by decide) _ _ _ rfl (g.alloc _) (Ja _ 0) 1 1 [.int .u8 10] rfl rfl (Qdc _ _) (Qeg _) (by unfold maxLen;omega) (by omega) (by simp;omega) ?_;intro S T C B _);go_roundw
                  case rel=>
                    have:=Qgg (n:=2) (c:=10) rfl (by have:=Qa J;omega) (Qa K) (by omega) (by omega) (Qa D) C B;rw[show((m+2:Nat):Int)=(m:Int)+1+1 by omega]at this;exact this
                  case measure=>simp[intOf];omega
                |false=>
                  cases f4:((s[m+1].toNat:Int)==116) with
                  |true=>
                    have q:s[m+1]=116:=(Qfi (k:=116) (by omega)).1 (beq_iff_eq.1 f4);have G:=hide q;clear q
                    have D:=hide (show txScan (s.data.toList.drop m)=(txScan (s.data.toList.drop (m+2))).pre 9 2 by
                      rw[l,Qar s (m+1) P,Qml (show esc s[m+1]=some 9 from by rw[Qa G];rfl)])
                    clear l b f;go_wp2_with (at_builtin;refine wpList_append_own _ rfl _ _ 149 rfl (w.heap.size+2) 5 E (.int .u8 0) 1 1 Tryz.underlying149 (Qa a).1 (Qa a).2.1 (Qa a).2.2.1 (Qa a).2.2.2 rfl (by decide) _ _ _ rfl (g.alloc _) (Ja _ 0) 1 1 [.int .u8 9] rfl rfl (Qdc _ _) (Qeg _) (by unfold maxLen;omega) (by omega) (by simp;omega) ?_;intro S T C B _);go_roundw
                    case rel=>
                      have:=Qgg (n:=2) (c:=9) rfl (by have:=Qa J;omega) (Qa K) (by omega) (by omega) (Qa D) C B;rw[show((m+2:Nat):Int)=(m:Int)+1+1 by omega]at this;exact this
                    case measure=>simp[intOf];omega
                  |false=>
                    have g1:=beq_eq_false_iff_ne.1 f1;have g2:=beq_eq_false_iff_ne.1 f2;have g3:=beq_eq_false_iff_ne.1 f3;have g4:=beq_eq_false_iff_ne.1 f4;have M:∀d u,s.data.toList.drop (m+1)=d :: u->esc d=none:=fun d u h=>by
                      rw[Qar s (m+1) P]at h;injection h with h _
                      rw[<- h];unfold esc
                      rw [if_neg (by rintro (e | e); · exact g1 (by rw [e]; rfl)
                                     ·exact g2 (by rw[e];rfl)),if_neg (fun e=>g3 (by rw[e];rfl)),if_neg (fun e=>g4 (by rw[e];rfl))]
                    have H:=hide (show resT k (txRes (s.data.toList.drop (k+1)))=⟨0,⟨#[]⟩,0,0,0,7,(m:Int)⟩ by
                      unfold txRes;rw[b,l,Qmm _ M]
                      simp only[TR.app,resT];congr 1;omega)
                    clear b f g l M;go_wp2_with fail;refine(Qbq _ _ _).mono ?_;rintro e o⟨rfl,I⟩;obtain⟨⟨r,t,x,y,z,A,N,O⟩,p⟩:=Qa j o (F.trans (I.mono (by omega)));clear j;go_wp2_with fail;refine bodyPost_ret (v:=TV.val ⟨0,⟨#[]⟩,0,0,0,7,(m:Int)⟩) (by simp[results,Tryz.results54,go_sem,r,t,x,y,z,A]) rfl ?_;exact⟨Qdb (Qa H).symm,Qbw p (Nat.le_refl _) (Nat.le_succ _) _ _ _ _ _ _⟩
          · have M:∀d u,s.data.toList.drop (m+1)=d :: u->esc d=none:=fun d u h=>by rw[Qby s (m+1) (by omega)]at h;cases h
            have H:=hide (show resT k (txRes (s.data.toList.drop (k+1)))=⟨0,⟨#[]⟩,0,0,0,7,(m:Int)⟩ by
              unfold txRes;rw[b,l,Qmm _ M]
              simp only[TR.app,resT];congr 1;omega)
            clear b f g l M;go_wp2_with fail;refine(Qbq _ _ _).mono ?_;rintro e o⟨rfl,I⟩;obtain⟨⟨r,t,x,y,z,A,N,O⟩,p⟩:=Qa j o (F.trans (I.mono (by omega)));clear j;go_wp2_with fail;refine bodyPost_ret (v:=TV.val ⟨0,⟨#[]⟩,0,0,0,7,(m:Int)⟩) (by simp[results,Tryz.results54,go_sem,r,t,x,y,z,A]) rfl ?_;exact⟨Qdb (Qa H).symm,Qbw p (Nat.le_refl _) (Nat.le_succ _) _ _ _ _ _ _⟩
        |false=>
          have n3:=beq_eq_false_iff_ne.1 e3
          have D:=hide (show txScan (s.data.toList.drop m)=(txScan (s.data.toList.drop (m+1))).pre s[m] 1 by
            rw[Qar s m L,Qti (fun e=>n1 (by rw[e];rfl)) (fun e=>n2 (by rw[e];rfl)) (fun e=>n3 (by rw[e];rfl))])
          clear b f;go_wp2_with (at_builtin;refine wpList_append_own _ rfl _ _ 149 rfl (w.heap.size+2) 5 E (.int .u8 0) 1 1 Tryz.underlying149 (Qa a).1 (Qa a).2.1 (Qa a).2.2.1 (Qa a).2.2.2 rfl (by decide) _ _ _ rfl (g.alloc _) (Ja _ 0) 1 1 [.int .u8 (s[m].toNat:Int)] rfl rfl (Qdc _ _) (Qeg _) (by unfold maxLen;omega) (by omega) (by simp;omega) ?_;intro S T C B _);go_roundw
          case rel=>
            have:=Qgg (n:=1) (c:=s[m]) rfl (by have:=Qa J;omega) (Qa K) (by omega) (by omega) (Qa D) C B
            simpa using this
          case measure=>simp[intOf];omega
  · have H:=hide (show resT k (txRes (s.data.toList.drop (k+1)))=⟨0,⟨#[]⟩,0,0,0,7,(k:Int)⟩ by
      unfold txRes;rw[b,Qby s m (by omega)]
      simp[txScan,TR.app,resT])
    clear b f g;go_wp2_with fail;refine(Qbq _ _ _).mono ?_;rintro e o⟨rfl,I⟩;obtain⟨⟨r,t,x,y,z,A,N,O⟩,p⟩:=Qa j o (F.trans (I.mono (by omega)));clear j;go_wp2_with fail;refine bodyPost_ret (v:=TV.val ⟨0,⟨#[]⟩,0,0,0,7,(k:Int)⟩) (by simp[results,Tryz.results54,go_sem,r,t,x,y,z,A]) rfl ?_;exact⟨Qdb (Qa H).symm,Qbw p (Nat.le_refl _) (Nat.le_succ _) _ _ _ _ _ _⟩
end
end Go.Proofs.YtkhndlnadhggkaaGreat
