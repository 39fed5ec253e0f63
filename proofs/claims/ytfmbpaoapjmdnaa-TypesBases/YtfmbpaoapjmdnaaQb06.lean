/- slices.EqualFunc at Clause. syn: sameExprs, as a chain. syn: sameAtoms, as a chain. syn: sameLits, as a chain. syn: sameCtors, as a chain. syn: sameTypes, as a chain. syn: sameDecls, as a chain. syn: sameInits, as a chain. syn: sameComps, as a chain. syn: sameClauses, as a chain. syn: Same, as a chain. syn: Same, of any two programs. syn: the laws' own probe answers true. Walk of the document's Same. Walks of the document's fault and gap. Walk of the document's number. -/
import Derived.Test.YtfmbpaoapjmdnaaQb05
set_option maxRecDepth 100000
set_option maxHeartbeats 32000000
namespace Go.Proofs.Ytfmbpaoapjmdnaa
section
open Go.RowKit Go.Maps
def qqLoad (a : Value) : Sem Value := Instr.loadAt 78 a
theorem Qni (a : Value) : Instr.loadAt 78 a = qqLoad a := rfl
def qqStore (p v : Value) : Sem Unit := Instr.storeAt 78 p v
theorem Qlv (p v : Value) : Instr.storeAt 78 p v = qqStore p v := rfl
attribute [local go_sem ↓] Qni Qlv
end
section
open Go.RowKit Go.Maps

end
section
open Go.RowKit Go.Maps

end
section
open Go.RowKit Go.Maps

end
section
open Go.RowKit Go.Maps

end
section
open Go.RowKit Go.Maps

end
section
open Go.RowKit Go.Maps

end
section
open Go.RowKit Go.Maps

end
section
open Go.RowKit Go.Maps

end
section
open Go.RowKit Go.Maps

end
section
open Go.RowKit Go.Maps

end
section
open Go.RowKit Go.Maps
mutual
def eqE : Ex → Ex → Bool
 | .mk k n s ks _, .mk k' n' s' ks' _ => decide (k = k') && decide (n = n') && decide (s = s') && eqEs ks ks'
def eqEs : List Ex → List Ex → Bool
 | [], [] => true
 | x :: xs, y :: ys => eqE x y && eqEs xs ys
 | _, _ => false
end
theorem Qdk {α : Type} (eq : α → α → Bool) (x y : α) (xs ys : List α) : eqL eq (x :: xs) (y :: ys) = (eq x y && eqL eq xs ys) := by
 unfold eqL
 simp only [List.length_cons, List.zip_cons_cons, List.all_cons, Nat.add_right_cancel_iff]
 cases eq x y <;> simp
theorem Qmk : ∀ xs ys : List Ex, eqEs xs ys = eqL eqE xs ys
 | [], [] => by simp [eqEs, eqL]
 | [], y :: ys => by simp [eqEs, eqL]
 | x :: xs, [] => by simp [eqEs, eqL]
 | x :: xs, y :: ys => by rw [Qdk, eqEs, Qmk xs ys]
theorem Qqt (x y : Ex) : eqE x y = (decide (x.kind = y.kind) && decide (x.num = y.num) && decide (x.txt = y.txt) && eqL eqE x.kids y.kids) := by
 cases x with
 | mk k n s ks a =>
  cases y with
  | mk k' n' s' ks' a' => rw [eqE, Qmk]; rfl
def eqA (x y : Atm) : Bool := decide (x.rel = y.rel) && eqL eqE x.args y.args
def eqLt (x y : Lt) : Bool := decide (x.kind = y.kind) && eqA x.atom y.atom && decide (x.op = y.op) && eqE x.l y.l && eqE x.r y.r
def eqCt (x y : Ctr) : Bool := decide (x.name = y.name) && eqL eqFd x.fields y.fields
def eqTy (x y : Typ) : Bool := decide (x.name = y.name) && decide (x.sub = y.sub) && eqL eqCt x.ctors y.ctors
def eqDc (x y : Dcl) : Bool := decide (x.name = y.name) && eqL eqFd x.cols y.cols && decide (x.input = y.input) && decide (x.output = y.output)
def eqIn (x y : Ini) : Bool := decide (x.name = y.name) && decide (x.comp = y.comp)
def eqCl (x y : Cls) : Bool := eqA x.head y.head && eqL eqLt x.body y.body
mutual
def eqPg : Pg → Pg → Bool
 | .mk ts ds cs is ls, .mk ts' ds' cs' is' ls' => eqL eqTy ts ts' && eqL eqDc ds ds' && eqCps cs cs' && eqL eqIn is is' && eqL eqCl ls ls'
def eqCps : List Cp → List Cp → Bool
 | [], [] => true
 | (n, bs, p, _) :: xs, (n', bs', p', _) :: ys => (decide (n = n') && eqL eqTx bs bs' && eqPg p p') && eqCps xs ys
 | _, _ => false
end
def eqCp (x y : Cp) : Bool := decide (x.1 = y.1) && eqL eqTx x.2.1 y.2.1 && eqPg x.2.2.1 y.2.2.1
theorem Qke : ∀ xs ys : List Cp, eqCps xs ys = eqL eqCp xs ys
 | [], [] => by simp [eqCps, eqL]
 | [], y :: ys => by simp [eqCps, eqL]
 | x :: xs, [] => by simp [eqCps, eqL]
 | (n, bs, p, a) :: xs, (n', bs', p', a') :: ys => by rw [Qdk, eqCps, Qke xs ys]; rfl
theorem Qde (p q : Pg) : eqPg p q = (eqL eqTy p.types q.types && eqL eqDc p.decls q.decls && eqL eqCp p.comps q.comps && eqL eqIn p.inits q.inits && eqL eqCl p.clauses q.clauses) := by
 cases p
 cases q
 rw [eqPg, Qke]
 rfl

theorem list5 {a b c d e a' b' c' d' e' : Value} (h : [a, b, c, d, e] = [a', b', c', d', e']) : a = a' ∧ b = b' ∧ c = c' ∧ d = d' ∧ e = e' := by simpa using h
end
section
open Go.RowKit Go.Maps
def vx (c : UInt8) (a : Int) : Ex := .mk 1 0 [c] [] a
def live : Pg := .mk [] [] [] [] [⟨⟨[112], [vx 120 2, vx 121 5], 0⟩, [⟨1, ⟨[101], [vx 120 13, vx 122 16], 11⟩, [], .none, .none, 11⟩, ⟨1, ⟨[112], [vx 122 22, vx 121 25], 20⟩, [], .none, .none, 20⟩, ⟨3, .none, [60], vx 120 29, .mk 2 (-3) [] [] 33, 29⟩], 0⟩]
def ltoks : List Tok := (lexP (⟨#[112, 40, 120, 44, 32, 121, 41, 32, 58, 45, 32, 101, 40, 120, 44, 32, 122, 41, 44, 32, 112, 40, 122, 44, 32, 121, 41, 44, 32, 120, 32, 60, 32, 45, 51, 46]⟩ : ByteArray).data.toList).toks
attribute [local go_sem ↓] Qbj Qbv
end
section
open Go.RowKit
def SlAt (w : World) (v : Value) (toks : List Tok) : Prop := ∃ ao cap, v = .slice ao toks.length cap ∧ toks.length ≤ cap ∧ cap ≤ maxLen ∧ (toks = [] ∨ ∃ g, ao = some ⟨g, 0, none⟩ ∧ RowAt w g cap toks)
theorem SlAt.later {w w' : World} {v : Value} {toks : List Tok} (h : SlAt w v toks) (hb : Below w.heap.size w w') : SlAt w' v toks := by
 obtain ⟨ao, cap, hv, h1, h2, h3⟩ := h
 refine ⟨ao, cap, hv, h1, h2, ?_⟩
 rcases h3 with h | ⟨g, hg, hr⟩
 · exact .inl h
 · exact .inr ⟨g, hg, hr.later hb⟩
def Alike (p : Bool) (x y : Tok) : Prop := x.kind = y.kind ∧ x.text = y.text ∧ x.num = y.num ∧ (p = true → x.at_ = y.at_)
end
section
open Go.RowKit
theorem Qbh (why a : Int) (w : World) :
  Calls Try.prog 43 #[.int .i64 why, .int .i64 a] w fun e w' => e = .returned (.agg #[.int .i64 why, .int .i64 a]) ∧ Below w.heap.size w w' := by
 go_enter Try.func43, Try.ntmps43
 go_wp2_with fail
 refine bodyPost_ret (v := .agg #[.int .i64 why, .int .i64 a]) (by simp [results, Try.results43, go_sem]) rfl ?_
 exact ⟨rfl, (Below.refl _ w).alloc (Nat.le_refl _) _⟩

def gapV (k : Nat) : G → Int
 | .none => (k : Int)
 | .gap n => (k : Int) + (n : Int)
 | .never => -1
theorem ln_at {s : ByteArray} {k m : Nat} (h : m < s.size) (hd : ¬ bv s[m] = 10) (hh : k + lnLen (s.data.toList.drop k) = m + lnLen (s.data.toList.drop m)) :
  k + lnLen (s.data.toList.drop k) = (m + 1) + lnLen (s.data.toList.drop (m + 1)) := by
 rw [Qan s m h] at hh
 have : lnLen (s[m] :: s.data.toList.drop (m + 1)) = lnLen (s.data.toList.drop (m + 1)) + 1 := by
  unfold lnLen
  rw [if_neg (fun e => hd (by rw [e]; rfl))]
  cases s.data.toList.drop (m + 1) <;> rfl
 omega
theorem Qra {s : ByteArray} {k m : Nat} (h : ∀ hm : m < s.size, bv s[m] = 10) (hh : k + lnLen (s.data.toList.drop k) = m + lnLen (s.data.toList.drop m)) : k + lnLen (s.data.toList.drop k) = m := by
 by_cases hm : m < s.size
 ·
  have e : s[m] = 10 := (Qfj (k := 10) (by omega)).1 (h hm)
  rw [Qan s m hm, e] at hh
  simp [lnLen] at hh
  exact hh
 rw [Qbt s m (by omega)] at hh
 exact hh
theorem ce_at {s : ByteArray} {m : Nat} (h : m < s.size) (hp : pre [42, 47] (s.data.toList.drop m) = false) : cEnd (s.data.toList.drop m) = (cEnd (s.data.toList.drop (m + 1))).map (· + 1) := by
 rw [Qan s m h] at hp ⊢
 rw [cEnd, if_neg (by rw [hp]; simp)]
theorem ce_hit {s : ByteArray} {m : Nat} (h : m < s.size) (hp : pre [42, 47] (s.data.toList.drop m) = true) : cEnd (s.data.toList.drop m) = some 0 := by
 rw [Qan s m h] at hp ⊢
 rw [cEnd, if_pos hp]
def CeAt (s : ByteArray) (k m : Nat) : Prop := k ≤ m ∧ m ≤ s.size ∧ cEnd (s.data.toList.drop k) = (cEnd (s.data.toList.drop m)).map (· + (m - k))
theorem CeAt.step {s : ByteArray} {k m : Nat} (h : CeAt s k m) (hm : m < s.size) (hp : pre [42, 47] (s.data.toList.drop m) = false) : CeAt s k (m + 1) := by
 obtain ⟨h1, h2, h3⟩ := h
 refine ⟨by omega, by omega, ?_⟩
 rw [h3, ce_at hm hp, Option.map_map]
 cases cEnd (s.data.toList.drop (m + 1)) with
 | none => rfl
 | some j => simp; omega

theorem Qqe (s : ByteArray) (k : Nat) (hk : k < s.size) (hs : s.size ≤ 140737488355328) (w : World) :
  Calls Try.prog 44 #[.string s, .int .i64 (k : Int)] w fun e w' => e = .returned (.int .i64 (gapV k (gapAt (s.data.toList.drop k)))) ∧ w' = w := by
 cases hb : isB (s[k].toNat : Int) with
 | true =>
  have H := hide (show gapV k (gapAt (s.data.toList.drop k)) = (k : Int) + 1 by rw [Qmt hk hb]; rfl)
  have hb' : (s[k].toNat : Int) = 32 ∨ (s[k].toNat : Int) = 9 ∨ (s[k].toNat : Int) = 10 ∨ (s[k].toNat : Int) = 13 := by
   simp only [isB, Bool.or_eq_true, decide_eq_true_eq] at hb; omega
  go_enter Try.func44, Try.ntmps44
  rcases hb' with e | e | e | e
  all_goals
   go_wp2_with fail
   go_ret
   exact ⟨Qcg (Qa H).symm, rfl⟩
 | false =>
  have hb' : ¬ (s[k].toNat : Int) = 32 ∧ ¬ (s[k].toNat : Int) = 9 ∧ ¬ (s[k].toNat : Int) = 10 ∧ ¬ (s[k].toNat : Int) = 13 := by
   simp only [isB, Bool.or_eq_false_iff, decide_eq_false_iff_not] at hb; omega
  obtain ⟨n1, n2, n3, n4⟩ := hb'
  have m1 : ((s[k].toNat : Int) == 32) = false := beq_eq_false_iff_ne.2 n1
  have m2 : ((s[k].toNat : Int) == 9) = false := beq_eq_false_iff_ne.2 n2
  have m3 : ((s[k].toNat : Int) == 10) = false := beq_eq_false_iff_ne.2 n3
  have m4 : ((s[k].toNat : Int) == 13) = false := beq_eq_false_iff_ne.2 n4
  clear n1 n2 n4
  cases hp : pre [47, 47] (s.data.toList.drop k) with
  | true =>
   have HP := hide hp
   have H := hide (show gapV k (gapAt (s.data.toList.drop k)) = (k : Int) + (lnLen (s.data.toList.drop k) : Int) by rw [Qpo hk hb hp]; rfl)
   clear hp
   go_enter Try.func44, Try.ntmps44
   go_wp2_with (go_at_call 86; refine (Qdw s _ k ⟨#[47, 47]⟩ true rfl (Qa HP) (by omega) hs (by decide) _).mono ?_; rintro e w' ⟨rfl, rfl⟩)
   go_loop [1] (fun i => ∃ m : Nat, i = .int .i64 (m : Int) ∧ m ≤ s.size ∧ Hid (k + lnLen (s.data.toList.drop k) = m + lnLen (s.data.toList.drop m))) (fun i => s.size - (intOf i).toNat)
   case atStart => exact ⟨k, rfl, by omega, hide rfl⟩
   obtain ⟨m, rfl, hm, HH⟩ := hrel
   by_cases hlt : m < s.size
   ·
    cases h10 : ((s[m].toNat : Int) != 10) with
    | true =>
     go_wp2_with fail
     go_round
     case rel => exact ⟨m + 1, by go_num, by omega, hide (ln_at hlt (bne_iff_ne.1 h10) (Qa HH))⟩
     case measure => simp [intOf]; omega
    | false =>
     go_wp2_with fail
     go_ret
     have e10 : (s[m].toNat : Int) = 10 := by simpa using h10
     exact ⟨Qcg (by rw [Qa H]; have := Qra (fun _ => e10) (Qa HH); omega), rfl⟩
   go_wp2_with fail
   go_ret
   exact ⟨Qcg (by rw [Qa H]; have := Qra (fun h => absurd h hlt) (Qa HH); omega), rfl⟩
  | false =>
   cases hq : pre [47, 42] (s.data.toList.drop k) with
   | false =>
    have HP := hide hp
    have HQ := hide hq
    have H := hide (show gapV k (gapAt (s.data.toList.drop k)) = (k : Int) by rw [gap_not hk hb hp hq]; rfl)
    clear hp hq
    go_enter Try.func44, Try.ntmps44
    go_wp2_with fail
    refine (Qdw s _ k ⟨#[47, 47]⟩ false rfl (Qa HP) (by omega) hs (by decide) _).mono ?_
    rintro e w' ⟨rfl, rfl⟩
    go_wp2_with fail
    refine (Qdw s _ k ⟨#[47, 42]⟩ false rfl (Qa HQ) (by omega) hs (by decide) _).mono ?_
    rintro e w' ⟨rfl, rfl⟩
    go_wp2_with fail
    go_ret
    exact ⟨Qcg (Qa H).symm, rfl⟩
   | true =>
    have HP := hide hp
    have HQ := hide hq
    have h2 := pre_two hq
    have H := hide (show gapV k (gapAt (s.data.toList.drop k)) = match cEnd (s.data.toList.drop (k + 2)) with | some n => (k : Int) + ((n + 4 : Nat) : Int) | none => -1 by
     rw [Qpn hk hb hp hq]; unfold cGap; cases cEnd (s.data.toList.drop (k + 2)) <;> rfl)
    clear hp hq
    go_enter Try.func44, Try.ntmps44
    go_wp2_with fail
    refine (Qdw s _ k ⟨#[47, 47]⟩ false rfl (Qa HP) (by omega) hs (by decide) _).mono ?_
    rintro e w' ⟨rfl, rfl⟩
    go_wp2_with fail
    refine (Qdw s _ k ⟨#[47, 42]⟩ true rfl (Qa HQ) (by omega) hs (by decide) _).mono ?_
    rintro e w' ⟨rfl, rfl⟩
    go_wp2_with fail
    go_loop [6] (fun i => ∃ m : Nat, i = .int .i64 (m : Int) ∧ Hid (CeAt s (k + 2) m)) (fun i => s.size - (intOf i).toNat)
    case atStart => exact ⟨k + 2, by go_num, hide ⟨Nat.le_refl _, h2, by rw [Nat.sub_self]; cases cEnd (s.data.toList.drop (k + 2)) <;> rfl⟩⟩
    obtain ⟨m, rfl, HH⟩ := hrel
    have hm := (Qa HH).2.1
    have hkm := (Qa HH).1
    by_cases hlt : m < s.size
    ·
     cases hr : pre [42, 47] (s.data.toList.drop m) with
     | true =>
      have HR := hide hr
      clear hr
      go_wp2_with (go_at_call 86; refine (Qdw s _ m ⟨#[42, 47]⟩ true rfl (Qa HR) (by omega) hs (by decide) _).mono ?_; rintro e w' ⟨rfl, rfl⟩)
      go_ret
      refine ⟨Qcg ?_, rfl⟩
      rw [Qa H, (Qa HH).2.2, ce_hit hlt (Qa HR), Option.map_some]
      show (m : Int) + 2 = (k : Int) + ((0 + (m - (k + 2)) + 4 : Nat) : Int)
      omega
     | false =>
      have HR := hide hr
      clear hr
      go_wp2_with (go_at_call 86; refine (Qdw s _ m ⟨#[42, 47]⟩ false rfl (Qa HR) (by omega) hs (by decide) _).mono ?_; rintro e w' ⟨rfl, rfl⟩)
      go_round
      case rel => exact ⟨m + 1, by go_num, hide ((Qa HH).step hlt (Qa HR))⟩
      case measure => simp [intOf]; omega
    go_wp2_with fail
    go_ret
    refine ⟨Qcg ?_, rfl⟩
    rw [Qa H, (Qa HH).2.2, Qbt s m (by omega)]
    rfl
end
section
open Go.RowKit
theorem Qmw {n : Int} : isD n = true ↔ 48 ≤ n ∧ n ≤ 57 := by simp [isD]
theorem Qov : ∀ (l : Txt) (acc : Nat) (c : UInt8), vl acc (l ++ [c]) = vl acc l * 10 + (c.toNat - 48)
 | [], _, _ => rfl
 | _ :: l, _, c => Qov l _ c
def vlAt (s : ByteArray) (k m : Nat) : Nat := vl 0 ((s.data.toList.drop k).take (m - k))
theorem Qhe (s : ByteArray) (k : Nat) : vlAt s k k = 0 := by unfold vlAt; rw [Nat.sub_self]; rfl
theorem Qja {s : ByteArray} {k m : Nat} (hk : k ≤ m) (hm : m < s.size) : vlAt s k (m + 1) = vlAt s k m * 10 + (s[m].toNat - 48) := by
 unfold vlAt
 have e : m + 1 - k = (m - k) + 1 := by omega
 have hlen : m - k < (s.data.toList.drop k).length := by rw [Qbg]; omega
 have e2 : (s.data.toList.drop k)[m - k] = s[m] := by
  rw [List.getElem_drop]
  have e3 : k + (m - k) = m := by omega
  simp only [e3]
  rfl
 rw [e, List.take_succ_eq_append_getElem hlen, Qov, e2]
theorem dg_more {s : ByteArray} {k m : Nat} (hk : k < s.size) (h1 : k ≤ m) (h2 : m < k + dgLen (s.data.toList.drop k)) (hd : isD (bv s[k]) = true) : ∃ hm : m < s.size, isD (bv s[m]) = true ∧ (m = k ∨ ¬ bv s[k] = 48) := by
 by_cases h0 : bv s[k] = 48
 ·
  rw [Qmi hk h0] at h2
  have e : m = k := by omega
  subst e
  exact ⟨hk, hd, .inl rfl⟩
 rw [Qkb hk h0] at h2
 obtain ⟨j, rfl⟩ : ∃ j, m = k + j := ⟨m - k, by omega⟩
 have key : ∀ (j : Nat) (k : Nat), j < dcn (s.data.toList.drop k) → ∃ hm : k + j < s.size, isD (bv s[k + j]) = true := by
  intro j
  induction j with
  | zero =>
   intro k h
   by_cases hk : k < s.size
   ·
    rw [Qan s k hk] at h
    cases hd : isD (bv s[k]) with
    | true => exact ⟨hk, hd⟩
    | false => simp [dcn, hd] at h
   · rw [Qbt s k (by omega)] at h; simp [dcn] at h
  | succ j ih =>
   intro k h
   by_cases hk : k < s.size
   ·
    rw [Qan s k hk] at h
    cases hd : isD (bv s[k]) with
    | false => simp [dcn, hd] at h
    | true =>
     have : j < dcn (s.data.toList.drop (k + 1)) := by simp [dcn, hd] at h; omega
     obtain ⟨h1, h2⟩ := ih (k + 1) this
     have e : k + (j + 1) = k + 1 + j := by omega
     simp only [e]
     exact ⟨h1, h2⟩
   · rw [Qbt s k (by omega)] at h; simp [dcn] at h
 obtain ⟨h3, h4⟩ := key j k (by omega)
 exact ⟨h3, h4, .inr h0⟩
theorem dg_stop {s : ByteArray} {k m : Nat} (hk : k < s.size) (h2 : m = k + dgLen (s.data.toList.drop k)) (hm : m < s.size) : isD (bv s[m]) = false ∨ (¬ m = k ∧ bv s[k] = 48) := by
 by_cases h0 : bv s[k] = 48
 ·
  rw [Qmi hk h0] at h2
  exact .inr ⟨by omega, h0⟩
 left
 rw [Qkb hk h0] at h2
 have key : ∀ (j : Nat) (k : Nat), j = dcn (s.data.toList.drop k) → ∀ hm : k + j < s.size, isD (bv s[k + j]) = false := by
  intro j
  induction j with
  | zero =>
   intro k h hm
   have hk : k < s.size := hm
   rw [Qan s k hk] at h
   cases hd : isD (bv s[k]) with
   | false => first | exact hd | rfl
   | true => simp [dcn, hd] at h
  | succ j ih =>
   intro k h hm
   by_cases hk : k < s.size
   ·
    rw [Qan s k hk] at h
    cases hd : isD (bv s[k]) with
    | false => simp [dcn, hd] at h
    | true =>
     have h5 : j = dcn (s.data.toList.drop (k + 1)) := by simp [dcn, hd] at h; omega
     have e : k + (j + 1) = k + 1 + j := by omega
     simp only [e]
     exact ih (k + 1) h5 (by omega)
   · omega
 subst h2
 exact key _ k rfl hm

structure NuI (s : ByteArray) (k m : Nat) (n : Int) (ov : Bool) : Prop where
 h1 : k ≤ m
 h2 : m ≤ k + dgLen (s.data.toList.drop k)
 v : ov = decide (9223372036854775807 < vlAt s k m)
 n0 : 0 ≤ n
 n1 : n ≤ 9223372036854775807
 n : ov = false → n = (vlAt s k m : Int)
theorem NuI.over {s : ByteArray} {k m : Nat} {n : Int} (h : NuI s k m n true) (hm : m < s.size) (hlt : m < k + dgLen (s.data.toList.drop k)) : NuI s k (m + 1) n true := by
 refine ⟨by have := h.h1; omega, by omega, ?_, h.n0, h.n1, (fun e => by cases e)⟩
 have hv := of_decide_eq_true h.v.symm
 rw [eq_comm, decide_eq_true_eq, Qja h.h1 hm]; omega
theorem NuI.step {s : ByteArray} {k m : Nat} {n : Int} (h : NuI s k m n false) (hm : m < s.size) (hlt : m < k + dgLen (s.data.toList.drop k)) (hd : isD (bv s[m]) = true) :
  (¬ (9223372036854775807 - ((s[m].toNat : Int) - 48)) / 10 < n → NuI s k (m + 1) (n * 10 + ((s[m].toNat : Int) - 48)) false) ∧ ((9223372036854775807 - ((s[m].toNat : Int) - 48)) / 10 < n → NuI s k (m + 1) n true) := by
 have hv := h.n rfl
 have hd' : 48 ≤ (s[m].toNat : Int) ∧ (s[m].toNat : Int) ≤ 57 := by
  exact Qmw.1 hd
 have e := Qja h.h1 hm
 have n0 := h.n0
 constructor
 ·
  intro hlt2
  refine ⟨by have := h.h1; omega, by omega, ?_, by omega, by omega, fun _ => by rw [e]; omega⟩
  rw [eq_comm, decide_eq_false_iff_not, e]; omega
 intro hlt2
 refine ⟨by have := h.h1; omega, by omega, ?_, h.n0, h.n1, (fun e => by cases e)⟩
 rw [eq_comm, decide_eq_true_eq, e]; omega

theorem Qjs (s : ByteArray) (k : Nat) (hk : k < s.size) (hdg : isD (bv s[k]) = true) (hs : s.size ≤ 65536) (w : World) :
  Calls Try.prog 47 #[.string s, .int .i64 (k : Int)] w fun e w' => e = .returned (resT k (dgRes (s.data.toList.drop k))).val ∧ Below w.heap.size w w' := by
 have hb := Qkt w
 have hle := dg_le (s.data.toList.drop k)
 rw [Qbg] at hle
 have HD := hide hdg
 obtain ⟨L, hL⟩ : ∃ L, dgLen (s.data.toList.drop k) = L := ⟨_, rfl⟩
 have HL := hide hL
 rw [hL] at hle
 clear hdg hL
 go_enter Try.func47, Try.ntmps47
 go_wp2_with fail
 go_loop [7, 8, 9] (fun i nv ov => ∃ (m : Nat) (n : Int) (o : Bool), i = .int .i64 (m : Int) ∧ nv = .int .i64 n ∧ ov = .bool o ∧ m ≤ k + L ∧ 0 ≤ n ∧ n ≤ 9223372036854775807 ∧ Hid (NuI s k m n o)) (fun i _ _ => k + L - (intOf i).toNat)
 case atStart => exact ⟨k, 0, false, rfl, rfl, rfl, by omega, by omega, by omega, hide ⟨Nat.le_refl _, by omega, by rw [Qhe]; rfl, by omega, by omega, fun _ => by rw [Qhe]; rfl⟩⟩
 obtain ⟨m, n, o, rfl, rfl, rfl, hmL, n0, n1, HH⟩ := hrel
 have hkm := (Qa HH).h1
 by_cases hlt : m < k + L
 ·
  obtain ⟨hms, hdm, hor⟩ := dg_more hk hkm (by rw [Qa HL]; exact hlt) (Qa HD)
  have hdm2 : isD (s[m].toNat : Int) = true := hdm
  have hd48 : 48 ≤ (s[m].toNat : Int) ∧ (s[m].toNat : Int) ≤ 57 := by
   exact Qmw.1 hdm
  obtain ⟨d1, d2⟩ := hd48
  have HDM := hide hdm
  clear hdm
  have hf : ((m : Int) == (k : Int)) = true ∨ (((m : Int) == (k : Int)) = false ∧ ((s[k].toNat : Int) != 48) = true) := by
   by_cases e : m = k
   · left; rw [beq_iff_eq, e]
   right
   refine ⟨beq_eq_false_iff_ne.2 (by omega), bne_iff_ne.2 ?_⟩
   rcases hor with h | h
   · exact absurd h e
   · exact h
  clear hor
  cases o
  ·
   have HN := hide ((Qa HH).step hms (by rw [Qa HL]; exact hlt) (Qa HDM))
   by_cases hov : (9223372036854775807 - ((s[m].toNat : Int) - 48)) / 10 < n
   ·
    have hov2 : decide ((9223372036854775807 - ((s[m].toNat : Int) - 48)) / 10 < n) = true := decide_eq_true hov
    have HV := hide hov
    clear hov
    rcases hf with hf | ⟨hf, hf2⟩
    all_goals
     go_wp2_with (go_at_call 46; refine (Qbf _ _).mono ?_; rintro e w' ⟨rfl, rfl⟩; rw [hdm2])
     go_round
     case rel => exact ⟨m + 1, n, true, by go_num, rfl, rfl, by omega, n0, n1, hide ((Qa HN).2 (Qa HV))⟩
     case measure => simp [intOf]; omega
   have hov2 : decide ((9223372036854775807 - ((s[m].toNat : Int) - 48)) / 10 < n) = false := decide_eq_false hov
   have hw1 : wrap64 (n * 10) = n * 10 := by unfold wrap64; omega
   have hw2 : wrap64 (n * 10 + ((s[m].toNat : Int) - 48)) = n * 10 + ((s[m].toNat : Int) - 48) := by unfold wrap64; omega
   have HV := hide hov
   have b0 : 0 ≤ n * 10 + ((s[m].toNat : Int) - 48) := by omega
   have b1 : n * 10 + ((s[m].toNat : Int) - 48) ≤ 9223372036854775807 := by omega
   have HB0 := hide b0
   have HB1 := hide b1
   clear hov b0 b1
   rcases hf with hf | ⟨hf, hf2⟩
   all_goals
    go_wp2_with (go_at_call 46; refine (Qbf _ _).mono ?_; rintro e w' ⟨rfl, rfl⟩; rw [hdm2])
    go_round
    case rel => exact ⟨m + 1, n * 10 + ((s[m].toNat : Int) - 48), false, by go_num, by first | rfl | (rw [hw2]), rfl, by omega, Qa HB0, Qa HB1, hide ((Qa HN).1 (Qa HV))⟩
    case measure => simp [intOf]; omega
  have HN := hide ((Qa HH).over hms (by rw [Qa HL]; exact hlt))
  rcases hf with hf | ⟨hf, hf2⟩
  ·
   go_wp2_with (go_at_call 46; refine (Qbf _ _).mono ?_; rintro e w' ⟨rfl, rfl⟩; rw [hdm2])
   go_round
   case rel => exact ⟨m + 1, n, true, by go_num, rfl, rfl, by omega, n0, n1, HN⟩
   case measure => simp [intOf]; omega
  go_wp2_with (go_at_call 46; refine (Qbf _ _).mono ?_; rintro e w' ⟨rfl, rfl⟩; rw [hdm2])
  go_round
  case rel => exact ⟨m + 1, n, true, by go_num, rfl, rfl, by omega, n0, n1, HN⟩
  case measure => simp [intOf]; omega
 have eL : m = k + L := by omega
 have hV := (Qa HH).v
 have hNv := (Qa HH).n
 have HRES := hide (show dgRes (s.data.toList.drop k) = if noW (s.data.toList.drop m) = false then .bad 7 L else if 9223372036854775807 < vlAt s k m then .bad 8 0 else .tok 2 [] (vlAt s k m) L by
  unfold dgRes vlAt
  rw [Qa HL, List.drop_drop, ← eL, show m - k = L by omega])
 have HST := hide (fun hm => dg_stop hk (show m = k + dgLen (s.data.toList.drop k) by rw [Qa HL]; exact eL) hm)
 have HEL := hide eL
 clear eL
 clear HH hkm
 by_cases hms : m < s.size
 ·
  cases hdm2 : isD (s[m].toNat : Int) with
  | true =>
   obtain ⟨e1, e2⟩ : ¬ m = k ∧ bv s[k] = 48 := by
    rcases Qa HST hms with h | h
    · rw [show isD (bv s[m]) = true from hdm2] at h; cases h
    · exact h
   have hf : ((m : Int) == (k : Int)) = false := beq_eq_false_iff_ne.2 (by omega)
   have hf2 : ((s[k].toNat : Int) != 48) = false := by rw [show (s[k].toNat : Int) = 48 from e2]; rfl
   have hwm : noW (s.data.toList.drop m) = false := by rw [Qnn hms, inW_D (show isD (bv s[m]) = true from hdm2)]; rfl
   have H := hide (show resT k (dgRes (s.data.toList.drop k)) = ⟨0, ⟨#[]⟩, 0, 0, 0, 7, (m : Int)⟩ by
    have e := Qa HRES
    rw [if_pos hwm] at e
    rw [e, resT, ← Qa HEL])
   clear hV hNv HRES HST hwm e1 e2
   go_wp2_with (go_at_call 46; refine (Qbf _ _).mono ?_; rintro e w' ⟨rfl, rfl⟩; rw [hdm2])
   refine (Qbh _ _ _).mono ?_
   rintro e w2 ⟨rfl, b2⟩
   have bx := Qcm (w := w) (w2 := w2) (by simpa using b2)
   have bw : Below w.heap.size w w2 := hb.trans (b2.mono (by simp; omega))
   obtain ⟨x0, x1, x2, x3, y0, y1, fx, fy⟩ := bx
   clear b2 hb
   go_wp2_with fail
   refine bodyPost_ret (v := TV.val ⟨0, ⟨#[]⟩, 0, 0, 0, 7, (m : Int)⟩) (by simp [results, Try.results47, go_sem, x0, x1, x2, x3, y0, y1]) rfl ?_
   exact ⟨Qdc (Qa H).symm, Qbp bw (Nat.le_refl _) (Nat.le_succ _) _ _ _ _ _ _⟩
  | false =>
   cases hl : isL (s[m].toNat : Int) with
   | true =>
    have hwm : noW (s.data.toList.drop m) = false := by rw [Qnn hms, Qmu (show isL (bv s[m]) = true from hl)]; rfl
    have H := hide (show resT k (dgRes (s.data.toList.drop k)) = ⟨0, ⟨#[]⟩, 0, 0, 0, 7, (m : Int)⟩ by
     have e := Qa HRES
     rw [if_pos hwm] at e
     rw [e, resT, ← Qa HEL])
    clear hV hNv HRES HST hwm
    go_wp2_with (first
     | (go_at_call 46; refine (Qbf _ _).mono ?_; rintro e w' ⟨rfl, rfl⟩; rw [hdm2])
     | (go_at_call 88; refine (Qca _ _).mono ?_; rintro e w' ⟨rfl, rfl⟩; rw [hl]))
    refine (Qbh _ _ _).mono ?_
    rintro e w2 ⟨rfl, b2⟩
    have bx := Qcm (w := w) (w2 := w2) (by simpa using b2)
    have bw : Below w.heap.size w w2 := hb.trans (b2.mono (by simp; omega))
    obtain ⟨x0, x1, x2, x3, y0, y1, fx, fy⟩ := bx
    clear b2 hb
    go_wp2_with fail
    refine bodyPost_ret (v := TV.val ⟨0, ⟨#[]⟩, 0, 0, 0, 7, (m : Int)⟩) (by simp [results, Try.results47, go_sem, x0, x1, x2, x3, y0, y1]) rfl ?_
    exact ⟨Qdc (Qa H).symm, Qbp bw (Nat.le_refl _) (Nat.le_succ _) _ _ _ _ _ _⟩
   | false =>
    have hwm : noW (s.data.toList.drop m) = true := by rw [Qnn hms]; unfold inW; rw [show isL (bv s[m]) = false from hl, show isD (bv s[m]) = false from hdm2]; rfl
    cases o
    ·
     have H := hide (show resT k (dgRes (s.data.toList.drop k)) = ⟨2, ⟨#[]⟩, n, (k : Int), (m : Int), 0, 0⟩ by
      have e := Qa HRES
      rw [if_neg (by rw [show noW (s.data.toList.drop m) = true from hwm]; simp), if_neg (of_decide_eq_false hV.symm)] at e
      have := Qa HEL
      rw [e, resT, ← hNv rfl]; simp; omega)
     clear hV hNv HRES
     clear HST hwm
     go_wp2_with (first
      | (go_at_call 46; refine (Qbf _ _).mono ?_; rintro e w' ⟨rfl, rfl⟩; rw [hdm2])
      | (go_at_call 88; refine (Qca _ _).mono ?_; rintro e w' ⟨rfl, rfl⟩; rw [hl]))
     refine bodyPost_ret (v := TV.val ⟨2, ⟨#[]⟩, n, (k : Int), (m : Int), 0, 0⟩) (by simp [results, Try.results47, go_sem]) rfl ?_
     exact ⟨Qdc (Qa H).symm, ((Below.refl _ w).alloc (Nat.le_refl _) _).alloc (by simp) _⟩
    have H := hide (show resT k (dgRes (s.data.toList.drop k)) = ⟨0, ⟨#[]⟩, 0, 0, 0, 8, (k : Int)⟩ by
     have e := Qa HRES
     rw [if_neg (by rw [show noW (s.data.toList.drop m) = true from hwm]; simp), if_pos (of_decide_eq_true hV.symm)] at e
     rw [e]; simp [resT])
    clear hV hNv HRES
    clear HST hwm
    go_wp2_with (first
     | (go_at_call 46; refine (Qbf _ _).mono ?_; rintro e w' ⟨rfl, rfl⟩; rw [hdm2])
     | (go_at_call 88; refine (Qca _ _).mono ?_; rintro e w' ⟨rfl, rfl⟩; rw [hl]))
    refine (Qbh _ _ _).mono ?_
    rintro e w2 ⟨rfl, b2⟩
    have bx := Qcm (w := w) (w2 := w2) (by simpa using b2)
    have bw : Below w.heap.size w w2 := hb.trans (b2.mono (by simp; omega))
    obtain ⟨x0, x1, x2, x3, y0, y1, fx, fy⟩ := bx
    clear b2 hb
    go_wp2_with fail
    refine bodyPost_ret (v := TV.val ⟨0, ⟨#[]⟩, 0, 0, 0, 8, (k : Int)⟩) (by simp [results, Try.results47, go_sem, x0, x1, x2, x3, y0, y1]) rfl ?_
    exact ⟨Qdc (Qa H).symm, Qbp bw (Nat.le_refl _) (Nat.le_succ _) _ _ _ _ _ _⟩
 have hwm : noW (s.data.toList.drop m) = true := by rw [Qbt s m (by omega)]; rfl
 cases o
 ·
  have H := hide (show resT k (dgRes (s.data.toList.drop k)) = ⟨2, ⟨#[]⟩, n, (k : Int), (m : Int), 0, 0⟩ by
   have e := Qa HRES
   rw [if_neg (by rw [show noW (s.data.toList.drop m) = true from hwm]; simp), if_neg (of_decide_eq_false hV.symm)] at e
   have := Qa HEL
   rw [e, resT, ← hNv rfl]; simp; omega)
  clear hV hNv HRES
  clear HST hwm
  go_wp2_with fail
  refine bodyPost_ret (v := TV.val ⟨2, ⟨#[]⟩, n, (k : Int), (m : Int), 0, 0⟩) (by simp [results, Try.results47, go_sem]) rfl ?_
  exact ⟨Qdc (Qa H).symm, ((Below.refl _ w).alloc (Nat.le_refl _) _).alloc (by simp) _⟩
 have H := hide (show resT k (dgRes (s.data.toList.drop k)) = ⟨0, ⟨#[]⟩, 0, 0, 0, 8, (k : Int)⟩ by
  have e := Qa HRES
  rw [if_neg (by rw [show noW (s.data.toList.drop m) = true from hwm]; simp), if_pos (of_decide_eq_true hV.symm)] at e
  rw [e]; simp [resT])
 clear hV hNv HRES
 clear HST hwm
 go_wp2_with fail
 refine (Qbh _ _ _).mono ?_
 rintro e w2 ⟨rfl, b2⟩
 have bx := Qcm (w := w) (w2 := w2) (by simpa using b2)
 have bw : Below w.heap.size w w2 := hb.trans (b2.mono (by simp; omega))
 obtain ⟨x0, x1, x2, x3, y0, y1, fx, fy⟩ := bx
 clear b2 hb
 go_wp2_with fail
 refine bodyPost_ret (v := TV.val ⟨0, ⟨#[]⟩, 0, 0, 0, 8, (k : Int)⟩) (by simp [results, Try.results47, go_sem, x0, x1, x2, x3, y0, y1]) rfl ?_
 exact ⟨Qdc (Qa H).symm, Qbp bw (Nat.le_refl _) (Nat.le_succ _) _ _ _ _ _ _⟩
end
end Go.Proofs.Ytfmbpaoapjmdnaa
