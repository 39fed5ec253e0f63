/- Tokens of a program are read as that program: items, components, the whole. Programs that are read are well formed. What is written is read as the same, if it is neither too long nor too deep. -/
import Derived.Test.YtccehgfecaamoaaGreatDoorQb31
set_option maxRecDepth 100000
set_option maxHeartbeats 32000000
namespace Go.Proofs.YtccehgfecaamoaaGreatDoor
section
section
variable (e : Nat)
theorem Qfo {α : Type} {top : Bool} {d : Nat} {C : Pr (Txt × List Txt × Pg × Int)} {K : α → List Tok} {N : α → Nat} {put : Pg → α → Pg} {rel : α → α → Prop} :
  ∀ (xs : List α) (p : Pg) (f : Nat) (r : List Tok) (i : Nat), (∀ x ∈ xs, ∀ p r i, Nx e r → i + N x ≤ 96 → ∃ x', itemP e d C p (K x ++ r) i = .ok (put p x') r (i + N x) ∧ rel x' x) → (∀ x ∈ xs, ∀ r, isEnd e top (K x ++ r) = false ∧ Nx e (K x ++ r)) → Nx e r → i + (xs.map N).sum ≤ 96 →
   ∃ xs', progL e top d C (f + xs.length) p ((xs.map K).flatten ++ r) i = progL e top d C f (xs'.foldl put p) r (i + (xs.map N).sum) ∧ All2 rel xs' xs
 | [], p, f, r, i, _, _, _, _ => ⟨[], rfl, .nil⟩
 | x :: xs, p, f, r, i, hs, hn, hr, hi => by
  have hr2 : Nx e ((xs.map K).flatten ++ r) := by
   cases xs with
   | nil => exact hr
   | cons y ys =>
    rw [List.map_cons, List.flatten_cons, List.append_assoc]
    exact (hn y (by simp) _).2
  rw [List.map_cons, List.sum_cons] at hi
  obtain ⟨x', h1, h2⟩ := hs x (by simp) p ((xs.map K).flatten ++ r) i hr2 (by omega)
  obtain ⟨xs', h3, h4⟩ := Qfo (top := top) xs (put p x') f r (i + N x) (fun y hy => hs y (List.mem_cons_of_mem _ hy)) (fun y hy => hn y (List.mem_cons_of_mem _ hy)) hr (by omega)
  refine ⟨x' :: xs', ?_, .cons h2 h4⟩
  rw [List.map_cons, List.flatten_cons, List.append_assoc, List.length_cons, ← Nat.add_assoc, progL, if_neg (by rw [(hn x (by simp) _).1]; simp), h1]
  show progL e top d C (f + xs.length) (put p x') _ (i + N x) = _
  rw [h3, List.map_cons, List.sum_cons, ← Nat.add_assoc]
  rfl
def putT (p : Pg) (x : Typ) : Pg := .mk (p.types ++ [x]) p.decls p.comps p.inits p.clauses
def putD (p : Pg) (x : Dcl) : Pg := .mk p.types (p.decls ++ [x]) p.comps p.inits p.clauses
def putC (p : Pg) (x : Cp) : Pg := .mk p.types p.decls (p.comps ++ [x]) p.inits p.clauses
def putI (p : Pg) (x : Ini) : Pg := .mk p.types p.decls p.comps (p.inits ++ [x]) p.clauses
def putL (p : Pg) (x : Cls) : Pg := .mk p.types p.decls p.comps p.inits (p.clauses ++ [x])
theorem Jcl : ∀ (xs a : List Typ) (b : List Dcl) (c : List Cp) (i : List Ini) (l : List Cls), xs.foldl putT (.mk a b c i l) = .mk (a ++ xs) b c i l
 | [], a, b, c, i, l => by simp
 | x :: xs, a, b, c, i, l => by rw [List.foldl_cons]; exact (Jcl xs (a ++ [x]) b c i l).trans (by simp)
theorem Jci : ∀ (xs : List Dcl) (a : List Typ) (b : List Dcl) (c : List Cp) (i : List Ini) (l : List Cls), xs.foldl putD (.mk a b c i l) = .mk a (b ++ xs) c i l
 | [], a, b, c, i, l => by simp
 | x :: xs, a, b, c, i, l => by rw [List.foldl_cons]; exact (Jci xs a (b ++ [x]) c i l).trans (by simp)
theorem Jch : ∀ (xs : List Cp) (a : List Typ) (b : List Dcl) (c : List Cp) (i : List Ini) (l : List Cls), xs.foldl putC (.mk a b c i l) = .mk a b (c ++ xs) i l
 | [], a, b, c, i, l => by simp
 | x :: xs, a, b, c, i, l => by rw [List.foldl_cons]; exact (Jch xs a b (c ++ [x]) i l).trans (by simp)
theorem Jcj : ∀ (xs : List Ini) (a : List Typ) (b : List Dcl) (c : List Cp) (i : List Ini) (l : List Cls), xs.foldl putI (.mk a b c i l) = .mk a b c (i ++ xs) l
 | [], a, b, c, i, l => by simp
 | x :: xs, a, b, c, i, l => by rw [List.foldl_cons]; exact (Jcj xs a b c (i ++ [x]) l).trans (by simp)
theorem Jck : ∀ (xs : List Cls) (a : List Typ) (b : List Dcl) (c : List Cp) (i : List Ini) (l : List Cls), xs.foldl putL (.mk a b c i l) = .mk a b c i (l ++ xs)
 | [], a, b, c, i, l => by simp
 | x :: xs, a, b, c, i, l => by rw [List.foldl_cons]; exact (Jck xs a b c i (l ++ [x])).trans (by simp)
variable {d : Nat} {C : Pr (Txt × List Txt × Pg × Int)}
theorem item_T {x : Typ} (h : WfT x) (p : Pg) (r : List Tok) (i : Nat) (hr : Nx e r) (hi : i + 1 ≤ 96) : ∃ x', itemP e d C p (tyK x ++ r) i = .ok (putT p x') r (i + 1) ∧ eqTy x' x = true := by
 obtain ⟨x', h1, h2⟩ := type_ok e h r (i + 1) hr
 refine ⟨x', ?_, h2⟩
 unfold itemP
 rw [if_neg (by omega), if_pos (show sgn e (tyK x ++ r) = [46, 116, 121, 112, 101] from rfl), h1]
 rfl
theorem item_D {x : Dcl} (h : WfD x) (p : Pg) (r : List Tok) (i : Nat) (hr : Nx e r) (hi : i + 1 ≤ 96) : ∃ x', itemP e d C p (dcK x ++ r) i = .ok (putD p x') r (i + 1) ∧ eqDc x' x = true := by
 obtain ⟨x', h1, h2⟩ := decl_ok e h r (i + 1) hr
 refine ⟨x', ?_, h2⟩
 have hs : sgn e (dcK x ++ r) = [46, 100, 101, 99, 108] := by simp [dcK, sgn, ahd, sg, tk]
 unfold itemP
 rw [if_neg (by omega), hs, if_neg (by decide), if_pos rfl, h1]
 rfl
theorem item_I {x : Ini} (h : WfI x) (p : Pg) (r : List Tok) (i : Nat) (hi : i + 1 ≤ 96) : ∃ x', itemP e d C p (inK x ++ r) i = .ok (putI p x') r (i + 1) ∧ eqIn x' x = true := by
 obtain ⟨x', h1, h2⟩ := init_ok e h r (i + 1)
 refine ⟨x', ?_, h2⟩
 unfold itemP
 rw [if_neg (by omega), show sgn e (inK x ++ r) = [46, 105, 110, 105, 116] from rfl, if_neg (by decide), if_neg (by decide), if_neg (by decide), if_pos rfl, h1]
 rfl
theorem item_L {x : Cls} (h : WfC x) (hd : 2 * dpCl x + 3 ≤ d) (p : Pg) (r : List Tok) (i : Nat) (hi : i + 1 ≤ 96) : ∃ x', itemP e d C p (clK x ++ r) i = .ok (putL p x') r (i + 1) ∧ eqCl x' x = true := by
 obtain ⟨x', h1, h2⟩ := Quv e h d hd r (i + 1)
 refine ⟨x', ?_, h2⟩
 have hs : sgn e (clK x ++ r) = [] := by simp [clK, amK, sgn, ahd, nmK, tk]
 unfold itemP
 rw [if_neg (by omega), hs, if_neg (by decide), if_neg (by decide), if_neg (by decide), if_neg (by decide), h1]
 rfl
theorem comp_ok {B : Pr Pg} {n : Txt} {bs : List Txt} {k : List Tok} {p : Pg} {j : Nat} (h : WfX n bs) (r : List Tok) (i : Nat) (hB : ∃ q, B (k ++ sg [125] :: r) i = .ok q (sg [125] :: r) j ∧ eqPg q p = true) : ∃ x', compB e B (coK n bs k ++ r) i = .ok x' r j ∧ ∀ a, eqCp x' (n, bs, p, a) = true := by
 obtain ⟨q, h1, h2⟩ := hB
 by_cases hb : bs = []
 ·
  have ek : coK n bs k ++ r = sg [46, 99, 111, 109, 112] :: nmK n :: sg [123] :: (k ++ sg [125] :: r) := by simp [coK, hb]
  refine ⟨(n, [], q, 0), ?_, fun a => by unfold eqCp; rw [hb]; simp [h2, eqL]⟩
  rw [ek]
  unfold compB
  show (wordQ e (nmK n :: sg [123] :: (k ++ sg [125] :: r)) i).bind _ = _
  rw [Qct e h.1]
  simp only [Rs.bind]
  rw [if_neg (show ¬ sgn e (sg [123] :: (k ++ sg [125] :: r)) = [58] from show ¬ ([123] : Txt) = [58] by decide)]
  simp only [Qew, h1, Rs.map]
  rfl
 obtain ⟨ys, h3, h4⟩ := Qlh e (sep := [44]) (most := noMost) (part := nmQ e) (rel := fun a b => a = b) (K := fun b => [nmK b]) (Fol := fun _ => True) (fun _ => trivial) (rest := sg [123] :: (k ++ sg [125] :: r)) trivial (show ([123] : Txt) ≠ [44] by decide) hb h.2.1 (fun y _ r i _ => ⟨y, Qna e y r i, rfl⟩) i
 have ek : coK n bs k ++ r = sg [46, 99, 111, 109, 112] :: nmK n :: sg [58] :: (joinK [44] (bs.map fun b => [nmK b]) ++ sg [123] :: (k ++ sg [125] :: r)) := by simp [coK, hb]
 refine ⟨(n, ys, q, 0), ?_, fun a => by unfold eqCp; rw [Quk h4]; simp [h2]⟩
 rw [ek]
 unfold compB
 show (wordQ e (nmK n :: sg [58] :: (joinK [44] (bs.map fun b => [nmK b]) ++ sg [123] :: (k ++ sg [125] :: r))) i).bind _ = _
 rw [Qct e h.1]
 simp only [Rs.bind]
 rw [if_pos (show sgn e (sg [58] :: (joinK [44] (bs.map fun b => [nmK b]) ++ sg [123] :: (k ++ sg [125] :: r))) = [58] from rfl)]
 simp only [List.drop_succ_cons, List.drop_zero, h3, Qew, h1, Rs.map]
 rfl
theorem item_C {B : Pr Pg} {x : Cp} (h : WfX x.1 x.2.1) (p : Pg) (r : List Tok) (i : Nat) (hi : i + (1 + nP x.2.2.1) ≤ 96) (hB : ∃ q, B (pgK x.2.2.1 ++ sg [125] :: r) (i + 1) = .ok q (sg [125] :: r) (i + (1 + nP x.2.2.1)) ∧ eqPg q x.2.2.1 = true) : ∃ x', itemP e d (compB e B) p (cpK x ++ r) i = .ok (putC p x') r (i + (1 + nP x.2.2.1)) ∧ eqCp x' x = true := by
 obtain ⟨x', h1, h2⟩ := comp_ok e h r (i + 1) hB
 refine ⟨x', ?_, h2 _⟩
 have hs : sgn e (cpK x ++ r) = [46, 99, 111, 109, 112] := by simp [cpK, coK, sgn, ahd, sg, tk]
 unfold itemP
 rw [if_neg (by omega), hs, if_neg (by decide), if_neg (by decide), if_pos rfl]
 show (compB e B (coK x.1 x.2.1 (pgK x.2.2.1) ++ r) (i + 1)).map _ = _
 rw [h1]
 rfl
theorem Qfk {α : Type} {K : α → List Tok} : ∀ (xs : List α), (∀ x ∈ xs, 1 ≤ (K x).length) → xs.length ≤ ((xs.map K).flatten).length
 | [], _ => Nat.le_refl _
 | x :: xs, h => by
  have h1 := Qfk xs (fun y hy => h y (List.mem_cons_of_mem _ hy))
  have h2 := h x (by simp)
  simp only [List.map_cons, List.flatten_cons, List.length_append, List.length_cons]; omega
theorem Qj {α : Type} : ∀ xs : List α, (xs.map fun _ => 1).sum = xs.length
 | [] => rfl
 | _ :: xs => by rw [List.map_cons, List.sum_cons, Qj xs, List.length_cons]; omega
theorem Qqo {s : Txt} (h : s ≠ [125]) (top : Bool) (l : List Tok) : isEnd e top (sg s :: l) = false := by
 unfold isEnd
 cases top with
 | true => rfl
 | false =>
  show (decide ((4 : Int) = 4) && decide (s = [125])) = false
  rw [decide_eq_false h, Bool.and_false]
theorem prog_ok {p : Pg} (hp : WfP p) : ∀ (d : Nat) (top : Bool) (rest : List Tok) (i : Nat), 2 * (dpP p).2 + 3 + (dpP p).1 ≤ d → isEnd e top rest = true → Nx e rest → i + nP p ≤ 96 → ∃ q, progD e d top (pgK p ++ rest) i = .ok q rest (i + nP p) ∧ eqPg q p = true := by
 induction hp with
 | mk ts ds cs is ls hT hD hC hI hL hP ih =>
  intro d top rest i hd hend hnx hi
  obtain ⟨d, rfl⟩ : ∃ d', d = d' + 1 := ⟨d - 1, by omega⟩
  rw [dpP] at hd
  simp only at hd
  rw [nP, Qxm] at hi ⊢
  have aL : ∀ x ∈ ls, ∀ r, isEnd e top (clK x ++ r) = false ∧ Nx e (clK x ++ r) := fun x _ r => by
   have ek : clK x ++ r = amK x.head ++ ((if x.body = [] then [] else sg [58, 45] :: joinK [44] (x.body.map ltK)) ++ [sg [46]] ++ r) := by simp [clK]
   rw [ek]
   refine ⟨?_, nx_am e _ _⟩
   unfold isEnd
   cases top <;> rfl
  have aI : ∀ x ∈ is, ∀ r, isEnd e top (inK x ++ r) = false ∧ Nx e (inK x ++ r) := fun x _ r => ⟨Qqo e (by decide) top _, Qxr e (by decide) (by decide) _⟩
  have aC : ∀ x ∈ cs, ∀ r, isEnd e top (cpK x ++ r) = false ∧ Nx e (cpK x ++ r) := fun x _ r => by
   have ek : ∃ l, cpK x ++ r = sg [46, 99, 111, 109, 112] :: l := ⟨_, by simp only [cpK, coK, List.cons_append, List.append_assoc]; rfl⟩
   obtain ⟨l, ek⟩ := ek
   rw [ek]
   exact ⟨Qqo e (by decide) top _, Qxr e (by decide) (by decide) _⟩
  have aD : ∀ x ∈ ds, ∀ r, isEnd e top (dcK x ++ r) = false ∧ Nx e (dcK x ++ r) := fun x _ r => by
   have ek : ∃ l, dcK x ++ r = sg [46, 100, 101, 99, 108] :: l := ⟨_, by simp only [dcK, List.cons_append, List.append_assoc]; rfl⟩
   obtain ⟨l, ek⟩ := ek
   rw [ek]
   exact ⟨Qqo e (by decide) top _, Qxr e (by decide) (by decide) _⟩
  have aT : ∀ x ∈ ts, ∀ r, isEnd e top (tyK x ++ r) = false ∧ Nx e (tyK x ++ r) := fun x _ r => ⟨Qqo e (by decide) top _, Qxr e (by decide) (by decide) _⟩
  have nL : Nx e ((ls.map clK).flatten ++ rest) := by
   cases ls with
   | nil => exact hnx
   | cons y ys => rw [List.map_cons, List.flatten_cons, List.append_assoc]; exact (aL y (by simp) _).2
  have nI : Nx e ((is.map inK).flatten ++ ((ls.map clK).flatten ++ rest)) := by
   cases is with
   | nil => exact nL
   | cons y ys => rw [List.map_cons, List.flatten_cons, List.append_assoc]; exact (aI y (by simp) _).2
  have nC : Nx e ((cs.map cpK).flatten ++ ((is.map inK).flatten ++ ((ls.map clK).flatten ++ rest))) := by
   cases cs with
   | nil => exact nI
   | cons y ys => rw [List.map_cons, List.flatten_cons, List.append_assoc]; exact (aC y (by simp) _).2
  have nD : Nx e ((ds.map dcK).flatten ++ ((cs.map cpK).flatten ++ ((is.map inK).flatten ++ ((ls.map clK).flatten ++ rest)))) := by
   cases ds with
   | nil => exact nC
   | cons y ys => rw [List.map_cons, List.flatten_cons, List.append_assoc]; exact (aD y (by simp) _).2
  have ek : pgK (.mk ts ds cs is ls) ++ rest = (ts.map tyK).flatten ++ ((ds.map dcK).flatten ++ ((cs.map cpK).flatten ++ ((is.map inK).flatten ++ ((ls.map clK).flatten ++ rest)))) := by
   simp [pgK, Qol]
  obtain ⟨l, hl⟩ : ∃ l, l = (ts.map tyK).flatten ++ ((ds.map dcK).flatten ++ ((cs.map cpK).flatten ++ ((is.map inK).flatten ++ ((ls.map clK).flatten ++ rest)))) := ⟨_, rfl⟩
  have hlen : ts.length + ds.length + cs.length + is.length + ls.length ≤ l.length := by
   have h1 := Qfk (K := tyK) ts (fun x _ => by simp [tyK])
   have h2 := Qfk (K := dcK) ds (fun x _ => by simp [dcK])
   have h3 := Qfk (K := cpK) cs (fun x _ => by simp [cpK, coK])
   have h4 := Qfk (K := inK) is (fun x _ => by simp [inK])
   have h5 := Qfk (K := clK) ls (fun x _ => by simp [clK, amK])
   rw [hl]
   simp only [List.length_append] at h1 h2 h3 h4 h5 ⊢
   omega
  have o1 := Qj ts
  have o2 := Qj ds
  have o4 := Qj is
  have o5 := Qj ls
  obtain ⟨f, hf⟩ : ∃ f, l.length + 1 = f + 1 + ls.length + is.length + cs.length + ds.length + ts.length := ⟨l.length - (ts.length + ds.length + cs.length + is.length + ls.length), by omega⟩
  obtain ⟨ts', t1, t2⟩ := Qfo e (top := top) (d := d + 1) (C := compB e (progD e d false)) (N := fun _ => 1) (put := putT) (rel := fun a b => eqTy a b = true) ts .none (f + 1 + ls.length + is.length + cs.length + ds.length) _ i (fun x hx p r i hr hi => item_T e (hT x hx) p r i hr hi) aT nD (by omega)
  obtain ⟨ds', d1, d2⟩ := Qfo e (top := top) (d := d + 1) (C := compB e (progD e d false)) (N := fun _ => 1) (put := putD) (rel := fun a b => eqDc a b = true) ds (ts'.foldl putT .none) (f + 1 + ls.length + is.length + cs.length) _ (i + (ts.map fun _ => 1).sum) (fun x hx p r i hr hi => item_D e (hD x hx) p r i hr hi) aD nC (by omega)
  obtain ⟨cs', c1, c2⟩ := Qfo e (top := top) (d := d + 1) (C := compB e (progD e d false)) (N := fun x => 1 + nP x.2.2.1) (put := putC) (rel := fun a b => eqCp a b = true) cs (ds'.foldl putD (ts'.foldl putT .none)) (f + 1 + ls.length + is.length) _ (i + (ts.map fun _ => 1).sum + (ds.map fun _ => 1).sum) (fun x hx p r i hr hi => item_C e (hC x hx) p r i hi (by
   have hb := Qoo hx
   obtain ⟨q, q1, q2⟩ := ih x hx d false (sg [125] :: r) (i + 1) (by omega) rfl (Qxr e (by decide) (by decide) r) (by omega)
   exact ⟨q, by rw [q1, Nat.add_assoc], q2⟩)) aC nI (by omega)
  obtain ⟨is', i1, i2⟩ := Qfo e (top := top) (d := d + 1) (C := compB e (progD e d false)) (N := fun _ => 1) (put := putI) (rel := fun a b => eqIn a b = true) is (cs'.foldl putC (ds'.foldl putD (ts'.foldl putT .none))) (f + 1 + ls.length) _ (i + (ts.map fun _ => 1).sum + (ds.map fun _ => 1).sum + (cs.map fun x => 1 + nP x.2.2.1).sum) (fun x hx p r i _ hi => item_I e (hI x hx) p r i hi) aI nL (by omega)
  obtain ⟨ls', l1, l2⟩ := Qfo e (top := top) (d := d + 1) (C := compB e (progD e d false)) (N := fun _ => 1) (put := putL) (rel := fun a b => eqCl a b = true) ls (is'.foldl putI (cs'.foldl putC (ds'.foldl putD (ts'.foldl putT .none)))) (f + 1) rest (i + (ts.map fun _ => 1).sum + (ds.map fun _ => 1).sum + (cs.map fun x => 1 + nP x.2.2.1).sum + (is.map fun _ => 1).sum) (fun x hx p r i _ hi => item_L e (hL x hx) (by have := Qkw hx; omega) p r i hi) aL hnx (by omega)
  refine ⟨.mk ts' ds' cs' is' ls', ?_, ?_⟩
  ·
   rw [ek, ← hl]
   show progL e top (d + 1) (compB e (progD e d false)) (l.length + 1) .none l i = _
   rw [hf, hl, t1, d1, c1, i1, l1, progL, if_pos hend]
   have eq1 : ls'.foldl putL (is'.foldl putI (cs'.foldl putC (ds'.foldl putD (ts'.foldl putT .none)))) = .mk ts' ds' cs' is' ls' := by
    rw [show (Pg.none) = .mk [] [] [] [] [] from rfl, Jcl, Jci, Jch, Jcj, Jck]; simp
   rw [eq1, o1, o2, o4, o5]
   simp only [Nat.add_assoc]
  rw [Qcx]
  simp only [Pg.types, Pg.decls, Pg.comps, Pg.inits, Pg.clauses]
  rw [t2.eqL, d2.eqL, c2.eqL, i2.eqL, l2.eqL]
  rfl
end
end
section
theorem Qpb : ∀ r : Txt, nmLen (r.take (nmLen r)) = nmLen r
 | [] => rfl
 | [c] => by
  by_cases hc : inW (bv c) = true
  ·
   have e : nmLen [c] = 1 := by simp [nmLen, hc]
   rw [e]; exact e
  have e : nmLen [c] = 0 := by simp [nmLen, hc]
  rw [e]; rfl
 | c :: d :: u => by
  by_cases hc : inW (bv c) = true
  · rw [Qpa hc, List.take_succ_cons, Qpa hc, Qpb (d :: u)]
  have hc : inW (bv c) = false := by simpa using hc
  by_cases h2 : c = 46 ∧ isL (bv d) = true
  ·
   obtain ⟨rfl, hl⟩ := h2
   rw [Qrg hl, List.take_succ_cons, List.take_succ_cons, Qrg hl, Qpb u]
  have e : nmLen (c :: d :: u) = 0 := by rw [nmLen, if_neg (by simp [hc]), if_neg h2]
  rw [e]; rfl
theorem tok_nm {r : Txt} {tx : Txt} {nm : Int} {n : Nat} (h : tokAt r = .tok 1 tx nm n) : Nm tx := by
 cases r with
 | nil => simp [tokAt] at h
 | cons c t =>
  rw [Qbm] at h
  split at h
  ·
   rename_i hc
   unfold nmRes at h
   split at h
   · cases h
   rename_i hl
   cases h
   have h1 := Qxp (c :: t)
   have h2 : 0 < nmLen (c :: t) := by rw [Qpa (inW_L hc)]; omega
   have e : ((c :: t).take (nmLen (c :: t))).length = nmLen (c :: t) := by rw [List.length_take]; omega
   refine ⟨by omega, by omega, by rw [Qpb, e], c, t.take (nmLen (c :: t) - 1), ?_, hc⟩
   obtain ⟨m, hm⟩ : ∃ m, nmLen (c :: t) = m + 1 := ⟨nmLen (c :: t) - 1, by omega⟩
   rw [hm]; rfl
  split at h
  ·
   unfold dgRes at h
   split at h
   · cases h
   · split at h <;> cases h
  split at h
  ·
   unfold txRes at h
   cases ht : txScan t with
   | ok v m => rw [ht] at h; cases h
   | bad o => rw [ht] at h; cases h
   | never => rw [ht] at h; cases h
  unfold sgRes at h
  split at h <;> cases h
def TkW (t : Tok) : Prop := (t.kind = 1 → Nm t.text) ∧ 0 ≤ t.num ∧ t.num ≤ 9223372036854775807
def TlW (l : List Tok) : Prop := ∀ t ∈ l, TkW t
theorem scan_nm : ∀ (m : Nat) (r : Txt) (k : Nat), r.length ≤ m → ∀ l, scan k r = .ok l → ∀ t ∈ l, t.kind = 1 → Nm t.text := by
 intro m
 induction m with
 | zero =>
  intro r k h l hl
  have : r = [] := List.eq_nil_of_length_eq_zero (by omega)
  subst this
  rw [Qcs] at hl
  cases hl
  exact fun t ht => by cases ht
 | succ m ih =>
  intro r k h l hl
  by_cases h0 : r = []
  · subst h0; rw [Qcs] at hl; cases hl; exact fun t ht => by cases ht
  cases hg : gapAt r with
  | never => rw [Qeg hg] at hl; cases hl
  | gap n =>
   have hp := Qfx hg
   rw [Qfq hg] at hl
   exact ih (r.drop n) (k + n) (by rw [List.length_drop]; omega) l hl
  | none =>
   cases ht : tokAt r with
   | bad w o => rw [Qgj h0 hg ht] at hl; cases hl
   | tok kd tx nm n =>
    have hp := Qg ht
    rw [Qfr hg ht] at hl
    cases hs : scan (k + n) (r.drop n) with
    | bad w a => rw [hs] at hl; cases hl
    | ok l1 =>
     rw [hs] at hl
     cases hl
     have g2 := ih (r.drop n) (k + n) (by rw [List.length_drop]; omega) l1 hs
     intro t htm hk
     rcases List.mem_cons.1 htm with rfl | h2
     ·
      have hk : kd = 1 := hk
      subst hk
      exact tok_nm ht
     · exact g2 t h2 hk
theorem lex_tlw {s : Txt} {l : List Tok} (h : lexP s = .ok l) : TlW l := by
 obtain ⟨_, _, h3⟩ := Qrd h
 unfold lexP at h
 split at h
 · cases h
 · exact fun t ht => ⟨scan_nm s.length s 0 (Nat.le_refl _) l h t ht, (h3 t ht).2.2.1, (h3 t ht).2.2.2⟩
theorem TlW.drop {l : List Tok} (h : TlW l) (n : Nat) : TlW (l.drop n) := fun t ht => h t (List.mem_of_mem_drop ht)
theorem TlW.ahd {l : List Tok} (h : TlW l) (e n : Nat) : TkW (ahd e n l) := by
 unfold Go.Proofs.YtccehgfecaamoaaGreatDoor.ahd
 rw [List.getD_eq_getElem?_getD]
 cases hn : l[n]? with
 | none => exact ⟨fun h => absurd (show (0 : Int) = 1 from h) (by decide), by simp, by simp⟩
 | some t => exact h t (List.mem_of_getElem? hn)
def Owr {α : Type} (P : α → Prop) (i : Nat) (r : Rs α) : Prop := ∀ x l j, r = .ok x l j → P x ∧ j = i ∧ TlW l
def Ow {α : Type} (P : α → Prop) (p : Pr α) : Prop := ∀ l i, TlW l → Owr P i (p l i)
section
variable {α β : Type} {P : α → Prop} {Q : β → Prop} {i : Nat}
theorem Qff (w a : Int) (l : List Tok) : Owr P i (.bad w a l) := fun _ _ _ h => by cases h
theorem Qcu {x : α} {l : List Tok} (h : P x) (hl : TlW l) : Owr P i (.ok x l i) := fun _ _ _ e => by cases e; exact ⟨h, rfl, hl⟩
theorem Owr.bind {r : Rs α} {f : α → Pr β} (h : Owr P i r) (hf : ∀ x l, P x → TlW l → Owr Q i (f x l i)) : Owr Q i (r.bind f) := by
 cases r with
 | bad w a l => exact Qff _ _ _
 | ok x l j =>
  obtain ⟨h1, rfl, h3⟩ := h x l j rfl
  exact hf x l h1 h3
theorem Owr.map {r : Rs α} {f : α → β} (h : Owr P i r) (hf : ∀ x, P x → Q (f x)) : Owr Q i (r.map f) := by
 cases r with
 | bad w a l => exact Qff _ _ _
 | ok x l j =>
  obtain ⟨h1, rfl, h3⟩ := h x l j rfl
  exact Qcu (hf x h1) h3
theorem Qbh {c : Prop} [Decidable c] {a b : Rs α} (h1 : c → Owr P i a) (h2 : ¬ c → Owr P i b) : Owr P i (if c then a else b) := by
 split
 · rename_i h; exact h1 h
 · rename_i h; exact h2 h
end
section
variable (e : Nat)
theorem Qyj {l : List Tok} {ss : List Txt} (h0 : ([] : Txt) ∉ ss) (h : sgn e l ∈ ss) : (ahd e 0 l).text ∈ ss := by
 unfold sgn at h
 split at h
 · exact h
 · exact absurd h h0
theorem Qnh {α : Type} {P : α → Prop} (why : Int) : Ow P (refuse e why) := fun _ _ _ => Qff _ _ _
theorem Qet (s : Txt) : Ow (fun _ => True) (want e s) := fun _ _ h => Qbh (fun _ => Qcu trivial (h.drop 1)) (fun _ => Qff _ _ _)
theorem Qio {ss : List Txt} (h0 : ([] : Txt) ∉ ss) : Ow (fun s => s ∈ ss) (choose e ss) := fun _ _ h => Qbh (fun hs => Qcu (Qyj e h0 hs) (h.drop 1)) (fun _ => Qff _ _ _)
theorem Qng : Ow Nm (nmQ e) := fun _ _ h => Qbh (fun hk => Qcu ((h.ahd e 0).1 hk) (h.drop 1)) (fun _ => Qff _ _ _)
theorem Qdt : Ow Wd (wordQ e) := fun l _ h => Qbh (fun hk => by
  unfold isW1 at hk
  simp only [Bool.and_eq_true, decide_eq_true_eq, Bool.not_eq_true'] at hk
  exact Qcu ⟨(h.ahd e 0).1 hk.1.1, hk.1.2, hk.2⟩ (h.drop 1)) (fun _ => Qff _ _ _)
theorem Qrs {α : Type} {P : α → Prop} {part : Pr α} (hp : Ow P part) (sep : Txt) (most : Nat) : ∀ (f : Nat) (acc : List α), (∀ y ∈ acc, P y) → acc.length ≤ most → (f = 0 → acc ≠ []) → Ow (fun xs => (∀ y ∈ xs, P y) ∧ xs.length ≤ most ∧ xs ≠ []) (listL e sep most part f acc)
 | 0, acc, ha, hl, hz => fun _ _ h => Qcu ⟨ha, hl, hz rfl⟩ h
 | f + 1, acc, ha, hl, _ => fun l i h => by
  unfold listL
  refine Qbh (fun _ => Qff _ _ _) (fun hn => ?_)
  refine (hp l i h).bind (fun x l2 hx hl2 => ?_)
  have h1 : (acc ++ [x]).length ≤ most := by rw [List.length_append, List.length_singleton]; omega
  exact Qbh (fun _ => Qrs hp sep most f _ (Qbc ha hx) h1 (fun _ => by simp) _ _ (hl2.drop 1)) (fun _ => Qcu ⟨Qbc ha hx, h1, by simp⟩ hl2)
theorem Qhq {α : Type} {P : α → Prop} {part : Pr α} (hp : Ow P part) (sep : Txt) (most : Nat) : Ow (fun xs => (∀ y ∈ xs, P y) ∧ xs.length ≤ most ∧ xs ≠ []) (listP e sep most part) := fun l i h => Qrs e hp sep most _ _ (fun y hy => by cases hy) (Nat.zero_le _) (fun h => by omega) l i h
theorem Qlo {α : Type} {P : α → Prop} {part : Pr α} (hp : Ow P part) (op cl : Txt) : Ow (fun xs => (∀ y ∈ xs, P y) ∧ xs.length ≤ 8) (encl e op cl part) := fun l i h => by
 unfold encl
 refine (Qet e op l i h).bind (fun _ l2 _ hl => ?_)
 refine Qbh (fun _ => Qcu ⟨fun y hy => (by cases hy), Nat.zero_le _⟩ (hl.drop 1)) (fun _ => ?_)
 exact (Qhq e hp [44] 8 l2 i hl).bind (fun xs l3 hx hl3 => (Qet e cl l3 i hl3).map (fun _ _ => ⟨hx.1, hx.2.1⟩))
theorem WfE.bd {x : Ex} (h : WfE x) : -9223372036854775807 ≤ x.num ∧ x.num ≤ 9223372036854775807 := by
 cases h <;> simp only [Ex.num] <;> omega
theorem Qrr {F : Pr Ex} (hF : Ow WfE F) {signs : List Txt} (h0 : ([] : Txt) ∉ signs) (hs : ∀ s ∈ signs, s ∈ ops5) : ∀ (f : Nat) (x : Ex), WfE x → Ow WfE (joinL e F signs f x)
 | 0, x, hx => fun _ _ h => Qcu hx h
 | f + 1, x, hx => fun l i h => by
  unfold joinL
  refine Qbh (fun hm => ?_) (fun _ => Qcu hx h)
  exact (hF _ _ (h.drop 1)).bind (fun y l2 hy hl => Qrr hF h0 hs f _ (.op _ _ _ _ (hs _ (Qyj e h0 hm)) hx hy) _ _ hl)
theorem Qnf {F : Pr Ex} (hF : Ow WfE F) {signs : List Txt} (h0 : ([] : Txt) ∉ signs) (hs : ∀ s ∈ signs, s ∈ ops5) : Ow WfE (joined e F signs) := fun l i h => (hF l i h).bind (fun x l2 hx hl => Qrr e hF h0 hs _ x hx l2 i hl)
theorem Qxy {E F : Pr Ex} (hE : Ow WfE E) (hF : Ow WfE F) : Ow WfE (signed e E F) := fun l i h => by
 unfold signed
 refine (Qio e (by decide) l i h).bind (fun s l2 _ hl => ?_)
 refine Qbh (fun _ => ?_) (fun _ => Qbh (fun _ => ?_) (fun _ => ?_))
 ·
  refine (hF l2 i hl).map (fun x hx => ?_)
  split
  ·
   have := hx.bd
   exact .num _ _ (by omega) (by omega)
  · exact .op _ _ _ _ (by decide) (.num _ _ (by decide) (by decide)) hx
 · exact (hE l2 i hl).bind (fun x l3 hx hl3 => (Qet e _ l3 i hl3).map (fun _ _ => hx))
 · exact (Qdt e l2 i hl).bind (fun w l3 hw hl3 => (Qlo e hE _ _ l3 i hl3).map (fun ks hks => .con _ _ _ hw hks.2 hks.1))
theorem Qtl {E F : Pr Ex} (hE : Ow WfE E) (hF : Ow WfE F) : Ow WfE (factorB e E F) := fun l i h => by
 unfold factorB
 have ht := h.ahd e 0
 refine Qbh (fun _ => Qcu (.num _ _ (by have := ht.2.1; omega) ht.2.2) (h.drop 1)) (fun _ => ?_)
 refine Qbh (fun _ => Qcu (.text _ _) (h.drop 1)) (fun _ => ?_)
 refine Qbh (fun _ => ?_) (fun _ => Qxy e hE hF l i h)
 refine Qbh (fun _ => Qcu (.any _) (h.drop 1)) (fun _ => ?_)
 exact (Qdt e l i h).map (fun w hw => .var _ _ hw)
theorem Qju : ∀ d : Nat, Ow WfE (exD e d).1 ∧ Ow WfE (exD e d).2
 | 0 => ⟨Qnh e 4, Qnh e 4⟩
 | d + 1 => ⟨Qnf e (Qnf e (Qju d).2 (by decide) (by decide)) (by decide) (by decide), Qtl e (Qju d).1 (Qju d).2⟩
theorem Qpg (d : Nat) : Ow WfA (atomP e d) := fun l i h => (Qng e l i h).bind (fun _ l2 hn hl => (Qlo e (Qju e d).1 _ _ l2 i hl).map (fun _ hz => ⟨hn, hz.2, hz.1⟩))
theorem ow_lit (d : Nat) : Ow WfL (litP e d) := fun l i h => by
 unfold litP
 refine Qbh (fun _ => (Qpg e d _ _ (h.drop 1)).map (fun a ha => .not _ _ ha)) (fun _ => ?_)
 refine Qbh (fun _ => (Qpg e d _ _ h).map (fun a ha => .atom _ _ ha)) (fun _ => ?_)
 exact ((Qju e d).1 l i h).bind (fun x l2 hx hl => (Qio e (by decide) l2 i hl).bind (fun o l3 ho hl3 => ((Qju e d).1 l3 i hl3).map (fun y hy => .cmp _ _ _ _ ho hx hy)))
theorem Qxx (d : Nat) : Ow WfC (clauseP e d) := fun l i h => by
 unfold clauseP
 refine (Qpg e d l i h).bind (fun a l2 ha hl => ?_)
 exact Qbh (fun _ => (Qhq e (ow_lit e d) _ _ _ _ (hl.drop 1)).bind (fun b l3 hb hl3 => (Qet e _ l3 i hl3).map (fun _ _ => ⟨ha, hb.2.1, hb.1⟩))) (fun _ => (Qet e _ l2 i hl).map (fun _ _ => ⟨ha, Nat.zero_le _, fun z hz => by cases hz⟩))
theorem Qrq : Ow WfF (fieldP e) := fun l i h => (Qdt e l i h).bind (fun _ l2 hn hl => (Qet e _ l2 i hl).bind (fun _ l3 _ hl3 => (Qng e l3 i hl3).map (fun _ ht => ⟨hn, ht⟩)))
theorem ow_ctor : Ow WfCt (ctorP e) := fun l i h => (Qdt e l i h).bind (fun _ l2 hn hl => (Qlo e (Qrq e) _ _ l2 i hl).map (fun _ hf => ⟨hn, hf.2, hf.1⟩))
theorem ow_type : Ow WfT (typeP e) := fun l i h => by
 unfold typeP
 refine (Qdt e _ i (h.drop 1)).bind (fun n l2 hn hl => (Qio e (by decide) l2 i hl).bind (fun s l3 _ hl3 => ?_))
 exact Qbh (fun _ => (Qng e l3 i hl3).map (fun t ht => ⟨hn, .inl ⟨ht, rfl⟩⟩)) (fun _ => (Qhq e (ow_ctor e) _ _ l3 i hl3).map (fun cs hc => ⟨hn, .inr ⟨rfl, hc.2.2, hc.2.1, hc.1⟩⟩))
theorem Qlp : ∀ (f : Nat) (a b : Bool), Ow (fun _ => True) (flagL e f a b)
 | 0, a, b => fun _ _ h => Qcu trivial h
 | f + 1, a, b => fun l i h => by
  unfold flagL
  refine Qbh (fun _ => Qbh (fun _ => Qlp f _ _ _ _ (h.drop 1)) (fun _ => Qbh (fun _ => Qlp f _ _ _ _ (h.drop 1)) (fun _ => Qcu trivial h))) (fun _ => Qcu trivial h)
theorem ow_decl : Ow WfD (declP e) := fun _ i h => (Qdt e _ i (h.drop 1)).bind (fun _ l2 hn hl => (Qlo e (Qrq e) _ _ l2 i hl).bind (fun _ l3 hc hl3 => (Qlp e _ _ _ l3 i hl3).map (fun _ _ => ⟨hn, hc.2, hc.1⟩)))
theorem ow_init : Ow WfI (initP e) := fun _ i h => (Qdt e _ i (h.drop 1)).bind (fun _ l2 hn hl => (Qet e _ l2 i hl).bind (fun _ l3 _ hl3 => (Qng e l3 i hl3).map (fun _ ht => ⟨hn, ht⟩)))
def OwB (B : Pr Pg) : Prop := ∀ l i q l' j, TlW l → i ≤ 96 → B l i = .ok q l' j → WfP q ∧ j = i + nP q ∧ j ≤ 96 ∧ TlW l'
def OwC (C : Pr (Txt × List Txt × Pg × Int)) : Prop := ∀ l i x l' j, TlW l → i ≤ 96 → C l i = .ok x l' j → (WfX x.1 x.2.1 ∧ WfP x.2.2.1) ∧ j = i + nP x.2.2.1 ∧ j ≤ 96 ∧ TlW l'
theorem Jav {B : Pr Pg} (hB : OwB B) : OwC (compB e B) := by
 intro l i x l' j hl hi h
 unfold compB at h
 have h1 := Qdt e (l.drop 1) i (hl.drop 1)
 cases hw : wordQ e (l.drop 1) i with
 | bad w a m => rw [hw] at h; cases h
 | ok n l2 i2 =>
  obtain ⟨hn, rfl, hl2⟩ := h1 n l2 i2 hw
  rw [hw] at h
  simp only [Rs.bind] at h
  have h2 : Owr (fun bs => (∀ y ∈ bs, Nm y) ∧ bs.length ≤ noMost) i2 (if sgn e l2 = [58] then listP e [44] noMost (nmQ e) (l2.drop 1) i2 else .ok [] l2 i2) := Qbh (fun _ => fun bs l3 j h => by
   obtain ⟨a1, a2, a3⟩ := Qhq e (Qng e) [44] noMost _ _ (hl2.drop 1) bs l3 j h
   exact ⟨⟨a1.1, a1.2.1⟩, a2, a3⟩) (fun _ => Qcu ⟨fun y hy => (by cases hy), Nat.zero_le _⟩ hl2)
  cases hb : (if sgn e l2 = [58] then listP e [44] noMost (nmQ e) (l2.drop 1) i2 else .ok [] l2 i2) with
  | bad w a m => rw [hb] at h; cases h
  | ok bs l3 i3 =>
   obtain ⟨hbs, rfl, hl3⟩ := h2 bs l3 i3 hb
   rw [hb] at h
   simp only at h
   have h3 := Qet e [123] l3 i3 hl3
   cases hq : want e [123] l3 i3 with
   | bad w a m => rw [hq] at h; cases h
   | ok _ l4 i4 =>
    obtain ⟨_, rfl, hl4⟩ := h3 _ l4 i4 hq
    rw [hq] at h
    simp only at h
    cases hp : B l4 i4 with
    | bad w a m => rw [hp] at h; cases h
    | ok p l5 i5 =>
     obtain ⟨p1, p2, p3, p4⟩ := hB l4 i4 p l5 i5 hl4 hi hp
     rw [hp] at h
     simp only at h
     have h5 := Qet e [125] l5 i5 p4
     cases hz : want e [125] l5 i5 with
     | bad w a m => rw [hz] at h; cases h
     | ok _ l6 i6 =>
      obtain ⟨_, rfl, hl6⟩ := h5 _ l6 i6 hz
      rw [hz] at h
      simp only [Rs.map] at h
      cases h
      exact ⟨⟨⟨hn, hbs.2, hbs.1⟩, p1⟩, p2, p3, hl6⟩
theorem nP_T (p : Pg) (x : Typ) : nP (putT p x) = nP p + 1 := by cases p; simp [putT, nP, Pg.types, Pg.decls, Pg.comps, Pg.inits, Pg.clauses]; omega
theorem nP_D (p : Pg) (x : Dcl) : nP (putD p x) = nP p + 1 := by cases p; simp [putD, nP, Pg.types, Pg.decls, Pg.comps, Pg.inits, Pg.clauses]; omega
theorem nP_I (p : Pg) (x : Ini) : nP (putI p x) = nP p + 1 := by cases p; simp [putI, nP, Pg.types, Pg.decls, Pg.comps, Pg.inits, Pg.clauses]; omega
theorem nP_L (p : Pg) (x : Cls) : nP (putL p x) = nP p + 1 := by cases p; simp [putL, nP, Pg.types, Pg.decls, Pg.comps, Pg.inits, Pg.clauses]; omega
theorem nP_C (p : Pg) (x : Cp) : nP (putC p x) = nP p + 1 + nP x.2.2.1 := by cases p; simp [putC, nP, Qxm, Pg.types, Pg.decls, Pg.comps, Pg.inits, Pg.clauses]; omega
def OwI (p : Pg) (i : Nat) (r : Rs Pg) : Prop := ∀ q l j, r = .ok q l j → WfP q ∧ j + nP p = i + nP q ∧ j ≤ 96 ∧ TlW l
theorem Qru {α : Type} {P : α → Prop} {p : Pg} {i : Nat} {r : Rs α} {put : α → Pg} (hi : i + 1 ≤ 96) (h : Owr P (i + 1) r) (hw : ∀ x, P x → WfP (put x) ∧ nP (put x) = nP p + 1) : OwI p i (r.map put) := by
 cases r with
 | bad w a l => exact fun _ _ _ h => by cases h
 | ok x l j =>
  obtain ⟨h1, rfl, h3⟩ := h x l j rfl
  intro q l2 j2 h2
  cases h2
  obtain ⟨w1, w2⟩ := hw x h1
  exact ⟨w1, by omega, hi, h3⟩
theorem Qgs {p : Pg} {i : Nat} {c : Prop} [Decidable c] {a b : Rs Pg} (h1 : c → OwI p i a) (h2 : ¬ c → OwI p i b) : OwI p i (if c then a else b) := by
 split
 · rename_i h; exact h1 h
 · rename_i h; exact h2 h
theorem ow_item (d : Nat) {C : Pr (Txt × List Txt × Pg × Int)} (hC : OwC C) (p : Pg) (hp : WfP p) (l : List Tok) (i : Nat) (hl : TlW l) (hi : i ≤ 96) : OwI p i (itemP e d C p l i) := by
 cases hp with
 | mk ts ds cs is ls hT hD hQ hI hL hP =>
  unfold itemP
  refine Qgs (fun _ => fun _ _ _ h => by cases h) (fun hn => ?_)
  have hi1 : i + 1 ≤ 96 := by omega
  refine Qgs (fun _ => Qru hi1 (ow_type e l _ hl) (fun x hx => ⟨.mk _ _ _ _ _ (Qbc hT hx) hD hQ hI hL hP, nP_T (.mk ts ds cs is ls) x⟩)) (fun _ => ?_)
  refine Qgs (fun _ => Qru hi1 (ow_decl e l _ hl) (fun x hx => ⟨.mk _ _ _ _ _ hT (Qbc hD hx) hQ hI hL hP, nP_D (.mk ts ds cs is ls) x⟩)) (fun _ => ?_)
  refine Qgs (fun _ => ?_) (fun _ => ?_)
  ·
   cases hr : C l (i + 1) with
   | bad w a m => exact fun _ _ _ h => by cases h
   | ok x l2 j =>
    obtain ⟨⟨x1, x2⟩, x3, x4, x5⟩ := hC l (i + 1) x l2 j hl hi1 hr
    intro q l3 j3 h3
    cases h3
    have hn2 := nP_C (.mk ts ds cs is ls) x
    refine ⟨.mk _ _ _ _ _ hT hD (Qbc hQ x1) hI hL (Qbc hP x2), ?_, x4, x5⟩
    show j + _ = i + nP (putC (.mk ts ds cs is ls) x)
    omega
  refine Qgs (fun _ => Qru hi1 (ow_init e l _ hl) (fun x hx => ⟨.mk _ _ _ _ _ hT hD hQ (Qbc hI hx) hL hP, nP_I (.mk ts ds cs is ls) x⟩)) (fun _ => ?_)
  exact Qru hi1 (Qxx e d l _ hl) (fun x hx => ⟨.mk _ _ _ _ _ hT hD hQ hI (Qbc hL hx) hP, nP_L (.mk ts ds cs is ls) x⟩)
theorem Qlq (top : Bool) (d : Nat) {C : Pr (Txt × List Txt × Pg × Int)} (hC : OwC C) : ∀ (f : Nat) (p : Pg) (l : List Tok) (i : Nat), WfP p → TlW l → i ≤ 96 → OwI p i (progL e top d C f p l i)
 | 0, p, l, i, hp, hl, hi => fun q l2 j h => by cases h; exact ⟨hp, rfl, hi, hl⟩
 | f + 1, p, l, i, hp, hl, hi => by
  unfold progL
  refine Qgs (fun _ => fun q l2 j h => by cases h; exact ⟨hp, rfl, hi, hl⟩) (fun _ => ?_)
  have h1 := ow_item e d hC p hp l i hl hi
  cases hr : itemP e d C p l i with
  | bad w a m => exact fun _ _ _ h => by cases h
  | ok q l2 j =>
   obtain ⟨a1, a2, a3, a4⟩ := h1 q l2 j hr
   intro q3 l3 j3 h3
   obtain ⟨b1, b2, b3, b4⟩ := Qlq top d hC f q l2 j a1 a4 a3 q3 l3 j3 h3
   exact ⟨b1, by omega, b3, b4⟩
theorem Qsh : WfP .none := .mk [] [] [] [] [] (fun _ h => by cases h) (fun _ h => by cases h) (fun _ h => by cases h) (fun _ h => by cases h) (fun _ h => by cases h) (fun _ h => by cases h)
theorem Qrt : ∀ (d : Nat) (top : Bool), OwB (progD e d top)
 | 0, top => fun l i q l' j hl hi h => by
  obtain ⟨a1, a2, a3, a4⟩ := Qlq e top 0 (C := refuse e 4) (fun _ _ _ _ _ _ _ h => by cases h) _ .none l i Qsh hl hi q l' j h
  exact ⟨a1, by simp only [nP, nCs, Pg.none, List.length_nil] at a2; omega, a3, a4⟩
 | d + 1, top => fun l i q l' j hl hi h => by
  obtain ⟨a1, a2, a3, a4⟩ := Qlq e top (d + 1) (Jav e (Qrt d false)) _ .none l i Qsh hl hi q l' j h
  exact ⟨a1, by simp only [nP, nCs, Pg.none, List.length_nil] at a2; omega, a3, a4⟩
end
theorem Qlr {s : Txt} {p : Pg} {l : List Tok} {i : Nat} (h : parseP s = .ok p l i) : WfP p ∧ nP p ≤ 96 := by
 unfold parseP at h
 cases hl : lexP s with
 | bad w a => rw [hl] at h; cases h
 | ok toks =>
  rw [hl] at h
  obtain ⟨a1, a2, a3, _⟩ := Qrt s.length 32 true toks 0 p l i (lex_tlw hl) (by omega) h
  exact ⟨a1, by omega⟩
end
section
theorem Qcc {α : Type} {eq : α → α → Bool} (h : ∀ x y z, eq x y = true → eq y z = true → eq x z = true) : ∀ xs ys zs : List α, eqL eq xs ys = true → eqL eq ys zs = true → eqL eq xs zs = true
 | [], [], zs, _, h2 => h2
 | [], y :: ys, _, h1, _ => by simp [eqL] at h1
 | x :: xs, [], _, h1, _ => by simp [eqL] at h1
 | x :: xs, y :: ys, [], _, h2 => by simp [eqL] at h2
 | x :: xs, y :: ys, z :: zs, h1, h2 => by
  rw [Qda, Bool.and_eq_true] at h1 h2 ⊢
  exact ⟨h x y z h1.1 h2.1, Qcc h xs ys zs h1.2 h2.2⟩
mutual
theorem Qgc : ∀ x y z : Ex, eqE x y = true → eqE y z = true → eqE x z = true
 | .mk k n s ks a, .mk k' n' s' ks' a', .mk k2 n2 s2 ks2 a2, h1, h2 => by
  simp only [eqE, Bool.and_eq_true, decide_eq_true_eq] at h1 h2 ⊢
  obtain ⟨⟨⟨rfl, rfl⟩, rfl⟩, h4⟩ := h1
  obtain ⟨⟨⟨rfl, rfl⟩, rfl⟩, h5⟩ := h2
  exact ⟨⟨⟨rfl, rfl⟩, rfl⟩, Qjn ks ks' ks2 h4 h5⟩
theorem Qjn : ∀ xs ys zs : List Ex, eqEs xs ys = true → eqEs ys zs = true → eqEs xs zs = true
 | [], [], zs, _, h2 => h2
 | [], y :: ys, _, h1, _ => by simp [eqEs] at h1
 | x :: xs, [], _, h1, _ => by simp [eqEs] at h1
 | x :: xs, y :: ys, [], _, h2 => by simp [eqEs] at h2
 | x :: xs, y :: ys, z :: zs, h1, h2 => by
  simp only [eqEs, Bool.and_eq_true] at h1 h2 ⊢
  exact ⟨Qgc x y z h1.1 h2.1, Qjn xs ys zs h1.2 h2.2⟩
end
theorem Qsw (x y z : Txt) (h1 : eqTx x y = true) (h2 : eqTx y z = true) : eqTx x z = true := by
 simp only [eqTx, decide_eq_true_eq] at h1 h2 ⊢; exact h1.trans h2
theorem Qjo (x y z : Fld) (h1 : eqFd x y = true) (h2 : eqFd y z = true) : eqFd x z = true := by
 simp only [eqFd, Bool.and_eq_true, decide_eq_true_eq] at h1 h2 ⊢; exact ⟨h1.1.trans h2.1, h1.2.trans h2.2⟩
theorem Qmm (x y z : Atm) (h1 : eqA x y = true) (h2 : eqA y z = true) : eqA x z = true := by
 simp only [eqA, Bool.and_eq_true, decide_eq_true_eq] at h1 h2 ⊢; exact ⟨h1.1.trans h2.1, Qcc Qgc _ _ _ h1.2 h2.2⟩
theorem Qsv (x y z : Lt) (h1 : eqLt x y = true) (h2 : eqLt y z = true) : eqLt x z = true := by
 simp only [eqLt, Bool.and_eq_true, decide_eq_true_eq] at h1 h2 ⊢
 exact ⟨⟨⟨⟨h1.1.1.1.1.trans h2.1.1.1.1, Qmm _ _ _ h1.1.1.1.2 h2.1.1.1.2⟩, h1.1.1.2.trans h2.1.1.2⟩, Qgc _ _ _ h1.1.2 h2.1.2⟩, Qgc _ _ _ h1.2 h2.2⟩
theorem Qss (x y z : Ctr) (h1 : eqCt x y = true) (h2 : eqCt y z = true) : eqCt x z = true := by
 simp only [eqCt, Bool.and_eq_true, decide_eq_true_eq] at h1 h2 ⊢; exact ⟨h1.1.trans h2.1, Qcc Qjo _ _ _ h1.2 h2.2⟩
theorem Qsx (x y z : Typ) (h1 : eqTy x y = true) (h2 : eqTy y z = true) : eqTy x z = true := by
 simp only [eqTy, Bool.and_eq_true, decide_eq_true_eq] at h1 h2 ⊢; exact ⟨⟨h1.1.1.trans h2.1.1, h1.1.2.trans h2.1.2⟩, Qcc Qss _ _ _ h1.2 h2.2⟩
theorem Qst (x y z : Dcl) (h1 : eqDc x y = true) (h2 : eqDc y z = true) : eqDc x z = true := by
 simp only [eqDc, Bool.and_eq_true, decide_eq_true_eq] at h1 h2 ⊢; exact ⟨⟨⟨h1.1.1.1.trans h2.1.1.1, Qcc Qjo _ _ _ h1.1.1.2 h2.1.1.2⟩, h1.1.2.trans h2.1.2⟩, h1.2.trans h2.2⟩
theorem Qsu (x y z : Ini) (h1 : eqIn x y = true) (h2 : eqIn y z = true) : eqIn x z = true := by
 simp only [eqIn, Bool.and_eq_true, decide_eq_true_eq] at h1 h2 ⊢; exact ⟨h1.1.trans h2.1, h1.2.trans h2.2⟩
theorem Qsr (x y z : Cls) (h1 : eqCl x y = true) (h2 : eqCl y z = true) : eqCl x z = true := by
 simp only [eqCl, Bool.and_eq_true] at h1 h2 ⊢; exact ⟨Qmm _ _ _ h1.1 h2.1, Qcc Qsv _ _ _ h1.2 h2.2⟩
mutual
theorem Qjp : ∀ p q r : Pg, eqPg p q = true → eqPg q r = true → eqPg p r = true
 | .mk ts ds cs is ls, .mk ts' ds' cs' is' ls', .mk ts2 ds2 cs2 is2 ls2, h1, h2 => by
  simp only [eqPg, Bool.and_eq_true] at h1 h2 ⊢
  exact ⟨⟨⟨⟨Qcc Qsx _ _ _ h1.1.1.1.1 h2.1.1.1.1, Qcc Qst _ _ _ h1.1.1.1.2 h2.1.1.1.2⟩, Qic cs cs' cs2 h1.1.1.2 h2.1.1.2⟩, Qcc Qsu _ _ _ h1.1.2 h2.1.2⟩, Qcc Qsr _ _ _ h1.2 h2.2⟩
theorem Qic : ∀ xs ys zs : List Cp, eqCps xs ys = true → eqCps ys zs = true → eqCps xs zs = true
 | [], [], zs, _, h2 => h2
 | [], y :: ys, _, h1, _ => by simp [eqCps] at h1
 | x :: xs, [], _, h1, _ => by simp [eqCps] at h1
 | x :: xs, y :: ys, [], _, h2 => by simp [eqCps] at h2
 | (n, bs, p, a) :: xs, (n', bs', p', a') :: ys, (n2, bs2, p2, a2) :: zs, h1, h2 => by
  simp only [eqCps, Bool.and_eq_true, decide_eq_true_eq] at h1 h2 ⊢
  exact ⟨⟨⟨h1.1.1.1.trans h2.1.1.1, Qcc Qsw _ _ _ h1.1.1.2 h2.1.1.2⟩, Qjp p p' p2 h1.1.2 h2.1.2⟩, Qic xs ys zs h1.2 h2.2⟩
end
theorem Qyb {s : Txt} {p : Pg} {l : List Tok} {i : Nat} (h : parseP s = .ok p l i) (h4 : (dpP p).1 ≤ 4) (h8 : (dpP p).2 ≤ 8) (hl : (pgT p).length ≤ 65536) : ∃ q m j, parseP (pgT p) = .ok q m j ∧ eqPg q p = true := by
 obtain ⟨hw, hn⟩ := Qlr h
 have hx := lxr_pg hw [] [] lxr_nil
 rw [List.append_nil, List.append_nil] at hx
 obtain ⟨toks, ht, ha⟩ := hx.len hl
 obtain ⟨q, h1, h2⟩ := prog_ok (pgT p).length hw 32 true [] 0 (by omega) rfl (nx_nil _) (by omega)
 rw [List.append_nil] at h1
 have h3 := al_prog (e := (pgT p).length) (e' := (pgT p).length) 32 true toks (pgK p) 0 ha
 rw [h1] at h3
 unfold parseP
 rw [ht]
 show ∃ q m j, progD (pgT p).length 32 true toks 0 = .ok q m j ∧ _
 cases hr : progD (pgT p).length 32 true toks 0 with
 | bad w a m => rw [hr] at h3; exact absurd h3 id
 | ok q1 m j =>
  rw [hr] at h3
  exact ⟨q1, m, j, rfl, Qjp _ _ _ h3.1.eq h2⟩
theorem Qym {s : Txt} {p : Pg} {l : List Tok} {i : Nat} (h : parseP s = .ok p l i) (h1 : (showP p).2 = 1) : 4 < (dpP p).1 ∨ 8 < (dpP p).2 := by
 by_cases h4 : (dpP p).1 ≤ 4
 ·
  by_cases h8 : (dpP p).2 ≤ 8
  ·
   exfalso
   unfold showP at h1
   by_cases hl : 65536 < (pgT p).length
   · rw [if_pos hl] at h1; exact absurd (show (2 : Int) = 1 from h1) (by decide)
   obtain ⟨q, m, j, hq, he⟩ := Qyb h h4 h8 (by omega)
   rw [if_neg hl, hq] at h1
   simp only [he, if_true] at h1
   exact absurd (show (0 : Int) = 1 from h1) (by decide)
  · exact .inr (by omega)
 · exact .inl (by omega)
theorem Qyn {p : Pg} (h1 : (showP p).2 = 0) : (showP p).1 = pgT p ∧ (pgT p).length ≤ 65536 ∧ ∃ q m j, parseP (pgT p) = .ok q m j ∧ eqPg q p = true := by
 unfold showP at h1 ⊢
 by_cases hl : 65536 < (pgT p).length
 · rw [if_pos hl] at h1; exact absurd (show (2 : Int) = 0 from h1) (by decide)
 rw [if_neg hl] at h1 ⊢
 cases hq : parseP (pgT p) with
 | bad w a m => rw [hq] at h1; exact absurd (show (1 : Int) = 0 from h1) (by decide)
 | ok q m j =>
  rw [hq] at h1
  simp only at h1 ⊢
  cases he : eqPg q p with
  | false => rw [he] at h1; exact absurd (show (1 : Int) = 0 from h1) (by decide)
  | true => exact ⟨rfl, by omega, q, m, j, rfl, he⟩
theorem Jbg (p : Pg) : (showP p).2 = 0 ∨ (showP p).2 = 1 ∨ (showP p).2 = 2 := by
 unfold showP
 split
 · exact .inr (.inr rfl)
 split
 · exact .inr (.inl rfl)
 split
 · exact .inl rfl
 · exact .inr (.inl rfl)
end
end Go.Proofs.YtccehgfecaamoaaGreatDoor
