/- types: the two programs of alive, purely. -/
import Derived.Test.YtfmbpaoapjmdnaaQb27
import Derived.Test.YtfmbpaoapjmdnaaQb37
set_option maxRecDepth 100000
set_option maxHeartbeats 32000000
namespace Go.Proofs.Ytfmbpaoapjmdnaa
section
open Go.RowKit Go.Maps
theorem Qbb {α : Type} {eq : α → α → Bool} {xs : List α} (h : eqL eq xs [] = true) : xs = [] := by
 cases xs with
 | nil => rfl
 | cons x xs => simp [eqL] at h
theorem Qba {α : Type} {eq : α → α → Bool} {xs ys : List α} {y : α} (h : eqL eq xs (y :: ys) = true) : ∃ x xs', xs = x :: xs' ∧ eq x y = true ∧ eqL eq xs' ys = true := by
 cases xs with
 | nil => simp [eqL] at h
 | cons x xs =>
  rw [Qdk, Bool.and_eq_true] at h
  exact ⟨x, xs, rfl, h.1, h.2⟩
def vaX (s : Txt) (a : Int) : Ex := .mk 1 0 s [] a
def vaA (r s : Txt) (a b : Int) : Atm := ⟨r, [vaX s a], b⟩
def vaL (r s : Txt) (a b c d e : Int) : Lt := ⟨1, vaA r s a b, [], .mk 0 0 [] [] c, .mk 0 0 [] [] d, e⟩
theorem eqE_var {x : Ex} {s : Txt} {q : Int} (h : eqE x (.mk 1 0 s [] q) = true) : ∃ a, x = vaX s a := by
 cases x with
 | mk k n t ks a =>
  rw [Qqt] at h
  simp only [Bool.and_eq_true] at h
  obtain ⟨⟨⟨g1, g2⟩, g3⟩, h4⟩ := h
  have h1 : k = _ := of_decide_eq_true g1
  have h2 : n = _ := of_decide_eq_true g2
  have h3 : t = _ := of_decide_eq_true g3
  clear g1 g2 g3
  have h5 : ks = [] := Qbb h4
  rw [h1, h2, h3, h5]
  exact ⟨a, rfl⟩
theorem Qmj {x : Ex} (h : eqE x .none = true) : ∃ a, x = .mk 0 0 [] [] a := by
 cases x with
 | mk k n t ks a =>
  rw [Ex.none, Qqt] at h
  simp only [Bool.and_eq_true] at h
  obtain ⟨⟨⟨g1, g2⟩, g3⟩, h4⟩ := h
  have h1 : k = _ := of_decide_eq_true g1
  have h2 : n = _ := of_decide_eq_true g2
  have h3 : t = _ := of_decide_eq_true g3
  clear g1 g2 g3
  have h5 : ks = [] := Qbb h4
  rw [h1, h2, h3, h5]
  exact ⟨a, rfl⟩
theorem Qjj {x : Atm} {r s : Txt} {q o : Int} (h : eqA x ⟨r, [.mk 1 0 s [] q], o⟩ = true) : ∃ a b, x = vaA r s a b := by
 obtain ⟨n, l, b⟩ := x
 unfold eqA at h
 simp only [Bool.and_eq_true] at h
 obtain ⟨g1, h2⟩ := h
 have h1 : n = r := of_decide_eq_true g1
 obtain ⟨e, es, rfl, he, hs⟩ := Qba h2
 rw [Qbb hs]
 obtain ⟨a, rfl⟩ := eqE_var he
 subst h1
 exact ⟨a, b, rfl⟩
theorem Qhm {x : Lt} {r s : Txt} {q o u : Int} (h : eqLt x ⟨1, ⟨r, [.mk 1 0 s [] q], o⟩, [], .none, .none, u⟩ = true) : ∃ a b c d e, x = vaL r s a b c d e := by
 obtain ⟨k, am, op, y, z, e⟩ := x
 unfold eqLt at h
 simp only [Bool.and_eq_true] at h
 obtain ⟨⟨⟨⟨g1, h2⟩, g3⟩, h4⟩, h5⟩ := h
 have h1 : k = 1 := of_decide_eq_true g1
 have h3 : op = [] := of_decide_eq_true g3
 obtain ⟨a, b, rfl⟩ := Qjj h2
 obtain ⟨c, rfl⟩ := Qmj h4
 obtain ⟨d, rfl⟩ := Qmj h5
 subst h1 h3
 exact ⟨a, b, c, d, e, rfl⟩
theorem Qkf {x : Typ} {n s : Txt} {q : Int} (h : eqTy x ⟨n, s, [], q⟩ = true) : ∃ a, x = ⟨n, s, [], a⟩ := by
 obtain ⟨m, t, cs, a⟩ := x
 unfold eqTy at h
 simp only [Bool.and_eq_true] at h
 obtain ⟨⟨g1, g2⟩, h3⟩ := h
 have h1 : m = n := of_decide_eq_true g1
 have h2 : t = s := of_decide_eq_true g2
 rw [Qbb h3]
 subst h1 h2
 exact ⟨a, rfl⟩
theorem Qfa {x : Dcl} {n f t : Txt} {q : Int} (h : eqDc x ⟨n, [⟨f, t⟩], false, false, q⟩ = true) : ∃ a, x = ⟨n, [⟨f, t⟩], false, false, a⟩ := by
 obtain ⟨m, cs, i, o, a⟩ := x
 unfold eqDc at h
 simp only [Bool.and_eq_true] at h
 obtain ⟨⟨⟨g1, h2⟩, g3⟩, g4⟩ := h
 have h1 : m = n := of_decide_eq_true g1
 have h3 : i = false := of_decide_eq_true g3
 have h4 : o = false := of_decide_eq_true g4
 obtain ⟨y, ys, rfl, hy, hs⟩ := Qba h2
 rw [Qbb hs]
 obtain ⟨y1, y2⟩ := y
 unfold eqFd at hy
 simp only [Bool.and_eq_true] at hy
 obtain ⟨q1, q2⟩ := hy
 have e1 : y1 = f := of_decide_eq_true q1
 have e2 : y2 = t := of_decide_eq_true q2
 subst h1 h3 h4 e1 e2
 exact ⟨a, rfl⟩
def tA : Txt := [65]
def tE : Txt := [101]
def tQ : Txt := [113]
def tX : Txt := [120]
def ty1 (a : Int) : Typ := ⟨tA, tNum, [], a⟩
def dcE (a : Int) : Dcl := ⟨tE, [⟨tX, tA⟩], false, false, a⟩
def dcQ (a : Int) : Dcl := ⟨tQ, [⟨tX, tNum⟩], false, false, a⟩
structure Pl where
 (a b c d e f g h i j k l m : Int)
def caQ (o : Pl) : Cls := ⟨vaA tQ tX o.a o.b, [vaL tE tX o.c o.d o.e o.f o.g, vaL tQ tX o.h o.i o.j o.k o.l], o.m⟩
def caE (o : Pl) : Cls := ⟨vaA tE tX o.a o.b, [vaL tQ tX o.c o.d o.e o.f o.g], o.h⟩
def pg1 (a b c : Int) (o : Pl) : Pg := .mk [ty1 a] [dcE b, dcQ c] [] [] [caQ o]
def pg2 (a b c : Int) (o u : Pl) : Pg := .mk [ty1 a] [dcE b, dcQ c] [] [] [caQ o, caE u]
def plZ : Pl := ⟨0, 0, 0, 0, 0, 0, 0, 0, 0, 0, 0, 0, 0⟩
theorem Qqs {x : Cls} (h : eqCl x (caQ plZ) = true) : ∃ o, x = caQ o := by
 obtain ⟨hd, bd, m⟩ := x
 unfold eqCl at h
 simp only [Bool.and_eq_true, caQ] at h
 obtain ⟨h1, h2⟩ := h
 obtain ⟨a, b, rfl⟩ := Qjj h1
 obtain ⟨y1, r1, rfl, e1, h3⟩ := Qba h2
 obtain ⟨y2, r2, rfl, e2, h4⟩ := Qba h3
 rw [Qbb h4]
 obtain ⟨c, d, e, f, g, rfl⟩ := Qhm e1
 obtain ⟨h, i, j, k, l, rfl⟩ := Qhm e2
 exact ⟨⟨a, b, c, d, e, f, g, h, i, j, k, l, m⟩, rfl⟩
theorem eqCa_E {x : Cls} (h : eqCl x (caE plZ) = true) : ∃ o, x = caE o := by
 obtain ⟨hd, bd, m⟩ := x
 unfold eqCl at h
 simp only [Bool.and_eq_true, caE] at h
 obtain ⟨h1, h2⟩ := h
 obtain ⟨a, b, rfl⟩ := Qjj h1
 obtain ⟨y1, r1, rfl, e1, h3⟩ := Qba h2
 rw [Qbb h3]
 obtain ⟨c, d, e, f, g, rfl⟩ := Qhm e1
 exact ⟨⟨a, b, c, d, e, f, g, m, 0, 0, 0, 0, 0⟩, rfl⟩
theorem eqPg_1 {p : Pg} (h : eqPg p (pg1 0 0 0 plZ) = true) : ∃ a b c o, p = pg1 a b c o := by
 obtain ⟨ts, ds, cs, is, ls⟩ := p
 rw [Qde] at h
 simp only [Bool.and_eq_true, pg1, Pg.types, Pg.decls, Pg.comps, Pg.inits, Pg.clauses] at h
 obtain ⟨⟨⟨⟨h1, h2⟩, h3⟩, h4⟩, h5⟩ := h
 obtain ⟨t, tr, rfl, et, h1'⟩ := Qba h1
 rw [Qbb h1', Qbb h3, Qbb h4]
 obtain ⟨d, dr, rfl, ed, h2'⟩ := Qba h2
 obtain ⟨d2, dr2, rfl, ed2, h2''⟩ := Qba h2'
 rw [Qbb h2'']
 obtain ⟨c, cr, rfl, ec, h5'⟩ := Qba h5
 rw [Qbb h5']
 obtain ⟨a, rfl⟩ := Qkf et
 obtain ⟨b, rfl⟩ := Qfa ed
 obtain ⟨b2, rfl⟩ := Qfa ed2
 obtain ⟨o, rfl⟩ := Qqs ec
 exact ⟨a, b, b2, o, rfl⟩
theorem eqPg_2 {p : Pg} (h : eqPg p (pg2 0 0 0 plZ plZ) = true) : ∃ a b c o u, p = pg2 a b c o u := by
 obtain ⟨ts, ds, cs, is, ls⟩ := p
 rw [Qde] at h
 simp only [Bool.and_eq_true, pg2, Pg.types, Pg.decls, Pg.comps, Pg.inits, Pg.clauses] at h
 obtain ⟨⟨⟨⟨h1, h2⟩, h3⟩, h4⟩, h5⟩ := h
 obtain ⟨t, tr, rfl, et, h1'⟩ := Qba h1
 rw [Qbb h1', Qbb h3, Qbb h4]
 obtain ⟨d, dr, rfl, ed, h2'⟩ := Qba h2
 obtain ⟨d2, dr2, rfl, ed2, h2''⟩ := Qba h2'
 rw [Qbb h2'']
 obtain ⟨c, cr, rfl, ec, h5'⟩ := Qba h5
 obtain ⟨c2, cr2, rfl, ec2, h5''⟩ := Qba h5'
 rw [Qbb h5'']
 obtain ⟨a, rfl⟩ := Qkf et
 obtain ⟨b, rfl⟩ := Qfa ed
 obtain ⟨b2, rfl⟩ := Qfa ed2
 obtain ⟨o, rfl⟩ := Qqs ec
 obtain ⟨u, rfl⟩ := eqCa_E ec2
 exact ⟨a, b, b2, o, u, rfl⟩
section
variable (a b c : Int) (o u : Pl)
theorem Qcj {s : Txt} {q : Int} : ∀ e ∈ [vaX s q], e.kind = 1 := fun e he => by rw [List.mem_singleton.1 he]; rfl
theorem lits_1 : litP2 (pg1 a b c o) (vaL tE tX o.c o.d o.e o.f o.g) [] = .ok [⟨tX, tA⟩] := by
 unfold litP2
 rw [if_pos (show (vaL tE tX o.c o.d o.e o.f o.g).kind = 1 from rfl), show (vaL tE tX o.c o.d o.e o.f o.g).atom.args = [vaX tX o.c] from rfl, Qcc _ _ _ _ Qcj]
 rfl
theorem lits_2 : litP2 (pg1 a b c o) (vaL tQ tX o.h o.i o.j o.k o.l) [⟨tX, tA⟩] = .ok [⟨tX, tA⟩] := by
 unfold litP2
 rw [if_pos (show (vaL tQ tX o.h o.i o.j o.k o.l).kind = 1 from rfl), show (vaL tQ tX o.h o.i o.j o.k o.l).atom.args = [vaX tX o.h] from rfl, Qcc _ _ _ _ Qcj]
 rfl
theorem lits_3 : litP2 (pg2 a b c o u) (vaL tE tX o.c o.d o.e o.f o.g) [] = .ok [⟨tX, tA⟩] := by
 unfold litP2
 rw [if_pos (show (vaL tE tX o.c o.d o.e o.f o.g).kind = 1 from rfl), show (vaL tE tX o.c o.d o.e o.f o.g).atom.args = [vaX tX o.c] from rfl, Qcc _ _ _ _ Qcj]
 rfl
theorem lits_4 : litP2 (pg2 a b c o u) (vaL tQ tX o.h o.i o.j o.k o.l) [⟨tX, tA⟩] = .ok [⟨tX, tA⟩] := by
 unfold litP2
 rw [if_pos (show (vaL tQ tX o.h o.i o.j o.k o.l).kind = 1 from rfl), show (vaL tQ tX o.h o.i o.j o.k o.l).atom.args = [vaX tX o.h] from rfl, Qcc _ _ _ _ Qcj]
 rfl
theorem lits_5 : litP2 (pg2 a b c o u) (vaL tQ tX u.c u.d u.e u.f u.g) [] = .ok [⟨tX, tNum⟩] := by
 unfold litP2
 rw [if_pos (show (vaL tQ tX u.c u.d u.e u.f u.g).kind = 1 from rfl), show (vaL tQ tX u.c u.d u.e u.f u.g).atom.args = [vaX tX u.c] from rfl, Qcc _ _ _ _ Qcj]
 rfl
theorem Qkc {p : Pg} : ∀ {xs : List Ex} {fs vs vs' : List Fld}, eachP (stN p) xs fs vs = .ok vs' → vs'.length ≤ vs.length + xs.length
 | [], fs, vs, vs', h => by
  cases fs <;> (cases h; simp)
 | x :: xs, [], vs, vs', h => by cases h; simp
 | x :: xs, f :: fs, vs, vs', h => by
  unfold eachP at h
  split at h
  · cases h
  rename_i us hq
  have h1 := Qkl hq
  have h2 := Qkc h
  simp only [List.length_cons]
  omega
theorem Qou {p : Pg} {x : Cls} {k : Nat} (h1 : VAt p x.head) (h2 : ∀ y ∈ x.body, y.kind = 1 ∧ VAt p y.atom ∧ y.atom.args.length ≤ 8) (h3 : x.body.length ≤ k) (hk : k ≤ 16) : VCs p x := by
 refine ⟨h1, fun y hy => ⟨(h2 y hy).1, (h2 y hy).2.1⟩, fun j vs y hj hl => ?_⟩
 have hlen : ∀ (ls : List Lt) (us vs : List Fld), (∀ y ∈ ls, y.kind = 1 ∧ VAt p y.atom ∧ y.atom.args.length ≤ 8) → litsP p ls us = .ok vs → vs.length ≤ us.length + 8 * ls.length := by
  intro ls
  induction ls with
  | nil => intro us vs _ h; cases h; simp
  | cons z zs ih =>
   intro us vs hz h
   unfold litsP at h
   split at h
   · cases h
   rename_i vs' hq
   have hz0 := hz z List.mem_cons_self
   have := ih vs' vs (fun y hy => hz y (List.mem_cons_of_mem _ hy)) h
   have h8 : vs'.length ≤ us.length + z.atom.args.length := by
    unfold litP2 at hq
    rw [if_pos hz0.1, Qcc _ _ _ _ hz0.2.1.1] at hq
    exact Qkc hq
   have := hz0.2.2
   simp only [List.length_cons]
   omega
 have h4 := hlen _ _ _ (fun z hz => h2 z (List.mem_of_mem_take hz)) hl
 have h5 := (h2 y (List.mem_of_getElem? hj)).2.2
 have h6 : (x.body.take j).length ≤ x.body.length := List.length_take_le' j x.body
 simp only [List.length_nil] at h4
 omega
theorem Qed {p : Pg} {y : Lt} {ys : List Lt} {vs vs' : List Fld} (h : litP2 p y vs = .ok vs') : litsP p (y :: ys) vs = litsP p ys vs' := by
 rw [litsP, h]
theorem Qey {p : Pg} {r s : Txt} {x y : Int} {d : Dcl} (h : declP2 p r = some d) (hl : 1 ≤ d.cols.length) : VAt p (vaA r s x y) := ⟨Qcj, d, h, hl⟩
theorem vcs_Q1 : VCs (pg1 a b c o) (caQ o) := Qou (k := 2) (Qey (d := dcQ c) rfl (Nat.le_refl _)) (fun y hy => by
 have hy' : y ∈ [vaL tE tX o.c o.d o.e o.f o.g, vaL tQ tX o.h o.i o.j o.k o.l] := hy
 simp only [List.mem_cons, List.not_mem_nil, or_false] at hy'
 rcases hy' with rfl | rfl
 · exact ⟨rfl, Qey (d := dcE b) rfl (Nat.le_refl _), by show 1 ≤ 8; omega⟩
 · exact ⟨rfl, Qey (d := dcQ c) rfl (Nat.le_refl _), by show 1 ≤ 8; omega⟩) (Nat.le_refl _) (by decide)
theorem vcs_Q2 : VCs (pg2 a b c o u) (caQ o) := Qou (k := 2) (Qey (d := dcQ c) rfl (Nat.le_refl _)) (fun y hy => by
 have hy' : y ∈ [vaL tE tX o.c o.d o.e o.f o.g, vaL tQ tX o.h o.i o.j o.k o.l] := hy
 simp only [List.mem_cons, List.not_mem_nil, or_false] at hy'
 rcases hy' with rfl | rfl
 · exact ⟨rfl, Qey (d := dcE b) rfl (Nat.le_refl _), by show 1 ≤ 8; omega⟩
 · exact ⟨rfl, Qey (d := dcQ c) rfl (Nat.le_refl _), by show 1 ≤ 8; omega⟩) (Nat.le_refl _) (by decide)
theorem vcs_E2 : VCs (pg2 a b c o u) (caE u) := Qou (k := 1) (Qey (d := dcE b) rfl (Nat.le_refl _)) (fun y hy => by
 have hy' : y ∈ [vaL tQ tX u.c u.d u.e u.f u.g] := hy
 rw [List.mem_singleton.1 hy']
 exact ⟨rfl, Qey (d := dcQ c) rfl (Nat.le_refl _), by show 1 ≤ 8; omega⟩) (Nat.le_refl _) (by decide)
theorem Qmv {p : Pg} {x : Cls} {vs : List Fld} {R : Except Flt (List Fld)} (h1 : (watP p x.head).1 = 0) (h2 : (watsP p x.body).1 = 0) (h3 : litsP p x.body [] = .ok vs) (h4 : ∀ e ∈ x.head.args, e.kind = 1) (h5 : eachP (stF p) x.head.args (colsP p x.head) vs = R) : infP p x = R := by
 unfold infP
 rw [if_neg (fun h => h h1), if_neg (fun h => h h2), h3]
 exact (Qfq p vs _ _ h4).trans h5
theorem inf_Q1 : infP (pg1 a b c o) (caQ o) = .ok [⟨tX, tA⟩] :=
 Qmv rfl rfl ((Qed (lits_1 a b c o)).trans ((Qed (lits_2 a b c o)).trans rfl)) Qcj rfl
theorem inf_Q2 : infP (pg2 a b c o u) (caQ o) = .ok [⟨tX, tA⟩] :=
 Qmv rfl rfl ((Qed (lits_3 a b c o u)).trans ((Qed (lits_4 a b c o u)).trans rfl)) Qcj rfl
theorem inf_E2 : infP (pg2 a b c o u) (caE u) = .error (13, u.a) :=
 Qmv rfl rfl ((Qed (lits_5 a b c o u)).trans rfl) Qcj rfl
theorem ck_2 : ckF (pg2 a b c o u) 0 = (13, u.a) := by
 have h1 : wNameP (pg2 a b c o u) (pg2 a b c o u).types.zipIdx = (0, 0) := rfl
 have h2 : wTypeP (pg2 a b c o u) (pg2 a b c o u).types.zipIdx = (0, 0) := rfl
 have h3 : wDeclP (pg2 a b c o u) (pg2 a b c o u).decls.zipIdx = (0, 0) := rfl
 have h4 : wClauseP (pg2 a b c o u) (pg2 a b c o u).clauses = (13, u.a) := by
  show wClauseP (pg2 a b c o u) [caQ o, caE u] = _
  rw [wClauseP, inf_Q2]
  show wClauseP (pg2 a b c o u) [caE u] = _
  rw [wClauseP, inf_E2]
 unfold ckF
 rw [h1, h2, h3, h4]
 rfl
theorem below_1 : belowP (pg1 a b c o) tA tNum = true := rfl
end
end
end Go.Proofs.Ytfmbpaoapjmdnaa
