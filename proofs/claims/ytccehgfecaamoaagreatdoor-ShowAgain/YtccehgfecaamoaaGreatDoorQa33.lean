/- syn: Same, of any two programs. Being the same turns round, and everything is the same as itself. Texts of programs that are the same; what Show and Format come to. show's writer: String. The plain reading: a fault is one. -/
import Derived.Test.YtccehgfecaamoaaGreatDoorQa30
import Derived.Test.YtccehgfecaamoaaGreatDoorQa31
import Derived.Test.YtccehgfecaamoaaGreatDoorQa32
import Derived.Test.YtccehgfecaamoaaGreatDoorQa29
import Derived.Test.YtccehgfecaamoaaGreatDoorQa24
import Derived.Lib.UnsafeStr
import Derived.Test.YtccehgfecaamoaaGreatDoorQa22
set_option maxRecDepth 100000
set_option maxHeartbeats 32000000
namespace Go.Proofs.YtccehgfecaamoaaGreatDoor
section
open Go.RowKit Go.Maps
mutual
def eqE : Ex → Ex → Bool
 | .mk k n s ks _, .mk k' n' s' ks' _ => decide (k = k') && decide (n = n') && decide (s = s') && eqEs ks ks'
def eqEs : List Ex → List Ex → Bool
 | [], [] => true
 | x :: xs, y :: ys => eqE x y && eqEs xs ys
 | _, _ => false
end
theorem Qdi {α : Type} (eq : α → α → Bool) (x y : α) (xs ys : List α) : eqL eq (x :: xs) (y :: ys) = (eq x y && eqL eq xs ys) := by
 unfold eqL
 simp only [List.length_cons, List.zip_cons_cons, List.all_cons, Nat.add_right_cancel_iff]
 cases eq x y <;> simp
theorem Qoh : ∀ xs ys : List Ex, eqEs xs ys = eqL eqE xs ys
 | [], [] => by simp [eqEs, eqL]
 | [], y :: ys => by simp [eqEs, eqL]
 | x :: xs, [] => by simp [eqEs, eqL]
 | x :: xs, y :: ys => by rw [Qdi, eqEs, Qoh xs ys]
theorem eqE_eq (x y : Ex) : eqE x y = (decide (x.kind = y.kind) && decide (x.num = y.num) && decide (x.txt = y.txt) && eqL eqE x.kids y.kids) := by
 cases x with
 | mk k n s ks a =>
  cases y with
  | mk k' n' s' ks' a' => rw [eqE, Qoh]; rfl
def eqA (x y : Atm) : Bool := decide (x.rel = y.rel) && eqL eqE x.args y.args
def eqLt (x y : Lt) : Bool := decide (x.kind = y.kind) && eqA x.atom y.atom && decide (x.op = y.op) && eqE x.l y.l && eqE x.r y.r
def eqCt (x y : Ctr) : Bool := decide (x.name = y.name) && eqL eqFd x.fields y.fields
def eqTy (x y : Typ) : Bool := decide (x.name = y.name) && decide (x.sub = y.sub) && eqL eqCt x.ctors y.ctors
def eqDc (x y : Dcl) : Bool := decide (x.name = y.name) && eqL eqFd x.cols y.cols && decide (x.input = y.input) && decide (x.output = y.output)
def eqIn (x y : Ini) : Bool := decide (x.name = y.name) && decide (x.comp = y.comp)
def eqCl (x y : Cls) : Bool := eqA x.head y.head && eqL eqLt x.body y.body
mutual
def eqPg : Pg → Pg → Bool
 | .mk ts ds cs is ls, .mk ts' ds' cs' is' ls' => eqL eqTy ts ts' && eqL eqDc ds ds' && eqCps cs cs' && eqL eqIn is is' && eqL eqCl ls ls'
def eqCps : List Cp → List Cp → Bool
 | [], [] => true
 | (n, bs, p, _) :: xs, (n', bs', p', _) :: ys => (decide (n = n') && eqL eqTx bs bs' && eqPg p p') && eqCps xs ys
 | _, _ => false
end
def eqCp (x y : Cp) : Bool := decide (x.1 = y.1) && eqL eqTx x.2.1 y.2.1 && eqPg x.2.2.1 y.2.2.1
theorem Qlg : ∀ xs ys : List Cp, eqCps xs ys = eqL eqCp xs ys
 | [], [] => by simp [eqCps, eqL]
 | [], y :: ys => by simp [eqCps, eqL]
 | x :: xs, [] => by simp [eqCps, eqL]
 | (n, bs, p, a) :: xs, (n', bs', p', a') :: ys => by rw [Qdi, eqCps, Qlg xs ys]; rfl
theorem eqPg_eq (p q : Pg) : eqPg p q = (eqL eqTy p.types q.types && eqL eqDc p.decls q.decls && eqL eqCp p.comps q.comps && eqL eqIn p.inits q.inits && eqL eqCl p.clauses q.clauses) := by
 cases p
 cases q
 rw [eqPg, Qlg]
 rfl

theorem Qov (S : Nat → Prop) (w : World) (cs : List Value) (x : Ex) (h : PE S w cs x) : ∀ c ∈ cs, c.oneCell' = true := by
 obtain ⟨v, rfl, ⟨ao, cap, rfl⟩, _⟩ := h.cells
 simp [Value.oneCell', str]
theorem pc_one (S : Nat → Prop) (w : World) (cs : List Value) (x : Ctr) (h : PC S w cs x) : ∀ c ∈ cs, c.oneCell' = true := by
 obtain ⟨_, _, _, rfl, _⟩ := h
 simp [Value.oneCell', str]
theorem pty_one (S : Nat → Prop) (w : World) (cs : List Value) (x : Typ) (h : PTy S w cs x) : ∀ c ∈ cs, c.oneCell' = true := by
 obtain ⟨_, _, _, rfl, _⟩ := h
 simp [Value.oneCell', str]
theorem pdc_one (S : Nat → Prop) (w : World) (cs : List Value) (x : Dcl) (h : PDc S w cs x) : ∀ c ∈ cs, c.oneCell' = true := by
 obtain ⟨_, _, _, rfl, _⟩ := h
 simp [Value.oneCell', str]
theorem pin_one (S : Nat → Prop) (w : World) (cs : List Value) (x : Ini) (h : PIn S w cs x) : ∀ c ∈ cs, c.oneCell' = true := by
 have e : cs = _ := h
 subst e
 simp [Value.oneCell', str]
theorem pcl_one (S : Nat → Prop) (w : World) (cs : List Value) (x : Cls) (h : PCl S w cs x) : ∀ c ∈ cs, c.oneCell' = true := by
 obtain ⟨_, _, _, _, _, _, rfl, _⟩ := h
 simp [Value.oneCell', str]
theorem list5 {a b c d e a' b' c' d' e' : Value} (h : [a, b, c, d, e] = [a', b', c', d', e']) : a = a' ∧ b = b' ∧ c = c' ∧ d = d' ∧ e = e' := by simpa using h

theorem Qeb (x : Ex) : ∀ (y : Ex) (S : Nat → Prop) (w : World) (c0 c1 c2 c3 c4 d0 d1 d2 d3 d4 : Value), ExS S w [c0, c1, c2, c3, c4] x → ExS S w [d0, d1, d2, d3, d4] y →
  Calls Tryz.prog 103 #[.agg #[c0, c1, c2, c3, c4], .agg #[d0, d1, d2, d3, d4]] w fun en w' => en = .returned (.bool (eqE x y)) ∧ Below w.heap.size w w' :=
 match x with
 | .mk k n s ks a => fun y S w c0 c1 c2 c3 c4 d0 d1 d2 d3 d4 hx hy => by
  obtain ⟨v, ex, ⟨xa, xc, rfl⟩, hkx⟩ := hx.cells
  obtain ⟨u, ey, ⟨ya, yc, rfl⟩, hky⟩ := hy.cells
  simp only [List.cons.injEq, and_true] at ex ey
  obtain ⟨rfl, rfl, rfl, rfl, rfl⟩ := ex
  obtain ⟨rfl, rfl, rfl, rfl, rfl⟩ := ey
  rw [eqE_eq]
  refine Qjd rfl rfl rfl (fun w' hb => ?_)
  refine (eqf_e Qae Qov eqE (hkx.later Qae hb) (hky.later Qae hb) (fun j x1 y1 hx1 hy1 w1 e0 e1 e2 e3 e4 f0 f1 f2 f3 f4 _ h1 h2 => ?_)).mono (fun _ _ h => h)
  have hm : x1 ∈ ks := List.mem_of_getElem? hx1
  exact Qeb x1 y1 S w1 e0 e1 e2 e3 e4 f0 f1 f2 f3 f4 h1 h2
termination_by SizeOf.sizeOf x
decreasing_by
 have := List.sizeOf_lt_of_mem hm
 simp only [Ex.mk.sizeOf_spec]
 omega
theorem Qiz {x y : Atm} {S : Nat → Prop} {w : World} {xa ya : Option Addr} {xn xc yn yc : Nat} (hx : LsAt PE 5 S w (.slice xa xn xc) x.args) (hy : LsAt PE 5 S w (.slice ya yn yc) y.args) :
  Calls Tryz.prog 76 #[.agg #[str x.rel, .slice xa xn xc, .int .i64 x.at_], .agg #[str y.rel, .slice ya yn yc, .int .i64 y.at_]] w fun en w' => en = .returned (.bool (eqA x y)) ∧ Below w.heap.size w w' := by
 unfold eqA
 exact Qj rfl (fun w' hb => eqf_e Qae Qov eqE (hx.later Qae hb) (hy.later Qae hb) (fun j x1 y1 _ _ w1 e0 e1 e2 e3 e4 f0 f1 f2 f3 f4 _ h1 h2 => Qeb x1 y1 S w1 e0 e1 e2 e3 e4 f0 f1 f2 f3 f4 h1 h2))
theorem Qqo {x y : Lt} {S : Nat → Prop} {w : World} {cs ds : List Value} (hx : PLt S w cs x) (hy : PLt S w ds y) :
  Calls Tryz.prog 78 #[.agg cs.toArray, .agg ds.toArray] w fun en w' => en = .returned (.bool (eqLt x y)) ∧ Below w.heap.size w w' := by
 obtain ⟨_, _, _, _, _, _, _, _, _, rfl, h1, h2, h3⟩ := hx
 obtain ⟨_, _, _, _, _, _, _, _, _, rfl, g1, g2, g3⟩ := hy
 unfold eqLt
 refine Qke rfl (fun w' hb => ?_) rfl (fun w' hb => ?_) (fun w' hb => ?_)
 · exact Qiz (h1.later Qae hb) (g1.later Qae hb)
 · exact Qeb _ _ S _ _ _ _ _ _ _ _ _ _ _ (Qae.same _ _ _ _ _ h2 hb.size (fun b _ hl => hb.block b hl)) (Qae.same _ _ _ _ _ g2 hb.size (fun b _ hl => hb.block b hl))
 · exact Qeb _ _ S _ _ _ _ _ _ _ _ _ _ _ (Qae.same _ _ _ _ _ h3 hb.size (fun b _ hl => hb.block b hl)) (Qae.same _ _ _ _ _ g3 hb.size (fun b _ hl => hb.block b hl))
theorem Qql {x y : Ctr} {S : Nat → Prop} {w : World} {cs ds : List Value} (hx : PC S w cs x) (hy : PC S w ds y) :
  Calls Tryz.prog 73 #[.agg cs.toArray, .agg ds.toArray] w fun en w' => en = .returned (.bool (eqCt x y)) ∧ Below w.heap.size w w' := by
 obtain ⟨_, _, _, rfl, h1⟩ := hx
 obtain ⟨_, _, _, rfl, g1⟩ := hy
 unfold eqCt
 exact Qjb rfl (fun w' hb => Qor (h1.later Qbv hb) (g1.later Qbv hb))
theorem Qqq {x y : Typ} {S : Nat → Prop} {w : World} {cs ds : List Value} (hx : PTy S w cs x) (hy : PTy S w ds y) :
  Calls Tryz.prog 37 #[.agg cs.toArray, .agg ds.toArray] w fun en w' => en = .returned (.bool (eqTy x y)) ∧ Below w.heap.size w w' := by
 obtain ⟨_, _, _, rfl, h1⟩ := hx
 obtain ⟨_, _, _, rfl, g1⟩ := hy
 unfold eqTy
 exact Qjf rfl rfl (fun w' hb => eqf_c Qdq pc_one eqCt (h1.later Qdq hb) (g1.later Qdq hb) (fun j x1 y1 _ _ w1 e0 e1 f0 f1 _ h1 h2 => Qql h1 h2))
theorem Qqm {x y : Dcl} {S : Nat → Prop} {w : World} {cs ds : List Value} (hx : PDc S w cs x) (hy : PDc S w ds y) :
  Calls Tryz.prog 39 #[.agg cs.toArray, .agg ds.toArray] w fun en w' => en = .returned (.bool (eqDc x y)) ∧ Below w.heap.size w w' := by
 obtain ⟨_, _, _, rfl, h1⟩ := hx
 obtain ⟨_, _, _, rfl, g1⟩ := hy
 unfold eqDc
 exact Qjc rfl (fun w' hb => Qor (h1.later Qbv hb) (g1.later Qbv hb)) rfl rfl
theorem Qqn {x y : Ini} {S : Nat → Prop} {w : World} {cs ds : List Value} (hx : PIn S w cs x) (hy : PIn S w ds y) :
  Calls Tryz.prog 43 #[.agg cs.toArray, .agg ds.toArray] w fun en w' => en = .returned (.bool (eqIn x y)) ∧ Below w.heap.size w w' := by
 have e1 : cs = _ := hx
 have e2 : ds = _ := hy
 subst e1
 subst e2
 unfold eqIn
 exact Qje rfl rfl
theorem Qqp {x y : Cls} {S : Nat → Prop} {w : World} {cs ds : List Value} (hx : PCl S w cs x) (hy : PCl S w ds y) :
  Calls Tryz.prog 45 #[.agg cs.toArray, .agg ds.toArray] w fun en w' => en = .returned (.bool (eqCl x y)) ∧ Below w.heap.size w w' := by
 obtain ⟨_, _, _, _, _, _, rfl, h1, h2⟩ := hx
 obtain ⟨_, _, _, _, _, _, rfl, g1, g2⟩ := hy
 unfold eqCl
 exact Qgi (fun w' hb => Qiz (h1.later Qae hb) (g1.later Qae hb)) (fun w' hb => eqf_l Qbn (fun _ _ _ _ h => Qhq h) eqLt (h2.later Qbn hb) (g2.later Qbn hb) (fun j x1 y1 _ _ w1 _ _ _ _ _ _ _ _ _ _ _ _ _ _ _ _ _ _ _ _ _ _ _ _ _ _ _ _ _ _ _ _ _ h1 h2 => Qqo h1 h2))
theorem Qgo (p : Pg) : ∀ (q : Pg) (S : Nat → Prop) (w : World) (c0 c1 c2 c3 c4 d0 d1 d2 d3 d4 : Value), PgS S w [c0, c1, c2, c3, c4] p → PgS S w [d0, d1, d2, d3, d4] q →
  Calls Tryz.prog 15 #[.agg #[c0, c1, c2, c3, c4], .agg #[d0, d1, d2, d3, d4]] w fun en w' => en = .returned (.bool (eqPg p q)) ∧ Below w.heap.size w w' :=
 match p with
 | .mk ts ds cs is ls => fun q S w c0 c1 c2 c3 c4 d0 d1 d2 d3 d4 hx hy => by
  obtain ⟨v0, v1, v2, v3, v4, ex, h0, h1, h2, h3, h4⟩ := hx.cells
  obtain ⟨u0, u1, u2, u3, u4, ey, g0, g1, g2, g3, g4⟩ := hy.cells
  obtain ⟨rfl, rfl, rfl, rfl, rfl⟩ := list5 ex
  obtain ⟨rfl, rfl, rfl, rfl, rfl⟩ := list5 ey
  obtain ⟨_, _, rfl⟩ := h0.sl
  obtain ⟨_, _, rfl⟩ := h1.sl
  obtain ⟨_, _, rfl⟩ := h2.sl
  obtain ⟨_, _, rfl⟩ := h3.sl
  obtain ⟨_, _, rfl⟩ := h4.sl
  obtain ⟨_, _, rfl⟩ := g0.sl
  obtain ⟨_, _, rfl⟩ := g1.sl
  obtain ⟨_, _, rfl⟩ := g2.sl
  obtain ⟨_, _, rfl⟩ := g3.sl
  obtain ⟨_, _, rfl⟩ := g4.sl
  rw [eqPg_eq]
  refine Same_ch (fun w' hb => ?_) (fun w' hb => ?_) (fun w' hb => ?_) (fun w' hb => ?_) (fun w' hb => ?_)
  · exact eqf_t Qbh pty_one eqTy (h0.later Qbh hb) (g0.later Qbh hb) (fun j x1 y1 _ _ w1 _ _ _ _ _ _ _ _ _ a1 a2 => Qqq a1 a2)
  · exact eqf_d Qbf pdc_one eqDc (h1.later Qbf hb) (g1.later Qbf hb) (fun j x1 y1 _ _ w1 _ _ _ _ _ _ _ _ _ _ _ a1 a2 => Qqm a1 a2)
  ·
   refine (eqf_p Qas (fun _ _ _ _ h => Qhp h) eqCp (h2.later Qas hb) (g2.later Qas hb) (fun j x1 y1 hx1 hy1 w1 _ _ _ _ _ _ _ _ _ _ _ _ _ _ _ _ _ a1 a2 => ?_)).mono (fun _ _ h => h)
   obtain ⟨vb, bd, e1, e2, e3, e4⟩ := a1
   obtain ⟨vb', bd', e1', e2', e3', e4'⟩ := a2
   obtain ⟨t0, t1, t2, t3, t4, rfl, k0, k1, k2, k3, k4⟩ := e4.cells
   obtain ⟨s0, s1, s2, s3, s4, rfl, m0, m1, m2, m3, m4⟩ := e4'.cells
   obtain ⟨_, _, rfl⟩ := e3.sl
   obtain ⟨_, _, rfl⟩ := e3'.sl
   obtain ⟨_, _, rfl⟩ := k0.sl
   obtain ⟨_, _, rfl⟩ := k1.sl
   obtain ⟨_, _, rfl⟩ := k2.sl
   obtain ⟨_, _, rfl⟩ := k3.sl
   obtain ⟨_, _, rfl⟩ := k4.sl
   obtain ⟨_, _, rfl⟩ := m0.sl
   obtain ⟨_, _, rfl⟩ := m1.sl
   obtain ⟨_, _, rfl⟩ := m2.sl
   obtain ⟨_, _, rfl⟩ := m3.sl
   obtain ⟨_, _, rfl⟩ := m4.sl
   simp only [List.cons_append, List.nil_append, List.cons.injEq, and_true] at e1 e1'
   obtain ⟨rfl, rfl, rfl, rfl, rfl, rfl, rfl, rfl⟩ := e1
   obtain ⟨rfl, rfl, rfl, rfl, rfl, rfl, rfl, rfl⟩ := e1'
   have hm : x1 ∈ cs := List.mem_of_getElem? hx1
   unfold eqCp
   refine Qja rfl (fun w' hb => equal_s (e3.later Qbo hb) (e3'.later Qbo hb)) (fun w' hb => ?_)
   exact Qgo x1.2.2.1 y1.2.2.1 S w' _ _ _ _ _ _ _ _ _ _ (Qat.same _ _ _ _ _ e4 hb.size (fun b _ hl => hb.block b hl)) (Qat.same _ _ _ _ _ e4' hb.size (fun b _ hl => hb.block b hl))
  · exact eqf_i Qbg pin_one eqIn (h3.later Qbg hb) (g3.later Qbg hb) (fun j x1 y1 _ _ w1 _ _ _ _ _ _ _ a1 a2 => Qqn a1 a2)
  · exact eqf_q Qbe pcl_one eqCl (h4.later Qbe hb) (g4.later Qbe hb) (fun j x1 y1 _ _ w1 _ _ _ _ _ _ _ _ _ _ _ a1 a2 => Qqp a1 a2)
termination_by SizeOf.sizeOf p
decreasing_by
 have h1 := List.sizeOf_lt_of_mem hm
 have h2 : SizeOf.sizeOf x1.2.2.1 < SizeOf.sizeOf x1 := by
  obtain ⟨a, b, c, d⟩ := x1
  simp only [Prod.mk.sizeOf_spec]
  omega
 simp only [Pg.mk.sizeOf_spec]
 omega
end
section
open Go.RowKit Go.Maps
theorem Qar {α : Type} [DecidableEq α] (a b : α) : decide (a = b) = decide (b = a) := by
 by_cases h : a = b
 · subst h; rfl
 · rw [decide_eq_false h, decide_eq_false (Ne.symm h)]
theorem Qbs {α : Type} {eq : α → α → Bool} (h : ∀ x y, eq x y = eq y x) : ∀ xs ys : List α, eqL eq xs ys = eqL eq ys xs
 | [], [] => rfl
 | [], y :: ys => by simp [eqL]
 | x :: xs, [] => by simp [eqL]
 | x :: xs, y :: ys => by rw [Qdi, Qdi, h x y, Qbs h xs ys]
theorem Qbr {α : Type} {eq : α → α → Bool} (h : ∀ x, eq x x = true) : ∀ xs : List α, eqL eq xs xs = true
 | [] => by simp [eqL]
 | x :: xs => by rw [Qdi, h x, Qbr h xs]; rfl
mutual
theorem Qex : ∀ x y : Ex, eqE x y = eqE y x
 | .mk k n s ks _, .mk k' n' s' ks' _ => by rw [eqE, eqE, Qim ks ks', Qar k k', Qar n n', Qar s s']
theorem Qim : ∀ xs ys : List Ex, eqEs xs ys = eqEs ys xs
 | [], [] => rfl
 | [], _ :: _ => by simp [eqEs]
 | _ :: _, [] => by simp [eqEs]
 | x :: xs, y :: ys => by rw [eqEs, eqEs, Qex x y, Qim xs ys]
end
mutual
theorem Qew : ∀ x : Ex, eqE x x = true
 | .mk k n s ks _ => by rw [eqE, Qil ks]; simp
theorem Qil : ∀ xs : List Ex, eqEs xs xs = true
 | [] => by simp [eqEs]
 | x :: xs => by rw [eqEs, Qew x, Qil xs]; rfl
end
theorem Qoo (x y : Txt) : eqTx x y = eqTx y x := by unfold eqTx; exact Qar _ _
theorem Qon (x : Txt) : eqTx x x = true := by unfold eqTx; simp
theorem Qio (x y : Fld) : eqFd x y = eqFd y x := by unfold eqFd; rw [Qar x.name, Qar x.type]
theorem Qin (x : Fld) : eqFd x x = true := by unfold eqFd; simp
theorem Qlf (x y : Atm) : eqA x y = eqA y x := by unfold eqA; rw [Qar x.rel, Qbs Qex]
theorem Qle (x : Atm) : eqA x x = true := by unfold eqA; rw [Qbr Qew]; simp
theorem Qol (x y : Lt) : eqLt x y = eqLt y x := by unfold eqLt; rw [Qar x.kind, Qlf x.atom, Qar x.op, Qex x.l, Qex x.r]
theorem Qok (x : Lt) : eqLt x x = true := by unfold eqLt; rw [Qle, Qew, Qew]; simp
theorem Qoe (x y : Ctr) : eqCt x y = eqCt y x := by unfold eqCt; rw [Qar x.name, Qbs Qio]
theorem Qod (x : Ctr) : eqCt x x = true := by unfold eqCt; rw [Qbr Qin]; simp
theorem Qoq (x y : Typ) : eqTy x y = eqTy y x := by unfold eqTy; rw [Qar x.name, Qar x.sub, Qbs Qoe]
theorem Qop (x : Typ) : eqTy x x = true := by unfold eqTy; rw [Qbr Qod]; simp
theorem Qog (x y : Dcl) : eqDc x y = eqDc y x := by unfold eqDc; rw [Qar x.name, Qbs Qio, Qar x.input, Qar x.output]
theorem Qof (x : Dcl) : eqDc x x = true := by unfold eqDc; rw [Qbr Qin]; simp
theorem Qoj (x y : Ini) : eqIn x y = eqIn y x := by unfold eqIn; rw [Qar x.name, Qar x.comp]
theorem Qoi (x : Ini) : eqIn x x = true := by unfold eqIn; simp
theorem Qob (x y : Cls) : eqCl x y = eqCl y x := by unfold eqCl; rw [Qlf x.head, Qbs Qol]
theorem Qoa (x : Cls) : eqCl x x = true := by unfold eqCl; rw [Qle, Qbr Qok]; rfl
mutual
theorem Qom : ∀ p q : Pg, eqPg p q = eqPg q p
 | .mk ts ds cs is ls, .mk ts' ds' cs' is' ls' => by rw [eqPg, eqPg, Qbs Qoq ts, Qbs Qog ds, Qgl cs cs', Qbs Qoj is, Qbs Qob ls]
theorem Qgl : ∀ xs ys : List Cp, eqCps xs ys = eqCps ys xs
 | [], [] => rfl
 | [], _ :: _ => by simp [eqCps]
 | _ :: _, [] => by simp [eqCps]
 | (n, bs, p, _) :: xs, (n', bs', p', _) :: ys => by rw [eqCps, eqCps, Qar n n', Qbs Qoo bs, Qom p p', Qgl xs ys]
end
mutual
theorem Qip : ∀ p : Pg, eqPg p p = true
 | .mk ts ds cs is ls => by rw [eqPg, Qbr Qop, Qbr Qof, Qgk cs, Qbr Qoi, Qbr Qoa]; rfl
theorem Qgk : ∀ xs : List Cp, eqCps xs xs = true
 | [] => by simp [eqCps]
 | (n, bs, p, _) :: xs => by rw [eqCps, Qbr Qon, Qip p, Qgk xs]; simp
end
end
section
theorem Qcf {α : Type} {eq : α → α → Bool} {T : α → Txt} (h : ∀ x y, eq x y = true → T x = T y) : ∀ xs ys : List α, eqL eq xs ys = true → xs.map T = ys.map T
 | [], [], _ => rfl
 | [], y :: ys, e => by simp [eqL] at e
 | x :: xs, [], e => by simp [eqL] at e
 | x :: xs, y :: ys, e => by
  rw [Qdi, Bool.and_eq_true] at e
  rw [List.map_cons, List.map_cons, h x y e.1, Qcf h xs ys e.2]
mutual
theorem Qse : ∀ x y : Ex, eqE x y = true → exT x = exT y ∧ x.kind = y.kind
 | .mk k n s ks a, .mk k' n' s' ks' a', h => by
  simp only [eqE, Bool.and_eq_true, decide_eq_true_eq] at h
  obtain ⟨⟨⟨rfl, rfl⟩, rfl⟩, h4⟩ := h
  obtain ⟨e1, e2⟩ := Qtv ks ks' h4
  exact ⟨by rw [exT, exT, e1, e2], rfl⟩
theorem Qtv : ∀ xs ys : List Ex, eqEs xs ys = true → exTs xs = exTs ys ∧ xs.map Ex.kind = ys.map Ex.kind
 | [], [], _ => ⟨rfl, rfl⟩
 | [], y :: ys, e => by simp [eqEs] at e
 | x :: xs, [], e => by simp [eqEs] at e
 | x :: xs, y :: ys, e => by
  simp only [eqEs, Bool.and_eq_true] at e
  obtain ⟨a1, a2⟩ := Qse x y e.1
  obtain ⟨b1, b2⟩ := Qtv xs ys e.2
  exact ⟨by rw [exTs, exTs, a1, b1], by rw [List.map_cons, List.map_cons, a2, b2]⟩
end
theorem eqL_nil {α : Type} {eq : α → α → Bool} : ∀ xs ys : List α, eqL eq xs ys = true → (xs = [] ↔ ys = [])
 | [], [], _ => by simp
 | [], y :: ys, e => by simp [eqL] at e
 | x :: xs, [], e => by simp [eqL] at e
 | x :: xs, y :: ys, _ => by simp
theorem Qtw (x y : Fld) (h : eqFd x y = true) : fdT x = fdT y := by
 simp only [eqFd, Bool.and_eq_true, decide_eq_true_eq] at h
 rw [fdT, fdT, h.1, h.2]
theorem eqA_T (x y : Atm) (h : eqA x y = true) : amT x = amT y := by
 simp only [eqA, Bool.and_eq_true, decide_eq_true_eq] at h
 rw [amT, amT, h.1, Qcf (fun x y e => (Qse x y e).1) _ _ h.2]
theorem eqLt_T (x y : Lt) (h : eqLt x y = true) : ltT x = ltT y := by
 simp only [eqLt, Bool.and_eq_true, decide_eq_true_eq] at h
 obtain ⟨⟨⟨⟨h1, h2⟩, h3⟩, h4⟩, h5⟩ := h
 rw [ltT, ltT, h1, eqA_T _ _ h2, h3, (Qse _ _ h4).1, (Qse _ _ h5).1]
theorem eqCt_T (x y : Ctr) (h : eqCt x y = true) : ctT x = ctT y := by
 simp only [eqCt, Bool.and_eq_true, decide_eq_true_eq] at h
 rw [ctT, ctT, h.1, Qcf Qtw _ _ h.2]
theorem eqTy_T (x y : Typ) (h : eqTy x y = true) : tyT x = tyT y := by
 simp only [eqTy, Bool.and_eq_true, decide_eq_true_eq] at h
 rw [tyT, tyT, h.1.1, h.1.2, Qcf eqCt_T _ _ h.2]
theorem eqDc_T (x y : Dcl) (h : eqDc x y = true) : dcT x = dcT y := by
 simp only [eqDc, Bool.and_eq_true, decide_eq_true_eq] at h
 rw [dcT, dcT, h.1.1.1, Qcf Qtw _ _ h.1.1.2, h.1.2, h.2]
theorem eqIn_T (x y : Ini) (h : eqIn x y = true) : inT x = inT y := by
 simp only [eqIn, Bool.and_eq_true, decide_eq_true_eq] at h
 rw [inT, inT, h.1, h.2]
theorem eqCl_T (x y : Cls) (h : eqCl x y = true) : clT x = clT y := by
 simp only [eqCl, Bool.and_eq_true] at h
 have hn := eqL_nil _ _ h.2
 rw [clT, clT, eqA_T _ _ h.1, Qcf eqLt_T _ _ h.2]
 by_cases hb : x.body = []
 · rw [if_pos hb, if_pos (hn.1 hb)]
 · rw [if_neg hb, if_neg (fun e => hb (hn.2 e))]
theorem eqTx_id (x y : Txt) (h : eqTx x y = true) : id x = id y := by simpa [eqTx] using h
mutual
theorem Qtx : ∀ p q : Pg, eqPg p q = true → pgT p = pgT q
 | .mk ts ds cs is ls, .mk ts' ds' cs' is' ls', h => by
  simp only [eqPg, Bool.and_eq_true] at h
  obtain ⟨⟨⟨⟨h1, h2⟩, h3⟩, h4⟩, h5⟩ := h
  rw [pgT, pgT, Qcf eqTy_T _ _ h1, Qcf eqDc_T _ _ h2, Qoc cs cs' h3, Qcf eqIn_T _ _ h4, Qcf eqCl_T _ _ h5]
theorem Qoc : ∀ cs ds : List Cp, eqCps cs ds = true → cpTs cs = cpTs ds
 | [], [], _ => rfl
 | [], y :: ys, e => by simp [eqCps] at e
 | x :: xs, [], e => by simp [eqCps] at e
 | (n, bs, p, a) :: xs, (n', bs', p', a') :: ys, e => by
  simp only [eqCps, Bool.and_eq_true, decide_eq_true_eq] at e
  obtain ⟨⟨⟨h1, h2⟩, h3⟩, h4⟩ := e
  have hb := Qcf eqTx_id _ _ h2
  rw [List.map_id, List.map_id] at hb
  rw [cpTs, cpTs, h1, hb, Qtx p p' h3, Qoc xs ys h4]
end
def showP (p : Pg) : Txt × Int := if 65536 < (pgT p).length then ([], 2) else match parseP (pgT p) with
 | .bad _ _ _ => ([], 1)
 | .ok q _ _ => if eqPg q p then (pgT p, 0) else ([], 1)
def formatP (s : Txt) : Txt × Int × Int := match parseP s with
 | .bad why a _ => ([], why, a)
 | .ok p _ _ => ((showP p).1, (showP p).2, 0)
theorem Qpg {s : Txt} (h : (formatP s).2 ≠ (0, 0)) : (formatP s).1 = [] := by
 unfold formatP at *
 cases hp : parseP s with
 | bad w a l => rfl
 | ok p l i =>
  rw [hp] at h
  simp only [showP] at h ⊢
  split
  · rfl
  rename_i hl
  rw [if_neg hl] at h
  split
  · rfl
  rename_i q _ _ hq
  rw [hq] at h
  simp only at h ⊢
  split
  · rename_i he; rw [if_pos he] at h; exact absurd rfl h
  · rfl
theorem Qiq {s t : Txt} (h : formatP s = (t, 0, 0)) (hw : ∀ {w a l}, parseP s = .bad w a l → w ≠ 0) : formatP t = (t, 0, 0) := by
 unfold formatP at h
 cases hp : parseP s with
 | bad w a l =>
  rw [hp] at h
  simp only [Prod.mk.injEq] at h
  exact absurd h.2.1 (hw hp)
 | ok p l i =>
  rw [hp] at h
  simp only [Prod.mk.injEq, and_true] at h
  obtain ⟨h1, h2⟩ := h
  unfold showP at h1 h2
  by_cases hl : 65536 < (pgT p).length
  · rw [if_pos hl] at h2; exact absurd h2 (by decide)
  rw [if_neg hl] at h1 h2
  cases hq : parseP (pgT p) with
  | bad w a l => rw [hq] at h2; exact absurd (show (1 : Int) = 0 from h2) (by decide)
  | ok q l2 i2 =>
   rw [hq] at h1 h2
   simp only at h1 h2
   cases he : eqPg q p with
   | false => rw [he] at h2; exact absurd (show (1 : Int) = 0 from h2) (by decide)
   | true =>
    rw [he] at h1
    have et : pgT p = t := h1
    have e2 := Qtx q p he
    unfold formatP
    rw [← et, hq]
    simp only [showP]
    rw [e2, if_neg hl, hq]
    simp only [Qip, if_true]
end
section
open Go.RowKit Go.Maps
theorem w3drew {w : World} {b : Nat} {p v q : Value} (hb : w.heap[b]? = some (.cells #[p, v, q] 55 (0, 0))) : w.drew.cell? ⟨b, 1, none⟩ = some v := by
 have : w.drew.heap[b]? = some (.cells #[p, v, q] 55 (0, 0)) := hb
 rw [Lib.cell_of_heap this]; rfl
theorem Qtq {B b : Nat} {w : World} {p q : Value} (hb : w.heap[b]? = some (.cells #[p, .slice none 0 0, q] 55 (0, 0))) :
  Calls Tryz.prog 14 #[.pointer (some ⟨b, 0, none⟩)] w fun e w' => e = .returned (.string ⟨#[]⟩) ∧ Below B w w' := by
 have mixed : Tryz.prog.follows .mixedOrders = true := by kernel_rfl
 have hUS := fun (W : World) (q : Option Addr) => Lib.run_unsafeString_none (P := Tryz.prog) W 107 3 9 q
 have c1 := w3drew hb
 have hSD : (Builtin.unsafeSliceData_ #[51] 107 #[.slice none 0 0]).run Tryz.prog w.drew = .ok (.pointer none) w.drew := rfl
 clear hb
 go_enter Tryz.func14, Tryz.ntmps14
 go_wp2
 go_region_o
 all_goals (go_wp2; go_ret; exact ⟨rfl, Below.drew (Below.refl B w)⟩)
theorem Qku {B b g : Nat} {w : World} {p q : Value} {cur : Array Value} (hBw : B ≤ w.heap.size) (hb : w.heap[b]? = some (.cells #[p, .slice (some ⟨g, 0, none⟩) 0 0, q] 55 (0, 0))) (fz : Nat × Nat) (hg : w.heap[g]? = some (.cells cur 5 fz)) :
  Calls Tryz.prog 14 #[.pointer (some ⟨b, 0, none⟩)] w fun e w' => e = .returned (.string ⟨#[]⟩) ∧ Below B w w' := by
 have mixed : Tryz.prog.follows .mixedOrders = true := by kernel_rfl
 have hUS := fun (W : World) (q : Option Addr) => Lib.run_unsafeString_none (P := Tryz.prog) W 107 3 9 q
 have c1 := w3drew hb
 have hlt : b < w.drew.heap.size := Qaf hb
 have hSD : (Builtin.unsafeSliceData_ #[51] 107 #[.slice (some ⟨g, 0, none⟩) 0 0]).run Tryz.prog w.drew = .ok (.pointer (some ⟨w.drew.heap.size, 0, none⟩)) (w.drew.alloc (.view ⟨g, 0, none⟩ 5)) :=
  Lib.run_unsafeSliceData_zero w.drew _ _ 5 Tryz.underlying107 ⟨g, 0, none⟩ 0 (5, cur.size) (by have hg' : w.drew.heap[g]? = some (.cells cur 5 fz) := hg; simp [World.shape?, hg'])
 have c2 : (w.drew.alloc (.view ⟨g, 0, none⟩ 5)).cell? ⟨b, 1, none⟩ = some (.slice (some ⟨g, 0, none⟩) 0 0) := by
  have : (w.drew.alloc (.view ⟨g, 0, none⟩ 5)).heap[b]? = _ := (Lib.alloc_old w.drew _ b hlt).trans hb
  rw [Lib.cell_of_heap this]; rfl
 have c3 : (w.alloc (.view ⟨g, 0, none⟩ 5)).drew.cell? ⟨b, 1, none⟩ = some (.slice (some ⟨g, 0, none⟩) 0 0) := c2
 have c0 : w.cell? ⟨b, 1, none⟩ = some (.slice (some ⟨g, 0, none⟩) 0 0) := c1
 clear hb hg hlt
 go_enter Tryz.func14, Tryz.ntmps14
 go_wp2
 go_region_o
 all_goals (go_wp2; go_ret; exact ⟨rfl, (Below.drew (Below.refl B w)).alloc hBw _⟩)
theorem Qrs {B b g cap : Nat} {w : World} {p q : Value} (hc0 : cap ≠ 0) (hb : w.heap[b]? = some (.cells #[p, .slice (some ⟨g, 0, none⟩) 0 cap, q] 55 (0, 0))) :
  Calls Tryz.prog 14 #[.pointer (some ⟨b, 0, none⟩)] w fun e w' => e = .returned (.string ⟨#[]⟩) ∧ Below B w w' := by
 have mixed : Tryz.prog.follows .mixedOrders = true := by kernel_rfl
 have hUS := fun (W : World) (q : Option Addr) => Lib.run_unsafeString_none (P := Tryz.prog) W 107 3 9 q
 have c1 := w3drew hb
 have hSD : (Builtin.unsafeSliceData_ #[51] 107 #[.slice (some ⟨g, 0, none⟩) 0 cap]).run Tryz.prog w.drew = .ok (.pointer (some ⟨g, 0, none⟩)) w.drew :=
  Lib.run_unsafeSliceData_row _ _ _ _ _ _ hc0
 clear hc0 hb
 go_enter Tryz.func14, Tryz.ntmps14
 go_wp2
 go_region_o
 all_goals (go_wp2; go_ret; exact ⟨rfl, Below.drew (Below.refl B w)⟩)
theorem Qkv {B b : Nat} {c : Txt} {lg : Bool} {w : World} (h : Wr B b c lg w) :
  Calls Tryz.prog 14 #[.pointer (some ⟨b, 0, none⟩)] w fun e w' => e = .returned (str c) ∧ Below B w w' := by
 have hBw := h.hB
 obtain ⟨p, v, hb, hp, hown, hne⟩ := h.box
 by_cases h0 : c = []
 ·
  subst h0
  rcases hown.2 with ⟨rfl, _⟩ | ⟨g, cap, cur, fz, rfl, hbg, hg, _, _, _, _, _⟩
  · exact Qtq hb
  by_cases hc0 : cap = 0
  ·
   subst hc0
   exact Qku hBw hb fz hg
  · exact Qrs hc0 hb
 have hl0 : c.length ≠ 0 := by simpa using h0
 obtain ⟨g, cap, cur, fz, rfl, hbg, hg, hfz, hnc, hcm, hcs, htake⟩ : ∃ g cap cur fz, v = .slice (some ⟨g, 0, none⟩) c.length cap ∧ B ≤ g ∧ w.heap[g]? = some (.cells cur 5 fz) ∧ fz.2 ≤ c.length * 1 ∧ c.length ≤ cap ∧ cap ≤ maxLen ∧ cur.size = cap * 1 ∧ _ := by
  rcases hown.2 with ⟨_, hz⟩ | ⟨g, cap, cur, fz, hv, r⟩
  · exact absurd hz hl0
  · exact ⟨g, cap, cur, fz, hv, r⟩
 have c1 := w3drew hb
 have hSD : (Builtin.unsafeSliceData_ #[51] 107 #[.slice (some ⟨g, 0, none⟩) c.length cap]).run Tryz.prog w.drew = .ok (.pointer (some ⟨g, 0, none⟩)) w.drew :=
  Lib.run_unsafeSliceData_row _ _ _ _ _ _ (by omega)
 have mixed : Tryz.prog.follows .mixedOrders = true := by kernel_rfl
 have hUS : (Builtin.unsafeString_ #[107, 3] 9 #[.pointer (some ⟨g, 0, none⟩), .int .i64 c.length]).run Tryz.prog w.drew = .ok (.string ⟨c.toArray⟩) (w.drew.freeze ⟨g, 0, none⟩ c.length) := by
  refine Lib.run_unsafeString_row w.drew 107 3 9 5 Tryz.underlying107 (by kernel_rfl) g cur.size (by have hg' : w.drew.heap[g]? = some (.cells cur 5 fz) := hg; simp [World.shape?, hg']) c h0 (by omega) (by unfold maxLen at hcm; omega) ?_
  intro j x hx
  have := hown.cells (g := g) rfl j (.int .u8 x.toNat) (by simp [Lib.byteCells, hx])
  exact this
 obtain ⟨n, hn⟩ : ∃ n, c.length = n := ⟨_, rfl⟩
 rw [hn] at c1 hSD hUS
 have HG := hide hbg
 clear h hb hown hg hne hn hfz hnc hcm hcs htake hl0 h0
 go_enter Tryz.func14, Tryz.ntmps14
 go_wp2
 go_region_o
 all_goals (go_wp2; go_ret; exact ⟨rfl, Lib.below_freeze (Below.drew (Below.refl B w)) (p := ⟨g, 0, none⟩) (Qa HG) _⟩)
end
section
section
variable {α β : Type} {e : Nat}
def Bw (R : Rs α) : Prop := ∀ w a l, R = .bad w a l → w ≠ 0
def BwP (P : Pr α) : Prop := ∀ l i, Bw (P l i)
theorem Bw.bind {R : Rs α} {f : α → Pr β} (h : Bw R) (hf : ∀ x, BwP (f x)) : Bw (R.bind f) := fun w a l hb => by
 cases R with
 | bad w2 a2 l2 => injection hb with h1 _ _; subst h1; exact h _ _ _ rfl
 | ok x l2 i2 => exact hf x l2 i2 w a l hb
theorem Bw.map {R : Rs α} {g : α → β} (h : Bw R) : Bw (R.map g) := fun w a l hb => by
 cases R with
 | bad w2 a2 l2 => injection hb with h1 _ _; subst h1; exact h _ _ _ rfl
 | ok x l2 i2 => cases hb
theorem Bw.ok {x : α} {l : List Tok} {i : Nat} : Bw (.ok x l i) := fun _ _ _ h => by cases h
theorem Bw.refuse {why : Int} (hw : why ≠ 0) {l : List Tok} {i : Nat} : Bw (refuse (α := α) e why l i) := fun _ _ _ h => by
 injection h with h1 _ _
 subst h1
 exact hw
theorem Bw.ite {p : Prop} [Decidable p] {A B : Rs α} (hA : Bw A) (hB : Bw B) : Bw (if p then A else B) := by
 split
 · exact hA
 · exact hB
theorem Qcw (s : Txt) : BwP (want e s) := fun _ _ => Bw.ite .ok (.refuse (by decide))
theorem Qfl (ss : List Txt) : BwP (choose e ss) := fun _ _ => Bw.ite .ok (.refuse (by decide))
theorem Qnu : BwP (nmQ e) := fun _ _ => Bw.ite .ok (.refuse (by decide))
theorem Qdd : BwP (wordQ e) := fun _ _ => Bw.ite .ok (.refuse (by decide))
theorem Qkz {sep : Txt} {most : Nat} {P : Pr α} (hP : BwP P) : ∀ (f : Nat) (acc : List α), BwP (listL e sep most P f acc)
 | 0, _ => fun _ _ => .ok
 | f + 1, acc => fun l i => by
  unfold listL
  exact Bw.ite (.refuse (by decide)) (Bw.bind (hP l i) (fun _ _ _ => Bw.ite (Qkz hP f _ _ _) .ok))
theorem Qha {sep : Txt} {most : Nat} {P : Pr α} (hP : BwP P) : BwP (listP e sep most P) := fun _ _ => Qkz hP _ _ _ _
theorem Qgz {op cl : Txt} {P : Pr α} (hP : BwP P) : BwP (encl e op cl P) := fun l i => by
 unfold encl
 exact Bw.bind (Qcw op l i) (fun _ _ _ => Bw.ite .ok (Bw.bind (Qha hP _ _) (fun _ _ _ => Bw.map (Qcw cl _ _))))
theorem Qky {P : Pr Ex} {ss : List Txt} (hP : BwP P) : ∀ (f : Nat) (x : Ex), BwP (joinL e P ss f x)
 | 0, _ => fun _ _ => .ok
 | f + 1, x => fun l i => by
  unfold joinL
  exact Bw.ite (Bw.bind (hP _ i) (fun _ _ _ => Qky hP f _ _ _)) .ok
theorem Qie {P : Pr Ex} {ss : List Txt} (hP : BwP P) : BwP (joined e P ss) := fun l i => by
 unfold joined
 exact Bw.bind (hP l i) (fun _ _ _ => Qky hP _ _ _ _)
theorem Qnv {E F : Pr Ex} (hE : BwP E) (hF : BwP F) : BwP (signed e E F) := fun l i => by
 unfold signed
 exact Bw.bind (Qfl _ l i) (fun _ _ _ => Bw.ite (Bw.map (hF _ _)) (Bw.ite (Bw.bind (hE _ _) (fun _ _ _ => Bw.map (Qcw _ _ _))) (Bw.bind (Qdd _ _) (fun _ _ _ => Bw.map (Qgz hE _ _)))))
theorem Qnt {E F : Pr Ex} (hE : BwP E) (hF : BwP F) : BwP (factorB e E F) := fun l i => by
 unfold factorB
 exact Bw.ite .ok (Bw.ite .ok (Bw.ite (Bw.ite .ok (Bw.map (Qdd _ _))) (Qnv hE hF _ _)))
theorem Qmc : ∀ d, BwP (exD e d).1 ∧ BwP (exD e d).2
 | 0 => ⟨fun _ i => Bw.refuse (i := i) (by decide), fun _ i => Bw.refuse (i := i) (by decide)⟩
 | d + 1 => ⟨Qie (Qie (Qmc d).2), Qnt (Qmc d).1 (Qmc d).2⟩
theorem Qjq (d : Nat) : BwP (atomP e d) := fun l i => by
 unfold atomP
 exact Bw.bind (Qnu l i) (fun _ _ _ => Bw.map (Qgz (Qmc d).1 _ _))
theorem bw_lit (d : Nat) : BwP (litP e d) := fun l i => by
 unfold litP
 exact Bw.ite (Bw.map (Qjq d _ _)) (Bw.ite (Bw.map (Qjq d _ _)) (Bw.bind ((Qmc d).1 l i) (fun _ _ _ => Bw.bind (Qfl _ _ _) (fun _ _ _ => Bw.map ((Qmc d).1 _ _)))))
theorem Qns (d : Nat) : BwP (clauseP e d) := fun l i => by
 unfold clauseP
 exact Bw.bind (Qjq d l i) (fun _ _ _ => Bw.ite (Bw.bind (Qha (bw_lit d) _ _) (fun _ _ _ => Bw.map (Qcw _ _ _))) (Bw.map (Qcw _ _ _)))
theorem Qkx : BwP (fieldP e) := fun l i => by
 unfold fieldP
 exact Bw.bind (Qdd l i) (fun _ _ _ => Bw.bind (Qcw _ _ _) (fun _ _ _ => Bw.map (Qnu _ _)))
theorem bw_ctor : BwP (ctorP e) := fun l i => by
 unfold ctorP
 exact Bw.bind (Qdd l i) (fun _ _ _ => Bw.map (Qgz Qkx _ _))
theorem bw_type : BwP (typeP e) := fun l i => by
 unfold typeP
 exact Bw.bind (Qdd _ i) (fun _ _ _ => Bw.bind (Qfl _ _ _) (fun _ _ _ => Bw.ite (Bw.map (Qnu _ _)) (Bw.map (Qha bw_ctor _ _))))
theorem Qh : ∀ (f : Nat) (a b : Bool), BwP (flagL e f a b)
 | 0, _, _ => fun _ _ => .ok
 | f + 1, a, b => fun l i => by
  unfold flagL
  exact Bw.ite (Bw.ite (Qh f _ _ _ _) (Bw.ite (Qh f _ _ _ _) .ok)) .ok
theorem bw_decl : BwP (declP e) := fun l i => by
 unfold declP
 exact Bw.bind (Qdd _ i) (fun _ _ _ => Bw.bind (Qgz Qkx _ _) (fun _ _ _ => Bw.map (Qh _ _ _ _ _)))
theorem bw_init : BwP (initP e) := fun l i => by
 unfold initP
 exact Bw.bind (Qdd _ i) (fun _ _ _ => Bw.bind (Qcw _ _ _) (fun _ _ _ => Bw.map (Qnu _ _)))
theorem bw_comp {B : Pr Pg} (hB : BwP B) : BwP (compB e B) := fun l i => by
 unfold compB
 exact Bw.bind (Qdd _ i) (fun _ _ _ => Bw.bind (Bw.ite (Qha Qnu _ _) .ok) (fun _ _ _ => Bw.bind (Qcw _ _ _) (fun _ _ _ => Bw.bind (hB _ _) (fun _ _ _ => Bw.map (Qcw _ _ _)))))
theorem bw_item {d : Nat} {C : Pr (Txt × List Txt × Pg × Int)} (hC : BwP C) (p : Pg) : BwP (itemP e d C p) := fun l i => by
 unfold itemP
 exact Bw.ite (.refuse (by decide)) (Bw.ite (Bw.map (bw_type _ _)) (Bw.ite (Bw.map (bw_decl _ _)) (Bw.ite (Bw.map (hC _ _)) (Bw.ite (Bw.map (bw_init _ _)) (Bw.map (Qns d _ _))))))
theorem Qhb {d : Nat} {top : Bool} {C : Pr (Txt × List Txt × Pg × Int)} (hC : BwP C) : ∀ (f : Nat) (p : Pg), BwP (progL e top d C f p)
 | 0, _ => fun _ _ => .ok
 | f + 1, p => fun l i => by
  unfold progL
  exact Bw.ite .ok (Bw.bind (bw_item hC p l i) (fun _ _ _ => Qhb hC f _ _ _))
theorem Qkw : ∀ d, BwP (compC e d)
 | 0 => fun _ i => Bw.refuse (i := i) (by decide)
 | d + 1 => bw_comp (fun l i => by rw [Qdz]; exact Qhb (Qkw d) _ _ _ _)
end
theorem Qdg {s : Txt} {w a : Int} {l : List Tok} (h : parseP s = .bad w a l) : w ≠ 0 := by
 unfold parseP at h
 cases hl : lexP s with
 | bad w2 a2 =>
  rw [hl] at h
  have h : Rs.bad w2 (a2 : Int) [] = .bad w a l := h
  injection h with h1 _ _
  subst h1
  have := Qjy s
  rw [hl] at this
  exact this.1
 | ok toks =>
  rw [hl] at h
  have h : progD s.length 32 true toks 0 = .bad w a l := h
  rw [Qdz] at h
  exact Qhb (Qkw 32) _ _ _ _ _ _ _ h
end
end Go.Proofs.YtccehgfecaamoaaGreatDoor
