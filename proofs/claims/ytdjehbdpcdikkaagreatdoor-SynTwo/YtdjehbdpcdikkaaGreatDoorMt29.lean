/- syn: Same, of any two programs. The plain reading: places turn nothing but places. What stands behind a token's place has no part in what is read ahead of it: plain facts on lists of bytes; no program stands in it. Walk of the document's Same. -/
import Derived.Test.YtdjehbdpcdikkaaGreatDoorMt25
import Derived.Test.YtdjehbdpcdikkaaGreatDoorMt26
import Derived.Test.YtdjehbdpcdikkaaGreatDoorMt27
import Derived.Test.YtdjehbdpcdikkaaGreatDoorMt28
import Derived.Test.YtdjehbdpcdikkaaGreatDoorMt24
namespace Go.Proofs.YtdjehbdpcdikkaaGreatDoor
open Go.RowKit Go.Maps

mutual
/-- The same expression, places aside? -/
def eqE : Ex → Ex → Bool
 | .mk k n s ks _, .mk k' n' s' ks' _ => decide (k = k') && decide (n = n') && decide (s = s') && eqEs ks ks'
def eqEs : List Ex → List Ex → Bool
 | [], [] => true
 | x :: xs, y :: ys => eqE x y && eqEs xs ys
 | _, _ => false
end
theorem eqL_cons {α : Type} (eq : α → α → Bool) (x y : α) (xs ys : List α) : eqL eq (x :: xs) (y :: ys) = (eq x y && eqL eq xs ys) := by
 unfold eqL
 simp only [List.length_cons, List.zip_cons_cons, List.all_cons, Nat.add_right_cancel_iff]
 cases eq x y <;> simp
theorem eqEs_eq : ∀ xs ys : List Ex, eqEs xs ys = eqL eqE xs ys
 | [], [] => by simp [eqEs, eqL]
 | [], y :: ys => by simp [eqEs, eqL]
 | x :: xs, [] => by simp [eqEs, eqL]
 | x :: xs, y :: ys => by rw [eqL_cons, eqEs, eqEs_eq xs ys]
theorem eqE_eq (x y : Ex) : eqE x y = (decide (x.kind = y.kind) && decide (x.num = y.num) && decide (x.txt = y.txt) && eqL eqE x.kids y.kids) := by
 cases x with
 | mk k n s ks a =>
  cases y with
  | mk k' n' s' ks' a' => rw [eqE, eqEs_eq]; rfl
def eqA (x y : Atm) : Bool := decide (x.rel = y.rel) && eqL eqE x.args y.args
def eqLt (x y : Lt) : Bool := decide (x.kind = y.kind) && eqA x.atom y.atom && decide (x.op = y.op) && eqE x.l y.l && eqE x.r y.r
def eqCt (x y : Ctr) : Bool := decide (x.name = y.name) && eqL eqFd x.fields y.fields
def eqTy (x y : Typ) : Bool := decide (x.name = y.name) && decide (x.sub = y.sub) && eqL eqCt x.ctors y.ctors
def eqDc (x y : Dcl) : Bool := decide (x.name = y.name) && eqL eqFd x.cols y.cols && decide (x.input = y.input) && decide (x.output = y.output)
def eqIn (x y : Ini) : Bool := decide (x.name = y.name) && decide (x.comp = y.comp)
def eqCl (x y : Cls) : Bool := eqA x.head y.head && eqL eqLt x.body y.body
mutual
/-- The same program, places aside? -/
def eqPg : Pg → Pg → Bool
 | .mk ts ds cs is ls, .mk ts' ds' cs' is' ls' => eqL eqTy ts ts' && eqL eqDc ds ds' && eqCps cs cs' && eqL eqIn is is' && eqL eqCl ls ls'
def eqCps : List Cp → List Cp → Bool
 | [], [] => true
 | (n, bs, p, _) :: xs, (n', bs', p', _) :: ys => (decide (n = n') && eqL eqTx bs bs' && eqPg p p') && eqCps xs ys
 | _, _ => false
end
def eqCp (x y : Cp) : Bool := decide (x.1 = y.1) && eqL eqTx x.2.1 y.2.1 && eqPg x.2.2.1 y.2.2.1
theorem eqCps_eq : ∀ xs ys : List Cp, eqCps xs ys = eqL eqCp xs ys
 | [], [] => by simp [eqCps, eqL]
 | [], y :: ys => by simp [eqCps, eqL]
 | x :: xs, [] => by simp [eqCps, eqL]
 | (n, bs, p, a) :: xs, (n', bs', p', a') :: ys => by rw [eqL_cons, eqCps, eqCps_eq xs ys]; rfl
theorem eqPg_eq (p q : Pg) : eqPg p q = (eqL eqTy p.types q.types && eqL eqDc p.decls q.decls && eqL eqCp p.comps q.comps && eqL eqIn p.inits q.inits && eqL eqCl p.clauses q.clauses) := by
 cases p
 cases q
 rw [eqPg, eqCps_eq]
 rfl

theorem exS_one (S : Nat → Prop) (w : World) (cs : List Value) (x : Ex) (h : PE S w cs x) : ∀ c ∈ cs, c.oneCell' = true := by
 obtain ⟨v, rfl, ⟨ao, cap, rfl⟩, _⟩ := h.cells
 simp [Value.oneCell', str]
theorem pc_one (S : Nat → Prop) (w : World) (cs : List Value) (x : Ctr) (h : PC S w cs x) : ∀ c ∈ cs, c.oneCell' = true := by
 obtain ⟨_, _, _, rfl, _⟩ := h
 simp [Value.oneCell', str]
theorem pty_one (S : Nat → Prop) (w : World) (cs : List Value) (x : Typ) (h : PTy S w cs x) : ∀ c ∈ cs, c.oneCell' = true := by
 obtain ⟨_, _, _, rfl, _⟩ := h
 simp [Value.oneCell', str]
theorem pdc_one (S : Nat → Prop) (w : World) (cs : List Value) (x : Dcl) (h : PDc S w cs x) : ∀ c ∈ cs, c.oneCell' = true := by
 obtain ⟨_, _, _, rfl, _⟩ := h
 simp [Value.oneCell', str]
theorem pin_one (S : Nat → Prop) (w : World) (cs : List Value) (x : Ini) (h : PIn S w cs x) : ∀ c ∈ cs, c.oneCell' = true := by
 have e : cs = _ := h
 subst e
 simp [Value.oneCell', str]
theorem pcl_one (S : Nat → Prop) (w : World) (cs : List Value) (x : Cls) (h : PCl S w cs x) : ∀ c ∈ cs, c.oneCell' = true := by
 obtain ⟨_, _, _, _, _, _, rfl, _⟩ := h
 simp [Value.oneCell', str]
theorem list5 {a b c d e a' b' c' d' e' : Value} (h : [a, b, c, d, e] = [a', b', c', d', e']) : a = a' ∧ b = b' ∧ c = c' ∧ d = d' ∧ e = e' := by simpa using h

/-- Two expressions. -/
theorem sameE_any (x : Ex) : ∀ (y : Ex) (S : Nat → Prop) (w : World) (c0 c1 c2 c3 c4 d0 d1 d2 d3 d4 : Value), ExS S w [c0, c1, c2, c3, c4] x → ExS S w [d0, d1, d2, d3, d4] y →
  Calls Tryz.prog 95 #[.agg #[c0, c1, c2, c3, c4], .agg #[d0, d1, d2, d3, d4]] w fun en w' => en = .returned (.bool (eqE x y)) ∧ Below w.heap.size w w' :=
 match x with
 | .mk k n s ks a => fun y S w c0 c1 c2 c3 c4 d0 d1 d2 d3 d4 hx hy => by
  obtain ⟨v, ex, ⟨xa, xc, rfl⟩, hkx⟩ := hx.cells
  obtain ⟨u, ey, ⟨ya, yc, rfl⟩, hky⟩ := hy.cells
  simp only [List.cons.injEq, and_true] at ex ey
  obtain ⟨rfl, rfl, rfl, rfl, rfl⟩ := ex
  obtain ⟨rfl, rfl, rfl, rfl, rfl⟩ := ey
  rw [eqE_eq]
  refine sameExprs_ch rfl rfl rfl (fun w' hb => ?_)
  refine (eqf_e exS_ok exS_one eqE (hkx.later exS_ok hb) (hky.later exS_ok hb) (fun j x1 y1 hx1 hy1 w1 e0 e1 e2 e3 e4 f0 f1 f2 f3 f4 _ h1 h2 => ?_)).mono (fun _ _ h => h)
  have hm : x1 ∈ ks := List.mem_of_getElem? hx1
  exact sameE_any x1 y1 S w1 e0 e1 e2 e3 e4 f0 f1 f2 f3 f4 h1 h2
termination_by SizeOf.sizeOf x
decreasing_by
 have := List.sizeOf_lt_of_mem hm
 simp only [Ex.mk.sizeOf_spec]
 omega
theorem sameA_any {x y : Atm} {S : Nat → Prop} {w : World} {xa ya : Option Addr} {xn xc yn yc : Nat} (hx : LsAt PE 5 S w (.slice xa xn xc) x.args) (hy : LsAt PE 5 S w (.slice ya yn yc) y.args) :
  Calls Tryz.prog 65 #[.agg #[str x.rel, .slice xa xn xc, .int .i64 x.at_], .agg #[str y.rel, .slice ya yn yc, .int .i64 y.at_]] w fun en w' => en = .returned (.bool (eqA x y)) ∧ Below w.heap.size w w' := by
 unfold eqA
 exact sameAtoms_ch rfl (fun w' hb => eqf_e exS_ok exS_one eqE (hx.later exS_ok hb) (hy.later exS_ok hb) (fun j x1 y1 _ _ w1 e0 e1 e2 e3 e4 f0 f1 f2 f3 f4 _ h1 h2 => sameE_any x1 y1 S w1 e0 e1 e2 e3 e4 f0 f1 f2 f3 f4 h1 h2))
theorem sameL_any {x y : Lt} {S : Nat → Prop} {w : World} {cs ds : List Value} (hx : PLt S w cs x) (hy : PLt S w ds y) :
  Calls Tryz.prog 67 #[.agg cs.toArray, .agg ds.toArray] w fun en w' => en = .returned (.bool (eqLt x y)) ∧ Below w.heap.size w w' := by
 obtain ⟨_, _, _, _, _, _, _, _, _, rfl, h1, h2, h3⟩ := hx
 obtain ⟨_, _, _, _, _, _, _, _, _, rfl, g1, g2, g3⟩ := hy
 unfold eqLt
 refine sameLits_ch rfl (fun w' hb => ?_) rfl (fun w' hb => ?_) (fun w' hb => ?_)
 · exact sameA_any (h1.later exS_ok hb) (g1.later exS_ok hb)
 · exact sameE_any _ _ S _ _ _ _ _ _ _ _ _ _ _ (exS_ok.same _ _ _ _ _ h2 hb.size (fun b _ hl => hb.block b hl)) (exS_ok.same _ _ _ _ _ g2 hb.size (fun b _ hl => hb.block b hl))
 · exact sameE_any _ _ S _ _ _ _ _ _ _ _ _ _ _ (exS_ok.same _ _ _ _ _ h3 hb.size (fun b _ hl => hb.block b hl)) (exS_ok.same _ _ _ _ _ g3 hb.size (fun b _ hl => hb.block b hl))
theorem sameC_any {x y : Ctr} {S : Nat → Prop} {w : World} {cs ds : List Value} (hx : PC S w cs x) (hy : PC S w ds y) :
  Calls Tryz.prog 62 #[.agg cs.toArray, .agg ds.toArray] w fun en w' => en = .returned (.bool (eqCt x y)) ∧ Below w.heap.size w w' := by
 obtain ⟨_, _, _, rfl, h1⟩ := hx
 obtain ⟨_, _, _, rfl, g1⟩ := hy
 unfold eqCt
 exact sameCtors_ch rfl (fun w' hb => equal_f (h1.later pf_ok hb) (g1.later pf_ok hb))
theorem sameT_any {x y : Typ} {S : Nat → Prop} {w : World} {cs ds : List Value} (hx : PTy S w cs x) (hy : PTy S w ds y) :
  Calls Tryz.prog 24 #[.agg cs.toArray, .agg ds.toArray] w fun en w' => en = .returned (.bool (eqTy x y)) ∧ Below w.heap.size w w' := by
 obtain ⟨_, _, _, rfl, h1⟩ := hx
 obtain ⟨_, _, _, rfl, g1⟩ := hy
 unfold eqTy
 exact sameTypes_ch rfl rfl (fun w' hb => eqf_c pc_ok pc_one eqCt (h1.later pc_ok hb) (g1.later pc_ok hb) (fun j x1 y1 _ _ w1 e0 e1 f0 f1 _ h1 h2 => sameC_any h1 h2))
theorem sameD_any {x y : Dcl} {S : Nat → Prop} {w : World} {cs ds : List Value} (hx : PDc S w cs x) (hy : PDc S w ds y) :
  Calls Tryz.prog 26 #[.agg cs.toArray, .agg ds.toArray] w fun en w' => en = .returned (.bool (eqDc x y)) ∧ Below w.heap.size w w' := by
 obtain ⟨_, _, _, rfl, h1⟩ := hx
 obtain ⟨_, _, _, rfl, g1⟩ := hy
 unfold eqDc
 exact sameDecls_ch rfl (fun w' hb => equal_f (h1.later pf_ok hb) (g1.later pf_ok hb)) rfl rfl
theorem sameI_any {x y : Ini} {S : Nat → Prop} {w : World} {cs ds : List Value} (hx : PIn S w cs x) (hy : PIn S w ds y) :
  Calls Tryz.prog 30 #[.agg cs.toArray, .agg ds.toArray] w fun en w' => en = .returned (.bool (eqIn x y)) ∧ Below w.heap.size w w' := by
 have e1 : cs = _ := hx
 have e2 : ds = _ := hy
 subst e1
 subst e2
 unfold eqIn
 exact sameInits_ch rfl rfl
theorem sameQ_any {x y : Cls} {S : Nat → Prop} {w : World} {cs ds : List Value} (hx : PCl S w cs x) (hy : PCl S w ds y) :
  Calls Tryz.prog 32 #[.agg cs.toArray, .agg ds.toArray] w fun en w' => en = .returned (.bool (eqCl x y)) ∧ Below w.heap.size w w' := by
 obtain ⟨_, _, _, _, _, _, rfl, h1, h2⟩ := hx
 obtain ⟨_, _, _, _, _, _, rfl, g1, g2⟩ := hy
 unfold eqCl
 exact sameClauses_ch (fun w' hb => sameA_any (h1.later exS_ok hb) (g1.later exS_ok hb)) (fun w' hb => eqf_l plt_ok (fun _ _ _ _ h => plt_one h) eqLt (h2.later plt_ok hb) (g2.later plt_ok hb) (fun j x1 y1 _ _ w1 _ _ _ _ _ _ _ _ _ _ _ _ _ _ _ _ _ _ _ _ _ _ _ _ _ _ _ _ _ _ _ _ _ h1 h2 => sameL_any h1 h2))
set_option maxRecDepth 100000 in
/-- Two programs. -/
theorem samePg_any (p : Pg) : ∀ (q : Pg) (S : Nat → Prop) (w : World) (c0 c1 c2 c3 c4 d0 d1 d2 d3 d4 : Value), PgS S w [c0, c1, c2, c3, c4] p → PgS S w [d0, d1, d2, d3, d4] q →
  Calls Tryz.prog 9 #[.agg #[c0, c1, c2, c3, c4], .agg #[d0, d1, d2, d3, d4]] w fun en w' => en = .returned (.bool (eqPg p q)) ∧ Below w.heap.size w w' :=
 match p with
 | .mk ts ds cs is ls => fun q S w c0 c1 c2 c3 c4 d0 d1 d2 d3 d4 hx hy => by
  obtain ⟨v0, v1, v2, v3, v4, ex, h0, h1, h2, h3, h4⟩ := hx.cells
  obtain ⟨u0, u1, u2, u3, u4, ey, g0, g1, g2, g3, g4⟩ := hy.cells
  obtain ⟨rfl, rfl, rfl, rfl, rfl⟩ := list5 ex
  obtain ⟨rfl, rfl, rfl, rfl, rfl⟩ := list5 ey
  obtain ⟨_, _, rfl⟩ := h0.sl
  obtain ⟨_, _, rfl⟩ := h1.sl
  obtain ⟨_, _, rfl⟩ := h2.sl
  obtain ⟨_, _, rfl⟩ := h3.sl
  obtain ⟨_, _, rfl⟩ := h4.sl
  obtain ⟨_, _, rfl⟩ := g0.sl
  obtain ⟨_, _, rfl⟩ := g1.sl
  obtain ⟨_, _, rfl⟩ := g2.sl
  obtain ⟨_, _, rfl⟩ := g3.sl
  obtain ⟨_, _, rfl⟩ := g4.sl
  rw [eqPg_eq]
  refine Same_ch (fun w' hb => ?_) (fun w' hb => ?_) (fun w' hb => ?_) (fun w' hb => ?_) (fun w' hb => ?_)
  · exact eqf_t pty_ok pty_one eqTy (h0.later pty_ok hb) (g0.later pty_ok hb) (fun j x1 y1 _ _ w1 _ _ _ _ _ _ _ _ _ a1 a2 => sameT_any a1 a2)
  · exact eqf_d pdc_ok pdc_one eqDc (h1.later pdc_ok hb) (g1.later pdc_ok hb) (fun j x1 y1 _ _ w1 _ _ _ _ _ _ _ _ _ _ _ a1 a2 => sameD_any a1 a2)
  ·
   refine (eqf_p pco_ok (fun _ _ _ _ h => pco_one h) eqCp (h2.later pco_ok hb) (g2.later pco_ok hb) (fun j x1 y1 hx1 hy1 w1 _ _ _ _ _ _ _ _ _ _ _ _ _ _ _ _ _ a1 a2 => ?_)).mono (fun _ _ h => h)
   obtain ⟨vb, bd, e1, e2, e3, e4⟩ := a1
   obtain ⟨vb', bd', e1', e2', e3', e4'⟩ := a2
   obtain ⟨t0, t1, t2, t3, t4, rfl, k0, k1, k2, k3, k4⟩ := e4.cells
   obtain ⟨s0, s1, s2, s3, s4, rfl, m0, m1, m2, m3, m4⟩ := e4'.cells
   obtain ⟨_, _, rfl⟩ := e3.sl
   obtain ⟨_, _, rfl⟩ := e3'.sl
   obtain ⟨_, _, rfl⟩ := k0.sl
   obtain ⟨_, _, rfl⟩ := k1.sl
   obtain ⟨_, _, rfl⟩ := k2.sl
   obtain ⟨_, _, rfl⟩ := k3.sl
   obtain ⟨_, _, rfl⟩ := k4.sl
   obtain ⟨_, _, rfl⟩ := m0.sl
   obtain ⟨_, _, rfl⟩ := m1.sl
   obtain ⟨_, _, rfl⟩ := m2.sl
   obtain ⟨_, _, rfl⟩ := m3.sl
   obtain ⟨_, _, rfl⟩ := m4.sl
   simp only [List.cons_append, List.nil_append, List.cons.injEq, and_true] at e1 e1'
   obtain ⟨rfl, rfl, rfl, rfl, rfl, rfl, rfl, rfl⟩ := e1
   obtain ⟨rfl, rfl, rfl, rfl, rfl, rfl, rfl, rfl⟩ := e1'
   have hm : x1 ∈ cs := List.mem_of_getElem? hx1
   unfold eqCp
   refine sameComps_ch rfl (fun w' hb => equal_s (e3.later pst_ok hb) (e3'.later pst_ok hb)) (fun w' hb => ?_)
   exact samePg_any x1.2.2.1 y1.2.2.1 S w' _ _ _ _ _ _ _ _ _ _ (pgS_ok.same _ _ _ _ _ e4 hb.size (fun b _ hl => hb.block b hl)) (pgS_ok.same _ _ _ _ _ e4' hb.size (fun b _ hl => hb.block b hl))
  · exact eqf_i pin_ok pin_one eqIn (h3.later pin_ok hb) (g3.later pin_ok hb) (fun j x1 y1 _ _ w1 _ _ _ _ _ _ _ a1 a2 => sameI_any a1 a2)
  · exact eqf_q pcl_ok pcl_one eqCl (h4.later pcl_ok hb) (g4.later pcl_ok hb) (fun j x1 y1 _ _ w1 _ _ _ _ _ _ _ _ _ _ _ a1 a2 => sameQ_any a1 a2)
termination_by SizeOf.sizeOf p
decreasing_by
 have h1 := List.sizeOf_lt_of_mem hm
 have h2 : SizeOf.sizeOf x1.2.2.1 < SizeOf.sizeOf x1 := by
  obtain ⟨a, b, c, d⟩ := x1
  simp only [Prod.mk.sizeOf_spec]
  omega
 simp only [Pg.mk.sizeOf_spec]
 omega
end Go.Proofs.YtdjehbdpcdikkaaGreatDoor

namespace Go.Proofs.YtdjehbdpcdikkaaGreatDoor

/-- What a token is, its place aside. -/
def zt (t : Tok) : Int × Txt × Int := (t.kind, t.text, t.num)
def Alk (l l' : List Tok) : Prop := l.map zt = l'.map zt
theorem Alk.len {l l' : List Tok} (h : Alk l l') : l.length = l'.length := by have := congrArg List.length h; simpa using this
theorem Alk.drop {l l' : List Tok} (h : Alk l l') (n : Nat) : Alk (l.drop n) (l'.drop n) := by unfold Alk at *; rw [List.map_drop, List.map_drop, h]
theorem Alk.ahd {l l' : List Tok} (h : Alk l l') (e e' k : Nat) : zt (ahd e k l) = zt (ahd e' k l') := by
 have h1 : (l.map zt)[k]? = (l'.map zt)[k]? := by rw [h]
 rw [List.getElem?_map, List.getElem?_map] at h1
 unfold Go.Proofs.YtdjehbdpcdikkaaGreatDoor.ahd
 rw [List.getD_eq_getElem?_getD, List.getD_eq_getElem?_getD]
 cases h2 : l[k]? with
 | none =>
  rw [h2] at h1
  cases h3 : l'[k]? with
  | none => rfl
  | some y => rw [h3] at h1; cases h1
 | some x =>
  rw [h2] at h1
  cases h3 : l'[k]? with
  | none => rw [h3] at h1; cases h1
  | some y => rw [h3] at h1; simpa using h1
section
variable {α β : Type} {e e' : Nat}
def AlR (r : α → α → Prop) : Rs α → Rs α → Prop
 | .ok x l i, .ok y m j => r x y ∧ Alk l m ∧ i = j
 | .bad w _ l, .bad v _ m => w = v ∧ Alk l m
 | _, _ => False
def Al (r : α → α → Prop) (P P' : Pr α) : Prop := ∀ l l' it, Alk l l' → AlR r (P l it) (P' l' it)
theorem AlR.bind {r : α → α → Prop} {q : β → β → Prop} {R R' : Rs α} {f f' : α → Pr β} (h : AlR r R R') (hf : ∀ x y l m i, r x y → Alk l m → AlR q (f x l i) (f' y m i)) : AlR q (R.bind f) (R'.bind f') := by
 cases R with
 | bad w a l =>
  cases R' with
  | bad v b m => exact h
  | ok y m j => exact h.elim
 | ok x l i =>
  cases R' with
  | bad v b m => exact h.elim
  | ok y m j =>
   obtain ⟨h1, h2, rfl⟩ := h
   exact hf x y l m i h1 h2
theorem AlR.map {r : α → α → Prop} {q : β → β → Prop} {R R' : Rs α} {g g' : α → β} (h : AlR r R R') (hg : ∀ x y, r x y → q (g x) (g' y)) : AlR q (R.map g) (R'.map g') := by
 cases R with
 | bad w a l =>
  cases R' with
  | bad v b m => exact h
  | ok y m j => exact h.elim
 | ok x l i =>
  cases R' with
  | bad v b m => exact h.elim
  | ok y m j => exact ⟨hg x y h.1, h.2⟩
theorem AlR.refuse {r : α → α → Prop} {why : Int} {l l' : List Tok} {it : Nat} (h : Alk l l') : AlR r (refuse e why l it) (refuse e' why l' it) := ⟨rfl, h⟩
theorem AlR.ite {r : α → α → Prop} {p p' : Prop} [Decidable p] [Decidable p'] {A A' B B' : Rs α} (hp : p ↔ p') (hA : p → AlR r A A') (hB : ¬ p → AlR r B B') : AlR r (if p then A else B) (if p' then A' else B') := by
 by_cases h : p
 · rw [if_pos h, if_pos (hp.1 h)]; exact hA h
 · rw [if_neg h, if_neg (fun h' => h (hp.2 h'))]; exact hB h
theorem Alk.kind {l l' : List Tok} (h : Alk l l') (e e' k : Nat) : (Go.Proofs.YtdjehbdpcdikkaaGreatDoor.ahd e k l).kind = (Go.Proofs.YtdjehbdpcdikkaaGreatDoor.ahd e' k l').kind := congrArg (·.1) (h.ahd e e' k)
theorem Alk.text {l l' : List Tok} (h : Alk l l') (e e' k : Nat) : (Go.Proofs.YtdjehbdpcdikkaaGreatDoor.ahd e k l).text = (Go.Proofs.YtdjehbdpcdikkaaGreatDoor.ahd e' k l').text := congrArg (·.2.1) (h.ahd e e' k)
theorem Alk.num {l l' : List Tok} (h : Alk l l') (e e' k : Nat) : (Go.Proofs.YtdjehbdpcdikkaaGreatDoor.ahd e k l).num = (Go.Proofs.YtdjehbdpcdikkaaGreatDoor.ahd e' k l').num := congrArg (·.2.2) (h.ahd e e' k)
theorem Alk.sgn {l l' : List Tok} (h : Alk l l') (e e' : Nat) : Go.Proofs.YtdjehbdpcdikkaaGreatDoor.sgn e l = Go.Proofs.YtdjehbdpcdikkaaGreatDoor.sgn e' l' := by
 unfold Go.Proofs.YtdjehbdpcdikkaaGreatDoor.sgn
 rw [h.kind e e' 0, h.text e e' 0]
theorem Alk.callN {l l' : List Tok} (h : Alk l l') (e e' : Nat) : Go.Proofs.YtdjehbdpcdikkaaGreatDoor.callN e l = Go.Proofs.YtdjehbdpcdikkaaGreatDoor.callN e' l' := by
 unfold Go.Proofs.YtdjehbdpcdikkaaGreatDoor.callN
 rw [h.kind e e' 0, h.kind e e' 1, h.text e e' 1]
theorem Alk.isW {l l' : List Tok} (h : Alk l l') (e e' : Nat) : isW1 (Go.Proofs.YtdjehbdpcdikkaaGreatDoor.ahd e 0 l) = isW1 (Go.Proofs.YtdjehbdpcdikkaaGreatDoor.ahd e' 0 l') := by
 unfold isW1
 rw [h.kind e e' 0, h.text e e' 0]
theorem al_want (s : Txt) : Al (fun _ _ => True) (want e s) (want e' s) := fun l l' it h => by
 unfold want
 exact AlR.ite (by rw [h.sgn e e']) (fun _ => ⟨trivial, h.drop 1, rfl⟩) (fun _ => .refuse h)
theorem al_choose (ss : List Txt) : Al Eq (choose e ss) (choose e' ss) := fun l l' it h => by
 unfold choose
 exact AlR.ite (by rw [h.sgn e e']) (fun _ => ⟨h.text e e' 0, h.drop 1, rfl⟩) (fun _ => .refuse h)
theorem al_nm : Al Eq (nmQ e) (nmQ e') := fun l l' it h => by
 unfold nmQ
 exact AlR.ite (by rw [h.kind e e' 0]) (fun _ => ⟨h.text e e' 0, h.drop 1, rfl⟩) (fun _ => .refuse h)
theorem al_word : Al Eq (wordQ e) (wordQ e') := fun l l' it h => by
 unfold wordQ
 exact AlR.ite (by rw [h.isW e e']) (fun _ => ⟨h.text e e' 0, h.drop 1, rfl⟩) (fun _ => .refuse h)
/-- Two lists, one by one. -/
inductive All2 (r : α → α → Prop) : List α → List α → Prop
 | nil : All2 r [] []
 | cons {x y : α} {xs ys : List α} : r x y → All2 r xs ys → All2 r (x :: xs) (y :: ys)
theorem All2.len {r : α → α → Prop} {xs ys : List α} (h : All2 r xs ys) : xs.length = ys.length := by
 induction h with
 | nil => rfl
 | cons _ _ ih => simp [ih]
theorem All2.snoc {r : α → α → Prop} {xs ys : List α} {x y : α} (h : All2 r xs ys) (hx : r x y) : All2 r (xs ++ [x]) (ys ++ [y]) := by
 induction h with
 | nil => exact .cons hx .nil
 | cons h1 _ ih => exact .cons h1 ih
theorem All2.eqL {eq : α → α → Bool} {xs ys : List α} (h : All2 (fun x y => eq x y = true) xs ys) : eqL eq xs ys = true := by
 induction h with
 | nil => simp [Go.Proofs.YtdjehbdpcdikkaaGreatDoor.eqL]
 | cons h1 _ ih => rw [eqL_cons, h1, ih]; rfl
theorem al_listL {r : α → α → Prop} {sep : Txt} {most : Nat} {P P' : Pr α} (hP : Al r P P') : ∀ (f : Nat) (acc acc' : List α), All2 r acc acc' → Al (All2 r) (listL e sep most P f acc) (listL e' sep most P' f acc')
 | 0, _, _, ha => fun _ _ _ h => ⟨ha, h, rfl⟩
 | f + 1, acc, acc', ha => fun l l' it h => by
  unfold listL
  refine AlR.ite (by rw [ha.len]) (fun _ => .refuse h) (fun _ => ?_)
  refine AlR.bind (hP l l' it h) (fun x y l m i hx hl => ?_)
  exact AlR.ite (by rw [hl.sgn e e']) (fun _ => al_listL hP f _ _ (ha.snoc hx) _ _ _ (hl.drop 1)) (fun _ => ⟨ha.snoc hx, hl, rfl⟩)
theorem al_list {r : α → α → Prop} {sep : Txt} {most : Nat} {P P' : Pr α} (hP : Al r P P') : Al (All2 r) (listP e sep most P) (listP e' sep most P') := fun l l' it h => by
 unfold listP
 rw [h.len]
 exact al_listL hP _ _ _ .nil _ _ _ h
theorem al_encl {r : α → α → Prop} {op cl : Txt} {P P' : Pr α} (hP : Al r P P') : Al (All2 r) (encl e op cl P) (encl e' op cl P') := fun l l' it h => by
 unfold encl
 refine AlR.bind (al_want op l l' it h) (fun _ _ l m i _ hl => ?_)
 refine AlR.ite (by rw [hl.sgn e e']) (fun _ => ⟨.nil, hl.drop 1, rfl⟩) (fun _ => ?_)
 exact AlR.bind (al_list hP _ _ _ hl) (fun xs ys _ _ _ hx h2 => AlR.map (al_want cl _ _ _ h2) (fun _ _ _ => hx))
end
section
variable {e e' : Nat}
abbrev rE (x y : Ex) : Prop := eqE x y = true
theorem rE_mk {k n a b : Int} {s : Txt} {xs ys : List Ex} (h : All2 rE xs ys) : rE (.mk k n s xs a) (.mk k n s ys b) := by
 show eqE _ _ = true
 rw [eqE_eq]
 simp [Ex.kind, Ex.num, Ex.txt, Ex.kids, h.eqL]
theorem rE_num {x y : Ex} (h : rE x y) : x.num = y.num := by
 have h1 : eqE x y = true := h
 rw [eqE_eq] at h1
 simp only [Bool.and_eq_true, decide_eq_true_eq] at h1
 exact h1.1.1.2
theorem rE_op {s : Txt} {x y x' y' : Ex} (h1 : rE x x') (h2 : rE y y') : rE (opE s x y) (opE s x' y') := rE_mk (.cons h1 (.cons h2 .nil))
theorem al_joinL {ss : List Txt} {P P' : Pr Ex} (hP : Al rE P P') : ∀ (f : Nat) (x y : Ex), rE x y → Al rE (joinL e P ss f x) (joinL e' P' ss f y)
 | 0, _, _, hx => fun _ _ _ h => ⟨hx, h, rfl⟩
 | f + 1, x, y, hx => fun l l' it h => by
  unfold joinL
  refine AlR.ite (by rw [h.sgn e e']) (fun _ => ?_) (fun _ => ⟨hx, h, rfl⟩)
  refine AlR.bind (hP _ _ it (h.drop 1)) (fun u v l m i hu hl => ?_)
  rw [h.text e e' 0]
  exact al_joinL hP f _ _ (rE_op hx hu) _ _ _ hl
theorem al_joined {ss : List Txt} {P P' : Pr Ex} (hP : Al rE P P') : Al rE (joined e P ss) (joined e' P' ss) := fun l l' it h => by
 unfold joined
 refine AlR.bind (hP l l' it h) (fun x y l m i hx hl => ?_)
 rw [hl.len]
 exact al_joinL hP _ _ _ hx _ _ _ hl
theorem al_signed {E E' F F' : Pr Ex} (hE : Al rE E E') (hF : Al rE F F') : Al rE (signed e E F) (signed e' E' F') := fun l l' it h => by
 unfold signed
 refine AlR.bind (al_choose _ l l' it h) (fun s s' l2 m i hs hl => ?_)
 subst hs
 refine AlR.ite Iff.rfl (fun _ => ?_) (fun _ => ?_)
 ·
  refine AlR.map (hF _ _ _ hl) (fun x y hx => ?_)
  rw [hl.kind e e' 0]
  by_cases hk : (ahd e' 0 m).kind = 2
  · rw [if_pos hk, if_pos hk, rE_num hx]; exact rE_mk .nil
  · rw [if_neg hk, if_neg hk]; exact rE_op (rE_mk .nil) hx
 ·
  refine AlR.ite Iff.rfl (fun _ => ?_) (fun _ => ?_)
  · exact AlR.bind (hE _ _ _ hl) (fun x y _ _ _ hx h2 => AlR.map (al_want [41] _ _ _ h2) (fun _ _ _ => hx))
  ·
   refine AlR.bind (al_word _ _ _ hl) (fun w w' _ _ _ hw h2 => ?_)
   subst hw
   exact AlR.map (al_encl hE _ _ _ h2) (fun xs ys hx => rE_mk hx)
theorem al_factor {E E' F F' : Pr Ex} (hE : Al rE E E') (hF : Al rE F F') : Al rE (factorB e E F) (factorB e' E' F') := fun l l' it h => by
 unfold factorB
 rw [h.kind e e' 0, h.num e e' 0, h.text e e' 0]
 refine AlR.ite Iff.rfl (fun _ => ⟨rE_mk .nil, h.drop 1, rfl⟩) (fun _ => AlR.ite Iff.rfl (fun _ => ⟨rE_mk .nil, h.drop 1, rfl⟩) (fun _ => AlR.ite Iff.rfl (fun _ => AlR.ite Iff.rfl (fun _ => ⟨rE_mk .nil, h.drop 1, rfl⟩) (fun _ => ?_)) (fun _ => al_signed hE hF _ _ _ h)))
 exact AlR.map (al_word _ _ _ h) (fun w w' hw => by subst hw; exact rE_mk .nil)
theorem al_ex : ∀ d, Al rE (exD e d).1 (exD e' d).1 ∧ Al rE (exD e d).2 (exD e' d).2
 | 0 => ⟨fun _ _ it h => AlR.refuse (it := it) h, fun _ _ it h => AlR.refuse (it := it) h⟩
 | d + 1 => ⟨al_joined (al_joined (al_ex d).2), al_factor (al_ex d).1 (al_ex d).2⟩
abbrev rA (x y : Atm) : Prop := eqA x y = true
theorem al_atom (d : Nat) : Al rA (atomP e d) (atomP e' d) := fun l l' it h => by
 unfold atomP
 refine AlR.bind (al_nm _ _ _ h) (fun n n' _ _ _ hn h2 => ?_)
 subst hn
 exact AlR.map (al_encl (al_ex d).1 _ _ _ h2) (fun xs ys hx => by unfold rA eqA; simp [hx.eqL])
abbrev rLt (x y : Lt) : Prop := eqLt x y = true
theorem rE_none : eqE .none .none = true := rE_mk .nil
theorem rA_none : eqA .none .none = true := by unfold eqA; simp [Atm.none, eqL]
theorem al_lit (d : Nat) : Al rLt (litP e d) (litP e' d) := fun l l' it h => by
 unfold litP
 refine AlR.ite (by rw [h.sgn e e']) (fun _ => ?_) (fun _ => AlR.ite (by rw [h.callN e e']) (fun _ => ?_) (fun _ => ?_))
 · exact AlR.map (al_atom d _ _ _ (h.drop 1)) (fun x y hx => by unfold rLt eqLt; simp [show eqA x y = true from hx, rE_none])
 · exact AlR.map (al_atom d _ _ _ h) (fun x y hx => by unfold rLt eqLt; simp [show eqA x y = true from hx, rE_none])
 ·
  refine AlR.bind ((al_ex d).1 _ _ _ h) (fun x y _ _ _ hx h2 => ?_)
  refine AlR.bind (al_choose _ _ _ _ h2) (fun o o' _ _ _ ho h3 => ?_)
  subst ho
  exact AlR.map ((al_ex d).1 _ _ _ h3) (fun u v hu => by unfold rLt eqLt; simp [show eqE x y = true from hx, show eqE u v = true from hu, rA_none])
abbrev rC (x y : Cls) : Prop := eqCl x y = true
theorem al_clause (d : Nat) : Al rC (clauseP e d) (clauseP e' d) := fun l l' it h => by
 unfold clauseP
 refine AlR.bind (al_atom d _ _ _ h) (fun x y _ _ _ hx h2 => ?_)
 refine AlR.ite (by rw [h2.sgn e e']) (fun _ => ?_) (fun _ => ?_)
 ·
  refine AlR.bind (al_list (al_lit d) _ _ _ (h2.drop 1)) (fun b b' _ _ _ hb h3 => ?_)
  exact AlR.map (al_want [46] _ _ _ h3) (fun _ _ _ => by unfold rC eqCl; simp [show eqA x y = true from hx, hb.eqL])
 · exact AlR.map (al_want [46] _ _ _ h2) (fun _ _ _ => by unfold rC eqCl; simp [show eqA x y = true from hx, eqL])
abbrev rF (x y : Fld) : Prop := eqFd x y = true
theorem al_field : Al rF (fieldP e) (fieldP e') := fun l l' it h => by
 unfold fieldP
 refine AlR.bind (al_word _ _ _ h) (fun n n' _ _ _ hn h2 => ?_)
 refine AlR.bind (al_want [58] _ _ _ h2) (fun _ _ _ _ _ _ h3 => ?_)
 exact AlR.map (al_nm _ _ _ h3) (fun t t' ht => by unfold rF eqFd; simp [hn, ht])
theorem al_ctor : Al (fun x y => eqCt x y = true) (ctorP e) (ctorP e') := fun l l' it h => by
 unfold ctorP
 refine AlR.bind (al_word _ _ _ h) (fun n n' _ _ _ hn h2 => ?_)
 exact AlR.map (al_encl al_field _ _ _ h2) (fun xs ys hx => by unfold eqCt; simp [hn, hx.eqL])
theorem al_type : Al (fun x y => eqTy x y = true) (typeP e) (typeP e') := fun l l' it h => by
 unfold typeP
 refine AlR.bind (al_word _ _ _ (h.drop 1)) (fun n n' _ _ _ hn h2 => ?_)
 refine AlR.bind (al_choose _ _ _ _ h2) (fun s s' _ _ _ hs h3 => ?_)
 subst hs
 refine AlR.ite Iff.rfl (fun _ => ?_) (fun _ => ?_)
 · exact AlR.map (al_nm _ _ _ h3) (fun t t' ht => by unfold eqTy; simp [hn, ht, eqL])
 · exact AlR.map (al_list al_ctor _ _ _ h3) (fun xs ys hx => by unfold eqTy; simp [hn, hx.eqL])
theorem al_flagL : ∀ (f : Nat) (a b : Bool), Al Eq (flagL e f a b) (flagL e' f a b)
 | 0, _, _ => fun _ _ _ h => ⟨rfl, h, rfl⟩
 | f + 1, a, b => fun l l' it h => by
  unfold flagL
  rw [h.kind e e' 0, h.callN e e', h.text e e' 0]
  exact AlR.ite Iff.rfl (fun _ => AlR.ite Iff.rfl (fun _ => al_flagL f _ _ _ _ _ (h.drop 1)) (fun _ => AlR.ite Iff.rfl (fun _ => al_flagL f _ _ _ _ _ (h.drop 1)) (fun _ => ⟨rfl, h, rfl⟩))) (fun _ => ⟨rfl, h, rfl⟩)
theorem al_decl : Al (fun x y => eqDc x y = true) (declP e) (declP e') := fun l l' it h => by
 unfold declP
 refine AlR.bind (al_word _ _ _ (h.drop 1)) (fun n n' _ _ _ hn h2 => ?_)
 refine AlR.bind (al_encl al_field _ _ _ h2) (fun xs ys _ _ _ hx h3 => ?_)
 rw [h3.len]
 exact AlR.map (al_flagL _ _ _ _ _ _ h3) (fun p q hp => by subst hp; unfold eqDc; simp [hn, hx.eqL])
theorem al_init : Al (fun x y => eqIn x y = true) (initP e) (initP e') := fun l l' it h => by
 unfold initP
 refine AlR.bind (al_word _ _ _ (h.drop 1)) (fun n n' _ _ _ hn h2 => ?_)
 refine AlR.bind (al_want [61] _ _ _ h2) (fun _ _ _ _ _ _ h3 => ?_)
 exact AlR.map (al_nm _ _ _ h3) (fun t t' ht => by unfold eqIn; simp [hn, ht])
theorem all2_eq {xs ys : List Txt} (h : All2 Eq xs ys) : eqL eqTx xs ys = true := by
 induction h with
 | nil => simp [eqL]
 | cons h1 _ ih => rw [eqL_cons, ih]; unfold eqTx; simp [h1]
theorem al_comp {B B' : Pr Pg} (hB : Al (fun x y => eqPg x y = true) B B') : Al (fun x y => eqCp x y = true) (compB e B) (compB e' B') := fun l l' it h => by
 unfold compB
 refine AlR.bind (al_word _ _ _ (h.drop 1)) (fun n n' l2 m2 _ hn h2 => ?_)
 refine AlR.bind (r := All2 Eq) (AlR.ite (by rw [h2.sgn e e']) (fun _ => al_list al_nm _ _ _ (h2.drop 1)) (fun _ => ⟨.nil, h2, rfl⟩)) (fun bs bs' _ _ _ hb h3 => ?_)
 refine AlR.bind (al_want [123] _ _ _ h3) (fun _ _ _ _ _ _ h4 => ?_)
 refine AlR.bind (hB _ _ _ h4) (fun p q _ _ _ hp h5 => ?_)
 exact AlR.map (al_want [125] _ _ _ h5) (fun _ _ _ => by unfold eqCp; simp [hn, all2_eq hb, hp])
/-- Programs alike, kind by kind. -/
structure rP (p q : Pg) : Prop where
 t : All2 (fun x y => eqTy x y = true) p.types q.types
 d : All2 (fun x y => eqDc x y = true) p.decls q.decls
 c : All2 (fun x y => eqCp x y = true) p.comps q.comps
 i : All2 (fun x y => eqIn x y = true) p.inits q.inits
 l : All2 (fun x y => eqCl x y = true) p.clauses q.clauses
theorem rP.eq {p q : Pg} (h : rP p q) : eqPg p q = true := by rw [eqPg_eq, h.t.eqL, h.d.eqL, h.c.eqL, h.i.eqL, h.l.eqL]; rfl
theorem al_item {d : Nat} {C C' : Pr Cp} (hC : Al (fun x y => eqCp x y = true) C C') {p q : Pg} (hp : rP p q) : Al rP (itemP e d C p) (itemP e' d C' q) := fun l l' it h => by
 unfold itemP
 rw [h.sgn e e']
 refine AlR.ite Iff.rfl (fun _ => .refuse h) (fun _ => AlR.ite Iff.rfl (fun _ => ?_) (fun _ => AlR.ite Iff.rfl (fun _ => ?_) (fun _ => AlR.ite Iff.rfl (fun _ => ?_) (fun _ => AlR.ite Iff.rfl (fun _ => ?_) (fun _ => ?_)))))
 · exact AlR.map (al_type _ _ _ h) (fun x y hx => ⟨hp.t.snoc hx, hp.d, hp.c, hp.i, hp.l⟩)
 · exact AlR.map (al_decl _ _ _ h) (fun x y hx => ⟨hp.t, hp.d.snoc hx, hp.c, hp.i, hp.l⟩)
 · exact AlR.map (hC _ _ _ h) (fun x y hx => ⟨hp.t, hp.d, hp.c.snoc hx, hp.i, hp.l⟩)
 · exact AlR.map (al_init _ _ _ h) (fun x y hx => ⟨hp.t, hp.d, hp.c, hp.i.snoc hx, hp.l⟩)
 · exact AlR.map (al_clause d _ _ _ h) (fun x y hx => ⟨hp.t, hp.d, hp.c, hp.i, hp.l.snoc hx⟩)
theorem Alk.isEnd {l l' : List Tok} (h : Alk l l') (e e' : Nat) (top : Bool) : isEnd e top l = Go.Proofs.YtdjehbdpcdikkaaGreatDoor.isEnd e' top l' := by
 unfold Go.Proofs.YtdjehbdpcdikkaaGreatDoor.isEnd
 rw [h.kind e e' 0, h.text e e' 0]
theorem al_progL {d : Nat} {top : Bool} {C C' : Pr Cp} (hC : Al (fun x y => eqCp x y = true) C C') : ∀ (f : Nat) (p q : Pg), rP p q → Al rP (progL e top d C f p) (progL e' top d C' f q)
 | 0, _, _, hp => fun _ _ _ h => ⟨hp, h, rfl⟩
 | f + 1, p, q, hp => fun l l' it h => by
  unfold progL
  refine AlR.ite (by rw [h.isEnd e e']) (fun _ => ⟨hp, h, rfl⟩) (fun _ => ?_)
  exact AlR.bind (al_item hC hp _ _ _ h) (fun x y _ _ _ hx h2 => al_progL hC f _ _ hx _ _ _ h2)
theorem rP_none : rP .none .none := ⟨.nil, .nil, .nil, .nil, .nil⟩
theorem AlR.imp {α : Type} {r q : α → α → Prop} {R R' : Rs α} (h : AlR r R R') (hq : ∀ x y, r x y → q x y) : AlR q R R' := by
 cases R with
 | bad w a l =>
  cases R' with
  | bad v b m => exact h
  | ok y m j => exact h.elim
 | ok x l i =>
  cases R' with
  | bad v b m => exact h.elim
  | ok y m j => exact ⟨hq x y h.1, h.2⟩
theorem al_compC : ∀ d, Al (fun x y => eqCp x y = true) (compC e d) (compC e' d)
 | 0 => fun _ _ it h => AlR.refuse (it := it) h
 | d + 1 => al_comp (fun l l' it h => by
  rw [progD_eq, progD_eq, h.len]
  exact (al_progL (al_compC d) _ _ _ rP_none _ _ _ h).imp (fun _ _ h => h.eq))
/-- Places turn nothing but places. -/
theorem al_prog (d : Nat) (top : Bool) : Al rP (progD e d top) (progD e' d top) := fun l l' it h => by
 rw [progD_eq, progD_eq, h.len]
 exact al_progL (al_compC d) _ _ _ rP_none _ _ _ h
end
end Go.Proofs.YtdjehbdpcdikkaaGreatDoor

namespace Go.Proofs.YtdjehbdpcdikkaaGreatDoor

/-- Nothing, or a blank first. -/
def Tail (x : Txt) : Prop := ∀ b y, x = b :: y → isB (bv b) = true
theorem blank_cases {b : UInt8} (h : isB (bv b) = true) : b = 32 ∨ b = 9 ∨ b = 10 ∨ b = 13 := by
 simp only [isB, Bool.or_eq_true, decide_eq_true_eq] at h
 rcases h with ((h | h) | h) | h
 · exact .inl ((bv_eq (k := 32) (by omega)).1 h)
 · exact .inr (.inl ((bv_eq (k := 9) (by omega)).1 h))
 · exact .inr (.inr (.inl ((bv_eq (k := 10) (by omega)).1 h)))
 · exact .inr (.inr (.inr ((bv_eq (k := 13) (by omega)).1 h)))
theorem blank_out {b : UInt8} (h : isB (bv b) = true) : inW (bv b) = false := by
 rcases blank_cases h with rfl | rfl | rfl | rfl <;> decide
theorem tail_noW {x : Txt} (h : Tail x) : noW x = true := by
 cases x with
 | nil => rfl
 | cons b y => simp [noW, blank_out (h b y rfl)]
theorem tail_nm {x : Txt} (h : Tail x) : nmLen x = 0 := by
 cases x with
 | nil => rfl
 | cons b y =>
  refine nm_stop (blank_out (h b y rfl)) (fun _ _ _ e => ?_)
  subst e
  exact absurd (h 46 y rfl) (by decide)

/-- z is r up to p, and then x. -/
structure Cy (r z x : Txt) (p : Nat) : Prop where
 ez : z = r.take p ++ x
 hp : p ≤ r.length
 ht : Tail x
/-- .. and a word at its head is whole. -/
structure Cz (r z x : Txt) (p : Nat) : Prop extends Cy r z x p where
 hw : 0 < p → ∀ c t, r = c :: t → isL (bv c) = true → nmLen r ≤ p

theorem Cy.cases {r z x : Txt} {p : Nat} (h : Cy r z x p) : (p = 0 ∧ z = x) ∨ (∃ c t, p = 1 ∧ r = c :: t ∧ z = c :: x) ∨ (∃ c d u q, p = q + 2 ∧ r = c :: d :: u ∧ z = c :: d :: (u.take q ++ x)) := by
 obtain ⟨rfl, hp, _⟩ := h
 match p, r, hp with
 | 0, _, _ => exact .inl ⟨rfl, rfl⟩
 | 1, c :: t, _ => exact .inr (.inl ⟨c, t, rfl, rfl, rfl⟩)
 | q + 2, c :: d :: u, _ => exact .inr (.inr ⟨c, d, u, q, rfl, rfl, rfl⟩)
 | q + 2, [c], hp => simp at hp
theorem Cz.nW {r z x : Txt} {p : Nat} (h : Cz r z x p) (hn : noW r = true) : noW z = true := by
 rcases h.cases with ⟨_, rfl⟩ | ⟨c, t, _, rfl, rfl⟩ | ⟨c, d, u, q, _, rfl, rfl⟩
 · exact tail_noW h.ht
 · exact hn
 · exact hn
theorem Cz.nm {r z x : Txt} {p : Nat} (h : Cz r z x p) (hn : nmLen r = 0) : nmLen z = 0 := by
 rcases h.cases with ⟨_, rfl⟩ | ⟨c, t, _, rfl, rfl⟩ | ⟨c, d, u, q, _, rfl, rfl⟩
 · exact tail_nm h.ht
 ·
  have hc : inW (bv c) = false := by
   cases hc : inW (bv c) with
   | false => rfl
   | true => rw [nm_in hc] at hn; omega
  refine nm_stop hc (fun d u hx _ => ?_)
  have := blank_out (h.ht d u hx)
  cases hd : isL (bv d) with
  | false => rfl
  | true => rw [inW_L hd] at this; cases this
 ·
  have hc : inW (bv c) = false := by
   cases hc : inW (bv c) with
   | false => rfl
   | true => rw [nm_in hc] at hn; omega
  refine nm_stop hc (fun d' u' hx e => ?_)
  injection hx with hd _
  subst hd e
  cases hd : isL (bv d) with
  | false => rfl
  | true => rw [nm_dot hd] at hn; omega

theorem nm_app : ∀ (a b : Txt), nmLen (a ++ b) = a.length → ∀ z, nmLen (a ++ z) = a.length + nmLen z
 | [], _, _, z => by simp
 | [c], b, h, z => by
  cases hc : inW (bv c) with
  | true => show nmLen (c :: z) = _; rw [nm_in hc]; simp; omega
  | false =>
   exfalso
   cases b with
   | nil => simp [nmLen, hc] at h
   | cons d u =>
    have h : nmLen (c :: d :: u) = 1 := h
    rw [nmLen, if_neg (by simp [hc])] at h
    split at h <;> omega
 | c :: d :: a, b, h, z => by
  have h : nmLen (c :: d :: (a ++ b)) = a.length + 2 := h
  show nmLen (c :: d :: (a ++ z)) = a.length + 2 + nmLen z
  cases hc : inW (bv c) with
  | true =>
   rw [nm_in hc] at h ⊢
   have := nm_app (d :: a) b (by show nmLen (d :: (a ++ b)) = a.length + 1; omega) z
   have this : nmLen (d :: (a ++ z)) = a.length + 1 + nmLen z := this
   omega
  | false =>
   rw [nmLen, if_neg (by simp [hc])] at h ⊢
   split at h
   ·
    rename_i hd
    rw [if_pos hd]
    have := nm_app a b (by omega) z
    omega
   · omega
theorem dcn_app : ∀ (a b : Txt), dcn (a ++ b) = a.length → ∀ z, dcn (a ++ z) = a.length + dcn z
 | [], _, _, z => by simp
 | c :: a, b, h, z => by
  have h : dcn (c :: (a ++ b)) = a.length + 1 := h
  show dcn (c :: (a ++ z)) = a.length + 1 + dcn z
  cases hc : isD (bv c) with
  | true =>
   have e1 : ∀ l : Txt, dcn (c :: l) = dcn l + 1 := fun l => by simp [dcn, hc]
   rw [e1] at h ⊢
   have := dcn_app a b (by omega) z
   omega
  | false =>
   have e1 : dcn (c :: (a ++ b)) = 0 := by simp [dcn, hc]
   omega
theorem dcn_noW {z : Txt} (h : noW z = true) : dcn z = 0 := by
 cases z with
 | nil => rfl
 | cons c t =>
  have : inW (bv c) = false := by simpa [noW] using h
  have hd : isD (bv c) = false := by
   cases hd : isD (bv c) with
   | false => rfl
   | true => rw [inW_D hd] at this; cases this
  simp [dcn, hd]
theorem tx_app : ∀ (a b v : Txt), txScan (a ++ b) = .ok v a.length → ∀ z, txScan (a ++ z) = .ok v a.length
 | [], b, v, h, z => by
  have := (tx_pos b v 0 h).1
  omega
 | [c], b, v, h, z => by
  have h : txScan (c :: b) = .ok v 1 := h
  show txScan (c :: z) = .ok v 1
  by_cases h1 : c = 34
  · subst h1; rw [tx_quote] at h ⊢; exact h
  ·
   exfalso
   by_cases h2 : c = 10
   · subst h2; rw [tx_line] at h; cases h
   ·
    by_cases h3 : c = 92
    ·
     subst h3
     cases b with
     | nil => simp [txScan] at h
     | cons d u =>
      cases he : esc d with
      | none => rw [tx_noesc _ (fun d' u' e => by injection e with e _; rw [← e]; exact he)] at h; cases h
      | some q =>
       rw [tx_esc he] at h
       cases ht : txScan u with
       | ok v' n' => rw [ht] at h; injection h with _ h; omega
       | bad o => rw [ht] at h; cases h
       | never => rw [ht] at h; cases h
    ·
     rw [tx_plain h1 h2 h3] at h
     cases ht : txScan b with
     | ok v' n' =>
      rw [ht] at h
      have := (tx_pos b v' n' ht).1
      injection h with _ h
      omega
     | bad o => rw [ht] at h; cases h
     | never => rw [ht] at h; cases h
 | c :: d :: a, b, v, h, z => by
  have h : txScan (c :: d :: (a ++ b)) = .ok v (a.length + 2) := h
  show txScan (c :: d :: (a ++ z)) = .ok v (a.length + 2)
  by_cases h1 : c = 34
  · subst h1; rw [tx_quote] at h; cases h
  ·
   by_cases h2 : c = 10
   · subst h2; rw [tx_line] at h; cases h
   ·
    by_cases h3 : c = 92
    ·
     subst h3
     cases he : esc d with
     | none => rw [tx_noesc _ (fun d' u' e => by injection e with e _; rw [← e]; exact he)] at h; cases h
     | some q =>
      rw [tx_esc he] at h ⊢
      cases ht : txScan (a ++ b) with
      | ok v' n' =>
       rw [ht] at h
       injection h with hv hn
       have := tx_app a b v' (by rw [ht]; congr 1; omega) z
       rw [this]
       show TR.ok (q :: v') (a.length + 2) = _
       rw [hv]
      | bad o => rw [ht] at h; cases h
      | never => rw [ht] at h; cases h
    ·
     rw [tx_plain h1 h2 h3] at h ⊢
     cases ht : txScan (d :: (a ++ b)) with
     | ok v' n' =>
      rw [ht] at h
      injection h with hv hn
      have := tx_app (d :: a) b v' (by show txScan (d :: (a ++ b)) = .ok v' (a.length + 1); rw [ht]; congr 1; omega) z
      have this : txScan (d :: (a ++ z)) = .ok v' (a.length + 1) := this
      rw [this]
      show TR.ok (c :: v') (a.length + 1 + 1) = _
      rw [hv]
     | bad o => rw [ht] at h; cases h
     | never => rw [ht] at h; cases h
end Go.Proofs.YtdjehbdpcdikkaaGreatDoor

namespace Go.Proofs.YtdjehbdpcdikkaaGreatDoor
open Go.RowKit

/-- A slice of tokens, wherever it lies. -/
def SlAt (w : World) (v : Value) (toks : List Tok) : Prop := ∃ ao cap, v = .slice ao toks.length cap ∧ toks.length ≤ cap ∧ cap ≤ maxLen ∧ (toks = [] ∨ ∃ g, ao = some ⟨g, 0, none⟩ ∧ RowAt w g cap toks)
theorem slAt_of {w : World} {B : Nat} {v : Value} {toks : List Tok} (h : w.ownsRow B 43 4 v toks.length (tokCells toks)) : SlAt w v toks := by
 rcases row_of h with ⟨rfl, rfl⟩ | ⟨g, cap, rfl, hr⟩
 · exact ⟨none, 0, rfl, Nat.le_refl _, Nat.zero_le _, .inl rfl⟩
 · exact ⟨_, cap, rfl, hr.le, hr.cm, .inr ⟨g, rfl, hr⟩⟩
theorem SlAt.later {w w' : World} {v : Value} {toks : List Tok} (h : SlAt w v toks) (hb : Below w.heap.size w w') : SlAt w' v toks := by
 obtain ⟨ao, cap, hv, h1, h2, h3⟩ := h
 refine ⟨ao, cap, hv, h1, h2, ?_⟩
 rcases h3 with h | ⟨g, hg, hr⟩
 · exact .inl h
 · exact .inr ⟨g, hg, hr.later hb⟩
def Alike (p : Bool) (x y : Tok) : Prop := x.kind = y.kind ∧ x.text = y.text ∧ x.num = y.num ∧ (p = true → x.at_ = y.at_)

end Go.Proofs.YtdjehbdpcdikkaaGreatDoor
