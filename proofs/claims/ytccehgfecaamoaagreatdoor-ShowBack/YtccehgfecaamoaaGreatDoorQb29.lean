/- syn: sameClauses, as a chain. syn: Same, as a chain. syn: Same, of any two programs. Being the same turns round, and everything is the same as itself. Texts of programs that are the same; what Show and Format come to. -/
import Derived.Test.YtccehgfecaamoaaGreatDoorQb21
import Derived.Test.YtccehgfecaamoaaGreatDoorQb26
import Derived.Test.YtccehgfecaamoaaGreatDoorQb27
import Derived.Test.YtccehgfecaamoaaGreatDoorQb28
set_option maxRecDepth 100000
set_option maxHeartbeats 32000000
namespace Go.Proofs.YtccehgfecaamoaaGreatDoor
section
open Go.RowKit Go.Maps
theorem Qji {w : World} {xat xat1 : Int} {xt : Txt} {xa x1a : Option Addr} {xn xc x1n x1c : Nat} {yat yat1 : Int} {yt : Txt} {ya y1a : Option Addr} {yn yc y1n y1c : Nat} {s0 s1 : Bool} (h0 : ∀ w', Below w.heap.size w w' → Calls Tryz.prog 76 #[.agg #[str xt, .slice xa xn xc, .int .i64 xat], .agg #[str yt, .slice ya yn yc, .int .i64 yat]] w' fun en w2 => en = .returned (.bool s0) ∧ Below w'.heap.size w' w2) (h1 : ∀ w', Below w.heap.size w w' → Calls Tryz.prog 77 #[.slice x1a x1n x1c, .slice y1a y1n y1c, .func (.func 78) #[] #[]] w' fun en w2 => en = .returned (.bool s1) ∧ Below w'.heap.size w' w2) :
  Calls Tryz.prog 45 #[.agg #[str xt, .slice xa xn xc, .int .i64 xat, .slice x1a x1n x1c, .int .i64 xat1], .agg #[str yt, .slice ya yn yc, .int .i64 yat, .slice y1a y1n y1c, .int .i64 yat1]] w fun en w' => en = .returned (.bool (s0 && s1)) ∧ Below w.heap.size w w' := by
 have B0 : Hid (Below w.heap.size w ((w.alloc (.cells #[str xt, .slice xa xn xc, .int .i64 xat, .slice x1a x1n x1c, .int .i64 xat1] 64)).alloc (.cells #[str yt, .slice ya yn yc, .int .i64 yat, .slice y1a y1n y1c, .int .i64 yat1] 64)) ∧ ((w.alloc (.cells #[str xt, .slice xa xn xc, .int .i64 xat, .slice x1a x1n x1c, .int .i64 xat1] 64)).alloc (.cells #[str yt, .slice ya yn yc, .int .i64 yat, .slice y1a y1n y1c, .int .i64 yat1] 64)).heap[w.heap.size]? = some (.cells #[str xt, .slice xa xn xc, .int .i64 xat, .slice x1a x1n x1c, .int .i64 xat1] 64 (0, 0)) ∧ ((w.alloc (.cells #[str xt, .slice xa xn xc, .int .i64 xat, .slice x1a x1n x1c, .int .i64 xat1] 64)).alloc (.cells #[str yt, .slice ya yn yc, .int .i64 yat, .slice y1a y1n y1c, .int .i64 yat1] 64)).heap[w.heap.size + 1]? = some (.cells #[str yt, .slice ya yn yc, .int .i64 yat, .slice y1a y1n y1c, .int .i64 yat1] 64 (0, 0))) := by
  refine ⟨((Below.refl _ w).alloc (Nat.le_refl _) _).alloc (by simp) _, ?_, ?_⟩
  · rw [Below.heap_alloc _ _ _ (by simp)]; exact heap_alloc_new w _
  have := heap_alloc_new (w.alloc (.cells #[str xt, .slice xa xn xc, .int .i64 xat, .slice x1a x1n x1c, .int .i64 xat1] 64)) (.cells #[str yt, .slice ya yn yc, .int .i64 yat, .slice y1a y1n y1c, .int .i64 yat1] 64)
  rw [show (w.alloc (.cells #[str xt, .slice xa xn xc, .int .i64 xat, .slice x1a x1n x1c, .int .i64 xat1] 64)).heap.size = w.heap.size + 1 by simp] at this
  exact this
 have H0 := hide h0
 have H1 := hide h1
 clear h0 h1
 go_enter Tryz.func45, Tryz.ntmps45
 have hcl := Qa H0 _ (Qa B0).1
 go_wp2_with fail
 refine hcl.mono ?_
 clear hcl
 rintro en w0 ⟨rfl, b0⟩
 obtain ⟨bb, na, nb⟩ := Qa B0
 have na0 := (b0.block _ (Qag na)).trans na
 have nb0 := (b0.block _ (Qag nb)).trans nb
 have BB0 := hide (Ya (bb.trans (b0.mono bb.size)) (Ya na0 nb0))
 obtain ⟨x_0, x_1, x_2, x_3, x_4, xf⟩ := cl5 na0
 obtain ⟨y_0, y_1, y_2, y_3, y_4, yf⟩ := cl5 nb0
 clear bb na nb b0 na0 nb0
 cases s0
 ·
  go_wp2_with fail
  go_ret
  exact ⟨rfl, (Qa BB0).1⟩
 have hcl := Qa H1 _ (Qa BB0).1
 go_wp2_with fail
 refine hcl.mono ?_
 clear hcl
 rintro en w1 ⟨rfl, b1⟩
 obtain ⟨bb, na, nb⟩ := Qa BB0
 have na1 := (b1.block _ (Qag na)).trans na
 have nb1 := (b1.block _ (Qag nb)).trans nb
 have BB1 := hide (Ya (bb.trans (b1.mono bb.size)) (Ya na1 nb1))
 obtain ⟨x_0, x_1, x_2, x_3, x_4, xf⟩ := cl5 na1
 obtain ⟨y_0, y_1, y_2, y_3, y_4, yf⟩ := cl5 nb1
 clear bb na nb b1 na1 nb1
 cases s1
 ·
  go_wp2_with fail
  go_ret
  exact ⟨rfl, (Qa BB1).1⟩
 go_wp2_with fail
 go_ret
 exact ⟨rfl, (Qa BB1).1⟩
end
section
open Go.RowKit Go.Maps
theorem Same_ch {w : World}  {x0a : Option Addr} {x0n x0c : Nat} {x1a : Option Addr} {x1n x1c : Nat} {x2a : Option Addr} {x2n x2c : Nat} {x3a : Option Addr} {x3n x3c : Nat} {x4a : Option Addr} {x4n x4c : Nat}  {y0a : Option Addr} {y0n y0c : Nat} {y1a : Option Addr} {y1n y1c : Nat} {y2a : Option Addr} {y2n y2c : Nat} {y3a : Option Addr} {y3n y3c : Nat} {y4a : Option Addr} {y4n y4c : Nat} {s0 s1 s2 s3 s4 : Bool} (h0 : ∀ w', Below w.heap.size w w' → Calls Tryz.prog 36 #[.slice x0a x0n x0c, .slice y0a y0n y0c, .func (.func 37) #[] #[]] w' fun en w2 => en = .returned (.bool s0) ∧ Below w'.heap.size w' w2) (h1 : ∀ w', Below w.heap.size w w' → Calls Tryz.prog 38 #[.slice x1a x1n x1c, .slice y1a y1n y1c, .func (.func 39) #[] #[]] w' fun en w2 => en = .returned (.bool s1) ∧ Below w'.heap.size w' w2) (h2 : ∀ w', Below w.heap.size w w' → Calls Tryz.prog 40 #[.slice x2a x2n x2c, .slice y2a y2n y2c, .func (.func 41) #[] #[]] w' fun en w2 => en = .returned (.bool s2) ∧ Below w'.heap.size w' w2) (h3 : ∀ w', Below w.heap.size w w' → Calls Tryz.prog 42 #[.slice x3a x3n x3c, .slice y3a y3n y3c, .func (.func 43) #[] #[]] w' fun en w2 => en = .returned (.bool s3) ∧ Below w'.heap.size w' w2) (h4 : ∀ w', Below w.heap.size w w' → Calls Tryz.prog 44 #[.slice x4a x4n x4c, .slice y4a y4n y4c, .func (.func 45) #[] #[]] w' fun en w2 => en = .returned (.bool s4) ∧ Below w'.heap.size w' w2) :
  Calls Tryz.prog 15 #[.agg #[.slice x0a x0n x0c, .slice x1a x1n x1c, .slice x2a x2n x2c, .slice x3a x3n x3c, .slice x4a x4n x4c], .agg #[.slice y0a y0n y0c, .slice y1a y1n y1c, .slice y2a y2n y2c, .slice y3a y3n y3c, .slice y4a y4n y4c]] w fun en w' => en = .returned (.bool (s0 && s1 && s2 && s3 && s4)) ∧ Below w.heap.size w w' := by
 have B0 : Hid (Below w.heap.size w ((w.alloc (.cells #[.slice x0a x0n x0c, .slice x1a x1n x1c, .slice x2a x2n x2c, .slice x3a x3n x3c, .slice x4a x4n x4c] 28)).alloc (.cells #[.slice y0a y0n y0c, .slice y1a y1n y1c, .slice y2a y2n y2c, .slice y3a y3n y3c, .slice y4a y4n y4c] 28)) ∧ ((w.alloc (.cells #[.slice x0a x0n x0c, .slice x1a x1n x1c, .slice x2a x2n x2c, .slice x3a x3n x3c, .slice x4a x4n x4c] 28)).alloc (.cells #[.slice y0a y0n y0c, .slice y1a y1n y1c, .slice y2a y2n y2c, .slice y3a y3n y3c, .slice y4a y4n y4c] 28)).heap[w.heap.size]? = some (.cells #[.slice x0a x0n x0c, .slice x1a x1n x1c, .slice x2a x2n x2c, .slice x3a x3n x3c, .slice x4a x4n x4c] 28 (0, 0)) ∧ ((w.alloc (.cells #[.slice x0a x0n x0c, .slice x1a x1n x1c, .slice x2a x2n x2c, .slice x3a x3n x3c, .slice x4a x4n x4c] 28)).alloc (.cells #[.slice y0a y0n y0c, .slice y1a y1n y1c, .slice y2a y2n y2c, .slice y3a y3n y3c, .slice y4a y4n y4c] 28)).heap[w.heap.size + 1]? = some (.cells #[.slice y0a y0n y0c, .slice y1a y1n y1c, .slice y2a y2n y2c, .slice y3a y3n y3c, .slice y4a y4n y4c] 28 (0, 0))) := by
  refine ⟨((Below.refl _ w).alloc (Nat.le_refl _) _).alloc (by simp) _, ?_, ?_⟩
  · rw [Below.heap_alloc _ _ _ (by simp)]; exact heap_alloc_new w _
  have := heap_alloc_new (w.alloc (.cells #[.slice x0a x0n x0c, .slice x1a x1n x1c, .slice x2a x2n x2c, .slice x3a x3n x3c, .slice x4a x4n x4c] 28)) (.cells #[.slice y0a y0n y0c, .slice y1a y1n y1c, .slice y2a y2n y2c, .slice y3a y3n y3c, .slice y4a y4n y4c] 28)
  rw [show (w.alloc (.cells #[.slice x0a x0n x0c, .slice x1a x1n x1c, .slice x2a x2n x2c, .slice x3a x3n x3c, .slice x4a x4n x4c] 28)).heap.size = w.heap.size + 1 by simp] at this
  exact this
 have H0 := hide h0
 have H1 := hide h1
 have H2 := hide h2
 have H3 := hide h3
 have H4 := hide h4
 clear h0 h1 h2 h3 h4
 go_enter Tryz.func15, Tryz.ntmps15
 have hcl := Qa H0 _ (Qa B0).1
 go_wp2_with fail
 refine hcl.mono ?_
 clear hcl
 rintro en w0 ⟨rfl, b0⟩
 obtain ⟨bb, na, nb⟩ := Qa B0
 have na0 := (b0.block _ (Qag na)).trans na
 have nb0 := (b0.block _ (Qag nb)).trans nb
 have BB0 := hide (Ya (bb.trans (b0.mono bb.size)) (Ya na0 nb0))
 obtain ⟨x_0, x_1, x_2, x_3, x_4, xf⟩ := cl5 na0
 obtain ⟨y_0, y_1, y_2, y_3, y_4, yf⟩ := cl5 nb0
 clear bb na nb b0 na0 nb0
 cases s0
 ·
  go_wp2_with fail
  go_ret
  exact ⟨rfl, (Qa BB0).1⟩
 have hcl := Qa H1 _ (Qa BB0).1
 go_wp2_with fail
 refine hcl.mono ?_
 clear hcl
 rintro en w1 ⟨rfl, b1⟩
 obtain ⟨bb, na, nb⟩ := Qa BB0
 have na1 := (b1.block _ (Qag na)).trans na
 have nb1 := (b1.block _ (Qag nb)).trans nb
 have BB1 := hide (Ya (bb.trans (b1.mono bb.size)) (Ya na1 nb1))
 obtain ⟨x_0, x_1, x_2, x_3, x_4, xf⟩ := cl5 na1
 obtain ⟨y_0, y_1, y_2, y_3, y_4, yf⟩ := cl5 nb1
 clear bb na nb b1 na1 nb1
 cases s1
 ·
  go_wp2_with fail
  go_ret
  exact ⟨rfl, (Qa BB1).1⟩
 have hcl := Qa H2 _ (Qa BB1).1
 go_wp2_with fail
 refine hcl.mono ?_
 clear hcl
 rintro en w2 ⟨rfl, b2⟩
 obtain ⟨bb, na, nb⟩ := Qa BB1
 have na2 := (b2.block _ (Qag na)).trans na
 have nb2 := (b2.block _ (Qag nb)).trans nb
 have BB2 := hide (Ya (bb.trans (b2.mono bb.size)) (Ya na2 nb2))
 obtain ⟨x_0, x_1, x_2, x_3, x_4, xf⟩ := cl5 na2
 obtain ⟨y_0, y_1, y_2, y_3, y_4, yf⟩ := cl5 nb2
 clear bb na nb b2 na2 nb2
 cases s2
 ·
  go_wp2_with fail
  go_ret
  exact ⟨rfl, (Qa BB2).1⟩
 have hcl := Qa H3 _ (Qa BB2).1
 go_wp2_with fail
 refine hcl.mono ?_
 clear hcl
 rintro en w3 ⟨rfl, b3⟩
 obtain ⟨bb, na, nb⟩ := Qa BB2
 have na3 := (b3.block _ (Qag na)).trans na
 have nb3 := (b3.block _ (Qag nb)).trans nb
 have BB3 := hide (Ya (bb.trans (b3.mono bb.size)) (Ya na3 nb3))
 obtain ⟨x_0, x_1, x_2, x_3, x_4, xf⟩ := cl5 na3
 obtain ⟨y_0, y_1, y_2, y_3, y_4, yf⟩ := cl5 nb3
 clear bb na nb b3 na3 nb3
 cases s3
 ·
  go_wp2_with fail
  go_ret
  exact ⟨rfl, (Qa BB3).1⟩
 have hcl := Qa H4 _ (Qa BB3).1
 go_wp2_with fail
 refine hcl.mono ?_
 clear hcl
 rintro en w4 ⟨rfl, b4⟩
 obtain ⟨bb, na, nb⟩ := Qa BB3
 have na4 := (b4.block _ (Qag na)).trans na
 have nb4 := (b4.block _ (Qag nb)).trans nb
 have BB4 := hide (Ya (bb.trans (b4.mono bb.size)) (Ya na4 nb4))
 obtain ⟨x_0, x_1, x_2, x_3, x_4, xf⟩ := cl5 na4
 obtain ⟨y_0, y_1, y_2, y_3, y_4, yf⟩ := cl5 nb4
 clear bb na nb b4 na4 nb4
 cases s4
 ·
  go_wp2_with fail
  go_ret
  exact ⟨rfl, (Qa BB4).1⟩
 go_wp2_with fail
 go_ret
 exact ⟨rfl, (Qa BB4).1⟩
end
section
open Go.RowKit Go.Maps
mutual
def eqE : Ex → Ex → Bool
 | .mk k n s ks _, .mk k' n' s' ks' _ => decide (k = k') && decide (n = n') && decide (s = s') && eqEs ks ks'
def eqEs : List Ex → List Ex → Bool
 | [], [] => true
 | x :: xs, y :: ys => eqE x y && eqEs xs ys
 | _, _ => false
end
theorem Qda {α : Type} (eq : α → α → Bool) (x y : α) (xs ys : List α) : eqL eq (x :: xs) (y :: ys) = (eq x y && eqL eq xs ys) := by
 unfold eqL
 simp only [List.length_cons, List.zip_cons_cons, List.all_cons, Nat.add_right_cancel_iff]
 cases eq x y <;> simp
theorem Qvj : ∀ xs ys : List Ex, eqEs xs ys = eqL eqE xs ys
 | [], [] => by simp [eqEs, eqL]
 | [], y :: ys => by simp [eqEs, eqL]
 | x :: xs, [] => by simp [eqEs, eqL]
 | x :: xs, y :: ys => by rw [Qda, eqEs, Qvj xs ys]
theorem Qqr (x y : Ex) : eqE x y = (decide (x.kind = y.kind) && decide (x.num = y.num) && decide (x.txt = y.txt) && eqL eqE x.kids y.kids) := by
 cases x with
 | mk k n s ks a =>
  cases y with
  | mk k' n' s' ks' a' => rw [eqE, Qvj]; rfl
def eqA (x y : Atm) : Bool := decide (x.rel = y.rel) && eqL eqE x.args y.args
def eqLt (x y : Lt) : Bool := decide (x.kind = y.kind) && eqA x.atom y.atom && decide (x.op = y.op) && eqE x.l y.l && eqE x.r y.r
def eqCt (x y : Ctr) : Bool := decide (x.name = y.name) && eqL eqFd x.fields y.fields
def eqTy (x y : Typ) : Bool := decide (x.name = y.name) && decide (x.sub = y.sub) && eqL eqCt x.ctors y.ctors
def eqDc (x y : Dcl) : Bool := decide (x.name = y.name) && eqL eqFd x.cols y.cols && decide (x.input = y.input) && decide (x.output = y.output)
def eqIn (x y : Ini) : Bool := decide (x.name = y.name) && decide (x.comp = y.comp)
def eqCl (x y : Cls) : Bool := eqA x.head y.head && eqL eqLt x.body y.body
mutual
def eqPg : Pg → Pg → Bool
 | .mk ts ds cs is ls, .mk ts' ds' cs' is' ls' => eqL eqTy ts ts' && eqL eqDc ds ds' && eqCps cs cs' && eqL eqIn is is' && eqL eqCl ls ls'
def eqCps : List Cp → List Cp → Bool
 | [], [] => true
 | (n, bs, p, _) :: xs, (n', bs', p', _) :: ys => (decide (n = n') && eqL eqTx bs bs' && eqPg p p') && eqCps xs ys
 | _, _ => false
end
def eqCp (x y : Cp) : Bool := decide (x.1 = y.1) && eqL eqTx x.2.1 y.2.1 && eqPg x.2.2.1 y.2.2.1
theorem Qqq : ∀ xs ys : List Cp, eqCps xs ys = eqL eqCp xs ys
 | [], [] => by simp [eqCps, eqL]
 | [], y :: ys => by simp [eqCps, eqL]
 | x :: xs, [] => by simp [eqCps, eqL]
 | (n, bs, p, a) :: xs, (n', bs', p', a') :: ys => by rw [Qda, eqCps, Qqq xs ys]; rfl
theorem Qcx (p q : Pg) : eqPg p q = (eqL eqTy p.types q.types && eqL eqDc p.decls q.decls && eqL eqCp p.comps q.comps && eqL eqIn p.inits q.inits && eqL eqCl p.clauses q.clauses) := by
 cases p
 cases q
 rw [eqPg, Qqq]
 rfl

theorem Qvx (S : Nat → Prop) (w : World) (cs : List Value) (x : Ex) (h : PE S w cs x) : ∀ c ∈ cs, c.oneCell' = true := by
 obtain ⟨v, rfl, ⟨ao, cap, rfl⟩, _⟩ := h.cells
 simp [Value.oneCell', str]
theorem pc_one (S : Nat → Prop) (w : World) (cs : List Value) (x : Ctr) (h : PC S w cs x) : ∀ c ∈ cs, c.oneCell' = true := by
 obtain ⟨_, _, _, rfl, _⟩ := h
 simp [Value.oneCell', str]
theorem pty_one (S : Nat → Prop) (w : World) (cs : List Value) (x : Typ) (h : PTy S w cs x) : ∀ c ∈ cs, c.oneCell' = true := by
 obtain ⟨_, _, _, rfl, _⟩ := h
 simp [Value.oneCell', str]
theorem pdc_one (S : Nat → Prop) (w : World) (cs : List Value) (x : Dcl) (h : PDc S w cs x) : ∀ c ∈ cs, c.oneCell' = true := by
 obtain ⟨_, _, _, rfl, _⟩ := h
 simp [Value.oneCell', str]
theorem pin_one (S : Nat → Prop) (w : World) (cs : List Value) (x : Ini) (h : PIn S w cs x) : ∀ c ∈ cs, c.oneCell' = true := by
 have e : cs = _ := h
 subst e
 simp [Value.oneCell', str]
theorem pcl_one (S : Nat → Prop) (w : World) (cs : List Value) (x : Cls) (h : PCl S w cs x) : ∀ c ∈ cs, c.oneCell' = true := by
 obtain ⟨_, _, _, _, _, _, rfl, _⟩ := h
 simp [Value.oneCell', str]
theorem list5 {a b c d e a' b' c' d' e' : Value} (h : [a, b, c, d, e] = [a', b', c', d', e']) : a = a' ∧ b = b' ∧ c = c' ∧ d = d' ∧ e = e' := by simpa using h

theorem Qgi (x : Ex) : ∀ (y : Ex) (S : Nat → Prop) (w : World) (c0 c1 c2 c3 c4 d0 d1 d2 d3 d4 : Value), ExS S w [c0, c1, c2, c3, c4] x → ExS S w [d0, d1, d2, d3, d4] y →
  Calls Tryz.prog 103 #[.agg #[c0, c1, c2, c3, c4], .agg #[d0, d1, d2, d3, d4]] w fun en w' => en = .returned (.bool (eqE x y)) ∧ Below w.heap.size w w' :=
 match x with
 | .mk k n s ks a => fun y S w c0 c1 c2 c3 c4 d0 d1 d2 d3 d4 hx hy => by
  obtain ⟨v, ex, ⟨xa, xc, rfl⟩, hkx⟩ := hx.cells
  obtain ⟨u, ey, ⟨ya, yc, rfl⟩, hky⟩ := hy.cells
  simp only [List.cons.injEq, and_true] at ex ey
  obtain ⟨rfl, rfl, rfl, rfl, rfl⟩ := ex
  obtain ⟨rfl, rfl, rfl, rfl, rfl⟩ := ey
  rw [Qqr]
  refine Qnr rfl rfl rfl (fun w' hb => ?_)
  refine (eqf_e Qae Qvx eqE (hkx.later Qae hb) (hky.later Qae hb) (fun j x1 y1 hx1 hy1 w1 e0 e1 e2 e3 e4 f0 f1 f2 f3 f4 _ h1 h2 => ?_)).mono (fun _ _ h => h)
  have hm : x1 ∈ ks := List.mem_of_getElem? hx1
  exact Qgi x1 y1 S w1 e0 e1 e2 e3 e4 f0 f1 f2 f3 f4 h1 h2
termination_by SizeOf.sizeOf x
decreasing_by
 have := List.sizeOf_lt_of_mem hm
 simp only [Ex.mk.sizeOf_spec]
 omega
theorem Qnm {x y : Atm} {S : Nat → Prop} {w : World} {xa ya : Option Addr} {xn xc yn yc : Nat} (hx : LsAt PE 5 S w (.slice xa xn xc) x.args) (hy : LsAt PE 5 S w (.slice ya yn yc) y.args) :
  Calls Tryz.prog 76 #[.agg #[str x.rel, .slice xa xn xc, .int .i64 x.at_], .agg #[str y.rel, .slice ya yn yc, .int .i64 y.at_]] w fun en w' => en = .returned (.bool (eqA x y)) ∧ Below w.heap.size w w' := by
 unfold eqA
 exact Qnn rfl (fun w' hb => eqf_e Qae Qvx eqE (hx.later Qae hb) (hy.later Qae hb) (fun j x1 y1 _ _ w1 e0 e1 e2 e3 e4 f0 f1 f2 f3 f4 _ h1 h2 => Qgi x1 y1 S w1 e0 e1 e2 e3 e4 f0 f1 f2 f3 f4 h1 h2))
theorem Qyg {x y : Lt} {S : Nat → Prop} {w : World} {cs ds : List Value} (hx : PLt S w cs x) (hy : PLt S w ds y) :
  Calls Tryz.prog 78 #[.agg cs.toArray, .agg ds.toArray] w fun en w' => en = .returned (.bool (eqLt x y)) ∧ Below w.heap.size w w' := by
 obtain ⟨_, _, _, _, _, _, _, _, _, rfl, h1, h2, h3⟩ := hx
 obtain ⟨_, _, _, _, _, _, _, _, _, rfl, g1, g2, g3⟩ := hy
 unfold eqLt
 refine Qpi rfl (fun w' hb => ?_) rfl (fun w' hb => ?_) (fun w' hb => ?_)
 · exact Qnm (h1.later Qae hb) (g1.later Qae hb)
 · exact Qgi _ _ S _ _ _ _ _ _ _ _ _ _ _ (Qae.same _ _ _ _ _ h2 hb.size (fun b _ hl => hb.block b hl)) (Qae.same _ _ _ _ _ g2 hb.size (fun b _ hl => hb.block b hl))
 · exact Qgi _ _ S _ _ _ _ _ _ _ _ _ _ _ (Qae.same _ _ _ _ _ h3 hb.size (fun b _ hl => hb.block b hl)) (Qae.same _ _ _ _ _ g3 hb.size (fun b _ hl => hb.block b hl))
theorem Qyd {x y : Ctr} {S : Nat → Prop} {w : World} {cs ds : List Value} (hx : PC S w cs x) (hy : PC S w ds y) :
  Calls Tryz.prog 73 #[.agg cs.toArray, .agg ds.toArray] w fun en w' => en = .returned (.bool (eqCt x y)) ∧ Below w.heap.size w w' := by
 obtain ⟨_, _, _, rfl, h1⟩ := hx
 obtain ⟨_, _, _, rfl, g1⟩ := hy
 unfold eqCt
 exact Qnp rfl (fun w' hb => Qvt (h1.later Qbv hb) (g1.later Qbv hb))
theorem Qyi {x y : Typ} {S : Nat → Prop} {w : World} {cs ds : List Value} (hx : PTy S w cs x) (hy : PTy S w ds y) :
  Calls Tryz.prog 37 #[.agg cs.toArray, .agg ds.toArray] w fun en w' => en = .returned (.bool (eqTy x y)) ∧ Below w.heap.size w w' := by
 obtain ⟨_, _, _, rfl, h1⟩ := hx
 obtain ⟨_, _, _, rfl, g1⟩ := hy
 unfold eqTy
 exact Qnt rfl rfl (fun w' hb => eqf_c Qex pc_one eqCt (h1.later Qex hb) (g1.later Qex hb) (fun j x1 y1 _ _ w1 e0 e1 f0 f1 _ h1 h2 => Qyd h1 h2))
theorem Qye {x y : Dcl} {S : Nat → Prop} {w : World} {cs ds : List Value} (hx : PDc S w cs x) (hy : PDc S w ds y) :
  Calls Tryz.prog 39 #[.agg cs.toArray, .agg ds.toArray] w fun en w' => en = .returned (.bool (eqDc x y)) ∧ Below w.heap.size w w' := by
 obtain ⟨_, _, _, rfl, h1⟩ := hx
 obtain ⟨_, _, _, rfl, g1⟩ := hy
 unfold eqDc
 exact Qnq rfl (fun w' hb => Qvt (h1.later Qbv hb) (g1.later Qbv hb)) rfl rfl
theorem Qyf {x y : Ini} {S : Nat → Prop} {w : World} {cs ds : List Value} (hx : PIn S w cs x) (hy : PIn S w ds y) :
  Calls Tryz.prog 43 #[.agg cs.toArray, .agg ds.toArray] w fun en w' => en = .returned (.bool (eqIn x y)) ∧ Below w.heap.size w w' := by
 have e1 : cs = _ := hx
 have e2 : ds = _ := hy
 subst e1
 subst e2
 unfold eqIn
 exact Qns rfl rfl
theorem Qyh {x y : Cls} {S : Nat → Prop} {w : World} {cs ds : List Value} (hx : PCl S w cs x) (hy : PCl S w ds y) :
  Calls Tryz.prog 45 #[.agg cs.toArray, .agg ds.toArray] w fun en w' => en = .returned (.bool (eqCl x y)) ∧ Below w.heap.size w w' := by
 obtain ⟨_, _, _, _, _, _, rfl, h1, h2⟩ := hx
 obtain ⟨_, _, _, _, _, _, rfl, g1, g2⟩ := hy
 unfold eqCl
 exact Qji (fun w' hb => Qnm (h1.later Qae hb) (g1.later Qae hb)) (fun w' hb => eqf_l Qbt (fun _ _ _ _ h => Qgt h) eqLt (h2.later Qbt hb) (g2.later Qbt hb) (fun j x1 y1 _ _ w1 _ _ _ _ _ _ _ _ _ _ _ _ _ _ _ _ _ _ _ _ _ _ _ _ _ _ _ _ _ _ _ _ _ h1 h2 => Qyg h1 h2))
theorem Qjw (p : Pg) : ∀ (q : Pg) (S : Nat → Prop) (w : World) (c0 c1 c2 c3 c4 d0 d1 d2 d3 d4 : Value), PgS S w [c0, c1, c2, c3, c4] p → PgS S w [d0, d1, d2, d3, d4] q →
  Calls Tryz.prog 15 #[.agg #[c0, c1, c2, c3, c4], .agg #[d0, d1, d2, d3, d4]] w fun en w' => en = .returned (.bool (eqPg p q)) ∧ Below w.heap.size w w' :=
 match p with
 | .mk ts ds cs is ls => fun q S w c0 c1 c2 c3 c4 d0 d1 d2 d3 d4 hx hy => by
  obtain ⟨v0, v1, v2, v3, v4, ex, h0, h1, h2, h3, h4⟩ := hx.cells
  obtain ⟨u0, u1, u2, u3, u4, ey, g0, g1, g2, g3, g4⟩ := hy.cells
  obtain ⟨rfl, rfl, rfl, rfl, rfl⟩ := list5 ex
  obtain ⟨rfl, rfl, rfl, rfl, rfl⟩ := list5 ey
  obtain ⟨_, _, rfl⟩ := h0.sl
  obtain ⟨_, _, rfl⟩ := h1.sl
  obtain ⟨_, _, rfl⟩ := h2.sl
  obtain ⟨_, _, rfl⟩ := h3.sl
  obtain ⟨_, _, rfl⟩ := h4.sl
  obtain ⟨_, _, rfl⟩ := g0.sl
  obtain ⟨_, _, rfl⟩ := g1.sl
  obtain ⟨_, _, rfl⟩ := g2.sl
  obtain ⟨_, _, rfl⟩ := g3.sl
  obtain ⟨_, _, rfl⟩ := g4.sl
  rw [Qcx]
  refine Same_ch (fun w' hb => ?_) (fun w' hb => ?_) (fun w' hb => ?_) (fun w' hb => ?_) (fun w' hb => ?_)
  · exact eqf_t Qbq pty_one eqTy (h0.later Qbq hb) (g0.later Qbq hb) (fun j x1 y1 _ _ w1 _ _ _ _ _ _ _ _ _ a1 a2 => Qyi a1 a2)
  · exact eqf_d Qbp pdc_one eqDc (h1.later Qbp hb) (g1.later Qbp hb) (fun j x1 y1 _ _ w1 _ _ _ _ _ _ _ _ _ _ _ a1 a2 => Qye a1 a2)
  ·
   refine (eqf_p Qbb (fun _ _ _ _ h => Qiq h) eqCp (h2.later Qbb hb) (g2.later Qbb hb) (fun j x1 y1 hx1 hy1 w1 _ _ _ _ _ _ _ _ _ _ _ _ _ _ _ _ _ a1 a2 => ?_)).mono (fun _ _ h => h)
   obtain ⟨vb, bd, e1, e2, e3, e4⟩ := a1
   obtain ⟨vb', bd', e1', e2', e3', e4'⟩ := a2
   obtain ⟨t0, t1, t2, t3, t4, rfl, k0, k1, k2, k3, k4⟩ := e4.cells
   obtain ⟨s0, s1, s2, s3, s4, rfl, m0, m1, m2, m3, m4⟩ := e4'.cells
   obtain ⟨_, _, rfl⟩ := e3.sl
   obtain ⟨_, _, rfl⟩ := e3'.sl
   obtain ⟨_, _, rfl⟩ := k0.sl
   obtain ⟨_, _, rfl⟩ := k1.sl
   obtain ⟨_, _, rfl⟩ := k2.sl
   obtain ⟨_, _, rfl⟩ := k3.sl
   obtain ⟨_, _, rfl⟩ := k4.sl
   obtain ⟨_, _, rfl⟩ := m0.sl
   obtain ⟨_, _, rfl⟩ := m1.sl
   obtain ⟨_, _, rfl⟩ := m2.sl
   obtain ⟨_, _, rfl⟩ := m3.sl
   obtain ⟨_, _, rfl⟩ := m4.sl
   simp only [List.cons_append, List.nil_append, List.cons.injEq, and_true] at e1 e1'
   obtain ⟨rfl, rfl, rfl, rfl, rfl, rfl, rfl, rfl⟩ := e1
   obtain ⟨rfl, rfl, rfl, rfl, rfl, rfl, rfl, rfl⟩ := e1'
   have hm : x1 ∈ cs := List.mem_of_getElem? hx1
   unfold eqCp
   refine Qno rfl (fun w' hb => equal_s (e3.later Qbj hb) (e3'.later Qbj hb)) (fun w' hb => ?_)
   exact Qjw x1.2.2.1 y1.2.2.1 S w' _ _ _ _ _ _ _ _ _ _ (Qao.same _ _ _ _ _ e4 hb.size (fun b _ hl => hb.block b hl)) (Qao.same _ _ _ _ _ e4' hb.size (fun b _ hl => hb.block b hl))
  · exact eqf_i Qbw pin_one eqIn (h3.later Qbw hb) (g3.later Qbw hb) (fun j x1 y1 _ _ w1 _ _ _ _ _ _ _ a1 a2 => Qyf a1 a2)
  · exact eqf_q Qbg pcl_one eqCl (h4.later Qbg hb) (g4.later Qbg hb) (fun j x1 y1 _ _ w1 _ _ _ _ _ _ _ _ _ _ _ a1 a2 => Qyh a1 a2)
termination_by SizeOf.sizeOf p
decreasing_by
 have h1 := List.sizeOf_lt_of_mem hm
 have h2 : SizeOf.sizeOf x1.2.2.1 < SizeOf.sizeOf x1 := by
  obtain ⟨a, b, c, d⟩ := x1
  simp only [Prod.mk.sizeOf_spec]
  omega
 simp only [Pg.mk.sizeOf_spec]
 omega
end
section
open Go.RowKit Go.Maps
theorem Qbe {α : Type} [DecidableEq α] (a b : α) : decide (a = b) = decide (b = a) := by
 by_cases h : a = b
 · subst h; rfl
 · rw [decide_eq_false h, decide_eq_false (Ne.symm h)]
theorem Qcm {α : Type} {eq : α → α → Bool} (h : ∀ x y, eq x y = eq y x) : ∀ xs ys : List α, eqL eq xs ys = eqL eq ys xs
 | [], [] => rfl
 | [], y :: ys => by simp [eqL]
 | x :: xs, [] => by simp [eqL]
 | x :: xs, y :: ys => by rw [Qda, Qda, h x y, Qcm h xs ys]
theorem Qcl {α : Type} {eq : α → α → Bool} (h : ∀ x, eq x x = true) : ∀ xs : List α, eqL eq xs xs = true
 | [] => by simp [eqL]
 | x :: xs => by rw [Qda, h x, Qcl h xs]; rfl
mutual
theorem Qhk : ∀ x y : Ex, eqE x y = eqE y x
 | .mk k n s ks _, .mk k' n' s' ks' _ => by rw [eqE, eqE, Qmo ks ks', Qbe k k', Qbe n n', Qbe s s']
theorem Qmo : ∀ xs ys : List Ex, eqEs xs ys = eqEs ys xs
 | [], [] => rfl
 | [], _ :: _ => by simp [eqEs]
 | _ :: _, [] => by simp [eqEs]
 | x :: xs, y :: ys => by rw [eqEs, eqEs, Qhk x y, Qmo xs ys]
end
mutual
theorem Qdo : ∀ x : Ex, eqE x x = true
 | .mk k n s ks _ => by rw [eqE, Qmn ks]; simp
theorem Qmn : ∀ xs : List Ex, eqEs xs xs = true
 | [] => by simp [eqEs]
 | x :: xs => by rw [eqEs, Qdo x, Qmn xs]; rfl
end
theorem Qvq (x y : Txt) : eqTx x y = eqTx y x := by unfold eqTx; exact Qbe _ _
theorem Qvp (x : Txt) : eqTx x x = true := by unfold eqTx; simp
theorem Qmp (x y : Fld) : eqFd x y = eqFd y x := by unfold eqFd; rw [Qbe x.name, Qbe x.type]
theorem Qid (x : Fld) : eqFd x x = true := by unfold eqFd; simp
theorem Qqp (x y : Atm) : eqA x y = eqA y x := by unfold eqA; rw [Qbe x.rel, Qcm Qhk]
theorem Qkz (x : Atm) : eqA x x = true := by unfold eqA; rw [Qcl Qdo]; simp
theorem Qvn (x y : Lt) : eqLt x y = eqLt y x := by unfold eqLt; rw [Qbe x.kind, Qqp x.atom, Qbe x.op, Qhk x.l, Qhk x.r]
theorem Qvm (x : Lt) : eqLt x x = true := by unfold eqLt; rw [Qkz, Qdo, Qdo]; simp
theorem Qvg (x y : Ctr) : eqCt x y = eqCt y x := by unfold eqCt; rw [Qbe x.name, Qcm Qmp]
theorem Qvf (x : Ctr) : eqCt x x = true := by unfold eqCt; rw [Qcl Qid]; simp
theorem Qvs (x y : Typ) : eqTy x y = eqTy y x := by unfold eqTy; rw [Qbe x.name, Qbe x.sub, Qcm Qvg]
theorem Qvr (x : Typ) : eqTy x x = true := by unfold eqTy; rw [Qcl Qvf]; simp
theorem Qvi (x y : Dcl) : eqDc x y = eqDc y x := by unfold eqDc; rw [Qbe x.name, Qcm Qmp, Qbe x.input, Qbe x.output]
theorem Qvh (x : Dcl) : eqDc x x = true := by unfold eqDc; rw [Qcl Qid]; simp
theorem Qvl (x y : Ini) : eqIn x y = eqIn y x := by unfold eqIn; rw [Qbe x.name, Qbe x.comp]
theorem Qvk (x : Ini) : eqIn x x = true := by unfold eqIn; simp
theorem Qvd (x y : Cls) : eqCl x y = eqCl y x := by unfold eqCl; rw [Qqp x.head, Qcm Qvn]
theorem Qvc (x : Cls) : eqCl x x = true := by unfold eqCl; rw [Qkz, Qcl Qvm]; rfl
mutual
theorem Qmq : ∀ p q : Pg, eqPg p q = eqPg q p
 | .mk ts ds cs is ls, .mk ts' ds' cs' is' ls' => by rw [eqPg, eqPg, Qcm Qvs ts, Qcm Qvi ds, Qjm cs cs', Qcm Qvl is, Qcm Qvd ls]
theorem Qjm : ∀ xs ys : List Cp, eqCps xs ys = eqCps ys xs
 | [], [] => rfl
 | [], _ :: _ => by simp [eqCps]
 | _ :: _, [] => by simp [eqCps]
 | (n, bs, p, _) :: xs, (n', bs', p', _) :: ys => by rw [eqCps, eqCps, Qbe n n', Qcm Qvq bs, Qmq p p', Qjm xs ys]
end
mutual
theorem Qvo : ∀ p : Pg, eqPg p p = true
 | .mk ts ds cs is ls => by rw [eqPg, Qcl Qvr, Qcl Qvh, Qjl cs, Qcl Qvk, Qcl Qvc]; rfl
theorem Qjl : ∀ xs : List Cp, eqCps xs xs = true
 | [] => by simp [eqCps]
 | (n, bs, p, _) :: xs => by rw [eqCps, Qcl Qvp, Qvo p, Qjl xs]; simp
end
end
section
theorem Qdh {α : Type} {eq : α → α → Bool} {T : α → Txt} (h : ∀ x y, eq x y = true → T x = T y) : ∀ xs ys : List α, eqL eq xs ys = true → xs.map T = ys.map T
 | [], [], _ => rfl
 | [], y :: ys, e => by simp [eqL] at e
 | x :: xs, [], e => by simp [eqL] at e
 | x :: xs, y :: ys, e => by
  rw [Qda, Bool.and_eq_true] at e
  rw [List.map_cons, List.map_cons, h x y e.1, Qdh h xs ys e.2]
mutual
theorem Jae : ∀ x y : Ex, eqE x y = true → exT x = exT y ∧ x.kind = y.kind
 | .mk k n s ks a, .mk k' n' s' ks' a', h => by
  simp only [eqE, Bool.and_eq_true, decide_eq_true_eq] at h
  obtain ⟨⟨⟨rfl, rfl⟩, rfl⟩, h4⟩ := h
  obtain ⟨e1, e2⟩ := Jcf ks ks' h4
  exact ⟨by rw [exT, exT, e1, e2], rfl⟩
theorem Jcf : ∀ xs ys : List Ex, eqEs xs ys = true → exTs xs = exTs ys ∧ xs.map Ex.kind = ys.map Ex.kind
 | [], [], _ => ⟨rfl, rfl⟩
 | [], y :: ys, e => by simp [eqEs] at e
 | x :: xs, [], e => by simp [eqEs] at e
 | x :: xs, y :: ys, e => by
  simp only [eqEs, Bool.and_eq_true] at e
  obtain ⟨a1, a2⟩ := Jae x y e.1
  obtain ⟨b1, b2⟩ := Jcf xs ys e.2
  exact ⟨by rw [exTs, exTs, a1, b1], by rw [List.map_cons, List.map_cons, a2, b2]⟩
end
theorem eqL_nil {α : Type} {eq : α → α → Bool} : ∀ xs ys : List α, eqL eq xs ys = true → (xs = [] ↔ ys = [])
 | [], [], _ => by simp
 | [], y :: ys, e => by simp [eqL] at e
 | x :: xs, [], e => by simp [eqL] at e
 | x :: xs, y :: ys, _ => by simp
theorem Jcg (x y : Fld) (h : eqFd x y = true) : fdT x = fdT y := by
 simp only [eqFd, Bool.and_eq_true, decide_eq_true_eq] at h
 rw [fdT, fdT, h.1, h.2]
theorem eqA_T (x y : Atm) (h : eqA x y = true) : amT x = amT y := by
 simp only [eqA, Bool.and_eq_true, decide_eq_true_eq] at h
 rw [amT, amT, h.1, Qdh (fun x y e => (Jae x y e).1) _ _ h.2]
theorem eqLt_T (x y : Lt) (h : eqLt x y = true) : ltT x = ltT y := by
 simp only [eqLt, Bool.and_eq_true, decide_eq_true_eq] at h
 obtain ⟨⟨⟨⟨h1, h2⟩, h3⟩, h4⟩, h5⟩ := h
 rw [ltT, ltT, h1, eqA_T _ _ h2, h3, (Jae _ _ h4).1, (Jae _ _ h5).1]
theorem eqCt_T (x y : Ctr) (h : eqCt x y = true) : ctT x = ctT y := by
 simp only [eqCt, Bool.and_eq_true, decide_eq_true_eq] at h
 rw [ctT, ctT, h.1, Qdh Jcg _ _ h.2]
theorem eqTy_T (x y : Typ) (h : eqTy x y = true) : tyT x = tyT y := by
 simp only [eqTy, Bool.and_eq_true, decide_eq_true_eq] at h
 rw [tyT, tyT, h.1.1, h.1.2, Qdh eqCt_T _ _ h.2]
theorem eqDc_T (x y : Dcl) (h : eqDc x y = true) : dcT x = dcT y := by
 simp only [eqDc, Bool.and_eq_true, decide_eq_true_eq] at h
 rw [dcT, dcT, h.1.1.1, Qdh Jcg _ _ h.1.1.2, h.1.2, h.2]
theorem eqIn_T (x y : Ini) (h : eqIn x y = true) : inT x = inT y := by
 simp only [eqIn, Bool.and_eq_true, decide_eq_true_eq] at h
 rw [inT, inT, h.1, h.2]
theorem eqCl_T (x y : Cls) (h : eqCl x y = true) : clT x = clT y := by
 simp only [eqCl, Bool.and_eq_true] at h
 have hn := eqL_nil _ _ h.2
 rw [clT, clT, eqA_T _ _ h.1, Qdh eqLt_T _ _ h.2]
 by_cases hb : x.body = []
 · rw [if_pos hb, if_pos (hn.1 hb)]
 · rw [if_neg hb, if_neg (fun e => hb (hn.2 e))]
theorem eqTx_id (x y : Txt) (h : eqTx x y = true) : id x = id y := by simpa [eqTx] using h
mutual
theorem eqPg_T : ∀ p q : Pg, eqPg p q = true → pgT p = pgT q
 | .mk ts ds cs is ls, .mk ts' ds' cs' is' ls', h => by
  simp only [eqPg, Bool.and_eq_true] at h
  obtain ⟨⟨⟨⟨h1, h2⟩, h3⟩, h4⟩, h5⟩ := h
  rw [pgT, pgT, Qdh eqTy_T _ _ h1, Qdh eqDc_T _ _ h2, Qve cs cs' h3, Qdh eqIn_T _ _ h4, Qdh eqCl_T _ _ h5]
theorem Qve : ∀ cs ds : List Cp, eqCps cs ds = true → cpTs cs = cpTs ds
 | [], [], _ => rfl
 | [], y :: ys, e => by simp [eqCps] at e
 | x :: xs, [], e => by simp [eqCps] at e
 | (n, bs, p, a) :: xs, (n', bs', p', a') :: ys, e => by
  simp only [eqCps, Bool.and_eq_true, decide_eq_true_eq] at e
  obtain ⟨⟨⟨h1, h2⟩, h3⟩, h4⟩ := e
  have hb := Qdh eqTx_id _ _ h2
  rw [List.map_id, List.map_id] at hb
  rw [cpTs, cpTs, h1, hb, eqPg_T p p' h3, Qve xs ys h4]
end
def showP (p : Pg) : Txt × Int := if 65536 < (pgT p).length then ([], 2) else match parseP (pgT p) with
 | .bad _ _ _ => ([], 1)
 | .ok q _ _ => if eqPg q p then (pgT p, 0) else ([], 1)
def formatP (s : Txt) : Txt × Int × Int := match parseP s with
 | .bad why a _ => ([], why, a)
 | .ok p _ _ => ((showP p).1, (showP p).2, 0)
end
end Go.Proofs.YtccehgfecaamoaaGreatDoor
