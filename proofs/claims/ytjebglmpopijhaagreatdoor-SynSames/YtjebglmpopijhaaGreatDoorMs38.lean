/- The plain reading: places turn nothing but places. syn: SameExpr, as a chain. syn: SameAtom, as a chain. slices.Equal at vestry/vestryref09.fields. slices.Equal at vestry/vestryref09.texts. The document's SameExprs and SameExpr, places aside. -/
import Derived.Test.YtjebglmpopijhaaGreatDoorMs20
import Derived.Test.YtjebglmpopijhaaGreatDoorMs17
set_option maxRecDepth 100000
set_option maxHeartbeats 32000000
namespace Go.Proofs.YtjebglmpopijhaaGreatDoor
section
def zt (t : Tok) : Int × Txt × Int := (t.kind, t.text, t.num)
def Alk (l l' : List Tok) : Prop := l.map zt = l'.map zt
theorem Alk.len {l l' : List Tok} (h : Alk l l') : l.length = l'.length := by have := congrArg List.length h; simpa using this
theorem Alk.drop {l l' : List Tok} (h : Alk l l') (n : Nat) : Alk (l.drop n) (l'.drop n) := by unfold Alk at *; rw [List.map_drop, List.map_drop, h]
theorem Alk.ahd {l l' : List Tok} (h : Alk l l') (e e' k : Nat) : zt (ahd e k l) = zt (ahd e' k l') := by
 have h1 : (l.map zt)[k]? = (l'.map zt)[k]? := by rw [h]
 rw [List.getElem?_map, List.getElem?_map] at h1
 unfold Go.Proofs.YtjebglmpopijhaaGreatDoor.ahd
 rw [List.getD_eq_getElem?_getD, List.getD_eq_getElem?_getD]
 cases h2 : l[k]? with
 | none =>
  rw [h2] at h1
  cases h3 : l'[k]? with
  | none => rfl
  | some y => rw [h3] at h1; cases h1
 | some x =>
  rw [h2] at h1
  cases h3 : l'[k]? with
  | none => rw [h3] at h1; cases h1
  | some y => rw [h3] at h1; simpa using h1
section
variable {α β : Type} {e e' : Nat}
def AlR (r : α → α → Prop) : Rs α → Rs α → Prop
 | .ok x l i, .ok y m j => r x y ∧ Alk l m ∧ i = j
 | .bad w _ l, .bad v _ m => w = v ∧ Alk l m
 | _, _ => False
def Al (r : α → α → Prop) (P P' : Pr α) : Prop := ∀ l l' it, Alk l l' → AlR r (P l it) (P' l' it)
theorem AlR.bind {r : α → α → Prop} {q : β → β → Prop} {R R' : Rs α} {f f' : α → Pr β} (h : AlR r R R') (hf : ∀ x y l m i, r x y → Alk l m → AlR q (f x l i) (f' y m i)) : AlR q (R.bind f) (R'.bind f') := by
 cases R with
 | bad w a l =>
  cases R' with
  | bad v b m => exact h
  | ok y m j => exact h.elim
 | ok x l i =>
  cases R' with
  | bad v b m => exact h.elim
  | ok y m j =>
   obtain ⟨h1, h2, rfl⟩ := h
   exact hf x y l m i h1 h2
theorem AlR.map {r : α → α → Prop} {q : β → β → Prop} {R R' : Rs α} {g g' : α → β} (h : AlR r R R') (hg : ∀ x y, r x y → q (g x) (g' y)) : AlR q (R.map g) (R'.map g') := by
 cases R with
 | bad w a l =>
  cases R' with
  | bad v b m => exact h
  | ok y m j => exact h.elim
 | ok x l i =>
  cases R' with
  | bad v b m => exact h.elim
  | ok y m j => exact ⟨hg x y h.1, h.2⟩
theorem AlR.refuse {r : α → α → Prop} {why : Int} {l l' : List Tok} {it : Nat} (h : Alk l l') : AlR r (refuse e why l it) (refuse e' why l' it) := ⟨rfl, h⟩
theorem Alk.kind {l l' : List Tok} (h : Alk l l') (e e' k : Nat) : (Go.Proofs.YtjebglmpopijhaaGreatDoor.ahd e k l).kind = (Go.Proofs.YtjebglmpopijhaaGreatDoor.ahd e' k l').kind := congrArg (·.1) (h.ahd e e' k)
theorem Alk.text {l l' : List Tok} (h : Alk l l') (e e' k : Nat) : (Go.Proofs.YtjebglmpopijhaaGreatDoor.ahd e k l).text = (Go.Proofs.YtjebglmpopijhaaGreatDoor.ahd e' k l').text := congrArg (·.2.1) (h.ahd e e' k)
theorem Alk.num {l l' : List Tok} (h : Alk l l') (e e' k : Nat) : (Go.Proofs.YtjebglmpopijhaaGreatDoor.ahd e k l).num = (Go.Proofs.YtjebglmpopijhaaGreatDoor.ahd e' k l').num := congrArg (·.2.2) (h.ahd e e' k)
theorem Alk.sgn {l l' : List Tok} (h : Alk l l') (e e' : Nat) : Go.Proofs.YtjebglmpopijhaaGreatDoor.sgn e l = Go.Proofs.YtjebglmpopijhaaGreatDoor.sgn e' l' := by
 unfold Go.Proofs.YtjebglmpopijhaaGreatDoor.sgn
 rw [h.kind e e' 0, h.text e e' 0]
theorem Alk.callN {l l' : List Tok} (h : Alk l l') (e e' : Nat) : Go.Proofs.YtjebglmpopijhaaGreatDoor.callN e l = Go.Proofs.YtjebglmpopijhaaGreatDoor.callN e' l' := by
 unfold Go.Proofs.YtjebglmpopijhaaGreatDoor.callN
 rw [h.kind e e' 0, h.kind e e' 1, h.text e e' 1]
inductive All2 (r : α → α → Prop) : List α → List α → Prop
 | nil : All2 r [] []
 | cons {x y : α} {xs ys : List α} : r x y → All2 r xs ys → All2 r (x :: xs) (y :: ys)
theorem All2.len {r : α → α → Prop} {xs ys : List α} (h : All2 r xs ys) : xs.length = ys.length := by
 induction h with
 | nil => rfl
 | cons _ _ ih => simp [ih]
theorem All2.snoc {r : α → α → Prop} {xs ys : List α} {x y : α} (h : All2 r xs ys) (hx : r x y) : All2 r (xs ++ [x]) (ys ++ [y]) := by
 induction h with
 | nil => exact .cons hx .nil
 | cons h1 _ ih => exact .cons h1 ih
theorem All2.eqL {eq : α → α → Bool} {xs ys : List α} (h : All2 (fun x y => eq x y = true) xs ys) : eqL eq xs ys = true := by
 induction h with
 | nil => simp [Go.Proofs.YtjebglmpopijhaaGreatDoor.eqL]
 | cons h1 _ ih => rw [Qeh, h1, ih]; rfl
end
section
variable {e e' : Nat}
abbrev rE (x y : Ex) : Prop := eqE x y = true
abbrev rA (x y : Atm) : Prop := eqA x y = true
abbrev rLt (x y : Lt) : Prop := eqLt x y = true
abbrev rC (x y : Cls) : Prop := eqCl x y = true
abbrev rF (x y : Fld) : Prop := eqFd x y = true
structure rP (p q : Pg) : Prop where
 t : All2 (fun x y => eqTy x y = true) p.types q.types
 d : All2 (fun x y => eqDc x y = true) p.decls q.decls
 c : All2 (fun x y => eqCp x y = true) p.comps q.comps
 i : All2 (fun x y => eqIn x y = true) p.inits q.inits
 l : All2 (fun x y => eqCl x y = true) p.clauses q.clauses
theorem rP.eq {p q : Pg} (h : rP p q) : eqPg p q = true := by rw [Qcx, h.t.eqL, h.d.eqL, h.c.eqL, h.i.eqL, h.l.eqL]; rfl
theorem Alk.isEnd {l l' : List Tok} (h : Alk l l') (e e' : Nat) (top : Bool) : isEnd e top l = Go.Proofs.YtjebglmpopijhaaGreatDoor.isEnd e' top l' := by
 unfold Go.Proofs.YtjebglmpopijhaaGreatDoor.isEnd
 rw [h.kind e e' 0, h.text e e' 0]
end
end
section
open Go.RowKit Go.Maps
theorem Qjl {w : World} {xk xm xat : Int} {xt : Txt} {xa : Option Addr} {xn xc : Nat} {yk ym yat : Int} {yt : Txt} {ya : Option Addr} {yn yc : Nat} {s0 s1 s2 s3 s4 : Bool} (h0 : s0 = decide (xk = yk)) (h1 : s1 = decide (xm = ym)) (h2 : s2 = decide (xt = yt)) (h3 : ∀ w', Below w.heap.size w w' → Calls Tryz.prog 33 #[.int .i64 xat, .int .i64 yat, .bool false] w' fun en w2 => en = .returned (.bool s3) ∧ Below w'.heap.size w' w2) (h4 : ∀ w', Below w.heap.size w w' → Calls Tryz.prog 93 #[.slice xa xn xc, .slice ya yn yc, .bool false] w' fun en w2 => en = .returned (.bool s4) ∧ Below w'.heap.size w' w2) :
  Calls Tryz.prog 68 #[.agg #[.int .i64 xk, .int .i64 xm, str xt, .slice xa xn xc, .int .i64 xat], .agg #[.int .i64 yk, .int .i64 ym, str yt, .slice ya yn yc, .int .i64 yat], .bool false] w fun en w' => en = .returned (.bool (s0 && s1 && s2 && s3 && s4)) ∧ Below w.heap.size w w' := by
 have B0 : Hid (Below w.heap.size w ((w.alloc (.cells #[.int .i64 xk, .int .i64 xm, str xt, .slice xa xn xc, .int .i64 xat] 88)).alloc (.cells #[.int .i64 yk, .int .i64 ym, str yt, .slice ya yn yc, .int .i64 yat] 88)) ∧ ((w.alloc (.cells #[.int .i64 xk, .int .i64 xm, str xt, .slice xa xn xc, .int .i64 xat] 88)).alloc (.cells #[.int .i64 yk, .int .i64 ym, str yt, .slice ya yn yc, .int .i64 yat] 88)).heap[w.heap.size]? = some (.cells #[.int .i64 xk, .int .i64 xm, str xt, .slice xa xn xc, .int .i64 xat] 88 (0, 0)) ∧ ((w.alloc (.cells #[.int .i64 xk, .int .i64 xm, str xt, .slice xa xn xc, .int .i64 xat] 88)).alloc (.cells #[.int .i64 yk, .int .i64 ym, str yt, .slice ya yn yc, .int .i64 yat] 88)).heap[w.heap.size + 1]? = some (.cells #[.int .i64 yk, .int .i64 ym, str yt, .slice ya yn yc, .int .i64 yat] 88 (0, 0))) := by
  refine ⟨((Below.refl _ w).alloc (Nat.le_refl _) _).alloc (by simp) _, ?_, ?_⟩
  · rw [Below.heap_alloc _ _ _ (by simp)]; exact heap_alloc_new w _
  have := heap_alloc_new (w.alloc (.cells #[.int .i64 xk, .int .i64 xm, str xt, .slice xa xn xc, .int .i64 xat] 88)) (.cells #[.int .i64 yk, .int .i64 ym, str yt, .slice ya yn yc, .int .i64 yat] 88)
  rw [show (w.alloc (.cells #[.int .i64 xk, .int .i64 xm, str xt, .slice xa xn xc, .int .i64 xat] 88)).heap.size = w.heap.size + 1 by simp] at this
  exact this
 have H0 := hide h0
 have H1 := hide h1
 have H2 := hide h2
 have H3 := hide h3
 have H4 := hide h4
 clear h0 h1 h2 h3 h4
 cases s0
 ·
  have g0 : (xk == yk) = false := by simpa using Qa H0
  go_enter Tryz.func68, Tryz.ntmps68
  go_wp2_with fail
  go_ret
  exact ⟨rfl, (Qa B0).1⟩
 have g0 : (xk == yk) = true := by simpa using Qa H0
 cases s1
 ·
  have g1 : (xm == ym) = false := by simpa using Qa H1
  go_enter Tryz.func68, Tryz.ntmps68
  go_wp2_with fail
  go_ret
  exact ⟨rfl, (Qa B0).1⟩
 have g1 : (xm == ym) = true := by simpa using Qa H1
 cases s2
 ·
  have g2 : (xt == yt) = false := by simpa using Qa H2
  go_enter Tryz.func68, Tryz.ntmps68
  go_wp2_with fail
  go_ret
  exact ⟨rfl, (Qa B0).1⟩
 have g2 : (xt == yt) = true := by simpa using Qa H2
 go_enter Tryz.func68, Tryz.ntmps68
 have hcl := Qa H3 _ (Qa B0).1
 go_wp2_with fail
 refine hcl.mono ?_
 clear hcl
 rintro en w3 ⟨rfl, b3⟩
 obtain ⟨bb, na, nb⟩ := Qa B0
 have na3 := (b3.block _ (Qag na)).trans na
 have nb3 := (b3.block _ (Qag nb)).trans nb
 have BB3 := hide (Ya (bb.trans (b3.mono bb.size)) (Ya na3 nb3))
 obtain ⟨x_0, x_1, x_2, x_3, x_4, xf⟩ := cl5 na3
 obtain ⟨y_0, y_1, y_2, y_3, y_4, yf⟩ := cl5 nb3
 clear bb na nb b3 na3 nb3
 cases s3
 ·
  go_wp2_with fail
  go_ret
  exact ⟨rfl, (Qa BB3).1⟩
 have hcl := Qa H4 _ (Qa BB3).1
 go_wp2_with fail
 refine hcl.mono ?_
 clear hcl
 rintro en w4 ⟨rfl, b4⟩
 obtain ⟨bb, na, nb⟩ := Qa BB3
 have na4 := (b4.block _ (Qag na)).trans na
 have nb4 := (b4.block _ (Qag nb)).trans nb
 have BB4 := hide (Ya (bb.trans (b4.mono bb.size)) (Ya na4 nb4))
 obtain ⟨x_0, x_1, x_2, x_3, x_4, xf⟩ := cl5 na4
 obtain ⟨y_0, y_1, y_2, y_3, y_4, yf⟩ := cl5 nb4
 clear bb na nb b4 na4 nb4
 cases s4
 ·
  go_wp2_with fail
  go_ret
  exact ⟨rfl, (Qa BB4).1⟩
 go_wp2_with fail
 go_ret
 exact ⟨rfl, (Qa BB4).1⟩
end
section
open Go.RowKit Go.Maps
theorem Qjk {w : World} {xat : Int} {xt : Txt} {xa : Option Addr} {xn xc : Nat} {yat : Int} {yt : Txt} {ya : Option Addr} {yn yc : Nat} {s0 s1 s2 : Bool} (h0 : s0 = decide (xt = yt)) (h1 : ∀ w', Below w.heap.size w w' → Calls Tryz.prog 33 #[.int .i64 xat, .int .i64 yat, .bool false] w' fun en w2 => en = .returned (.bool s1) ∧ Below w'.heap.size w' w2) (h2 : ∀ w', Below w.heap.size w w' → Calls Tryz.prog 93 #[.slice xa xn xc, .slice ya yn yc, .bool false] w' fun en w2 => en = .returned (.bool s2) ∧ Below w'.heap.size w' w2) :
  Calls Tryz.prog 67 #[.agg #[str xt, .slice xa xn xc, .int .i64 xat], .agg #[str yt, .slice ya yn yc, .int .i64 yat], .bool false] w fun en w' => en = .returned (.bool (s0 && s1 && s2)) ∧ Below w.heap.size w w' := by
 have B0 : Hid (Below w.heap.size w ((w.alloc (.cells #[str xt, .slice xa xn xc, .int .i64 xat] 77)).alloc (.cells #[str yt, .slice ya yn yc, .int .i64 yat] 77)) ∧ ((w.alloc (.cells #[str xt, .slice xa xn xc, .int .i64 xat] 77)).alloc (.cells #[str yt, .slice ya yn yc, .int .i64 yat] 77)).heap[w.heap.size]? = some (.cells #[str xt, .slice xa xn xc, .int .i64 xat] 77 (0, 0)) ∧ ((w.alloc (.cells #[str xt, .slice xa xn xc, .int .i64 xat] 77)).alloc (.cells #[str yt, .slice ya yn yc, .int .i64 yat] 77)).heap[w.heap.size + 1]? = some (.cells #[str yt, .slice ya yn yc, .int .i64 yat] 77 (0, 0))) := by
  refine ⟨((Below.refl _ w).alloc (Nat.le_refl _) _).alloc (by simp) _, ?_, ?_⟩
  · rw [Below.heap_alloc _ _ _ (by simp)]; exact heap_alloc_new w _
  have := heap_alloc_new (w.alloc (.cells #[str xt, .slice xa xn xc, .int .i64 xat] 77)) (.cells #[str yt, .slice ya yn yc, .int .i64 yat] 77)
  rw [show (w.alloc (.cells #[str xt, .slice xa xn xc, .int .i64 xat] 77)).heap.size = w.heap.size + 1 by simp] at this
  exact this
 have H0 := hide h0
 have H1 := hide h1
 have H2 := hide h2
 clear h0 h1 h2
 cases s0
 ·
  have g0 : (xt == yt) = false := by simpa using Qa H0
  go_enter Tryz.func67, Tryz.ntmps67
  go_wp2_with fail
  go_ret
  exact ⟨rfl, (Qa B0).1⟩
 have g0 : (xt == yt) = true := by simpa using Qa H0
 go_enter Tryz.func67, Tryz.ntmps67
 have hcl := Qa H1 _ (Qa B0).1
 go_wp2_with fail
 refine hcl.mono ?_
 clear hcl
 rintro en w1 ⟨rfl, b1⟩
 obtain ⟨bb, na, nb⟩ := Qa B0
 have na1 := (b1.block _ (Qag na)).trans na
 have nb1 := (b1.block _ (Qag nb)).trans nb
 have BB1 := hide (Ya (bb.trans (b1.mono bb.size)) (Ya na1 nb1))
 obtain ⟨x_0, x_1, x_2, xf⟩ := cl3 na1
 obtain ⟨y_0, y_1, y_2, yf⟩ := cl3 nb1
 clear bb na nb b1 na1 nb1
 cases s1
 ·
  go_wp2_with fail
  go_ret
  exact ⟨rfl, (Qa BB1).1⟩
 have hcl := Qa H2 _ (Qa BB1).1
 go_wp2_with fail
 refine hcl.mono ?_
 clear hcl
 rintro en w2 ⟨rfl, b2⟩
 obtain ⟨bb, na, nb⟩ := Qa BB1
 have na2 := (b2.block _ (Qag na)).trans na
 have nb2 := (b2.block _ (Qag nb)).trans nb
 have BB2 := hide (Ya (bb.trans (b2.mono bb.size)) (Ya na2 nb2))
 obtain ⟨x_0, x_1, x_2, xf⟩ := cl3 na2
 obtain ⟨y_0, y_1, y_2, yf⟩ := cl3 nb2
 clear bb na nb b2 na2 nb2
 cases s2
 ·
  go_wp2_with fail
  go_ret
  exact ⟨rfl, (Qa BB2).1⟩
 go_wp2_with fail
 go_ret
 exact ⟨rfl, (Qa BB2).1⟩
end
section
open Go.RowKit Go.Maps
theorem Qgb {S : Nat → Prop} {w : World} {va vb : Value} {xs ys : List Fld} (ha : LsAt PF 2 S w va xs) (hb : LsAt PF 2 S w vb ys) :
  Calls Tryz.prog 65 #[va, vb] w fun en w' => en = .returned (.bool (eqL eqFd xs ys)) ∧ Below w.heap.size w w' := by
 obtain ⟨a1, p1, e1⟩ := ha.sl
 obtain ⟨a2, p2, e2⟩ := hb.sl
 have hm1 : xs.length ≤ p1 ∧ p1 ≤ maxLen := by
  obtain ⟨_, _, _, e, h1, h2, _⟩ := ha
  rw [e] at e1
  cases e1
  exact ⟨h1, h2⟩
 have hm2 : ys.length ≤ p2 ∧ p2 ≤ maxLen := by
  obtain ⟨_, _, _, e, h1, h2, _⟩ := hb
  rw [e] at e2
  cases e2
  exact ⟨h1, h2⟩
 unfold maxLen at hm1 hm2
 obtain ⟨n1, hn1⟩ : ∃ n, xs.length = n := ⟨_, rfl⟩
 obtain ⟨n2, hn2⟩ : ∃ n, ys.length = n := ⟨_, rfl⟩
 rw [hn1] at e1 hm1
 rw [hn2] at e2 hm2
 obtain ⟨hc1, hc2⟩ := hm1
 obtain ⟨hc3, hc4⟩ := hm2
 have HA := hide (Ya ha (Ya hb (Ya hn1 hn2)))
 have HV := hide (Ya e1 e2)
 rw [e1, e2]
 clear ha hb e1 e2 hn1 hn2
 by_cases hlen : n1 = n2
 ·
  subst hlen
  go_enter Tryz.func65, Tryz.ntmps65
  go_wp2_with fail
  go_loopw [5] (fun i wr => ∃ j : Nat, i = .int .i64 (j : Int) ∧ j ≤ n1 ∧ Hid (Below w.heap.size w wr ∧ ∀ q x y, q < j → xs[q]? = some x → ys[q]? = some y → eqFd x y = true)) (fun i _ => n1 - (intOf i).toNat)
  case atStart => exact ⟨0, rfl, Nat.zero_le _, hide ⟨Below.refl _ _, fun q _ _ hq => absurd hq (Nat.not_lt_zero _)⟩⟩
  obtain ⟨j, rfl, hj, HB⟩ := hrel
  by_cases hlt : j < n1
  ·
   obtain ⟨ha, hb, hn1, hn2⟩ := Qa HA
   obtain ⟨bw, hall⟩ := Qa HB
   obtain ⟨x, hx⟩ : ∃ x, xs[j]? = some x := ⟨xs[j]'(by omega), List.getElem?_eq_getElem _⟩
   obtain ⟨y, hy⟩ : ∃ y, ys[j]? = some y := ⟨ys[j]'(by omega), List.getElem?_eq_getElem _⟩
   obtain ⟨b1, q1, cs1, ev1, hb1, _, hl1, hp1, hc1'⟩ := (ha.later Qbt bw).elem hx
   obtain ⟨b2, q2, cs2, ev2, hb2, _, hl2, hp2, hc2'⟩ := (hb.later Qbt bw).elem hy
   have hp1 : cs1 = [str x.name, str x.type] := hp1
   have hp2 : cs2 = [str y.name, str y.type] := hp2
   subst hp1
   subst hp2
   rw [(Qa HV).1, hn1] at ev1
   rw [(Qa HV).2, hn2] at ev2
   simp only [Value.slice.injEq] at ev1 ev2
   obtain ⟨rfl, -, -⟩ := ev1
   obtain ⟨rfl, -, -⟩ := ev2
   have x_0 : wr.cell? ⟨b1, j * 2, none⟩ = some (str x.name) := hc1' 0 _ rfl
   have y_0 : wr.cell? ⟨b2, j * 2, none⟩ = some (str y.name) := hc2' 0 _ rfl
   have x_1 : wr.cell? ⟨b1, j * 2 + 1, none⟩ = some (str x.type) := hc1' 1 _ rfl
   have y_1 : wr.cell? ⟨b2, j * 2 + 1, none⟩ = some (str y.type) := hc2' 1 _ rfl
   clear ha hb hc1' hc2' hl1 hl2 hn1 hn2 HA HV HB
   by_cases e0 : x.name = y.name
   ·
    have g0 : (x.name == y.name) = true := by simpa using e0
    by_cases e1 : x.type = y.type
    ·
     have g1 : (x.type == y.type) = true := by simpa using e1
     have HF := hide (Ya hx (Ya hy (Ya hall (Ya bw (show eqFd x y = true by unfold eqFd; simp [e0, e1])))))
     clear hx hy hall bw e0 e1
     go_wp2_with fail
     go_region
     all_goals
      go_wp2_with fail
      go_roundw
      case rel =>
       obtain ⟨hx, hy, hall, bw, hr⟩ := Qa HF
       refine ⟨j + 1, by go_num, by omega, hide ⟨bw.drew, fun q x' y' hq hx' hy' => ?_⟩⟩
       by_cases e : q = j
       ·
        subst e
        rw [hx] at hx'
        rw [hy] at hy'
        cases hx'
        cases hy'
        exact hr
       · exact hall q x' y' (by omega) hx' hy'
      case measure => simp [intOf]; omega
    have g1 : (x.type == y.type) = false := by simpa using e1
    have HF := hide (Ya hx (Ya hy (Ya hall (Ya bw (show eqFd x y = false by unfold eqFd; simp [e0, e1])))))
    clear hx hy hall bw e0 e1
    go_wp2_with fail
    go_region
    all_goals
     go_wp2_with fail
     go_ret
     obtain ⟨hx, hy, hall, bw, hr⟩ := Qa HF
     exact ⟨by rw [Qal hx hy hr]; rfl, bw.drew⟩
   have g0 : (x.name == y.name) = false := by simpa using e0
   have HF := hide (Ya hx (Ya hy (Ya hall (Ya bw (show eqFd x y = false by unfold eqFd; simp [e0])))))
   clear hx hy hall bw e0
   go_wp2_with fail
   go_region
   all_goals
    go_wp2_with fail
    go_ret
    obtain ⟨hx, hy, hall, bw, hr⟩ := Qa HF
    exact ⟨by rw [Qal hx hy hr]; rfl, bw.drew⟩
  obtain ⟨bw, hall⟩ := Qa HB
  have HF := hide (Ya bw hall)
  clear bw hall HB
  go_wp2_with fail
  go_ret
  obtain ⟨bw, hall⟩ := Qa HF
  obtain ⟨_, _, hn1, hn2⟩ := Qa HA
  exact ⟨by rw [Qbd (by omega) (fun q x' y' hx' hy' => hall q x' y' (by have := (List.getElem?_eq_some_iff.1 hx').1; omega) hx' hy')]; rfl, bw⟩
 have hne : ((n1 : Int) != (n2 : Int)) = true := by simp; omega
 go_enter Tryz.func65, Tryz.ntmps65
 go_wp2_with fail
 go_ret
 obtain ⟨_, _, hn1, hn2⟩ := Qa HA
 exact ⟨by rw [Qbw (by omega)]; rfl, Below.refl _ _⟩
end
section
open Go.RowKit Go.Maps
theorem Qig {S : Nat → Prop} {w : World} {va vb : Value} {xs ys : List Txt} (ha : LsAt PSt 1 S w va xs) (hb : LsAt PSt 1 S w vb ys) :
  Calls Tryz.prog 66 #[va, vb] w fun en w' => en = .returned (.bool (eqL eqTx xs ys)) ∧ Below w.heap.size w w' := by
 obtain ⟨a1, p1, e1⟩ := ha.sl
 obtain ⟨a2, p2, e2⟩ := hb.sl
 have hm1 : xs.length ≤ p1 ∧ p1 ≤ maxLen := by
  obtain ⟨_, _, _, e, h1, h2, _⟩ := ha
  rw [e] at e1
  cases e1
  exact ⟨h1, h2⟩
 have hm2 : ys.length ≤ p2 ∧ p2 ≤ maxLen := by
  obtain ⟨_, _, _, e, h1, h2, _⟩ := hb
  rw [e] at e2
  cases e2
  exact ⟨h1, h2⟩
 unfold maxLen at hm1 hm2
 obtain ⟨n1, hn1⟩ : ∃ n, xs.length = n := ⟨_, rfl⟩
 obtain ⟨n2, hn2⟩ : ∃ n, ys.length = n := ⟨_, rfl⟩
 rw [hn1] at e1 hm1
 rw [hn2] at e2 hm2
 obtain ⟨hc1, hc2⟩ := hm1
 obtain ⟨hc3, hc4⟩ := hm2
 have HA := hide (Ya ha (Ya hb (Ya hn1 hn2)))
 have HV := hide (Ya e1 e2)
 rw [e1, e2]
 clear ha hb e1 e2 hn1 hn2
 by_cases hlen : n1 = n2
 ·
  subst hlen
  go_enter Tryz.func66, Tryz.ntmps66
  go_wp2_with fail
  go_loopw [5] (fun i wr => ∃ j : Nat, i = .int .i64 (j : Int) ∧ j ≤ n1 ∧ Hid (Below w.heap.size w wr ∧ ∀ q x y, q < j → xs[q]? = some x → ys[q]? = some y → eqTx x y = true)) (fun i _ => n1 - (intOf i).toNat)
  case atStart => exact ⟨0, rfl, Nat.zero_le _, hide ⟨Below.refl _ _, fun q _ _ hq => absurd hq (Nat.not_lt_zero _)⟩⟩
  obtain ⟨j, rfl, hj, HB⟩ := hrel
  by_cases hlt : j < n1
  ·
   obtain ⟨ha, hb, hn1, hn2⟩ := Qa HA
   obtain ⟨bw, hall⟩ := Qa HB
   obtain ⟨x, hx⟩ : ∃ x, xs[j]? = some x := ⟨xs[j]'(by omega), List.getElem?_eq_getElem _⟩
   obtain ⟨y, hy⟩ : ∃ y, ys[j]? = some y := ⟨ys[j]'(by omega), List.getElem?_eq_getElem _⟩
   obtain ⟨b1, q1, cs1, ev1, hb1, _, hl1, hp1, hc1'⟩ := (ha.later Qbf bw).elem hx
   obtain ⟨b2, q2, cs2, ev2, hb2, _, hl2, hp2, hc2'⟩ := (hb.later Qbf bw).elem hy
   have hp1 : cs1 = [str x] := hp1
   have hp2 : cs2 = [str y] := hp2
   subst hp1
   subst hp2
   rw [(Qa HV).1, hn1] at ev1
   rw [(Qa HV).2, hn2] at ev2
   simp only [Value.slice.injEq] at ev1 ev2
   obtain ⟨rfl, -, -⟩ := ev1
   obtain ⟨rfl, -, -⟩ := ev2
   simp only [Nat.mul_one] at hc1' hc2'
   have x_0 : wr.cell? ⟨b1, j, none⟩ = some (str x) := hc1' 0 _ rfl
   have y_0 : wr.cell? ⟨b2, j, none⟩ = some (str y) := hc2' 0 _ rfl
   clear ha hb hc1' hc2' hl1 hl2 hn1 hn2 HA HV HB
   by_cases e0 : x = y
   ·
    have g0 : (x == y) = true := by simpa using e0
    have HF := hide (Ya hx (Ya hy (Ya hall (Ya bw (show eqTx x y = true by unfold eqTx; simp [e0])))))
    clear hx hy hall bw e0
    go_wp2_with fail
    go_region
    all_goals
     go_wp2_with fail
     go_roundw
     case rel =>
      obtain ⟨hx, hy, hall, bw, hr⟩ := Qa HF
      refine ⟨j + 1, by go_num, by omega, hide ⟨bw.drew, fun q x' y' hq hx' hy' => ?_⟩⟩
      by_cases e : q = j
      ·
       subst e
       rw [hx] at hx'
       rw [hy] at hy'
       cases hx'
       cases hy'
       exact hr
      · exact hall q x' y' (by omega) hx' hy'
     case measure => simp [intOf]; omega
   have g0 : (x == y) = false := by simpa using e0
   have HF := hide (Ya hx (Ya hy (Ya hall (Ya bw (show eqTx x y = false by unfold eqTx; simp [e0])))))
   clear hx hy hall bw e0
   go_wp2_with fail
   go_region
   all_goals
    go_wp2_with fail
    go_ret
    obtain ⟨hx, hy, hall, bw, hr⟩ := Qa HF
    exact ⟨by rw [Qal hx hy hr]; rfl, bw.drew⟩
  obtain ⟨bw, hall⟩ := Qa HB
  have HF := hide (Ya bw hall)
  clear bw hall HB
  go_wp2_with fail
  go_ret
  obtain ⟨bw, hall⟩ := Qa HF
  obtain ⟨_, _, hn1, hn2⟩ := Qa HA
  exact ⟨by rw [Qbd (by omega) (fun q x' y' hx' hy' => hall q x' y' (by have := (List.getElem?_eq_some_iff.1 hx').1; omega) hx' hy')]; rfl, bw⟩
 have hne : ((n1 : Int) != (n2 : Int)) = true := by simp; omega
 go_enter Tryz.func66, Tryz.ntmps66
 go_wp2_with fail
 go_ret
 obtain ⟨_, _, hn1, hn2⟩ := Qa HA
 exact ⟨by rw [Qbw (by omega)]; rfl, Below.refl _ _⟩
end
section
open Go.RowKit Go.Maps
theorem Qcb (a b : Int) (w : World) : Calls Tryz.prog 33 #[.int .i64 a, .int .i64 b, .bool false] w fun en w' => en = .returned (.bool true) ∧ Below w.heap.size w w' := by
 go_enter Tryz.func33, Tryz.ntmps33
 go_wp2_with fail
 go_ret
 exact ⟨rfl, Below.refl _ _⟩
attribute [local go_sem ↓] Qdl Qcv
theorem Qjm {S : Nat → Prop} {w : World} {va vb : Value} {xs ys : List Ex} (ha : LsAt PE 5 S w va xs) (hb : LsAt PE 5 S w vb ys)
  (hf : ∀ (j : Nat) (x y : Ex), xs[j]? = some x → ys[j]? = some y → ∀ w' c0 c1 c2 c3 c4 d0 d1 d2 d3 d4, Below w.heap.size w w' → ExS S w' [c0, c1, c2, c3, c4] x → ExS S w' [d0, d1, d2, d3, d4] y → Calls Tryz.prog 68 #[.agg #[c0, c1, c2, c3, c4], .agg #[d0, d1, d2, d3, d4], .bool false] w' fun en w2 => en = .returned (.bool (eqE x y)) ∧ Below w'.heap.size w' w2) :
  Calls Tryz.prog 93 #[va, vb, .bool false] w fun en w' => en = .returned (.bool (eqL eqE xs ys)) ∧ Below w.heap.size w w' := by
 obtain ⟨a1, p1, e1⟩ := ha.sl
 obtain ⟨a2, p2, e2⟩ := hb.sl
 have hm1 : xs.length ≤ p1 ∧ p1 ≤ maxLen := by
  obtain ⟨_, _, _, e, h1, h2, _⟩ := ha
  rw [e] at e1
  cases e1
  exact ⟨h1, h2⟩
 have hm2 : ys.length ≤ p2 ∧ p2 ≤ maxLen := by
  obtain ⟨_, _, _, e, h1, h2, _⟩ := hb
  rw [e] at e2
  cases e2
  exact ⟨h1, h2⟩
 unfold maxLen at hm1 hm2
 obtain ⟨n1, hn1⟩ : ∃ n, xs.length = n := ⟨_, rfl⟩
 obtain ⟨n2, hn2⟩ : ∃ n, ys.length = n := ⟨_, rfl⟩
 rw [hn1] at e1 hm1
 rw [hn2] at e2 hm2
 obtain ⟨hc1, hc2⟩ := hm1
 obtain ⟨hc3, hc4⟩ := hm2
 have HA := hide (Ya ha (Ya hb (Ya hf (Ya hn1 hn2))))
 have HV := hide (Ya e1 e2)
 rw [e1, e2]
 clear ha hb hf e1 e2 hn1 hn2
 by_cases hlen : n1 = n2
 ·
  subst hlen
  go_enter Tryz.func93, Tryz.ntmps93
  go_wp2_with fail
  go_loopw [7] (fun i wr => ∃ j : Nat, i = .int .i64 (j : Int) ∧ j ≤ n1 ∧ Hid (Below w.heap.size w wr ∧ ∀ q x y, q < j → xs[q]? = some x → ys[q]? = some y → eqE x y = true)) (fun i _ => n1 - (intOf i).toNat)
  case atStart => exact ⟨0, rfl, Nat.zero_le _, hide ⟨Below.refl _ _, fun q _ _ hq => absurd hq (Nat.not_lt_zero _)⟩⟩
  obtain ⟨j, rfl, hj, HB⟩ := hrel
  by_cases hlt : j < n1
  ·
   obtain ⟨ha, hb, hf, hn1, hn2⟩ := Qa HA
   obtain ⟨bw, hall⟩ := Qa HB
   obtain ⟨x, hx⟩ : ∃ x, xs[j]? = some x := ⟨xs[j]'(by omega), List.getElem?_eq_getElem _⟩
   obtain ⟨y, hy⟩ : ∃ y, ys[j]? = some y := ⟨ys[j]'(by omega), List.getElem?_eq_getElem _⟩
   obtain ⟨b1, q1, cs1, ev1, hb1, _, hl1, hp1, hc1'⟩ := (ha.later Qaf bw).elem hx
   obtain ⟨b2, q2, cs2, ev2, hb2, _, hl2, hp2, hc2'⟩ := (hb.later Qaf bw).elem hy
   obtain ⟨c0, c1, c2, c3, c4, rfl⟩ := Qlv hl1
   obtain ⟨d0, d1, d2, d3, d4, rfl⟩ := Qlv hl2
   rw [(Qa HV).1, hn1] at ev1
   rw [(Qa HV).2, hn2] at ev2
   simp only [Value.slice.injEq] at ev1 ev2
   obtain ⟨rfl, -, -⟩ := ev1
   obtain ⟨rfl, -, -⟩ := ev2
   have bd : Below wr.heap.size wr wr.drew := (Below.refl _ wr).drew
   have hcl := hf j x y hx hy wr.drew c0 c1 c2 c3 c4 d0 d1 d2 d3 d4 bw.drew (Qaf.same _ _ _ _ _ hp1 bd.size (fun b _ hl => bd.block b hl)) (Qaf.same _ _ _ _ _ hp2 bd.size (fun b _ hl => bd.block b hl))
   obtain ⟨r, hr⟩ : ∃ r, r = eqE x y := ⟨_, rfl⟩
   rw [← hr] at hcl
   have HC : Hid (∀ w', Below wr.heap.size wr w' → (∀ q c, ([c0, c1, c2, c3, c4] : List Value)[q]? = some c → w'.cell? ⟨b1, j * 5 + q, none⟩ = some c) ∧ (∀ q c, ([d0, d1, d2, d3, d4] : List Value)[q]? = some c → w'.cell? ⟨b2, j * 5 + q, none⟩ = some c)) := fun w' bb => ⟨fun q c hq => by rw [bb.cell (p := ⟨b1, _, none⟩) hb1]; exact hc1' q c hq, fun q c hq => by rw [bb.cell (p := ⟨b2, _, none⟩) hb2]; exact hc2' q c hq⟩
   have HF := hide (Ya hx (Ya hy (Ya hall (Ya bw hr))))
   clear ha hb hf bw hall hx hy hc1' hc2' hp1 hp2 hl1 hl2 hn1 hn2 HA HV hb1 hb2 hr HB bd
   go_wp2_with fail
   refine Qak (md := [(0, true), (1, true), (2, true), (3, true), (4, true), (5, true), (6, true), (7, true), (8, true), (9, false), (10, true)]) (fun w' => (∀ q c, ([c0, c1, c2, c3, c4] : List Value)[q]? = some c → w'.cell? ⟨b1, j * 5 + q, none⟩ = some c) ∧ (∀ q c, ([d0, d1, d2, d3, d4] : List Value)[q]? = some c → w'.cell? ⟨b2, j * 5 + q, none⟩ = some c)) mixedO (by kernel_rfl) rfl (by kernel_rfl) (fun PP hPP => ?_)
   iterate 3 refine Qaa rfl (by kernel_rfl) (fun _ _ => by go_simp <;> rfl) ?_
   refine Qaa rfl (by kernel_rfl) (fun w' hw => by have L := Qfk (w := w') (fun q c hq => hw.1 q c hq); go_simp <;> rfl) ?_
   iterate 3 refine Qaa rfl (by kernel_rfl) (fun _ _ => by go_simp <;> rfl) ?_
   refine Qaa rfl (by kernel_rfl) (fun w' hw => by have L := Qfk (w := w') (fun q c hq => hw.2 q c hq); go_simp <;> rfl) ?_
   refine Qaa rfl (by kernel_rfl) (fun _ _ => by go_simp <;> rfl) ?_
   refine Qai rfl (Qa HC _ ((Below.refl _ wr).drew)) (fun K hK => ?_)
   go_simp
   refine hcl.mono ?_
   clear hcl
   rintro en w4 ⟨rfl, b4⟩
   have B4 := hide (((Below.refl _ wr).drew).trans b4)
   clear b4
   cases r
   ·
    go_wp2_with fail
    refine Qaa rfl (by kernel_rfl) (fun _ _ => by go_simp <;> rfl) ?_
    refine Qap (Qa HC _ (Qa B4)) (hPP _ _ ?_)
    clear hPP PP
    simp [Act.put, Array.setIfInBounds]
    go_wp2_with fail
    go_ret
    obtain ⟨hx, hy, hall, bw, hr⟩ := Qa HF
    exact ⟨by rw [Qal hx hy hr.symm]; rfl, bw.trans ((Qa B4).mono bw.size)⟩
   go_wp2_with fail
   refine Qaa rfl (by kernel_rfl) (fun _ _ => by go_simp <;> rfl) ?_
   refine Qap (Qa HC _ (Qa B4)) (hPP _ _ ?_)
   clear hPP PP
   simp [Act.put, Array.setIfInBounds]
   go_wp2_with fail
   go_roundw
   case rel =>
    obtain ⟨hx, hy, hall, bw, hr⟩ := Qa HF
    refine ⟨j + 1, by go_num, by omega, hide ⟨bw.trans ((Qa B4).mono bw.size), fun q x' y' hq hx' hy' => ?_⟩⟩
    by_cases e : q = j
    ·
     subst e
     rw [hx] at hx'
     rw [hy] at hy'
     cases hx'
     cases hy'
     exact hr.symm
    · exact hall q x' y' (by omega) hx' hy'
   case measure => simp [intOf]; omega
  obtain ⟨bw, hall⟩ := Qa HB
  have HF := hide (Ya bw hall)
  clear bw hall HB
  go_wp2_with fail
  go_ret
  obtain ⟨bw, hall⟩ := Qa HF
  obtain ⟨_, _, _, hn1, hn2⟩ := Qa HA
  exact ⟨by rw [Qbd (by omega) (fun q x' y' hx' hy' => hall q x' y' (by have := (List.getElem?_eq_some_iff.1 hx').1; omega) hx' hy')]; rfl, bw⟩
 have hne : ((n1 : Int) != (n2 : Int)) = true := by simp; omega
 go_enter Tryz.func93, Tryz.ntmps93
 go_wp2_with fail
 go_ret
 obtain ⟨_, _, _, hn1, hn2⟩ := Qa HA
 exact ⟨by rw [Qbw (by omega)]; rfl, Below.refl _ _⟩
theorem and_t (a b c d : Bool) : (a && b && c && true && d) = (a && b && c && d) := by cases a <;> cases b <;> cases c <;> cases d <;> rfl
theorem Qei (x : Ex) : ∀ (y : Ex) (S : Nat → Prop) (w : World) (c0 c1 c2 c3 c4 d0 d1 d2 d3 d4 : Value), ExS S w [c0, c1, c2, c3, c4] x → ExS S w [d0, d1, d2, d3, d4] y →
  Calls Tryz.prog 68 #[.agg #[c0, c1, c2, c3, c4], .agg #[d0, d1, d2, d3, d4], .bool false] w fun en w' => en = .returned (.bool (eqE x y)) ∧ Below w.heap.size w w' :=
 match x with
 | .mk k n s ks a => fun y S w c0 c1 c2 c3 c4 d0 d1 d2 d3 d4 hx hy => by
  obtain ⟨v, ex, ⟨xa, xc, rfl⟩, hkx⟩ := hx.cells
  obtain ⟨u, ey, ⟨ya, yc, rfl⟩, hky⟩ := hy.cells
  simp only [List.cons.injEq, and_true] at ex ey
  obtain ⟨rfl, rfl, rfl, rfl, rfl⟩ := ex
  obtain ⟨rfl, rfl, rfl, rfl, rfl⟩ := ey
  rw [Qsz, ← and_t]
  refine Qjl rfl rfl rfl (fun w' _ => Qcb _ _ w') (fun w' hb => ?_)
  refine (Qjm (hkx.later Qaf hb) (hky.later Qaf hb) (fun j x1 y1 hx1 hy1 w1 e0 e1 e2 e3 e4 f0 f1 f2 f3 f4 _ h1 h2 => ?_)).mono (fun _ _ h => h)
  have hm : x1 ∈ ks := List.mem_of_getElem? hx1
  exact Qei x1 y1 S w1 e0 e1 e2 e3 e4 f0 f1 f2 f3 f4 h1 h2
termination_by SizeOf.sizeOf x
decreasing_by
 have := List.sizeOf_lt_of_mem hm
 simp only [Ex.mk.sizeOf_spec]
 omega
theorem Qhj {x y : Atm} {S : Nat → Prop} {w : World} {xa ya : Option Addr} {xn xc yn yc : Nat} (hx : LsAt PE 5 S w (.slice xa xn xc) x.args) (hy : LsAt PE 5 S w (.slice ya yn yc) y.args) :
  Calls Tryz.prog 67 #[.agg #[str x.rel, .slice xa xn xc, .int .i64 x.at_], .agg #[str y.rel, .slice ya yn yc, .int .i64 y.at_], .bool false] w fun en w' => en = .returned (.bool (eqA x y)) ∧ Below w.heap.size w w' := by
 have e : eqA x y = (decide (x.rel = y.rel) && true && eqL eqE x.args y.args) := by unfold eqA; rw [Bool.and_true]
 rw [e]
 exact Qjk rfl (fun w' _ => Qcb _ _ w') (fun w' hb => Qjm (hx.later Qaf hb) (hy.later Qaf hb) (fun j x1 y1 _ _ w1 e0 e1 e2 e3 e4 f0 f1 f2 f3 f4 _ h1 h2 => Qei x1 y1 S w1 e0 e1 e2 e3 e4 f0 f1 f2 f3 f4 h1 h2))
end
end Go.Proofs.YtjebglmpopijhaaGreatDoor
