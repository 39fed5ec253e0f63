/- The law's rows. The law's rows: the walk. -/
import Derived.Test.YthcljhfankooaabGreatMFinds
namespace Go.Proofs.YthcljhfankooaabGreat
open Go.RowKit Go.Shelf
attribute [local go_sem] Oper.semAt_some

/-- The document's rows in memory. -/
def DRowsAt (B : Nat → Prop) (w : World) (v : Value) (R : List Nrow) : Prop := ∃ a cap, v = .slice a R.length cap ∧ R.length ≤ cap ∧ cap ≤ 9223372036854775807 ∧ ∀ j, j < R.length → ∃ b u p, a = some ⟨b, 0, none⟩ ∧ B b ∧ R[j]? = some p ∧ w.cell? ⟨b, j * 3, none⟩ = some u ∧ w.cell? ⟨b, j * 3 + 1, none⟩ = some (.int .i64 p.2.1) ∧ w.cell? ⟨b, j * 3 + 2, none⟩ = some (.int .i64 p.2.2) ∧ IntsS B w u p.1
def flat3 (us : List (Value × Nrow)) : List Value := us.flatMap fun p => [p.1, .int .i64 p.2.2.1, .int .i64 p.2.2.2]
theorem flat3_snoc (us : List (Value × Nrow)) (p : Value × Nrow) : flat3 (us ++ [p]) = flat3 us ++ [p.1, .int .i64 p.2.2.1, .int .i64 p.2.2.2] := by simp [flat3]
theorem flat3_get : ∀ (us : List (Value × Nrow)) (j : Nat) (p : Value × Nrow), us[j]? = some p → (flat3 us)[j * 3]? = some p.1 ∧ (flat3 us)[j * 3 + 1]? = some (.int .i64 p.2.2.1) ∧ (flat3 us)[j * 3 + 2]? = some (.int .i64 p.2.2.2)
  | [], j, p, h => by simp at h
  | q :: us, 0, p, h => by
    simp only [List.getElem?_cons_zero, Option.some.injEq] at h
    subst h
    simp [flat3]
  | q :: us, j + 1, p, h => by
    have ih := flat3_get us j p (by simpa using h)
    unfold flat3 at ih ⊢
    rw [List.flatMap_cons, show (j + 1) * 3 = 3 + j * 3 by omega, show 3 + j * 3 + 1 = 3 + (j * 3 + 1) by omega, show 3 + j * 3 + 2 = 3 + (j * 3 + 2) by omega, List.getElem?_append_right (by simp), List.getElem?_append_right (by simp), List.getElem?_append_right (by simp)]
    simpa [show 3 + j * 3 - 3 = j * 3 by omega, show 3 + (j * 3 + 1) - 3 = j * 3 + 1 by omega, show 3 + (j * 3 + 2) - 3 = j * 3 + 2 by omega] using ih
structure Gat3 (w : World) (bs rx : Nat) (R : List Nrow) (k : Nat) (O : Nat → Prop) (W : World) : Prop where
  bel : Below w.heap.size w W
  mem : ∃ v us, Boxed W rx 27 v ∧ W.ownsRow bs 69 3 v us.length (flat3 us) ∧ (∀ b, O b ↔ (b = rx ∨ some b = v.ownBlock)) ∧ us.map (·.2) = R.take k ∧ us.length = k ∧ ∀ p ∈ us, IntsS (fun b => bs ≤ b ∧ ¬ O b ∧ b < W.heap.size) W p.1 p.2.1
section
variable {w : World} {bs rx : Nat} {R : List Nrow} {k : Nat} {O : Nat → Prop}
theorem Gat3.step {A B : World} {base : Nat} (h : Gat3 w bs rx R k O A) (hs : Step base A B) (hb : w.heap.size ≤ base) : Gat3 w bs rx R k O B := by
  obtain ⟨h0, v, us, h1, h2, h3, h4, h5, h6⟩ := h
  have := hs.size
  have := h0.size
  exact ⟨h0.trans (hs.below hb (by omega)), v, us, hs.box h1, ownsRow_step h2 hs, h3, h4, h5, fun p hp => ((h6 p hp).stays hs.stays).mono (fun b _ hb => ⟨hb.1, hb.2.1, by omega⟩)⟩
theorem infoD : ∃ i, Tryz.prog.info? 69 = some i ∧ i.zero = some (.agg #[.slice none 0 0, .int .i64 0, .int .i64 0]) ∧ i.size = 3 ∧ i.bytes = 40 := by
  have h : (Tryz.prog.info? 69).map (fun i => (i.zero, i.size, i.bytes)) = some (some (.agg #[.slice none 0 0, .int .i64 0, .int .i64 0]), 3, 40) := by kernel_rfl
  cases e : Tryz.prog.info? 69 with
  | none => rw [e] at h; cases h
  | some i => rw [e] at h; simp at h; exact ⟨i, rfl, h.1, h.2.1, h.2.2⟩
theorem appD_run {base : Nat} (w : World) (v u1 u2 u3 : Value) (n : Nat) (vs : List Value) (h : w.ownsRow base 69 3 v n vs) (h1 : u1.oneCell' = true) (h2 : u2.oneCell' = true) (h3 : u3.oneCell' = true) (hb : base ≤ w.heap.size) (hn : n ≤ 2000) :
    ∃ r w', (Builtin.append_ #[27, 27] 27 #[v, .slice (some ⟨w.heap.size, 0, none⟩) 1 1]).run Tryz.prog (w.alloc (.cells #[u1, u2, u3] 69)) = .ok r w' ∧ w'.ownsRow base 69 3 r (n + 1) (vs ++ [u1, u2, u3]) ∧ Keeps (fun b => some b = v.ownBlock) w w' ∧ ∀ b, some b = r.ownBlock → some b = v.ownBlock ∨ w.heap.size ≤ b := by
  obtain ⟨i, g1, g2, g3, g4⟩ := infoD
  have ht : Tryz.prog.underlying 27 = some (.slice 69) := by kernel_rfl
  obtain ⟨r, w', hr, ho, hg, _, hat⟩ := run_append_own_at (P := Tryz.prog) (w.alloc (.cells #[u1, u2, u3] 69)) base 27 27 69 i (.agg #[.slice none 0 0, .int .i64 0, .int .i64 0]) 3 40 ht g1 g2 g3 g4 rfl (by decide) v n vs (World.ownsRow.alloc h _) ⟨w.heap.size, 0, none⟩ 1 1 [u1, u2, u3] rfl (fun j x hj => by
    match j, hj with
    | 0, hj =>
      simp only [List.getElem?_cons_zero, Option.some.injEq] at hj
      subst hj
      rw [Addr.add_lit]
      exact (cell_at (World.alloc_heap_new _ _) _).trans rfl
    | 1, hj =>
      simp only [List.getElem?_cons_succ, List.getElem?_cons_zero, Option.some.injEq] at hj
      subst hj
      rw [Addr.add_lit]
      exact (cell_at (World.alloc_heap_new _ _) _).trans rfl
    | 2, hj =>
      simp only [List.getElem?_cons_succ, List.getElem?_cons_zero, Option.some.injEq] at hj
      subst hj
      rw [Addr.add_lit]
      exact (cell_at (World.alloc_heap_new _ _) _).trans rfl
    | j + 3, hj => simp at hj) (fun x hx => by
      simp only [List.mem_cons, List.not_mem_nil, or_false] at hx
      rcases hx with rfl | rfl | rfl
      · exact h1
      · exact h2
      · exact h3) (by unfold maxLen; omega) (by omega) (by simp; omega)
  refine ⟨r, w', hr, ho, ((Keeps.refl _ w).alloc _).trans (keeps_grown (O := fun b => some b = v.ownBlock) hg (fun b hb => hb)) (fun _ _ e => e), fun b hb2 => ?_⟩
  rcases hat with e | e
  · exact .inl (hb2.trans e)
  · rw [e] at hb2
    simp only [Option.some.injEq, World.size_alloc] at hb2
    exact .inr (by omega)
theorem box_ne_row3 {W : World} {rx base n : Nat} {u v : Value} {xs : List Value} (hv : Boxed W rx 27 u) (hrow : W.ownsRow base 69 3 v n xs) : some rx ≠ v.ownBlock := fun e => by
  rcases hrow.2 with ⟨e2, _⟩ | ⟨g, cap, cur, e2, _, e3, _⟩
  · rw [e2] at e; cases e
  · rw [e2] at e
    simp only [Value.ownBlock, Option.some.injEq] at e
    rw [← e, show W.heap[rx]? = _ from hv] at e3
    simp at e3
/-- One more row. -/
theorem Gat3.more {W W1 W2 : World} (h : Gat3 w bs rx R k O W) (hrx : w.heap.size ≤ rx) (hbs : w.heap.size ≤ bs) {x : Nrow} (hx : R[k]? = some x) {u v r : Value} {us : List (Value × Nrow)} (hv : Boxed W rx 27 v) (hrow : W.ownsRow bs 69 3 v us.length (flat3 us)) (hOO : ∀ b, O b ↔ (b = rx ∨ some b = v.ownBlock)) (hus : us.map (·.2) = R.take k) (hk : us.length = k) (hin : ∀ p ∈ us, IntsS (fun b => bs ≤ b ∧ ¬ O b ∧ b < W.heap.size) W p.1 p.2.1)
    (hu : IntsS (fun b => bs ≤ b ∧ ¬ O b ∧ b < W.heap.size) W u x.1) (b1 : Below W.heap.size W W1) (hr : W2.ownsRow bs 69 3 r (us.length + 1) (flat3 us ++ [u, .int .i64 x.2.1, .int .i64 x.2.2])) (k2 : Keeps (fun b => some b = v.ownBlock) W1 W2) (hat : ∀ b, some b = r.ownBlock → some b = v.ownBlock ∨ W1.heap.size ≤ b) :
    (∃ O', Gat3 w bs rx R (k + 1) O' (W2.setCell ⟨rx, 0, none⟩ r) ∧ (∀ b, O' b → (O b ∨ W.heap.size ≤ b) ∧ b < (W2.setCell ⟨rx, 0, none⟩ r).heap.size)) ∧ Keeps O W (W2.setCell ⟨rx, 0, none⟩ r) := by
  have s1 := b1.size
  have s2 := k2.size
  have h0 := h.bel
  have s0 := h0.size
  have hrl := hv.lt
  have hsz : (W2.setCell ⟨rx, 0, none⟩ r).heap.size = W2.heap.size := by simp [World.setCell]
  have hnr := box_ne_row3 hv hrow
  have kO : Keeps O W (W2.setCell ⟨rx, 0, none⟩ r) := ((Keeps.of_below b1 (O := O)).trans (k2.mono (fun b e => (hOO b).2 (.inr e))) (fun _ _ e => e)).setCell ⟨rx, 0, none⟩ ((hOO rx).2 (.inl rfl)) r
  have kS : Keeps (fun b => b = rx) W2 (W2.setCell ⟨rx, 0, none⟩ r) := (Keeps.refl (fun b => b = rx) W2).setCell ⟨rx, 0, none⟩ rfl r
  have hlt : ∀ b, some b = r.ownBlock → b < W2.heap.size := fun b e => (hr.lt b e.symm).2
  have hb2 : W2.heap[rx]? = some (.cells #[v] 27 (0, 0)) := k2.same _ _ ((b1.block _ hrl).trans hv) hnr
  have hn : ∀ b, b < W.heap.size → ¬ O b → ¬ (b = rx ∨ some b = r.ownBlock) := fun b hb hnb e => by
    rcases e with e | e
    · exact hnb ((hOO b).2 (.inl e))
    · rcases hat b e with h | h
      · exact hnb ((hOO b).2 (.inr h))
      · omega
  have hmono : ∀ u y, IntsS (fun b => bs ≤ b ∧ ¬ O b ∧ b < W.heap.size) W u y → IntsS (fun b => bs ≤ b ∧ ¬ (b = rx ∨ some b = r.ownBlock) ∧ b < (W2.setCell ⟨rx, 0, none⟩ r).heap.size) (W2.setCell ⟨rx, 0, none⟩ r) u y := fun u y h =>
    (h.stays (kO.stays (fun b _ hb => hb.2.1))).mono (fun b _ hb => ⟨hb.1, hn b hb.2.2 hb.2.1, by have := hb.2.2; omega⟩)
  refine ⟨⟨fun b => b = rx ∨ some b = r.ownBlock, ⟨h0.trans (kO.below s0 (fun b e => ?_)), r, us ++ [(u, x)], ?_, ?_, fun _ => Iff.rfl, ?_, ?_, fun p hp => ?_⟩, fun b hb => ?_⟩, kO⟩
  · rcases (hOO b).1 e with e | e
    · omega
    · have := (hrow.lt b e.symm).1; omega
  · exact (set_heap hb2 0 r).trans rfl
  · rw [List.length_append, flat3_snoc]
    rcases hr.2 with ⟨_, e⟩ | ⟨g, cap, cur, h1, h2, h3, h4⟩
    · omega
    · refine ⟨hr.1, .inr ⟨g, cap, cur, h1, h2, kS.same _ _ h3 (fun e => ?_), h4⟩⟩
      rw [h1] at hat
      rw [← e] at hnr
      rcases hat g rfl with h | h
      · exact hnr h
      · omega
  · rw [List.map_append, hus, List.take_add_one, hx]
    rfl
  · simp [hk]
  · rcases List.mem_append.1 hp with e | e
    · exact hmono _ _ (hin p e)
    · rw [List.mem_singleton] at e
      rw [e]; exact hmono _ _ hu
  · rcases hb with e | e
    · exact ⟨.inl ((hOO b).2 (.inl e)), by omega⟩
    · refine ⟨?_, by have := hlt b e; omega⟩
      rcases hat b e with h | h
      · exact .inl ((hOO b).2 (.inr h))
      · exact .inr (by omega)
theorem Gat3.rows {W : World} (h : Gat3 w bs rx R R.length O W) : ∃ v, Boxed W rx 27 v ∧ DRowsAt (fun b => bs ≤ b) W v R ∧ Below w.heap.size w W := by
  obtain ⟨h0, v, us, h1, h2, h3, h4, h5, h6⟩ := h
  rw [List.take_length] at h4
  refine ⟨v, h1, ?_, h0⟩
  rcases h2.2 with ⟨e, e2⟩ | ⟨g, cap, cur, e, hb, hg, hn, hm, hs, ht⟩
  · rw [h5] at e2
    exact ⟨none, 0, by rw [e, e2], by omega, by omega, fun j hj => by omega⟩
  · unfold maxLen at hm
    refine ⟨some ⟨g, 0, none⟩, cap, by rw [e, h5], by omega, by omega, fun j hj => ?_⟩
    have hju : j < us.length := by omega
    obtain ⟨f1, f2, f3⟩ := flat3_get us j us[j] (List.getElem?_eq_getElem hju)
    subst e
    have c1 := World.ownsRow.cellAt h2 (j * 3) (by omega)
    have c2 := World.ownsRow.cellAt h2 (j * 3 + 1) (by omega)
    have c3 := World.ownsRow.cellAt h2 (j * 3 + 2) (by omega)
    refine ⟨g, us[j].1, us[j].2, rfl, hb, ?_, c1.trans f1, c2.trans f2, c3.trans f3, (h6 _ (List.getElem_mem hju)).mono (fun b _ hb => hb.1)⟩
    rw [← h4, List.getElem?_map, List.getElem?_eq_getElem hju]; rfl
end
end Go.Proofs.YthcljhfankooaabGreat

namespace Go.Proofs.YthcljhfankooaabGreat
open Go.RowKit Go.Shelf
attribute [local go_sem] Oper.semAt_some

theorem appendIn_run {F : Fence} {nF : Nat} {P : Program} (w : World) {ops : Array Oper} {rest : List Oper} {o : Oper} {a : Act} {Q : Exit → Act → World → Prop}
    (hg : o.guard = none) (s x : Operand) (t : TypeId) (hop : o.op = Op.call { callee := Callee.builtin Builtin.append, args := #[s, x], argTypes := #[t, t] })
    (v u : Value) (hs : a.eval s = v) (hx : a.eval x = u) (v' : Value) (w' : World) (hrun : (Builtin.append_ #[t, t] o.type #[v, u]).run P w = .ok v' w')
    (hK : wpListIn F nF P ops Q rest (a.put o.dst v') w') : wpListIn F nF P ops Q (o :: rest) a w := by
  refine wpListIn_plain hg fun K hK' => ?_
  unfold Oper.wpIn
  refine ⟨by simp [Oper.about, hop, resolve, Target.leads, Sem.run_pure], ?_⟩
  rw [Oper.semAt_plain F _ _ (by rw [hop]; intro c hc'; cases hc')]
  simp [execOp, hop, resolve, invoke, builtin, hs, hx, hrun, Result.andThen]
  exact hK' _ _ hK
/-- Heights and rules that may be. -/
def NsOk (R : List Nrow) : Prop := ∀ p ∈ R, inN p.2.1 = true ∧ inN p.2.2 = true
def RowsOk (w : World) (R : List Nrow) (e : Ending) (w' : World) : Prop := ∃ rv, e = .returned (.tuple #[rv, .bool true]) ∧ DRowsAt (fun b => w.heap.size ≤ b) w' rv R ∧ Below w.heap.size w w'
theorem height_note (a k : Int) (ha : inN a = true) (hk : inN k = true) (w : World) : Calls Tryz.prog 53 #[.float .f64 (floatOfInt .f64 a), .float .f64 (floatOfInt .f64 k)] w fun e w' => e = .returned (.tuple #[.int .i64 a, .int .i64 k, .bool true]) ∧ w' = w := by
  obtain ⟨p1, p2⟩ := partB_int (inN_abs ha)
  obtain ⟨q1, q2⟩ := partB_int (inN_abs hk)
  have h := rheight_any (floatOfInt .f64 a) (floatOfInt .f64 k) w
  have hB : hgtB (floatOfInt .f64 a) (floatOfInt .f64 k) = true := by unfold hgtB; rw [p1, q1]; rfl
  unfold hgtN at h
  rw [hB, if_pos rfl, if_pos rfl, p2, q2] at h
  exact h

set_option maxRecDepth 100000 in
set_option maxHeartbeats 4000000 in
theorem rows_any (w : World) (g : Nat) (lb : Array Value) (R : List Nrow) (hg : ∀ W, Step w.heap.size w W → GoesAtP g lb R.length (HandsP R) (fun _ => False) W) (eg : ∀ args w, (callFunc g args).run Tryz.prog w = .ok (.enter g args) w) (hN : R.length ≤ 1024) (hR : NsOk R) :
    Calls Tryz.prog 31 #[.func (.func g) #[] lb] w fun e w' => RowsOk w R e w' := by
  refine calls_marks Tryz.func31 rfl ?_
  simp only [Tryz.ntmps31, List.size_toArray, List.length_cons, List.length_nil, Nat.reduceAdd, Nat.reduceSub, Array.replicate_succ, Array.replicate_zero, List.push_toArray, List.append_toArray, List.nil_append, List.cons_append]
  obtain ⟨w1, hw1⟩ : ∃ w1, w1 = ((w.alloc (.cells #[.slice none 0 0] 27)).alloc (.cells #[.bool false] 4)).alloc (.cells #[.slice none 0 0] 27) := ⟨_, rfl⟩
  have hb1 : Below w.heap.size w w1 := by rw [hw1]; exact (((Below.refl _ w).alloc (Nat.le_refl _) _).alloc (by simp) _).alloc (by simp; omega) _
  have hs1 : w1.heap.size = w.heap.size + 3 := by rw [hw1]; simp
  have bx : Boxed w1 (w.heap.size + 2) 27 (.slice none 0 0) := by
    have := Boxed.new ((w.alloc (.cells #[.slice none 0 0] 27)).alloc (.cells #[.bool false] 4)) 27 (.slice none 0 0)
    rw [World.size_alloc, World.size_alloc] at this
    rw [hw1]; exact this
  have r2 : Boxed w1 w.heap.size 27 (.slice none 0 0) := by rw [hw1]; exact ((Boxed.new w _ _).alloc _).alloc _
  have r3 : Boxed w1 (w.heap.size + 1) 4 (.bool false) := by
    have := (Boxed.new (w.alloc (.cells #[.slice none 0 0] 27)) 4 (.bool false)).alloc (.cells #[.slice none 0 0] 27)
    rw [World.size_alloc] at this
    rw [hw1]; exact this
  have h0 : Gat3 w w1.heap.size (w.heap.size + 2) R 0 (fun b => b = w.heap.size + 2) w1 := ⟨hb1, _, [], bx, World.ownsRow_nil _ _ _ _, fun b => by simp [Value.ownBlock], rfl, rfl, fun p hp => by cases hp⟩
  have hseq : ∀ W, Step w1.heap.size w1 W → GoesAtP g lb R.length (HandsP R) (fun _ => False) W := fun W hW => hg W ((Step.of_below hb1).trans (hW.mono (by omega)))
  have HW := hide hw1
  have HR := hide (And.intro r2 (And.intro r3 hR))
  clear hw1 bx hg hR
  go_wp2_with fail
  rw [← unhide HW]
  refine (wpIn_wide (n := 6)).1 (wp_rangeP (gf := g) (lb := lb) rfl eg hseq (fun _ _ _ _ _ h h2 => h.step h2) (fun b => b = w.heap.size + 2) (fun b hb => by omega) (fun b hb => hb.elim)
    (fun k O W => Gat3 w w1.heap.size (w.heap.size + 2) R k O W ∧ (Boxed W w.heap.size 27 (.slice none 0 0) ∧ Boxed W (w.heap.size + 1) 4 (.bool false))) (fun _ _ _ => False) (fun k O A B h h2 => ⟨h.1.step h2 (by omega), h2.box h.2.1, h2.box h.2.2⟩) (fun _ _ _ _ h _ => h) ⟨h0, r2, r3⟩ ?a1 ?assign ?body ?done ?stop)
  case assign =>
    intro l m v Wx KK hK
    gi_wp2
    exact hK
  case body =>
    intro ll m k' O2 H v Wx hsz hO2 hH hlt hi hy
    obtain ⟨hiG, hr2, hr3⟩ := hi
    obtain ⟨hbel, v0, us, hv, hrow, hOO, hus, husl, hin⟩ := id hiG
    obtain ⟨v1, v2⟩ := v
    obtain ⟨p, hp1, hpi, hp2⟩ := hy
    simp only at hpi hp2
    have hok := (unhide HR).2.2 p (List.mem_of_getElem? hp1)
    have hhg := height_note p.2.1 p.2.2 hok.1 hok.2 Wx
    change v2 = .complex .f64 (floatOfInt .f64 p.2.1) (floatOfInt .f64 p.2.2) at hp2
    generalize floatOfInt .f64 p.2.1 = fx at hhg hp2
    generalize floatOfInt .f64 p.2.2 = fy at hhg hp2
    subst hp2
    have hpi2 : IntsS (fun b => w1.heap.size ≤ b ∧ ¬ O2 b ∧ b < Wx.heap.size) Wx v1 p.1 := hpi.mono (fun b _ hb => ⟨by have := (hH b hb).1; omega, (hH b hb).2.1, (hH b hb).2.2⟩)
    obtain ⟨va, vc, ev, _⟩ := id hpi
    obtain ⟨a0, c0, e0⟩ : ∃ a0 c0, v0 = .slice a0 us.length c0 := by
      rcases hrow.2 with ⟨e, e2⟩ | ⟨g, cap, cur, e, _⟩
      · exact ⟨none, 0, by rw [e, e2]⟩
      · exact ⟨_, _, e⟩
    have hbs := hbel.size
    obtain ⟨r8, w8, hrun, hrow8, k8, hat⟩ := appD_run Wx v0 v1 (.int .i64 p.2.1) (.int .i64 p.2.2) us.length _ hrow (by rw [ev]; rfl) rfl rfl (by omega) (by omega)
    have hm := hiG.more (by omega) (by omega) hp1 hv hrow hOO hus husl hin hpi2 (Below.refl _ Wx) hrow8 k8 hat
    have hnr := box_ne_row3 hv hrow
    have hbx : w8.heap[w.heap.size + 2]? = some (.cells #[v0] 27 (0, 0)) := k8.same _ _ hv hnr
    have hc8 : w8.cell? ⟨w.heap.size + 2, 0, none⟩ = some v0 := by rw [cell_at hbx]; rfl
    have hf8 : w8.frozen? ⟨w.heap.size + 2, 0, none⟩ = false := by simp [World.frozen?, hbx]
    obtain ⟨r8a, r8c, er8⟩ : ∃ ra rc, r8 = .slice ra (us.length + 1) rc := by
      rcases hrow8.2 with ⟨_, e⟩ | ⟨g, cap, cur, e, _⟩
      · omega
      · exact ⟨_, _, e⟩
    have hcx := hv.cell
    have hk2 : ¬ ((2048 : Int) < (us.length : Int)) := by omega
    have hkr2 : Boxed (w8.setCell ⟨w.heap.size + 2, 0, none⟩ r8) w.heap.size 27 (.slice none 0 0) := hm.2.same _ _ hr2 (fun e => by
      rcases (hOO _).1 e with e | e
      · omega
      · rcases hrow.2 with ⟨e2, _⟩ | ⟨g, cap, cur, e2, _, e3, _⟩
        · rw [e2] at e; cases e
        · rw [e2] at e
          simp only [Value.ownBlock, Option.some.injEq] at e
          rw [← e, show Wx.heap[w.heap.size]? = _ from hr2] at e3
          simp at e3)
    have hkr3 : Boxed (w8.setCell ⟨w.heap.size + 2, 0, none⟩ r8) (w.heap.size + 1) 4 (.bool false) := hm.2.same _ _ hr3 (fun e => by
      rcases (hOO _).1 e with e | e
      · omega
      · rcases hrow.2 with ⟨e2, _⟩ | ⟨g, cap, cur, e2, _, e3, _⟩
        · rw [e2] at e; cases e
        · rw [e2] at e
          simp only [Value.ownBlock, Option.some.injEq] at e
          rw [← e, show Wx.heap[w.heap.size + 1]? = _ from hr3] at e3
          simp at e3)
    have HM := hide (And.intro hm (And.intro hkr2 hkr3))
    have HRUN := hide hrun
    subst ev
    subst e0
    subst er8
    clear hiG hr2 hr3 hbel hv hrow hOO hus husl hin hp1 hpi hok hpi2 hrun hrow8 k8 hat hm hnr hbx hO2 hH hkr2 hkr3 hbs
    gi_wp2
    refine ⟨trivial, fun h => (by cases h), (CallsIn.inRound ll (callsIn_wide.2 hhg)).mono ?_⟩
    clear hhg
    rintro e w5 ⟨rfl, hw5⟩
    subst hw5
    gi_wp2_with (gi_at_builtin; refine appendIn_run _ rfl _ _ 27 rfl _ _ rfl rfl _ _ (unhide HRUN) ?_)
    obtain ⟨⟨⟨O', hG, hsub⟩, hK⟩, hkr2, hkr3⟩ := unhide HM
    exact ⟨⟨O', ⟨hG, hkr2, hkr3⟩, hsub⟩, hK.mono (fun b e => .inl e)⟩
  case done =>
    rintro D O2 Wx hD hO2 hi hDx
    obtain ⟨hG, hr2, hr3⟩ := hi
    obtain ⟨rv, hv, hD3, hbel⟩ := hG.rows
    obtain ⟨ra, rc, e0, _⟩ := id hD3
    subst e0
    have hc1 := hv.cell
    have hc2 := hr2.cell
    have hc3 := hr3.cell
    have hf2 := hr2.frozen
    have hf3 := hr3.frozen
    have HI := hide (And.intro hD3 (And.intro hbel (And.intro hD (And.intro hDx (And.intro hr2 hr3)))))
    clear hG hr2 hr3 hD3 hbel hD hDx hv
    go_wp2_with fail
    obtain ⟨hD3, hbel, hD, hDx, hr2, hr3⟩ := unhide HI
    obtain ⟨W9, hW9⟩ : ∃ W9, W9 = (Wx.setCell ⟨w.heap.size, 0, none⟩ (.slice ra R.length rc)).setCell ⟨w.heap.size + 1, 0, none⟩ (.bool true) := ⟨_, rfl⟩
    rw [← hW9]
    have k1 : Keeps (fun b => b = w.heap.size) Wx (Wx.setCell ⟨w.heap.size, 0, none⟩ (.slice ra R.length rc)) := (Keeps.refl (fun b => b = w.heap.size) Wx).setCell ⟨w.heap.size, 0, none⟩ rfl _
    have k2 : Keeps (fun b => b = w.heap.size + 1) (Wx.setCell ⟨w.heap.size, 0, none⟩ (.slice ra R.length rc)) W9 := by rw [hW9]; exact (Keeps.refl (fun b => b = w.heap.size + 1) _).setCell ⟨w.heap.size + 1, 0, none⟩ rfl _
    have q2 : W9.heap[w.heap.size]? = some (.cells #[.slice ra R.length rc] 27 (0, 0)) := k2.same _ _ ((set_heap hr2 0 _).trans rfl) (by omega)
    have q3 : W9.heap[w.heap.size + 1]? = some (.cells #[.bool true] 4 (0, 0)) := by rw [hW9]; exact (set_heap (k1.same _ _ hr3 (by omega)) 0 _).trans rfl
    have kz : Keeps (fun b => b = w.heap.size ∨ b = w.heap.size + 1) Wx W9 := (k1.mono (fun b e => .inl e)).trans k2 (fun b _ e => .inr e)
    have b9 : Below w.heap.size w W9 := hbel.trans (kz.below hbel.size (fun b e => by omega))
    have s9 := kz.size
    have sx := hbel.size
    have d9 : DRowsAt (fun b => w.heap.size ≤ b) W9 (.slice ra R.length rc) R := by
      obtain ⟨a, cap, e1, e2, e3, e4⟩ := hD3
      have st : Stays (fun b => w1.heap.size ≤ b) Wx W9 := kz.stays (fun b _ hb e => by omega)
      refine ⟨a, cap, e1, e2, e3, fun j hj => ?_⟩
      obtain ⟨b, u, p, f1, f2, f3, f4, f5, f6, f7⟩ := e4 j hj
      exact ⟨b, u, p, f1, by omega, f3, st.cell f4 f2, st.cell f5 f2, st.cell f6 f2, (f7.stays st).mono (fun b _ hb => by omega)⟩
    refine leaves_marks (base := w1.heap.size) (v := .tuple #[.slice ra R.length rc, .bool true]) [D] _ (by simp) (fun E hE => ?_) (fun w' hs => ⟨?_, .slice ra R.length rc, rfl, ?_, b9.trans (hs.below (by omega) b9.size)⟩)
    · have e : E = D := by simpa using hE
      rw [e]
      exact ⟨by omega, kz.same _ _ hDx (by omega)⟩
    · have g2 : w'.cell? ⟨w.heap.size, 0, none⟩ = some (.slice ra R.length rc) := hs.cell (by rw [cell_at q2]; rfl)
      have g3 : w'.cell? ⟨w.heap.size + 1, 0, none⟩ = some (.bool true) := hs.cell (by rw [cell_at q3]; rfl)
      simp [results, Tryz.f31, go_sem, g2, g3]
    · obtain ⟨a, cap, e1, e2, e3, e4⟩ := d9
      refine ⟨a, cap, e1, e2, e3, fun j hj => ?_⟩
      obtain ⟨b, u, p, f1, f2, f3, f4, f5, f6, f7⟩ := e4 j hj
      exact ⟨b, u, p, f1, f2, f3, hs.cell f4, hs.cell f5, hs.cell f6, f7.stays hs.stays⟩
  case stop =>
    rintro D cc k' Wx hD hk' h hDx
    exact h.elim
end Go.Proofs.YthcljhfankooaabGreat
