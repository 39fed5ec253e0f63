/- A region that leaves its order open: where two operations are ready, both ways. syn: item, what it comes to; too many items. syn: item, one of the types. syn: item, one of the decls. syn: item, one of the inits. -/
import Derived.Test.YtccehgfecaamoaaGreatDoorQa08
import Derived.Test.YtccehgfecaamoaaGreatDoorQa16
import Derived.Test.YtccehgfecaamoaaGreatDoorQa17
import Derived.Test.YtccehgfecaamoaaGreatDoorQa18
set_option maxRecDepth 100000
set_option maxHeartbeats 32000000
namespace Go.Proofs.YtccehgfecaamoaaGreatDoor
section
open Go.RowKit
section
variable {P : Program} {ops : Array Oper} {md : Region.Mode} {Q : Exit → Act → World → Prop} {C : Bool → World → Prop} {m : Nat}

def lenT : List (Nat × Nat) → Nat
 | [] => 0
 | (_, _ + 3) :: r => lenT r + 2
 | _ :: r => lenT r + 1
def orderT (md : Region.Mode) (ops : Array Oper) (m : Nat) : List (Nat × Nat) → Array Bool → Bool
 | [], listed => (Region.ready md ops listed).isEmpty && listed.getD m true
 | (k, 0) :: r, listed => decide (Region.ready md ops listed = [k]) && orderT md ops m r (listed.setIfInBounds k true)
 | (k, 1) :: r, listed => ((Region.ready md ops listed).contains k && Region.free md ops listed k && decide (m ≠ k)) && orderT md ops m r (listed.setIfInBounds k true)
 | (k, 2) :: r, listed => ((Region.ready md ops listed).contains k && Region.free md ops listed k && decide (m ≠ k) && !(listed.getD m true) && depB md ops m k) && orderT md ops m r (listed.setIfInBounds k true)
 | (k, n + 3) :: r, listed => (decide (Region.ready md ops listed = [k, n]) && decide (k ≠ n) && decide (Region.ready md ops (listed.setIfInBounds k true) = [n]) && decide (Region.ready md ops (listed.setIfInBounds n true) = [k])) && orderT md ops m r ((listed.setIfInBounds k true).setIfInBounds n true)
def wpMixT (P : Program) (ops : Array Oper) (m : Nat) (C : Bool → World → Prop) (Q : Exit → Act → World → Prop) : Bool → List (Nat × Nat) → Act → World → Prop
 | _, [], a, w => C true w ∧ Q .normal a w
 | f, (k, 0) :: r, a, w => C f w ∧ wpOp P ops Q k (fun a' w' => wpMixT P ops m C Q (f || k == m) r a' w') a w
 | f, (k, 1) :: r, a, w => ∃ o v, ops[k]? = some o ∧ (∀ f w, C f w → YieldsAt P ops w o v a) ∧ wpMixT P ops m C Q f r (a.put o.dst v) w
 | f, (k, 2) :: r, a, w => ∃ o v, ops[k]? = some o ∧ (∀ w, C false w → YieldsAt P ops w o v a) ∧ wpMixT P ops m C Q f r (a.put o.dst v) w
 | f, (k, n + 3) :: r, a, w => C f w ∧ wpOp P ops Q k (fun a' w' => C (f || k == m) w' ∧ wpOp P ops Q n (fun a2 w2 => wpMixT P ops m C Q (f || k == m || n == m) r a2 w2) a' w') a w ∧
   wpOp P ops Q n (fun a' w' => C (f || n == m) w' ∧ wpOp P ops Q k (fun a2 w2 => wpMixT P ops m C Q (f || k == m || n == m) r a2 w2) a' w') a w
theorem Qbx (hsel : Region.noSelect ops = true) (hL : ¬ LetsOut Q) (hQ : ∀ c (a : Act) d v w, Q (.panic c) (a.put d v) w → Q (.panic c) a w) : ∀ (l : List (Nat × Nat)) (f : Bool) (listed : Array Bool) (a : Act) (w : World), listed.getD m true = f → orderT md ops m l listed = true → wpMixT P ops m C Q f l a w → wpAnyF P md ops m C Q (lenT l) listed a w
 | [], f, listed, a, w, hf, hB, h => by
  simp only [orderT, Bool.and_eq_true] at hB
  exact ⟨by rw [hB.2]; exact h.1, by simpa using hB.1, h.2⟩
 | (k, 0) :: r, f, listed, a, w, hf, hB, h => by
  simp only [orderT, Bool.and_eq_true, decide_eq_true_eq] at hB
  refine ⟨by rw [hf]; exact h.1, fun e => (by rw [hB.1] at e; cases e), fun i hi => ?_⟩
  have hi' := hi
  rw [hB.1] at hi
  have e : i = k := by simpa using hi
  subst e
  exact wpOp_mono (fun a' w' h' => Qbx hsel hL hQ r _ _ a' w' (by rw [Qcc (Qcd hi'), hf]) hB.2 h') h.2
 | (k, 1) :: r, f, listed, a, w, hf, hB, h => by
  simp only [orderT, Bool.and_eq_true, decide_eq_true_eq] at hB
  obtain ⟨⟨⟨hr, hfr⟩, hne⟩, hB'⟩ := hB
  obtain ⟨o, v, ho, hy, h'⟩ := h
  have hr' : k ∈ Region.ready md ops listed := by simpa using hr
  refine Qcp (D := fun w => ∃ f, C f w) (G := fun _ => True) ho hne (Region.noSelect_spec hsel) hL hQ (fun _ _ _ h => ⟨_, h⟩) (fun _ _ _ _ _ _ => trivial) (lenT r) listed a w trivial (Region.free_spec ho hfr) hr' (fun w ⟨f, hc⟩ => hy f w hc) (Qbx hsel hL hQ r f _ _ _ ?_ hB' h')
  rw [Qcc (Qcd hr'), hf]
  simp [Ne.symm hne]
 | (k, 2) :: r, f, listed, a, w, hf, hB, h => by
  simp only [orderT, Bool.and_eq_true, decide_eq_true_eq, Bool.not_eq_true'] at hB
  obtain ⟨⟨⟨⟨⟨hr, hfr⟩, hne⟩, hun⟩, hdep⟩, hB'⟩ := hB
  obtain ⟨o, v, ho, hy, h'⟩ := h
  have hr' : k ∈ Region.ready md ops listed := by simpa using hr
  refine Qcp (D := C false) (G := fun l => l.getD m true = false) ho hne (Region.noSelect_spec hsel) hL hQ (fun l w hg h => hg ▸ h) (fun l j hg hk hjk hj => ?_) (lenT r) listed a w hun (Region.free_spec ho hfr) hr' hy (Qbx hsel hL hQ r f _ _ _ ?_ hB' h')
  ·
   have hjm : j ≠ m := fun e => by
    subst e
    obtain ⟨_, oj, hoj, hall⟩ := mem_ready.1 hj
    unfold depB at hdep
    rw [hoj] at hdep
    obtain ⟨e, he, hb⟩ := Array.any_eq_true'.1 hdep
    simp only [Bool.and_eq_true, beq_iff_eq] at hb
    have := hall e he hb.1
    rw [hb.2, getD_both hk] at this
    cases this
   rw [getD_set_ne true hjm]
   exact hg
  rw [Qcc (Qcd hr'), hf]
  simp [Ne.symm hne]
 | (k, n + 3) :: r, f, listed, a, w, hf, hB, h => by
  simp only [orderT, Bool.and_eq_true, decide_eq_true_eq] at hB
  obtain ⟨⟨⟨⟨hr, hne⟩, hrk⟩, hrn⟩, hB'⟩ := hB
  obtain ⟨hC, h1, h2⟩ := h
  have hk : k ∈ Region.ready md ops listed := by rw [hr]; simp
  have hn : n ∈ Region.ready md ops listed := by rw [hr]; simp
  have hn' : n ∈ Region.ready md ops (listed.setIfInBounds k true) := by rw [hrk]; simp
  have hk' : k ∈ Region.ready md ops (listed.setIfInBounds n true) := by rw [hrn]; simp
  have fk : (listed.setIfInBounds k true).getD m true = (f || k == m) := by rw [Qcc (Qcd hk), hf]
  have fn : (listed.setIfInBounds n true).getD m true = (f || n == m) := by rw [Qcc (Qcd hn), hf]
  have fkn : ((listed.setIfInBounds k true).setIfInBounds n true).getD m true = (f || k == m || n == m) := by rw [Qcc (Qcd hn'), fk]
  refine ⟨by rw [hf]; exact hC, fun e => (by rw [hr] at e; cases e), fun i hi => ?_⟩
  rw [hr] at hi
  simp only [List.mem_cons, List.not_mem_nil, or_false] at hi
  rcases hi with rfl | rfl
  ·
   refine wpOp_mono (fun a' w' h' => ?_) h1
   refine ⟨by rw [fk]; exact h'.1, fun e => (by rw [hrk] at e; cases e), fun j hj => ?_⟩
   rw [hrk] at hj
   have e : j = n := by simpa using hj
   subst e
   exact wpOp_mono (fun a2 w2 h2 => Qbx hsel hL hQ r _ _ a2 w2 fkn hB' h2) h'.2
  refine wpOp_mono (fun a' w' h' => ?_) h2
  refine ⟨by rw [fn]; exact h'.1, fun e => (by rw [hrn] at e; cases e), fun j hj => ?_⟩
  rw [hrn] at hj
  have e : j = k := by simpa using hj
  subst e
  exact wpOp_mono (fun a2 w2 h2 => Qbx hsel hL hQ r _ _ a2 w2 (by rw [Array.setIfInBounds_comm _ _ (Ne.symm hne)]; exact fkn) (by rw [Array.setIfInBounds_comm _ _ (Ne.symm hne)]; exact hB') h2) h'.2
theorem Qbj {f : Bool} {k : Nat} {o : Oper} {v : Value} {r : List (Nat × Nat)} {a : Act} {w : World} (ho : ops[k]? = some o) (hw : Region.wanted o (yielded ops a.tmps) = true) (hy : ∀ f w', C f w' → (execOp a.eval o).run P w' = .ok (.value v) w')
  (h : wpMixT P ops m C Q f r (a.put o.dst v) w) : wpMixT P ops m C Q f ((k, 1) :: r) a w := ⟨o, v, ho, fun f w' hc => .inl ⟨hw, .inl (hy f w' hc)⟩, h⟩
theorem Qgf {f : Bool} {k : Nat} {o : Oper} {v : Value} {r : List (Nat × Nat)} {a : Act} {w : World} (ho : ops[k]? = some o) (hw : Region.wanted o (yielded ops a.tmps) = true) (hy : ∀ w', C false w' → (execOp a.eval o).run P w' = .ok (.value v) w')
  (h : wpMixT P ops m C Q f r (a.put o.dst v) w) : wpMixT P ops m C Q f ((k, 2) :: r) a w := ⟨o, v, ho, fun w' hc => .inl ⟨hw, .inl (hy w' hc)⟩, h⟩
theorem Qev {f : Bool} {k : Nat} {o : Oper} {r : List (Nat × Nat)} {a : Act} {w : World} (ho : ops[k]? = some o) (hC : C f w) (h : ∀ K' : Act → World → Prop, (∀ a w, wpMixT P ops m C Q (f || k == m) r a w → K' a w) → if Region.wanted o (yielded ops a.tmps) = true then Oper.wp P o a w K' Q else K' (a.put o.dst undef) w) : wpMixT P ops m C Q f ((k, 0) :: r) a w := ⟨hC, wpOp_step ho h⟩
theorem Qdp {f : Bool} {k n : Nat} {o p : Oper} {r : List (Nat × Nat)} {a : Act} {w : World} (ho : ops[k]? = some o) (hp : ops[n]? = some p) (hC : C f w)
  (h1 : ∀ K' : Act → World → Prop, (∀ a w, C (f || k == m) w → (∀ K2 : Act → World → Prop, (∀ a w, wpMixT P ops m C Q (f || k == m || n == m) r a w → K2 a w) → if Region.wanted p (yielded ops a.tmps) = true then Oper.wp P p a w K2 Q else K2 (a.put p.dst undef) w) → K' a w) → if Region.wanted o (yielded ops a.tmps) = true then Oper.wp P o a w K' Q else K' (a.put o.dst undef) w)
  (h2 : ∀ K' : Act → World → Prop, (∀ a w, C (f || n == m) w → (∀ K2 : Act → World → Prop, (∀ a w, wpMixT P ops m C Q (f || k == m || n == m) r a w → K2 a w) → if Region.wanted o (yielded ops a.tmps) = true then Oper.wp P o a w K2 Q else K2 (a.put o.dst undef) w) → K' a w) → if Region.wanted p (yielded ops a.tmps) = true then Oper.wp P p a w K' Q else K' (a.put p.dst undef) w) :
  wpMixT P ops m C Q f ((k, n + 3) :: r) a w :=
 ⟨hC, wpOp_step ho (fun K' hK => h1 K' (fun a w hc h => hK a w ⟨hc, wpOp_step hp h⟩)), wpOp_step hp (fun K' hK => h2 K' (fun a w hc h => hK a w ⟨hc, wpOp_step ho h⟩))⟩
theorem Qdo {f : Bool} {a : Act} {w : World} (hC : C true w) (h : Q .normal a w) : wpMixT P ops m C Q f [] a w := ⟨hC, h⟩
end
theorem Qfv {P : Program} {Q : Exit → Act → World → Prop} {id m : Nat} {a : Act} {w : World} {ops : Array Oper} {ml : List (Nat × Nat)} (C : Bool → World → Prop) (hm : P.follows .mixedOrders = true) (hsel : Region.noSelect ops = true) (hlen : lenT ml = ops.size) (hm2 : (Array.replicate ops.size false).getD m true = false) (hB : orderT .any ops m ml (Array.replicate ops.size false) = true)
  (hpan : ∀ c (a : Act) d v w, Q (.panic c) (a.put d v) w → Q (.panic c) a w)
  (h : ∀ (PP : Act → World → Prop) (PQ : List PanicEntry → Act → World → Prop), (∀ a' w', Q .normal a' w' → PP a' w') → (∀ c a' w', Q (.panic c) a' w' → PQ c a' w') → wpMixT P ops m C (onlyP PP PQ) false ml a w.drew) : (Code.region id ops true).wp P Q a w := by
 have hL : ¬ LetsOut (onlyP (Q .normal) (fun c => Q (.panic c))) := by rintro ⟨_, _, h⟩; exact h
 have h1 := Qdn _ _ _ _ (Qbx (md := .any) hsel hL (fun c a d v w h => hpan c a d v w h) ml false _ a _ hm2 hB (h (Q .normal) (fun c => Q (.panic c)) (fun _ _ h => h) (fun _ _ _ h => h)))
 rw [hlen] at h1
 refine wp_mono (Q := onlyP (Q .normal) (fun c => Q (.panic c))) (wp_region_any hm h1) ?_
 intro e a w h
 cases e
 case normal => exact h
 case panic c => exact h
 all_goals exact h.elim
end
section
open Go.RowKit Go.Maps
def ItA (rb e dp pb base : Nat) (wr : World) (r : Rs Pg) (en : Ending) (w' : World) : Prop := match r with
 | .bad why at_ _ => en = .panicked [{ v := stopV why at_, recovered := false }] ∧ KB rb pb base wr w'
 | .ok p' l' i' => en = .returned (.tuple #[]) ∧ (∃ u0 u1 u2 u3 u4, P5 pb base w' u0 u1 u2 u3 u4 p') ∧ Rd rb e w' l' i' dp ∧ KB rb pb base wr w'
theorem mixedO : Tryz.prog.follows .mixedOrders = true := by kernel_rfl
theorem Rd.more {rb e : Nat} {w : World} {l : List Tok} {it dp : Nat} (h : Rd rb e w l it dp) : Rd rb e (w.setCell ⟨rb, 2, none⟩ (.int .i64 ((it : Int) + 1))) l (it + 1) dp := by
 obtain ⟨v, hbx, hT⟩ := h.box
 exact ⟨⟨v, by have := Qac hbx 2 (.int .i64 ((it : Int) + 1)); exact this.trans (by rw [Int.natCast_add]; rfl), hT.kp (Kp.set rb w 2 _)⟩, h.num, h.len, h.end_⟩
theorem Qpo {rb e dp pb base : Nat} {wr : World} {l : List Tok} (h : Rd rb e wr l 96 dp) (hb : base ≤ wr.heap.size) :
  Calls Tryz.prog 61 #[.pointer (some ⟨rb, 0, none⟩), .pointer (some ⟨pb, 0, none⟩)] wr fun en w' => en = .panicked [{ v := stopV 3 (ahd e 0 l).at_, recovered := false }] ∧ KB rb pb base wr w' := by
 obtain ⟨a, cap, c0, c1, c2, c3, cf⟩ := h.cells
 have hr := Qaw h 3
 have HB := hide hb
 clear h c0 c1 c3
 generalize (ahd e 0 l).at_ = at0 at hr
 go_enter Tryz.func61, Tryz.ntmps61
 go_wp2_with fail
 refine hr.mono ?_
 clear hr
 rintro en w4 ⟨rfl, b4⟩
 have H4 := hide b4
 clear b4
 go_wp2_with fail
 exact ⟨rfl, rfl, KB.of_kp (Kp.of_below (Qa H4)) (Qa HB)⟩
end
section
open Go.RowKit Go.Maps
theorem Qmr {rb e dp pb base : Nat} {d : Nat} {C : Pr Cp} {wr : World} {l : List Tok} {it : Nat} {v0 v1 v2 v3 v4 : Value} {p : Pg} (h : Rd rb e wr l it dp) (h5 : P5 pb base wr v0 v1 v2 v3 v4 p) (hb : base ≤ wr.heap.size) (hrp : rb < pb) (hf : p.types.length ≤ 65536) (hi : it < 96) (hs : sgn e l = [46, 116, 121, 112, 101]) :
  Calls Tryz.prog 61 #[.pointer (some ⟨rb, 0, none⟩), .pointer (some ⟨pb, 0, none⟩)] wr fun en w' => ItA rb e dp pb base wr (itemP e d C p l it) en w' := by
 obtain ⟨a, cap, _, _, hcell, _, cf⟩ := h.cells
 have h96 : ¬ it = 96 := by omega
 have hz : ((it : Int) == 96) = false := by simp; omega
 obtain ⟨w1, hw1⟩ : ∃ w1, w1 = wr.setCell ⟨rb, 2, none⟩ (.int .i64 ((it : Int) + 1)) := ⟨_, rfl⟩
 have hR1 : Rd rb e w1 l (it + 1) dp := by rw [hw1]; exact h.more
 have k1 : Kp rb wr w1 := by rw [hw1]; exact Kp.set rb wr 2 _
 obtain ⟨a0, c0, rfl⟩ := h5.r0.slice
 obtain ⟨a1, c1, rfl⟩ := h5.r1.slice
 obtain ⟨a2, c2, rfl⟩ := h5.r2.slice
 obtain ⟨a3, c3, rfl⟩ := h5.r3.slice
 obtain ⟨a4, c4, rfl⟩ := h5.r4.slice
 obtain ⟨t, l1, rfl, -⟩ := Qbp hs (by decide)
 have hg := Qco hR1
 rw [hs] at hg
 have HC : Hid (∀ v, Below w1.heap.size w1 v → Calls Tryz.prog 93 #[.pointer (some ⟨rb, 0, none⟩)] v fun en w' => Ans rb e dp v (fun w2 v2 x => VTy (fun b => v.heap.size ≤ b) w2 v2 x) (typeP e (t :: l1) (it + 1)) en w') := fun v hv => Qjn (hR1.later hv)
 have E : itemP e d C p (t :: l1) it = (typeP e (t :: l1) (it + 1)).map fun x => .mk (p.types ++ [x]) p.decls p.comps p.inits p.clauses := by
  unfold itemP
  rw [if_neg h96, if_pos hs]
 clear hs
 obtain ⟨PO, hPO⟩ : ∃ PO : Ending → World → Prop, PO = fun en w' => ItA rb e dp pb base wr (itemP e d C p (t :: l1) it) en w' := ⟨_, rfl⟩
 rw [← hPO]
 rw [E] at hPO
 have HPO := hide hPO
 have hpl := h5.lt
 have hlb := Qaf h5.box
 generalize hn0 : p.types.length = n0 at h5
 generalize hn1 : p.decls.length = n1 at h5
 generalize hn2 : p.comps.length = n2 at h5
 generalize hn3 : p.inits.length = n3 at h5
 generalize hn4 : p.clauses.length = n4 at h5
 have H1 := hide (Ya h5 (Ya k1 (Ya hb (Ya hf hn0))))
 have HW1 := hide hw1
 clear h hR1 k1 hw1 E hPO h5 h96 hb hf hn0 hn1 hn2 hn3 hn4
 go_enter Tryz.func61, Tryz.ntmps61
 go_wp2_with fail
 rw [← Qa HW1]
 clear HW1 hcell cf hz hi
 refine hg.mono ?_
 clear hg
 rintro en w2 ⟨rfl, b2⟩
 have k2 : Kp rb wr w2.drew := ((Qa H1).2.1.trans (Kp.of_below b2)).trans (Kp.of_below ((Below.refl _ w2).drew))
 have h52 := (Qa H1).1.kp k2 hrp
 have hcl := Qa HC w2.drew b2.drew
 have H2 := hide (Ya k2 (Ya h52.box h52))
 clear b2 k2 h52 HC
 cases hq : typeP e (t :: l1) (it + 1) with
 | bad why at1 l4 =>
  rw [hq] at hcl HPO
  clear hq
  go_wp2_with fail
  refine Qam (m := 11) (ml := [(0, 1), (1, 1), (2, 1), (3, 1), (4, 2), (5, 1), (6, 0), (7, 0), (8, 0), (9, 1), (10, 1), (11, 0)]) (fun f w' => f = false → w'.heap[pb]? = some (.cells #[.slice a0 n0 c0, .slice a1 n1 c1, .slice a2 n2 c2, .slice a3 n3 c3, .slice a4 n4 c4] 28 (0, 0))) mixedO (by kernel_rfl) rfl (by rfl) (by kernel_rfl) (fun c a d v w h => by cases d <;> exact h) (fun PP PQ hPP hPQ => ?_)
  refine Qab rfl (by kernel_rfl) (fun _ _ _ => by go_simp <;> rfl) ?_
  refine Qab rfl (by kernel_rfl) (fun _ _ _ => by go_simp <;> rfl) ?_
  refine Qab rfl (by kernel_rfl) (fun _ _ _ => by go_simp <;> rfl) ?_
  refine Qab rfl (by kernel_rfl) (fun _ _ _ => by go_simp <;> rfl) ?_
  refine Qau (v := ?_) rfl (by kernel_rfl) (fun w' hw => ?_) ?_
  rotate_left
  · (obtain ⟨z0, z1, z2, z3, z4, zf⟩ := cl5 (hw rfl); go_simp <;> rfl)
  refine Qab rfl (by kernel_rfl) (fun _ _ _ => by go_simp <;> rfl) ?_
  refine Qad rfl (fun _ => (Qa H2).2.1) (fun K hK => ?_)
  go_simp
  refine hcl.mono ?_
  clear hcl
  rintro en w3 ⟨rfl, k3⟩
  have H3 := hide ((Qa H2).1.trans k3)
  clear k3
  go_wp2_with fail
  show PQ _ _ _
  refine hPQ _ _ _ ⟨rfl, ?_⟩
  rw [Qa HPO]
  exact ⟨rfl, KB.of_kp (Qa H3) (Qa H1).2.2.1⟩
 | ok x l4 i4 =>
  rw [hq] at hcl HPO
  clear hq
  go_wp2_with fail
  refine Qam (m := 11) (ml := [(0, 1), (1, 1), (2, 1), (3, 1), (4, 2), (5, 1), (6, 0), (7, 0), (8, 0), (9, 1), (10, 1), (11, 0)]) (fun f w' => f = false → w'.heap[pb]? = some (.cells #[.slice a0 n0 c0, .slice a1 n1 c1, .slice a2 n2 c2, .slice a3 n3 c3, .slice a4 n4 c4] 28 (0, 0))) mixedO (by kernel_rfl) rfl (by rfl) (by kernel_rfl) (fun c a d v w h => by cases d <;> exact h) (fun PP PQ hPP hPQ => ?_)
  refine Qab rfl (by kernel_rfl) (fun _ _ _ => by go_simp <;> rfl) ?_
  refine Qab rfl (by kernel_rfl) (fun _ _ _ => by go_simp <;> rfl) ?_
  refine Qab rfl (by kernel_rfl) (fun _ _ _ => by go_simp <;> rfl) ?_
  refine Qab rfl (by kernel_rfl) (fun _ _ _ => by go_simp <;> rfl) ?_
  refine Qau (v := ?_) rfl (by kernel_rfl) (fun w' hw => ?_) ?_
  rotate_left
  · (obtain ⟨z0, z1, z2, z3, z4, zf⟩ := cl5 (hw rfl); go_simp <;> rfl)
  refine Qab rfl (by kernel_rfl) (fun _ _ _ => by go_simp <;> rfl) ?_
  refine Qad rfl (fun _ => (Qa H2).2.1) (fun K hK => ?_)
  go_simp
  refine hcl.mono ?_
  clear hcl
  rintro en w3 ⟨_, rfl, ⟨xa, xn, xc, rfl, hX⟩, hR3, k3⟩
  obtain ⟨w4, hw4⟩ : ∃ w4, w4 = w3.alloc (.cells #[str x.name, str x.sub, .slice xa xn xc, .int .i64 x.at_] 94) := ⟨_, rfl⟩
  have b4 : Below w3.heap.size w3 w4 := by rw [hw4]; exact (Below.refl _ w3).alloc (Nat.le_refl _) _
  have z4 : w4.heap[w3.heap.size]? = some (.cells #[str x.name, str x.sub, .slice xa xn xc, .int .i64 x.at_] 94 (0, 0)) := by rw [hw4]; exact heap_alloc_new w3 _
  have k34 : Kp rb w2.drew w4 := k3.trans (Kp.of_below b4)
  have hbx3 := k3.keep (Qa H2).2.1 (by omega)
  have hbx4 := (b4.block _ (Qaf hbx3)).trans hbx3
  have hb2 : base ≤ w2.drew.heap.size := by have := (Qa H1).2.2.1; have := (Qa H2).1.size; omega
  obtain ⟨r, w8, hrun, ⟨gg, gc, er, gb, gl⟩, hbx8, h59, hR9, kb9⟩ := (Qa H2).2.2.add0 hb2 hrp k34 (hR3.later b4) (cs := [str x.name, str x.sub, .slice xa xn xc, .int .i64 x.at_]) rfl (by simp [Value.oneCell', str]) (S := fun b => w2.drew.heap.size ≤ b) ⟨xa, xn, xc, rfl, (hX.same Qdq b4.size (fun b _ hl => b4.block b hl))⟩ (fun b hb => hb) (Qa H1).2.2.2.1 w3.heap.size z4
  have kb : KB rb pb base wr (w8.setCell ⟨pb, 0, none⟩ r) := (KB.of_kp (Qa H2).1 (Qa H1).2.2.1).trans kb9
  have HF := hide (Ya h59 (Ya hR9 kb))
  have HX3 := hide hbx3
  have HX4 := hide hbx4
  have HX8 := hide hbx8
  obtain ⟨z0, z1, z2, z3, z4', zf⟩ := cl5 hbx8
  subst er
  have HW4 := hide hw4
  clear hX hR3 k3 hw4 b4 z4 k34 hbx3 hbx4 hb2 gb gl hbx8 h59 hR9 kb9 kb
  go_wp2_with fail
  refine Qad rfl (fun _ => Qa HX3) (fun K hK => ?_)
  go_simp
  rw [← Qa HW4]
  clear HW4
  refine hK _ _ ?_
  clear hK K
  refine Qad rfl (fun _ => Qa HX4) (fun K hK => Qbq rfl _ _ 22 rfl _ _ rfl rfl hrun (hK _ _ ?_))
  clear hK K hrun
  refine Qab rfl (by kernel_rfl) (fun _ _ _ => by go_simp <;> rfl) ?_
  refine Qab rfl (by kernel_rfl) (fun _ _ _ => by go_simp <;> rfl) ?_
  refine Qad rfl (fun _ => Qa HX8) (fun K hK => ?_)
  go_simp
  refine hK _ _ ?_
  clear hK K
  refine Qaz (fun h => by cases h) (hPP _ _ ?_)
  clear hPP hPQ
  go_wp2_with fail
  go_end0
  rw [Qa HPO]
  exact ⟨rfl, ⟨_, _, _, _, _, (Qa HF).1⟩, (Qa HF).2⟩
end
section
open Go.RowKit Go.Maps
theorem Qmp {rb e dp pb base : Nat} {d : Nat} {C : Pr Cp} {wr : World} {l : List Tok} {it : Nat} {v0 v1 v2 v3 v4 : Value} {p : Pg} (h : Rd rb e wr l it dp) (h5 : P5 pb base wr v0 v1 v2 v3 v4 p) (hb : base ≤ wr.heap.size) (hrp : rb < pb) (hf : p.decls.length ≤ 65536) (hi : it < 96) (hs : sgn e l = [46, 100, 101, 99, 108]) :
  Calls Tryz.prog 61 #[.pointer (some ⟨rb, 0, none⟩), .pointer (some ⟨pb, 0, none⟩)] wr fun en w' => ItA rb e dp pb base wr (itemP e d C p l it) en w' := by
 obtain ⟨a, cap, _, _, hcell, _, cf⟩ := h.cells
 have h96 : ¬ it = 96 := by omega
 have hz : ((it : Int) == 96) = false := by simp; omega
 obtain ⟨w1, hw1⟩ : ∃ w1, w1 = wr.setCell ⟨rb, 2, none⟩ (.int .i64 ((it : Int) + 1)) := ⟨_, rfl⟩
 have hR1 : Rd rb e w1 l (it + 1) dp := by rw [hw1]; exact h.more
 have k1 : Kp rb wr w1 := by rw [hw1]; exact Kp.set rb wr 2 _
 obtain ⟨a0, c0, rfl⟩ := h5.r0.slice
 obtain ⟨a1, c1, rfl⟩ := h5.r1.slice
 obtain ⟨a2, c2, rfl⟩ := h5.r2.slice
 obtain ⟨a3, c3, rfl⟩ := h5.r3.slice
 obtain ⟨a4, c4, rfl⟩ := h5.r4.slice
 obtain ⟨t, l1, rfl, -⟩ := Qbp hs (by decide)
 have hg := Qco hR1
 rw [hs] at hg
 have HC : Hid (∀ v, Below w1.heap.size w1 v → Calls Tryz.prog 94 #[.pointer (some ⟨rb, 0, none⟩)] v fun en w' => Ans rb e dp v (fun w2 v2 x => VDc (fun b => v.heap.size ≤ b) w2 v2 x) (declP e (t :: l1) (it + 1)) en w') := fun v hv => Qsb (hR1.later hv)
 have E : itemP e d C p (t :: l1) it = (declP e (t :: l1) (it + 1)).map fun x => .mk p.types (p.decls ++ [x]) p.comps p.inits p.clauses := by
  unfold itemP
  rw [if_neg h96, if_neg (by rw [hs]; decide), if_pos hs]
 clear hs
 obtain ⟨PO, hPO⟩ : ∃ PO : Ending → World → Prop, PO = fun en w' => ItA rb e dp pb base wr (itemP e d C p (t :: l1) it) en w' := ⟨_, rfl⟩
 rw [← hPO]
 rw [E] at hPO
 have HPO := hide hPO
 have hpl := h5.lt
 have hlb := Qaf h5.box
 generalize hn0 : p.types.length = n0 at h5
 generalize hn1 : p.decls.length = n1 at h5
 generalize hn2 : p.comps.length = n2 at h5
 generalize hn3 : p.inits.length = n3 at h5
 generalize hn4 : p.clauses.length = n4 at h5
 have H1 := hide (Ya h5 (Ya k1 (Ya hb (Ya hf hn1))))
 have HW1 := hide hw1
 clear h hR1 k1 hw1 E hPO h5 h96 hb hf hn0 hn1 hn2 hn3 hn4
 go_enter Tryz.func61, Tryz.ntmps61
 go_wp2_with fail
 rw [← Qa HW1]
 clear HW1 hcell cf hz hi
 refine hg.mono ?_
 clear hg
 rintro en w2 ⟨rfl, b2⟩
 have k2 : Kp rb wr w2.drew := ((Qa H1).2.1.trans (Kp.of_below b2)).trans (Kp.of_below ((Below.refl _ w2).drew))
 have h52 := (Qa H1).1.kp k2 hrp
 have hcl := Qa HC w2.drew b2.drew
 have H2 := hide (Ya k2 (Ya h52.box h52))
 clear b2 k2 h52 HC
 cases hq : declP e (t :: l1) (it + 1) with
 | bad why at1 l4 =>
  rw [hq] at hcl HPO
  clear hq
  go_wp2_with fail
  refine Qam (m := 11) (ml := [(0, 1), (1, 1), (2, 1), (3, 1), (4, 2), (5, 1), (6, 0), (7, 0), (8, 0), (9, 1), (10, 1), (11, 0)]) (fun f w' => f = false → w'.heap[pb]? = some (.cells #[.slice a0 n0 c0, .slice a1 n1 c1, .slice a2 n2 c2, .slice a3 n3 c3, .slice a4 n4 c4] 28 (0, 0))) mixedO (by kernel_rfl) rfl (by rfl) (by kernel_rfl) (fun c a d v w h => by cases d <;> exact h) (fun PP PQ hPP hPQ => ?_)
  refine Qab rfl (by kernel_rfl) (fun _ _ _ => by go_simp <;> rfl) ?_
  refine Qab rfl (by kernel_rfl) (fun _ _ _ => by go_simp <;> rfl) ?_
  refine Qab rfl (by kernel_rfl) (fun _ _ _ => by go_simp <;> rfl) ?_
  refine Qab rfl (by kernel_rfl) (fun _ _ _ => by go_simp <;> rfl) ?_
  refine Qau (v := ?_) rfl (by kernel_rfl) (fun w' hw => ?_) ?_
  rotate_left
  · (obtain ⟨z0, z1, z2, z3, z4, zf⟩ := cl5 (hw rfl); go_simp <;> rfl)
  refine Qab rfl (by kernel_rfl) (fun _ _ _ => by go_simp <;> rfl) ?_
  refine Qad rfl (fun _ => (Qa H2).2.1) (fun K hK => ?_)
  go_simp
  refine hcl.mono ?_
  clear hcl
  rintro en w3 ⟨rfl, k3⟩
  have H3 := hide ((Qa H2).1.trans k3)
  clear k3
  go_wp2_with fail
  show PQ _ _ _
  refine hPQ _ _ _ ⟨rfl, ?_⟩
  rw [Qa HPO]
  exact ⟨rfl, KB.of_kp (Qa H3) (Qa H1).2.2.1⟩
 | ok x l4 i4 =>
  rw [hq] at hcl HPO
  clear hq
  go_wp2_with fail
  refine Qam (m := 11) (ml := [(0, 1), (1, 1), (2, 1), (3, 1), (4, 2), (5, 1), (6, 0), (7, 0), (8, 0), (9, 1), (10, 1), (11, 0)]) (fun f w' => f = false → w'.heap[pb]? = some (.cells #[.slice a0 n0 c0, .slice a1 n1 c1, .slice a2 n2 c2, .slice a3 n3 c3, .slice a4 n4 c4] 28 (0, 0))) mixedO (by kernel_rfl) rfl (by rfl) (by kernel_rfl) (fun c a d v w h => by cases d <;> exact h) (fun PP PQ hPP hPQ => ?_)
  refine Qab rfl (by kernel_rfl) (fun _ _ _ => by go_simp <;> rfl) ?_
  refine Qab rfl (by kernel_rfl) (fun _ _ _ => by go_simp <;> rfl) ?_
  refine Qab rfl (by kernel_rfl) (fun _ _ _ => by go_simp <;> rfl) ?_
  refine Qab rfl (by kernel_rfl) (fun _ _ _ => by go_simp <;> rfl) ?_
  refine Qau (v := ?_) rfl (by kernel_rfl) (fun w' hw => ?_) ?_
  rotate_left
  · (obtain ⟨z0, z1, z2, z3, z4, zf⟩ := cl5 (hw rfl); go_simp <;> rfl)
  refine Qab rfl (by kernel_rfl) (fun _ _ _ => by go_simp <;> rfl) ?_
  refine Qad rfl (fun _ => (Qa H2).2.1) (fun K hK => ?_)
  go_simp
  refine hcl.mono ?_
  clear hcl
  rintro en w3 ⟨_, rfl, ⟨xa, xn, xc, rfl, hX⟩, hR3, k3⟩
  obtain ⟨w4, hw4⟩ : ∃ w4, w4 = w3.alloc (.cells #[str x.name, .slice xa xn xc, .bool x.input, .bool x.output, .int .i64 x.at_] 99) := ⟨_, rfl⟩
  have b4 : Below w3.heap.size w3 w4 := by rw [hw4]; exact (Below.refl _ w3).alloc (Nat.le_refl _) _
  have z4 : w4.heap[w3.heap.size]? = some (.cells #[str x.name, .slice xa xn xc, .bool x.input, .bool x.output, .int .i64 x.at_] 99 (0, 0)) := by rw [hw4]; exact heap_alloc_new w3 _
  have k34 : Kp rb w2.drew w4 := k3.trans (Kp.of_below b4)
  have hbx3 := k3.keep (Qa H2).2.1 (by omega)
  have hbx4 := (b4.block _ (Qaf hbx3)).trans hbx3
  have hb2 : base ≤ w2.drew.heap.size := by have := (Qa H1).2.2.1; have := (Qa H2).1.size; omega
  obtain ⟨r, w8, hrun, ⟨gg, gc, er, gb, gl⟩, hbx8, h59, hR9, kb9⟩ := (Qa H2).2.2.add1 hb2 hrp k34 (hR3.later b4) (cs := [str x.name, .slice xa xn xc, .bool x.input, .bool x.output, .int .i64 x.at_]) rfl (by simp [Value.oneCell', str]) (S := fun b => w2.drew.heap.size ≤ b) ⟨xa, xn, xc, rfl, (hX.same Qbv b4.size (fun b _ hl => b4.block b hl))⟩ (fun b hb => hb) (Qa H1).2.2.2.1 w3.heap.size z4
  have kb : KB rb pb base wr (w8.setCell ⟨pb, 1, none⟩ r) := (KB.of_kp (Qa H2).1 (Qa H1).2.2.1).trans kb9
  have HF := hide (Ya h59 (Ya hR9 kb))
  have HX3 := hide hbx3
  have HX4 := hide hbx4
  have HX8 := hide hbx8
  obtain ⟨z0, z1, z2, z3, z4', zf⟩ := cl5 hbx8
  subst er
  have HW4 := hide hw4
  clear hX hR3 k3 hw4 b4 z4 k34 hbx3 hbx4 hb2 gb gl hbx8 h59 hR9 kb9 kb
  go_wp2_with fail
  refine Qad rfl (fun _ => Qa HX3) (fun K hK => ?_)
  go_simp
  rw [← Qa HW4]
  clear HW4
  refine hK _ _ ?_
  clear hK K
  refine Qad rfl (fun _ => Qa HX4) (fun K hK => Qbq rfl _ _ 23 rfl _ _ rfl rfl hrun (hK _ _ ?_))
  clear hK K hrun
  refine Qab rfl (by kernel_rfl) (fun _ _ _ => by go_simp <;> rfl) ?_
  refine Qab rfl (by kernel_rfl) (fun _ _ _ => by go_simp <;> rfl) ?_
  refine Qad rfl (fun _ => Qa HX8) (fun K hK => ?_)
  go_simp
  refine hK _ _ ?_
  clear hK K
  refine Qaz (fun h => by cases h) (hPP _ _ ?_)
  clear hPP hPQ
  go_wp2_with fail
  go_end0
  rw [Qa HPO]
  exact ⟨rfl, ⟨_, _, _, _, _, (Qa HF).1⟩, (Qa HF).2⟩
end
section
open Go.RowKit Go.Maps
theorem Qmq {rb e dp pb base : Nat} {d : Nat} {C : Pr Cp} {wr : World} {l : List Tok} {it : Nat} {v0 v1 v2 v3 v4 : Value} {p : Pg} (h : Rd rb e wr l it dp) (h5 : P5 pb base wr v0 v1 v2 v3 v4 p) (hb : base ≤ wr.heap.size) (hrp : rb < pb) (hf : p.inits.length ≤ 65536) (hi : it < 96) (hs : sgn e l = [46, 105, 110, 105, 116]) :
  Calls Tryz.prog 61 #[.pointer (some ⟨rb, 0, none⟩), .pointer (some ⟨pb, 0, none⟩)] wr fun en w' => ItA rb e dp pb base wr (itemP e d C p l it) en w' := by
 obtain ⟨a, cap, _, _, hcell, _, cf⟩ := h.cells
 have h96 : ¬ it = 96 := by omega
 have hz : ((it : Int) == 96) = false := by simp; omega
 obtain ⟨w1, hw1⟩ : ∃ w1, w1 = wr.setCell ⟨rb, 2, none⟩ (.int .i64 ((it : Int) + 1)) := ⟨_, rfl⟩
 have hR1 : Rd rb e w1 l (it + 1) dp := by rw [hw1]; exact h.more
 have k1 : Kp rb wr w1 := by rw [hw1]; exact Kp.set rb wr 2 _
 obtain ⟨a0, c0, rfl⟩ := h5.r0.slice
 obtain ⟨a1, c1, rfl⟩ := h5.r1.slice
 obtain ⟨a2, c2, rfl⟩ := h5.r2.slice
 obtain ⟨a3, c3, rfl⟩ := h5.r3.slice
 obtain ⟨a4, c4, rfl⟩ := h5.r4.slice
 obtain ⟨t, l1, rfl, -⟩ := Qbp hs (by decide)
 have hg := Qco hR1
 rw [hs] at hg
 have HC : Hid (∀ v, Below w1.heap.size w1 v → Calls Tryz.prog 96 #[.pointer (some ⟨rb, 0, none⟩)] v fun en w' => Ans rb e dp v (fun w2 v2 x => v2 = .agg #[str x.name, str x.comp, .int .i64 x.at_]) (initP e (t :: l1) (it + 1)) en w') := fun v hv => Qit (hR1.later hv)
 have E : itemP e d C p (t :: l1) it = (initP e (t :: l1) (it + 1)).map fun x => .mk p.types p.decls p.comps (p.inits ++ [x]) p.clauses := by
  unfold itemP
  rw [if_neg h96, if_neg (by rw [hs]; decide), if_neg (by rw [hs]; decide), if_neg (by rw [hs]; decide), if_pos hs]
 clear hs
 obtain ⟨PO, hPO⟩ : ∃ PO : Ending → World → Prop, PO = fun en w' => ItA rb e dp pb base wr (itemP e d C p (t :: l1) it) en w' := ⟨_, rfl⟩
 rw [← hPO]
 rw [E] at hPO
 have HPO := hide hPO
 have hpl := h5.lt
 have hlb := Qaf h5.box
 generalize hn0 : p.types.length = n0 at h5
 generalize hn1 : p.decls.length = n1 at h5
 generalize hn2 : p.comps.length = n2 at h5
 generalize hn3 : p.inits.length = n3 at h5
 generalize hn4 : p.clauses.length = n4 at h5
 have H1 := hide (Ya h5 (Ya k1 (Ya hb (Ya hf hn3))))
 have HW1 := hide hw1
 clear h hR1 k1 hw1 E hPO h5 h96 hb hf hn0 hn1 hn2 hn3 hn4
 go_enter Tryz.func61, Tryz.ntmps61
 go_wp2_with fail
 rw [← Qa HW1]
 clear HW1 hcell cf hz hi
 refine hg.mono ?_
 clear hg
 rintro en w2 ⟨rfl, b2⟩
 have k2 : Kp rb wr w2.drew := ((Qa H1).2.1.trans (Kp.of_below b2)).trans (Kp.of_below ((Below.refl _ w2).drew))
 have h52 := (Qa H1).1.kp k2 hrp
 have hcl := Qa HC w2.drew b2.drew
 have H2 := hide (Ya k2 (Ya h52.box h52))
 clear b2 k2 h52 HC
 cases hq : initP e (t :: l1) (it + 1) with
 | bad why at1 l4 =>
  rw [hq] at hcl HPO
  clear hq
  go_wp2_with fail
  refine Qam (m := 11) (ml := [(0, 1), (1, 1), (2, 1), (3, 1), (4, 2), (5, 1), (6, 0), (7, 0), (8, 0), (9, 1), (10, 1), (11, 0)]) (fun f w' => f = false → w'.heap[pb]? = some (.cells #[.slice a0 n0 c0, .slice a1 n1 c1, .slice a2 n2 c2, .slice a3 n3 c3, .slice a4 n4 c4] 28 (0, 0))) mixedO (by kernel_rfl) rfl (by rfl) (by kernel_rfl) (fun c a d v w h => by cases d <;> exact h) (fun PP PQ hPP hPQ => ?_)
  refine Qab rfl (by kernel_rfl) (fun _ _ _ => by go_simp <;> rfl) ?_
  refine Qab rfl (by kernel_rfl) (fun _ _ _ => by go_simp <;> rfl) ?_
  refine Qab rfl (by kernel_rfl) (fun _ _ _ => by go_simp <;> rfl) ?_
  refine Qab rfl (by kernel_rfl) (fun _ _ _ => by go_simp <;> rfl) ?_
  refine Qau (v := ?_) rfl (by kernel_rfl) (fun w' hw => ?_) ?_
  rotate_left
  · (obtain ⟨z0, z1, z2, z3, z4, zf⟩ := cl5 (hw rfl); go_simp <;> rfl)
  refine Qab rfl (by kernel_rfl) (fun _ _ _ => by go_simp <;> rfl) ?_
  refine Qad rfl (fun _ => (Qa H2).2.1) (fun K hK => ?_)
  go_simp
  refine hcl.mono ?_
  clear hcl
  rintro en w3 ⟨rfl, k3⟩
  have H3 := hide ((Qa H2).1.trans k3)
  clear k3
  go_wp2_with fail
  show PQ _ _ _
  refine hPQ _ _ _ ⟨rfl, ?_⟩
  rw [Qa HPO]
  exact ⟨rfl, KB.of_kp (Qa H3) (Qa H1).2.2.1⟩
 | ok x l4 i4 =>
  rw [hq] at hcl HPO
  clear hq
  go_wp2_with fail
  refine Qam (m := 11) (ml := [(0, 1), (1, 1), (2, 1), (3, 1), (4, 2), (5, 1), (6, 0), (7, 0), (8, 0), (9, 1), (10, 1), (11, 0)]) (fun f w' => f = false → w'.heap[pb]? = some (.cells #[.slice a0 n0 c0, .slice a1 n1 c1, .slice a2 n2 c2, .slice a3 n3 c3, .slice a4 n4 c4] 28 (0, 0))) mixedO (by kernel_rfl) rfl (by rfl) (by kernel_rfl) (fun c a d v w h => by cases d <;> exact h) (fun PP PQ hPP hPQ => ?_)
  refine Qab rfl (by kernel_rfl) (fun _ _ _ => by go_simp <;> rfl) ?_
  refine Qab rfl (by kernel_rfl) (fun _ _ _ => by go_simp <;> rfl) ?_
  refine Qab rfl (by kernel_rfl) (fun _ _ _ => by go_simp <;> rfl) ?_
  refine Qab rfl (by kernel_rfl) (fun _ _ _ => by go_simp <;> rfl) ?_
  refine Qau (v := ?_) rfl (by kernel_rfl) (fun w' hw => ?_) ?_
  rotate_left
  · (obtain ⟨z0, z1, z2, z3, z4, zf⟩ := cl5 (hw rfl); go_simp <;> rfl)
  refine Qab rfl (by kernel_rfl) (fun _ _ _ => by go_simp <;> rfl) ?_
  refine Qad rfl (fun _ => (Qa H2).2.1) (fun K hK => ?_)
  go_simp
  refine hcl.mono ?_
  clear hcl
  rintro en w3 ⟨_, rfl, rfl, hR3, k3⟩
  obtain ⟨w4, hw4⟩ : ∃ w4, w4 = w3.alloc (.cells #[str x.name, str x.comp, .int .i64 x.at_] 77) := ⟨_, rfl⟩
  have b4 : Below w3.heap.size w3 w4 := by rw [hw4]; exact (Below.refl _ w3).alloc (Nat.le_refl _) _
  have z4 : w4.heap[w3.heap.size]? = some (.cells #[str x.name, str x.comp, .int .i64 x.at_] 77 (0, 0)) := by rw [hw4]; exact heap_alloc_new w3 _
  have k34 : Kp rb w2.drew w4 := k3.trans (Kp.of_below b4)
  have hbx3 := k3.keep (Qa H2).2.1 (by omega)
  have hbx4 := (b4.block _ (Qaf hbx3)).trans hbx3
  have hb2 : base ≤ w2.drew.heap.size := by have := (Qa H1).2.2.1; have := (Qa H2).1.size; omega
  obtain ⟨r, w8, hrun, ⟨gg, gc, er, gb, gl⟩, hbx8, h59, hR9, kb9⟩ := (Qa H2).2.2.add3 hb2 hrp k34 (hR3.later b4) (cs := [str x.name, str x.comp, .int .i64 x.at_]) rfl (by simp [Value.oneCell', str]) (S := fun b => w2.drew.heap.size ≤ b) rfl (fun b hb => hb) (Qa H1).2.2.2.1 w3.heap.size z4
  have kb : KB rb pb base wr (w8.setCell ⟨pb, 3, none⟩ r) := (KB.of_kp (Qa H2).1 (Qa H1).2.2.1).trans kb9
  have HF := hide (Ya h59 (Ya hR9 kb))
  have HX3 := hide hbx3
  have HX4 := hide hbx4
  have HX8 := hide hbx8
  obtain ⟨z0, z1, z2, z3, z4', zf⟩ := cl5 hbx8
  subst er
  have HW4 := hide hw4
  clear hR3 k3 hw4 b4 z4 k34 hbx3 hbx4 hb2 gb gl hbx8 h59 hR9 kb9 kb
  go_wp2_with fail
  refine Qad rfl (fun _ => Qa HX3) (fun K hK => ?_)
  go_simp
  rw [← Qa HW4]
  clear HW4
  refine hK _ _ ?_
  clear hK K
  refine Qad rfl (fun _ => Qa HX4) (fun K hK => Qbq rfl _ _ 25 rfl _ _ rfl rfl hrun (hK _ _ ?_))
  clear hK K hrun
  refine Qab rfl (by kernel_rfl) (fun _ _ _ => by go_simp <;> rfl) ?_
  refine Qab rfl (by kernel_rfl) (fun _ _ _ => by go_simp <;> rfl) ?_
  refine Qad rfl (fun _ => Qa HX8) (fun K hK => ?_)
  go_simp
  refine hK _ _ ?_
  clear hK K
  refine Qaz (fun h => by cases h) (hPP _ _ ?_)
  clear hPP hPQ
  go_wp2_with fail
  go_end0
  rw [Qa HPO]
  exact ⟨rfl, ⟨_, _, _, _, _, (Qa HF).1⟩, (Qa HF).2⟩
end
end Go.Proofs.YtccehgfecaamoaaGreatDoor
