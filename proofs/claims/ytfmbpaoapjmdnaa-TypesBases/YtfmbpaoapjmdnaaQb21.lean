/- types: the maps of a new catalog. types: a new catalog's maps, in every order. types: a catalog on the way. -/
import Derived.Test.YtfmbpaoapjmdnaaQb20
import Derived.Test.YtfmbpaoapjmdnaaQb08
set_option maxRecDepth 100000
set_option maxHeartbeats 32000000
namespace Go.Proofs.Ytfmbpaoapjmdnaa
section
open Go.RowKit Go.Maps
structure Ms (w1 : World) (o1 o2 o3 : Option (Nat × List (Txt × Value))) (W : World) : Prop where
 bel : Below w1.heap.size w1 W
 m1 : ∀ q ∈ o1, w1.heap.size ≤ q.1 ∧ MpS W q.1 q.2
 m2 : ∀ q ∈ o2, w1.heap.size ≤ q.1 ∧ MpS W q.1 q.2
 m3 : ∀ q ∈ o3, w1.heap.size ≤ q.1 ∧ MpS W q.1 q.2
 n12 : ∀ q ∈ o1, ∀ r ∈ o2, q.1 ≠ r.1
 n13 : ∀ q ∈ o1, ∀ r ∈ o3, q.1 ≠ r.1
 n23 : ∀ q ∈ o2, ∀ r ∈ o3, q.1 ≠ r.1
section
variable {w1 W : World} {o1 o2 o3 : Option (Nat × List (Txt × Value))}
theorem Ms.start (w1 : World) : Ms w1 none none none w1 := ⟨Below.refl _ _, by simp, by simp, by simp, by simp, by simp, by simp⟩
theorem Ms.later {W' : World} (h : Ms w1 o1 o2 o3 W) (b : Below W.heap.size W W') : Ms w1 o1 o2 o3 W' :=
 ⟨h.bel.trans (b.mono h.bel.size), fun q hq => ⟨(h.m1 q hq).1, (h.m1 q hq).2.keep (b.block _ (h.m1 q hq).2.lt)⟩, fun q hq => ⟨(h.m2 q hq).1, (h.m2 q hq).2.keep (b.block _ (h.m2 q hq).2.lt)⟩, fun q hq => ⟨(h.m3 q hq).1, (h.m3 q hq).2.keep (b.block _ (h.m3 q hq).2.lt)⟩, h.n12, h.n13, h.n23⟩
theorem Ms.mk1 (h : Ms w1 none o2 o3 W) : Ms w1 (some (W.heap.size, [])) o2 o3 (W.alloc (.map #[] 0)) := by
 have b := (Below.refl W.heap.size W).alloc (Nat.le_refl _) (.map #[] 0)
 have h' := h.later b
 refine ⟨h'.bel, fun q hq => ?_, h'.m2, h'.m3, fun q hq r hr => ?_, fun q hq r hr => ?_, h.n23⟩
 · cases hq; exact ⟨h.bel.size, MpS.new W⟩
 · cases hq; have := (h.m2 r hr).2.lt; show W.heap.size ≠ r.1; omega
 · cases hq; have := (h.m3 r hr).2.lt; show W.heap.size ≠ r.1; omega
theorem Ms.mk2 (h : Ms w1 o1 none o3 W) : Ms w1 o1 (some (W.heap.size, [])) o3 (W.alloc (.map #[] 0)) := by
 have b := (Below.refl W.heap.size W).alloc (Nat.le_refl _) (.map #[] 0)
 have h' := h.later b
 refine ⟨h'.bel, h'.m1, fun q hq => ?_, h'.m3, fun q hq r hr => ?_, h.n13, fun q hq r hr => ?_⟩
 · cases hq; exact ⟨h.bel.size, MpS.new W⟩
 · cases hr; have := (h.m1 q hq).2.lt; show q.1 ≠ W.heap.size; omega
 · cases hq; have := (h.m3 r hr).2.lt; show W.heap.size ≠ r.1; omega
theorem Ms.mk3 (h : Ms w1 o1 o2 none W) : Ms w1 o1 o2 (some (W.heap.size, [])) (W.alloc (.map #[] 0)) := by
 have b := (Below.refl W.heap.size W).alloc (Nat.le_refl _) (.map #[] 0)
 have h' := h.later b
 refine ⟨h'.bel, h'.m1, h'.m2, fun q hq => ?_, h.n12, fun q hq r hr => ?_, fun q hq r hr => ?_⟩
 · cases hq; exact ⟨h.bel.size, MpS.new W⟩
 · cases hr; have := (h.m1 q hq).2.lt; show q.1 ≠ W.heap.size; omega
 · cases hr; have := (h.m2 q hq).2.lt; show q.1 ≠ W.heap.size; omega
theorem Ms.ins {m : Nat} {ms : List (Txt × Value)} (h : Ms w1 (some (m, ms)) o2 o3 W) (t : Txt) (v : Value) (hn : asc ms t = none) : ∃ W', (Instr.mapUpdate 61 (.map (some m)) (str t) v).run Try.prog W = .ok () W' ∧ Ms w1 (some (m, ms ++ [(t, v)])) o2 o3 W' := by
 obtain ⟨hlo, hm⟩ := h.m1 _ rfl
 obtain ⟨W', hr, hm', hs, ho, ht, hu, hb⟩ := Qoi uS mI W m ms t v hm hn
 refine ⟨W', hr, ⟨⟨ho.trans h.bel.os, ht.trans h.bel.tape, hu.trans h.bel.output, by rw [hs]; exact h.bel.size, fun q hq => (hb q (by have hlo' : w1.heap.size ≤ m := hlo; omega)).trans (h.bel.block q hq)⟩, fun q hq => ?_, fun q hq => ?_, fun q hq => ?_, fun q hq r hr => ?_, fun q hq r hr => ?_, h.n23⟩⟩
 · cases hq; exact ⟨hlo, hm'⟩
 · exact ⟨(h.m2 q hq).1, (h.m2 q hq).2.keep (hb _ (Ne.symm (h.n12 _ rfl q hq)))⟩
 · exact ⟨(h.m3 q hq).1, (h.m3 q hq).2.keep (hb _ (Ne.symm (h.n13 _ rfl q hq)))⟩
 · cases hq; exact h.n12 _ rfl r hr
 · cases hq; exact h.n13 _ rfl r hr
end
theorem Qjn {M KT ET : TypeId} (hM : Try.prog.underlying M = some (.map KT ET)) (w : World) (k : Int) : (Instr.makeMap M (some (.int .i64 k))).run Try.prog w = .ok (.map (some w.heap.size)) (w.alloc (.map #[] 0)) := by
 unfold Instr.makeMap
 simp only [Sem.run_bind, run_underlying hM, Result.andThen_ok]
 rfl
section
variable {P : Program} {ops : Array Oper} {Q : Exit → Act → World → Prop} {C : World → Prop} {K : Act → World → Prop} {k : Nat} {o : Oper} {a : Act} {w W' : World} {v : Value}
theorem Qhz (ho : ops[k]? = some o) (hw : Region.wanted o (yielded ops a.tmps) = true) (hr : (execOp a.eval o).run P w = .ok (.value v) W') (h : K (a.put o.dst v) W') : wpOp P ops Q k K a w :=
 wpOp_step ho (fun K' hK => by rw [if_pos hw]; unfold Oper.wp; rw [hr]; exact hK _ _ h)
theorem Qjd (ho : ops[k]? = some o) (hw : Region.wanted o (yielded ops a.tmps) = true) (hr : (execOp a.eval o).run P w = .ok .skip W') (h : K (a.put o.dst undef) W') : wpOp P ops Q k K a w :=
 wpOp_step ho (fun K' hK => by rw [if_pos hw]; unfold Oper.wp; rw [hr]; exact hK _ _ h)
def wpTk (P : Program) (ops : Array Oper) (C : World → Prop) (K : Act → World → Prop) : List Nat → Act → World → Prop
 | [], a, w => K a w
 | k :: r, a, w => ∃ o v, ops[k]? = some o ∧ (∀ w, C w → YieldsAt P ops w o v a) ∧ wpTk P ops C K r (a.put o.dst v) w
def okTk (md : Region.Mode) (ops : Array Oper) : List Nat → Array Bool → Bool
 | [], _ => true
 | k :: r, listed => (Region.ready md ops listed).contains k && Region.free md ops listed k && okTk md ops r (listed.setIfInBounds k true)
theorem Qjc {md : Region.Mode} (hsel : Region.noSelect ops = true) (hL : ¬ LetsOut Q) (hQ : ∀ c (a : Act) d v w, Q (.panic c) (a.put d v) w → Q (.panic c) a w) (n : Nat) : ∀ (ks : List Nat) (listed : Array Bool) (a : Act) (w : World), okTk md ops ks listed = true → wpTk P ops C (wpAnyC P md ops C Q n (ks.foldl (fun l k => l.setIfInBounds k true) listed)) ks a w → wpAnyC P md ops C Q (n + ks.length) listed a w
 | [], listed, a, w, _, h => h
 | k :: r, listed, a, w, hB, h => by
  simp only [okTk, Bool.and_eq_true] at hB
  obtain ⟨⟨hr, hf⟩, hB'⟩ := hB
  obtain ⟨o, v, ho, hy, h'⟩ := h
  exact Qbi ho (Region.noSelect_spec hsel) hL hQ (n + r.length) listed a w (Region.free_spec ho hf) (by simpa using hr) hy (Qjc hsel hL hQ n r _ _ _ hB' h')
theorem Qox {r : List Nat} (ho : ops[k]? = some o) (hw : Region.wanted o (yielded ops a.tmps) = true) (hy : ∀ w', C w' → (execOp a.eval o).run P w' = .ok (.value v) w') (h : wpTk P ops C K r (a.put o.dst v) w) : wpTk P ops C K (k :: r) a w := ⟨o, v, ho, fun w' hc => .inl ⟨hw, .inl (hy w' hc)⟩, h⟩
def Lf (b1 b2 b3 b4 x y : Bool) : Array Bool := #[true, b1, b2, b3, b4, true, true, true, x, true, true, true, y, false, false, false]
def rst (x y : Bool) : List Nat := (bif x then [] else [8]) ++ (bif y then [] else [12])
theorem cat_any {o4 : Oper} (J : Nat → Bool → Bool → Act → World → Prop) (hsel : Region.noSelect ops = true) (hL : ¬ LetsOut Q) (hQ : ∀ c (a : Act) d v w, Q (.panic c) (a.put d v) w → Q (.panic c) a w) (ho4 : ops[4]? = some o4) (hC : ∀ m x y a w, J m x y a w → C w)
  (r0 : ∀ x y, Region.ready .any ops (Lf false false false false x y) = [1] ++ rst x y)
  (r1 : ∀ x y, Region.ready .any ops (Lf true false false false x y) = [2, 3] ++ rst x y)
  (r2 : ∀ x y, Region.ready .any ops (Lf true true false false x y) = [3] ++ rst x y)
  (r3 : ∀ x y, Region.ready .any ops (Lf true false true false x y) = [2] ++ rst x y)
  (r4 : ∀ x y, (x && y) = false → Region.ready .any ops (Lf true true true true x y) = rst x y)
  (r5 : ∀ x y, (Region.ready .any ops (Lf true true true false x y)).contains 4 = true ∧ Region.free .any ops (Lf true true true false x y) 4 = true)
  (h1_0 : ∀ x y a w, J 0 x y a w → wpOp P ops Q 1 (J 1 x y) a w)
  (h2_1 : ∀ x y a w, J 1 x y a w → wpOp P ops Q 2 (J 2 x y) a w)
  (h2_3 : ∀ x y a w, J 3 x y a w → wpOp P ops Q 2 (J 5 x y) a w)
  (h3_1 : ∀ x y a w, J 1 x y a w → wpOp P ops Q 3 (J 3 x y) a w)
  (h3_2 : ∀ x y a w, J 2 x y a w → wpOp P ops Q 3 (J 5 x y) a w)
  (h4 : ∀ x y a w, J 5 x y a w → ∃ v, (∀ w, C w → YieldsAt P ops w o4 v a) ∧ J 4 x y (a.put o4.dst v) w)
  (h8 : ∀ m y a w, J m false y a w → wpOp P ops Q 8 (J m true y) a w)
  (h12 : ∀ m x a w, J m x false a w → wpOp P ops Q 12 (J m x true) a w)
  (hE : ∀ a w, J 4 true true a w → wpAnyC P .any ops C Q 3 (Lf true true true true true true) a w)
  : ∀ a w, J 0 false false a w → wpAnyC P .any ops C Q 9 (Lf false false false false false false) a w := by
 have s4tt := hE
 have s5tt : ∀ a w, J 5 true true a w → wpAnyC P .any ops C Q 4 (Lf true true true false true true) a w := fun a w h => by
  obtain ⟨v, hy, h'⟩ := h4 _ _ _ _ h
  exact Qbi ho4 (Region.noSelect_spec hsel) hL hQ 3 _ a w (Region.free_spec ho4 (r5 true true).2) (by simpa using (r5 true true).1) hy (s4tt _ _ h')
 have s2tt : ∀ a w, J 2 true true a w → wpAnyC P .any ops C Q 5 (Lf true true false false true true) a w := fun a w h => by
  have e : Region.ready .any ops (Lf true true false false true true) = [3] := r2 true true
  refine ⟨hC _ _ _ _ _ h, fun e' => (by rw [e] at e'; cases e'), fun i hi => ?_⟩
  rw [e] at hi
  simp only [List.mem_cons, List.not_mem_nil, or_false] at hi
  subst hi
  exact wpOp_mono (fun a' w' h' => s5tt a' w' h') (h3_2 _ _ _ _ h)
 have s3tt : ∀ a w, J 3 true true a w → wpAnyC P .any ops C Q 5 (Lf true false true false true true) a w := fun a w h => by
  have e : Region.ready .any ops (Lf true false true false true true) = [2] := r3 true true
  refine ⟨hC _ _ _ _ _ h, fun e' => (by rw [e] at e'; cases e'), fun i hi => ?_⟩
  rw [e] at hi
  simp only [List.mem_cons, List.not_mem_nil, or_false] at hi
  subst hi
  exact wpOp_mono (fun a' w' h' => s5tt a' w' h') (h2_3 _ _ _ _ h)
 have s1tt : ∀ a w, J 1 true true a w → wpAnyC P .any ops C Q 6 (Lf true false false false true true) a w := fun a w h => by
  have e : Region.ready .any ops (Lf true false false false true true) = [2, 3] := r1 true true
  refine ⟨hC _ _ _ _ _ h, fun e' => (by rw [e] at e'; cases e'), fun i hi => ?_⟩
  rw [e] at hi
  simp only [List.mem_cons, List.not_mem_nil, or_false] at hi
  rcases hi with rfl | rfl
  · exact wpOp_mono (fun a' w' h' => s2tt a' w' h') (h2_1 _ _ _ _ h)
  · exact wpOp_mono (fun a' w' h' => s3tt a' w' h') (h3_1 _ _ _ _ h)
 have s0tt : ∀ a w, J 0 true true a w → wpAnyC P .any ops C Q 7 (Lf false false false false true true) a w := fun a w h => by
  have e : Region.ready .any ops (Lf false false false false true true) = [1] := r0 true true
  refine ⟨hC _ _ _ _ _ h, fun e' => (by rw [e] at e'; cases e'), fun i hi => ?_⟩
  rw [e] at hi
  simp only [List.mem_cons, List.not_mem_nil, or_false] at hi
  subst hi
  exact wpOp_mono (fun a' w' h' => s1tt a' w' h') (h1_0 _ _ _ _ h)
 have s4ft : ∀ a w, J 4 false true a w → wpAnyC P .any ops C Q 4 (Lf true true true true false true) a w := fun a w h => by
  have e : Region.ready .any ops (Lf true true true true false true) = [8] := r4 false true rfl
  refine ⟨hC _ _ _ _ _ h, fun e' => (by rw [e] at e'; cases e'), fun i hi => ?_⟩
  rw [e] at hi
  simp only [List.mem_cons, List.not_mem_nil, or_false] at hi
  subst hi
  exact wpOp_mono (fun a' w' h' => s4tt a' w' h') (h8 _ _ _ _ h)
 have s5ft : ∀ a w, J 5 false true a w → wpAnyC P .any ops C Q 5 (Lf true true true false false true) a w := fun a w h => by
  obtain ⟨v, hy, h'⟩ := h4 _ _ _ _ h
  exact Qbi ho4 (Region.noSelect_spec hsel) hL hQ 4 _ a w (Region.free_spec ho4 (r5 false true).2) (by simpa using (r5 false true).1) hy (s4ft _ _ h')
 have s2ft : ∀ a w, J 2 false true a w → wpAnyC P .any ops C Q 6 (Lf true true false false false true) a w := fun a w h => by
  have e : Region.ready .any ops (Lf true true false false false true) = [3, 8] := r2 false true
  refine ⟨hC _ _ _ _ _ h, fun e' => (by rw [e] at e'; cases e'), fun i hi => ?_⟩
  rw [e] at hi
  simp only [List.mem_cons, List.not_mem_nil, or_false] at hi
  rcases hi with rfl | rfl
  · exact wpOp_mono (fun a' w' h' => s5ft a' w' h') (h3_2 _ _ _ _ h)
  · exact wpOp_mono (fun a' w' h' => s2tt a' w' h') (h8 _ _ _ _ h)
 have s3ft : ∀ a w, J 3 false true a w → wpAnyC P .any ops C Q 6 (Lf true false true false false true) a w := fun a w h => by
  have e : Region.ready .any ops (Lf true false true false false true) = [2, 8] := r3 false true
  refine ⟨hC _ _ _ _ _ h, fun e' => (by rw [e] at e'; cases e'), fun i hi => ?_⟩
  rw [e] at hi
  simp only [List.mem_cons, List.not_mem_nil, or_false] at hi
  rcases hi with rfl | rfl
  · exact wpOp_mono (fun a' w' h' => s5ft a' w' h') (h2_3 _ _ _ _ h)
  · exact wpOp_mono (fun a' w' h' => s3tt a' w' h') (h8 _ _ _ _ h)
 have s1ft : ∀ a w, J 1 false true a w → wpAnyC P .any ops C Q 7 (Lf true false false false false true) a w := fun a w h => by
  have e : Region.ready .any ops (Lf true false false false false true) = [2, 3, 8] := r1 false true
  refine ⟨hC _ _ _ _ _ h, fun e' => (by rw [e] at e'; cases e'), fun i hi => ?_⟩
  rw [e] at hi
  simp only [List.mem_cons, List.not_mem_nil, or_false] at hi
  rcases hi with rfl | rfl | rfl
  · exact wpOp_mono (fun a' w' h' => s2ft a' w' h') (h2_1 _ _ _ _ h)
  · exact wpOp_mono (fun a' w' h' => s3ft a' w' h') (h3_1 _ _ _ _ h)
  · exact wpOp_mono (fun a' w' h' => s1tt a' w' h') (h8 _ _ _ _ h)
 have s0ft : ∀ a w, J 0 false true a w → wpAnyC P .any ops C Q 8 (Lf false false false false false true) a w := fun a w h => by
  have e : Region.ready .any ops (Lf false false false false false true) = [1, 8] := r0 false true
  refine ⟨hC _ _ _ _ _ h, fun e' => (by rw [e] at e'; cases e'), fun i hi => ?_⟩
  rw [e] at hi
  simp only [List.mem_cons, List.not_mem_nil, or_false] at hi
  rcases hi with rfl | rfl
  · exact wpOp_mono (fun a' w' h' => s1ft a' w' h') (h1_0 _ _ _ _ h)
  · exact wpOp_mono (fun a' w' h' => s0tt a' w' h') (h8 _ _ _ _ h)
 have s4tf : ∀ a w, J 4 true false a w → wpAnyC P .any ops C Q 4 (Lf true true true true true false) a w := fun a w h => by
  have e : Region.ready .any ops (Lf true true true true true false) = [12] := r4 true false rfl
  refine ⟨hC _ _ _ _ _ h, fun e' => (by rw [e] at e'; cases e'), fun i hi => ?_⟩
  rw [e] at hi
  simp only [List.mem_cons, List.not_mem_nil, or_false] at hi
  subst hi
  exact wpOp_mono (fun a' w' h' => s4tt a' w' h') (h12 _ _ _ _ h)
 have s5tf : ∀ a w, J 5 true false a w → wpAnyC P .any ops C Q 5 (Lf true true true false true false) a w := fun a w h => by
  obtain ⟨v, hy, h'⟩ := h4 _ _ _ _ h
  exact Qbi ho4 (Region.noSelect_spec hsel) hL hQ 4 _ a w (Region.free_spec ho4 (r5 true false).2) (by simpa using (r5 true false).1) hy (s4tf _ _ h')
 have s2tf : ∀ a w, J 2 true false a w → wpAnyC P .any ops C Q 6 (Lf true true false false true false) a w := fun a w h => by
  have e : Region.ready .any ops (Lf true true false false true false) = [3, 12] := r2 true false
  refine ⟨hC _ _ _ _ _ h, fun e' => (by rw [e] at e'; cases e'), fun i hi => ?_⟩
  rw [e] at hi
  simp only [List.mem_cons, List.not_mem_nil, or_false] at hi
  rcases hi with rfl | rfl
  · exact wpOp_mono (fun a' w' h' => s5tf a' w' h') (h3_2 _ _ _ _ h)
  · exact wpOp_mono (fun a' w' h' => s2tt a' w' h') (h12 _ _ _ _ h)
 have s3tf : ∀ a w, J 3 true false a w → wpAnyC P .any ops C Q 6 (Lf true false true false true false) a w := fun a w h => by
  have e : Region.ready .any ops (Lf true false true false true false) = [2, 12] := r3 true false
  refine ⟨hC _ _ _ _ _ h, fun e' => (by rw [e] at e'; cases e'), fun i hi => ?_⟩
  rw [e] at hi
  simp only [List.mem_cons, List.not_mem_nil, or_false] at hi
  rcases hi with rfl | rfl
  · exact wpOp_mono (fun a' w' h' => s5tf a' w' h') (h2_3 _ _ _ _ h)
  · exact wpOp_mono (fun a' w' h' => s3tt a' w' h') (h12 _ _ _ _ h)
 have s1tf : ∀ a w, J 1 true false a w → wpAnyC P .any ops C Q 7 (Lf true false false false true false) a w := fun a w h => by
  have e : Region.ready .any ops (Lf true false false false true false) = [2, 3, 12] := r1 true false
  refine ⟨hC _ _ _ _ _ h, fun e' => (by rw [e] at e'; cases e'), fun i hi => ?_⟩
  rw [e] at hi
  simp only [List.mem_cons, List.not_mem_nil, or_false] at hi
  rcases hi with rfl | rfl | rfl
  · exact wpOp_mono (fun a' w' h' => s2tf a' w' h') (h2_1 _ _ _ _ h)
  · exact wpOp_mono (fun a' w' h' => s3tf a' w' h') (h3_1 _ _ _ _ h)
  · exact wpOp_mono (fun a' w' h' => s1tt a' w' h') (h12 _ _ _ _ h)
 have s0tf : ∀ a w, J 0 true false a w → wpAnyC P .any ops C Q 8 (Lf false false false false true false) a w := fun a w h => by
  have e : Region.ready .any ops (Lf false false false false true false) = [1, 12] := r0 true false
  refine ⟨hC _ _ _ _ _ h, fun e' => (by rw [e] at e'; cases e'), fun i hi => ?_⟩
  rw [e] at hi
  simp only [List.mem_cons, List.not_mem_nil, or_false] at hi
  rcases hi with rfl | rfl
  · exact wpOp_mono (fun a' w' h' => s1tf a' w' h') (h1_0 _ _ _ _ h)
  · exact wpOp_mono (fun a' w' h' => s0tt a' w' h') (h12 _ _ _ _ h)
 have s4ff : ∀ a w, J 4 false false a w → wpAnyC P .any ops C Q 5 (Lf true true true true false false) a w := fun a w h => by
  have e : Region.ready .any ops (Lf true true true true false false) = [8, 12] := r4 false false rfl
  refine ⟨hC _ _ _ _ _ h, fun e' => (by rw [e] at e'; cases e'), fun i hi => ?_⟩
  rw [e] at hi
  simp only [List.mem_cons, List.not_mem_nil, or_false] at hi
  rcases hi with rfl | rfl
  · exact wpOp_mono (fun a' w' h' => s4tf a' w' h') (h8 _ _ _ _ h)
  · exact wpOp_mono (fun a' w' h' => s4ft a' w' h') (h12 _ _ _ _ h)
 have s5ff : ∀ a w, J 5 false false a w → wpAnyC P .any ops C Q 6 (Lf true true true false false false) a w := fun a w h => by
  obtain ⟨v, hy, h'⟩ := h4 _ _ _ _ h
  exact Qbi ho4 (Region.noSelect_spec hsel) hL hQ 5 _ a w (Region.free_spec ho4 (r5 false false).2) (by simpa using (r5 false false).1) hy (s4ff _ _ h')
 have s2ff : ∀ a w, J 2 false false a w → wpAnyC P .any ops C Q 7 (Lf true true false false false false) a w := fun a w h => by
  have e : Region.ready .any ops (Lf true true false false false false) = [3, 8, 12] := r2 false false
  refine ⟨hC _ _ _ _ _ h, fun e' => (by rw [e] at e'; cases e'), fun i hi => ?_⟩
  rw [e] at hi
  simp only [List.mem_cons, List.not_mem_nil, or_false] at hi
  rcases hi with rfl | rfl | rfl
  · exact wpOp_mono (fun a' w' h' => s5ff a' w' h') (h3_2 _ _ _ _ h)
  · exact wpOp_mono (fun a' w' h' => s2tf a' w' h') (h8 _ _ _ _ h)
  · exact wpOp_mono (fun a' w' h' => s2ft a' w' h') (h12 _ _ _ _ h)
 have s3ff : ∀ a w, J 3 false false a w → wpAnyC P .any ops C Q 7 (Lf true false true false false false) a w := fun a w h => by
  have e : Region.ready .any ops (Lf true false true false false false) = [2, 8, 12] := r3 false false
  refine ⟨hC _ _ _ _ _ h, fun e' => (by rw [e] at e'; cases e'), fun i hi => ?_⟩
  rw [e] at hi
  simp only [List.mem_cons, List.not_mem_nil, or_false] at hi
  rcases hi with rfl | rfl | rfl
  · exact wpOp_mono (fun a' w' h' => s5ff a' w' h') (h2_3 _ _ _ _ h)
  · exact wpOp_mono (fun a' w' h' => s3tf a' w' h') (h8 _ _ _ _ h)
  · exact wpOp_mono (fun a' w' h' => s3ft a' w' h') (h12 _ _ _ _ h)
 have s1ff : ∀ a w, J 1 false false a w → wpAnyC P .any ops C Q 8 (Lf true false false false false false) a w := fun a w h => by
  have e : Region.ready .any ops (Lf true false false false false false) = [2, 3, 8, 12] := r1 false false
  refine ⟨hC _ _ _ _ _ h, fun e' => (by rw [e] at e'; cases e'), fun i hi => ?_⟩
  rw [e] at hi
  simp only [List.mem_cons, List.not_mem_nil, or_false] at hi
  rcases hi with rfl | rfl | rfl | rfl
  · exact wpOp_mono (fun a' w' h' => s2ff a' w' h') (h2_1 _ _ _ _ h)
  · exact wpOp_mono (fun a' w' h' => s3ff a' w' h') (h3_1 _ _ _ _ h)
  · exact wpOp_mono (fun a' w' h' => s1tf a' w' h') (h8 _ _ _ _ h)
  · exact wpOp_mono (fun a' w' h' => s1ft a' w' h') (h12 _ _ _ _ h)
 have s0ff : ∀ a w, J 0 false false a w → wpAnyC P .any ops C Q 9 (Lf false false false false false false) a w := fun a w h => by
  have e : Region.ready .any ops (Lf false false false false false false) = [1, 8, 12] := r0 false false
  refine ⟨hC _ _ _ _ _ h, fun e' => (by rw [e] at e'; cases e'), fun i hi => ?_⟩
  rw [e] at hi
  simp only [List.mem_cons, List.not_mem_nil, or_false] at hi
  rcases hi with rfl | rfl | rfl
  · exact wpOp_mono (fun a' w' h' => s1ff a' w' h') (h1_0 _ _ _ _ h)
  · exact wpOp_mono (fun a' w' h' => s0tf a' w' h') (h8 _ _ _ _ h)
  · exact wpOp_mono (fun a' w' h' => s0ft a' w' h') (h12 _ _ _ _ h)
 exact s0ff
end
end
section
open Go.RowKit Go.Maps
section
variable {P : Program} {ops : Array Oper} {Q : Exit → Act → World → Prop}
theorem Qob {id : Nat} {a : Act} {w : World} (ks : List Nat) (n : Nat) (C : World → Prop) (hm : P.follows .mixedOrders = true) (hsel : Region.noSelect ops = true) (hlen : n + ks.length = ops.size) (hok : okTk .any ops ks (Array.replicate ops.size false) = true)
  (h : ∀ PP : Act → World → Prop, (∀ a' w', Q .normal a' w' → PP a' w') → wpTk P ops C (wpAnyC P .any ops C (onlyN PP) n (ks.foldl (fun l k => l.setIfInBounds k true) (Array.replicate ops.size false))) ks a w.drew) : (Code.region id ops true).wp P Q a w := by
 have hL : ¬ LetsOut (onlyN (Q .normal)) := by rintro ⟨_, _, h⟩; exact h
 have h1 := Qdr _ _ _ _ (Qjc (md := .any) hsel hL (fun _ _ _ _ _ h => h) n ks _ a _ hok (h (Q .normal) (fun _ _ h => h)))
 rw [hlen] at h1
 refine wp_mono (Q := onlyN (Q .normal)) (wp_region_any hm h1) ?_
 intro e a w h
 cases e
 case normal => exact h
 all_goals exact h.elim
end
theorem put_ev {a : Act} {i : Nat} {v : Value} (h : i < a.tmps.size) : (a.put (some i) v).eval (.tmp i) = v := by
 simp [Act.put, Act.eval, h]
theorem Qco {a : Act} {i j : Nat} {v : Value} (h : i ≠ j) : (a.put (some i) v).eval (.tmp j) = a.eval (.tmp j) := by
 simp only [Act.put, Act.eval, Array.getD_eq_getD_getElem?]
 rw [Array.getElem?_setIfInBounds_ne h]
theorem Qhs {a : Act} {i : Nat} {u v : Value} : (a.put (some i) u).put (some i) v = a.put (some i) v := by
 simp [Act.put]
theorem Qgy {a : Act} {i j : Nat} {u v : Value} (h : i ≠ j) : (a.put (some i) u).put (some j) v = (a.put (some j) v).put (some i) u := by
 simp only [Act.put]
 rw [Array.setIfInBounds_comm _ _ h]
def mv : Option (Nat × List (Txt × Value)) → Value
 | none => undef
 | some q => .map (some q.1)
def AC (A : Act) (x y z u : Value) : Act := (((A.put (some 11) x).put (some 12) y).put (some 16) z).put (some 20) u
section
variable {A : Act} {x y z u v : Value}
theorem AC.p11 : (AC A x y z u).put (some 11) v = AC A v y z u := by
 unfold AC
 rw [Qgy (i := 20) (j := 11) (by decide), Qgy (i := 16) (j := 11) (by decide), Qgy (i := 12) (j := 11) (by decide), Qhs]
theorem AC.p12 : (AC A x y z u).put (some 12) v = AC A x v z u := by
 unfold AC
 rw [Qgy (i := 20) (j := 12) (by decide), Qgy (i := 16) (j := 12) (by decide), Qhs]
theorem AC.p16 : (AC A x y z u).put (some 16) v = AC A x y v u := by
 unfold AC
 rw [Qgy (i := 20) (j := 16) (by decide), Qhs]
theorem AC.p20 : (AC A x y z u).put (some 20) v = AC A x y z v := by
 unfold AC
 rw [Qhs]
theorem AC.e11 (hs : 20 < A.tmps.size) : (AC A x y z u).eval (.tmp 11) = x := by
 unfold AC
 rw [Qco (by decide), Qco (by decide), Qco (by decide), put_ev (by omega)]
theorem AC.ne {j : Nat} (h1 : 11 ≠ j) (h2 : 12 ≠ j) (h3 : 16 ≠ j) (h4 : 20 ≠ j) : (AC A x y z u).eval (.tmp j) = A.eval (.tmp j) := by
 unfold AC
 rw [Qco h4, Qco h3, Qco h2, Qco h1]
end
def vNum : Value := .string ⟨#[110, 117, 109, 98, 101, 114]⟩
def vSym : Value := .string ⟨#[115, 121, 109, 98, 111, 108]⟩
def StM : Nat → Option (Nat × List (Txt × Value)) → Prop
 | 0, o => o = none
 | 1, o => ∃ b, o = some (b, [])
 | 2, o => ∃ b, o = some (b, [(tNum, .int .i64 1)])
 | 3, o => ∃ b, o = some (b, [(tSym, .int .i64 2)])
 | _, o => ∃ b ms, o = some (b, ms) ∧ ∀ t, asc ms t = (asc [(tNum, 1), (tSym, 2)] t).map nOf
def mvM (m : Nat) (o : Option (Nat × List (Txt × Value))) : Value := if m = 4 then mv o else undef
def JC (w1 : World) (A : Act) (m : Nat) (x y : Bool) (a : Act) (w : World) : Prop := ∃ o1 o2 o3, Ms w1 o1 o2 o3 w ∧ StM m o1 ∧ o2.isSome = x ∧ o3.isSome = y ∧ (∀ q ∈ o2, q.2 = []) ∧ (∀ q ∈ o3, q.2 = []) ∧ a = AC A (mv o1) (mvM m o1) (mv o2) (mv o3)
theorem asc_ns (t : Txt) : asc [(tNum, Value.int .i64 1), (tSym, .int .i64 2)] t = (asc [(tNum, 1), (tSym, 2)] t).map nOf := by
 unfold asc
 by_cases h1 : tNum = t
 · simp [h1, nOf]
 · by_cases h2 : tSym = t <;> simp [h1, h2, nOf]
theorem asc_sn (t : Txt) : asc [(tSym, Value.int .i64 2), (tNum, .int .i64 1)] t = (asc [(tNum, 1), (tSym, 2)] t).map nOf := by
 have hne : tNum ≠ tSym := by decide
 unfold asc
 by_cases h1 : tNum = t
 ·
  have h2 : tSym ≠ t := fun e => hne (h1.trans e.symm)
  simp [h1, h2, nOf]
 · by_cases h2 : tSym = t <;> simp [h1, h2, nOf]
theorem Qkk {m : Nat} (o : Option (Nat × List (Txt × Value))) (h : m ≠ 4) : mvM m o = undef := if_neg h
section
variable {ops : Array Oper} {PP : Act → World → Prop} {w1 : World} {A : Act} {T1 T2 T3 T4 T8 T12 : TypeId} {p1 p2 p3 p4 p8 p12 : String} {f1 f2 f3 f4 f8 f12 : Array Edge} {k0 k1 : Int}
theorem jc_8 (ho : ops[8]? = some ⟨some 16, .makeMap 61 (some (.tmp 15)), T8, p8, f8, none⟩) (h15 : A.eval (.tmp 15) = .int .i64 k1) (m : Nat) (y : Bool) (a : Act) (w : World) (h : JC w1 A m false y a w) : wpOp Try.prog ops (onlyN PP) 8 (JC w1 A m true y) a w := by
 obtain ⟨o1, o2, o3, hM, h1, h2, h3, h4, h5, rfl⟩ := h
 cases o2 with
 | some q => cases h2
 | none =>
  refine Qhz ho rfl (v := .map (some w.heap.size)) (W' := w.alloc (.map #[] 0)) ?_ ?_
  ·
   show (do let r ← Instr.makeMap _ (some ((AC A _ _ _ _).eval (.tmp 15))); pure (Next.value r) : Sem Next).run Try.prog w = _
   rw [AC.ne (by decide) (by decide) (by decide) (by decide), h15, Sem.run_bind, Qjn mI]
   rfl
  · exact ⟨o1, some (w.heap.size, []), o3, hM.mk2, h1, rfl, h3, fun q hq => by cases hq; rfl, h5, AC.p16⟩
theorem jc_12 (ho : ops[12]? = some ⟨some 20, .makeMap 142 (some (.tmp 19)), T12, p12, f12, none⟩) (h19 : A.eval (.tmp 19) = .int .i64 k0) (m : Nat) (x : Bool) (a : Act) (w : World) (h : JC w1 A m x false a w) : wpOp Try.prog ops (onlyN PP) 12 (JC w1 A m x true) a w := by
 obtain ⟨o1, o2, o3, hM, h1, h2, h3, h4, h5, rfl⟩ := h
 cases o3 with
 | some q => cases h3
 | none =>
  refine Qhz ho rfl (v := .map (some w.heap.size)) (W' := w.alloc (.map #[] 0)) ?_ ?_
  ·
   show (do let r ← Instr.makeMap _ (some ((AC A _ _ _ _).eval (.tmp 19))); pure (Next.value r) : Sem Next).run Try.prog w = _
   rw [AC.ne (by decide) (by decide) (by decide) (by decide), h19, Sem.run_bind, Qjn mP]
   rfl
  · exact ⟨o1, o2, some (w.heap.size, []), hM.mk3, h1, h2, rfl, h4, fun q hq => by cases hq; rfl, AC.p20⟩
theorem jc_1 (ho : ops[1]? = some ⟨some 11, .makeMap 61 none, T1, p1, f1, none⟩) (x y : Bool) (a : Act) (w : World) (h : JC w1 A 0 x y a w) : wpOp Try.prog ops (onlyN PP) 1 (JC w1 A 1 x y) a w := by
 obtain ⟨o1, o2, o3, hM, h1, h2, h3, h4, h5, rfl⟩ := h
 cases (show o1 = none from h1)
 refine Qhz ho rfl (v := .map (some w.heap.size)) (W' := w.alloc (.map #[] 0)) rfl ?_
 exact ⟨some (w.heap.size, []), o2, o3, hM.mk1, ⟨_, rfl⟩, h2, h3, h4, h5, AC.p11⟩
theorem jc_2 (hs : 20 < A.tmps.size) (ho : ops[2]? = some ⟨none, .insert 61 (.tmp 11) (.const vNum) (.const (.int .i64 1)), T2, p2, f2, none⟩) {m n : Nat} (hmn : (m = 1 ∧ n = 2) ∨ (m = 3 ∧ n = 5)) (x y : Bool) (a : Act) (w : World) (h : JC w1 A m x y a w) : wpOp Try.prog ops (onlyN PP) 2 (JC w1 A n x y) a w := by
 obtain ⟨o1, o2, o3, hM, h1, h2, h3, h4, h5, rfl⟩ := h
 have key : ∃ b ms, o1 = some (b, ms) ∧ asc ms tNum = none ∧ ∀ b', StM n (some (b', ms ++ [(tNum, .int .i64 1)])) := by
  rcases hmn with ⟨rfl, rfl⟩ | ⟨rfl, rfl⟩
  ·
   obtain ⟨b, rfl⟩ := h1
   exact ⟨b, [], rfl, rfl, fun b' => ⟨b', rfl⟩⟩
  obtain ⟨b, rfl⟩ := h1
  exact ⟨b, _, rfl, by decide, fun b' => ⟨b', _, rfl, asc_sn⟩⟩
 have hm4 : m ≠ 4 := by omega
 have hn4 : n ≠ 4 := by omega
 obtain ⟨b, ms, rfl, hn, hst⟩ := key
 obtain ⟨W', hr, hM'⟩ := hM.ins tNum (.int .i64 1) hn
 refine Qjd ho rfl (W' := W') ?_ ?_
 ·
  show (do Instr.mapUpdate _ ((AC A _ _ _ _).eval (.tmp 11)) vNum (.int .i64 1); pure Next.skip : Sem Next).run Try.prog w = _
  rw [AC.e11 hs, Sem.run_bind]
  show Result.andThen ((Instr.mapUpdate _ (.map (some b)) (str tNum) (.int .i64 1)).run Try.prog w) _ = _
  rw [hr]
  rfl
 refine ⟨_, o2, o3, hM', hst b, h2, h3, h4, h5, ?_⟩
 rw [Qkk _ hm4, Qkk _ hn4]
 rfl
theorem jc_3 (hs : 20 < A.tmps.size) (ho : ops[3]? = some ⟨none, .insert 61 (.tmp 11) (.const vSym) (.const (.int .i64 2)), T3, p3, f3, none⟩) {m n : Nat} (hmn : (m = 1 ∧ n = 3) ∨ (m = 2 ∧ n = 5)) (x y : Bool) (a : Act) (w : World) (h : JC w1 A m x y a w) : wpOp Try.prog ops (onlyN PP) 3 (JC w1 A n x y) a w := by
 obtain ⟨o1, o2, o3, hM, h1, h2, h3, h4, h5, rfl⟩ := h
 have key : ∃ b ms, o1 = some (b, ms) ∧ asc ms tSym = none ∧ ∀ b', StM n (some (b', ms ++ [(tSym, .int .i64 2)])) := by
  rcases hmn with ⟨rfl, rfl⟩ | ⟨rfl, rfl⟩
  ·
   obtain ⟨b, rfl⟩ := h1
   exact ⟨b, [], rfl, rfl, fun b' => ⟨b', rfl⟩⟩
  obtain ⟨b, rfl⟩ := h1
  exact ⟨b, _, rfl, by decide, fun b' => ⟨b', _, rfl, asc_ns⟩⟩
 have hm4 : m ≠ 4 := by omega
 have hn4 : n ≠ 4 := by omega
 obtain ⟨b, ms, rfl, hn, hst⟩ := key
 obtain ⟨W', hr, hM'⟩ := hM.ins tSym (.int .i64 2) hn
 refine Qjd ho rfl (W' := W') ?_ ?_
 ·
  show (do Instr.mapUpdate _ ((AC A _ _ _ _).eval (.tmp 11)) vSym (.int .i64 2); pure Next.skip : Sem Next).run Try.prog w = _
  rw [AC.e11 hs, Sem.run_bind]
  show Result.andThen ((Instr.mapUpdate _ (.map (some b)) (str tSym) (.int .i64 2)).run Try.prog w) _ = _
  rw [hr]
  rfl
 refine ⟨_, o2, o3, hM', hst b, h2, h3, h4, h5, ?_⟩
 rw [Qkk _ hm4, Qkk _ hn4]
 rfl
theorem cat_fin (hsel : Region.noSelect ops = true) (hs : 20 < A.tmps.size) (h15 : A.eval (.tmp 15) = .int .i64 k1) (h19 : A.eval (.tmp 19) = .int .i64 k0) (hu : A = AC A undef undef undef undef)
  (ho1 : ops[1]? = some ⟨some 11, .makeMap 61 none, T1, p1, f1, none⟩)
  (ho2 : ops[2]? = some ⟨none, .insert 61 (.tmp 11) (.const vNum) (.const (.int .i64 1)), T2, p2, f2, none⟩)
  (ho3 : ops[3]? = some ⟨none, .insert 61 (.tmp 11) (.const vSym) (.const (.int .i64 2)), T3, p3, f3, none⟩)
  (ho4 : ops[4]? = some ⟨some 12, .move (.tmp 11), T4, p4, f4, none⟩)
  (ho8 : ops[8]? = some ⟨some 16, .makeMap 61 (some (.tmp 15)), T8, p8, f8, none⟩)
  (ho12 : ops[12]? = some ⟨some 20, .makeMap 142 (some (.tmp 19)), T12, p12, f12, none⟩)
  (r0 : ∀ x y, Region.ready .any ops (Lf false false false false x y) = [1] ++ rst x y)
  (r1 : ∀ x y, Region.ready .any ops (Lf true false false false x y) = [2, 3] ++ rst x y)
  (r2 : ∀ x y, Region.ready .any ops (Lf true true false false x y) = [3] ++ rst x y)
  (r3 : ∀ x y, Region.ready .any ops (Lf true false true false x y) = [2] ++ rst x y)
  (r4 : ∀ x y, (x && y) = false → Region.ready .any ops (Lf true true true true x y) = rst x y)
  (r5 : ∀ x y, (Region.ready .any ops (Lf true true true false x y)).contains 4 = true ∧ Region.free .any ops (Lf true true true false x y) 4 = true)
  {w : World} (hw : Below w1.heap.size w1 w)
  (hE : ∀ m1 m2 m3 ms W, Ms w1 (some (m1, ms)) (some (m2, [])) (some (m3, [])) W → (∀ t, asc ms t = (asc [(tNum, 1), (tSym, 2)] t).map nOf) → wpAnyC Try.prog .any ops (Below w1.heap.size w1) (onlyN PP) 3 (Lf true true true true true true) (AC A (.map (some m1)) (.map (some m1)) (.map (some m2)) (.map (some m3))) W) :
  wpAnyC Try.prog .any ops (Below w1.heap.size w1) (onlyN PP) 9 (Lf false false false false false false) A w := by
 refine cat_any (JC w1 A) hsel (by rintro ⟨_, _, h⟩; exact h) (fun _ _ _ _ _ h => h) ho4 (fun m x y a w h => ?_) r0 r1 r2 r3 r4 r5 (jc_1 ho1) (jc_2 hs ho2 (.inl ⟨rfl, rfl⟩)) (jc_2 hs ho2 (.inr ⟨rfl, rfl⟩)) (jc_3 hs ho3 (.inl ⟨rfl, rfl⟩)) (jc_3 hs ho3 (.inr ⟨rfl, rfl⟩)) (fun x y a w h => ?_) (jc_8 ho8 h15) (jc_12 ho12 h19) (fun a w h => ?_) A w ?_
 ·
  obtain ⟨o1, o2, o3, hM, _⟩ := h
  exact hM.bel
 ·
  obtain ⟨o1, o2, o3, hM, h1, h2, h3, h4, h5, rfl⟩ := h
  obtain ⟨b, ms, rfl, hms⟩ := h1
  refine ⟨.map (some b), fun w' _ => .inl ⟨rfl, .inl ?_⟩, _, o2, o3, hM, ⟨b, ms, rfl, hms⟩, h2, h3, h4, h5, ?_⟩
  ·
   show (pure (Next.value ((AC A _ _ _ _).eval (.tmp 11))) : Sem Next).run Try.prog w' = _
   rw [AC.e11 hs]
   rfl
  · exact AC.p12
 ·
  obtain ⟨o1, o2, o3, hM, h1, h2, h3, h4, h5, rfl⟩ := h
  obtain ⟨b, ms, rfl, hms⟩ := h1
  cases o2 with
  | none => cases h2
  | some q2 =>
   cases o3 with
   | none => cases h3
   | some q3 =>
    obtain ⟨m2, e2⟩ := q2
    obtain ⟨m3, e3⟩ := q3
    cases (show e2 = [] from h4 _ rfl)
    cases (show e3 = [] from h5 _ rfl)
    exact hE b m2 m3 ms w hM hms
 · exact ⟨none, none, none, (Ms.start w1).later hw, rfl, rfl, rfl, fun _ h => (by cases h), fun _ h => (by cases h), hu⟩
end
end
section
open Go.RowKit Go.Maps
structure Nc (n0 n1 : Nat) (p : Pg) (c : CatP) (kv : Value) (rt rd : List (Txt × Nat)) (rc : List (Txt × (Nat × Nat))) (w : World) : Prop where
 box : w.heap[c.cb]? = some (.cells #[c.v0, c.v1, c.v2, c.v3, c.v4, kv, .map (some c.mt), .map (some c.md), .map (some c.mc)] 145 (0, 0))
 par : w.heap[n1]? = some (.cells #[c.v0, c.v1, c.v2, c.v3, c.v4] 28 (0, 0))
 prg : PgS (fun b => b < n0) w [c.v0, c.v1, c.v2, c.v3, c.v4] p
 mt : MpF nOf w c.mt rt
 md : MpF nOf w c.md rd
 mc : MpF pOf w c.mc rc
 l0 : n1 < c.cb ∧ n1 < c.mt ∧ n1 < c.md ∧ n1 < c.mc
 n01 : n0 ≤ n1
 ne : c.mt ≠ c.md ∧ c.mt ≠ c.mc ∧ c.md ≠ c.mc
section
variable {n0 n1 : Nat} {p : Pg} {c : CatP} {kv : Value} {rt rd : List (Txt × Nat)} {rc : List (Txt × (Nat × Nat))} {w w' : World}
theorem MpF.cells_ne {α : Type} {f : α → Value} {mb b : Nat} {row : List (Txt × α)} {cs : Array Value} {T : TypeId} (h : MpF f w mb row) (hb : w.heap[b]? = some (.cells cs T (0, 0))) : b ≠ mb := fun e => by
 obtain ⟨ms, ⟨es, cl, h1, _⟩, _⟩ := h
 rw [← e, hb] at h1
 cases h1
theorem Nc.later (h : Nc n0 n1 p c kv rt rd rc w) (b : Below w.heap.size w w') : Nc n0 n1 p c kv rt rd rc w' :=
 ⟨(b.block _ (Qab h.box)).trans h.box, (b.block _ (Qab h.par)).trans h.par, Qar.same _ _ _ _ _ h.prg b.size (fun q _ hl => b.block q hl), h.mt.keep (b.block _ h.mt.lt), h.md.keep (b.block _ h.md.lt), h.mc.keep (b.block _ h.mc.lt), h.l0, h.n01, h.ne⟩
theorem Qhh {α : Type} {f : α → Value} {ms : List (Txt × Value)} {row : List (Txt × α)} (h : ∀ t, asc ms t = (asc row t).map f) (n : Txt) (v : α) (t : Txt) : asc (addF ms n (f v)) t = (asc (row ++ [(n, v)]) t).map f := by
 rw [Qpf, Qcl, Qcl, h, Qep, Qep]
 cases asc row t with
 | some u => rfl
 | none => by_cases e : n = t <;> simp [e]
theorem Nc.putT (h : Nc n0 n1 p c kv rt rd rc w) (n : Txt) (k : Nat) :
  Calls Try.prog 76 #[.map (some c.mt), str n, .int .i64 (k : Int)] w fun en w' => en = .returned (.tuple #[]) ∧ Nc n0 n1 p c kv (rt ++ [(n, k)]) rd rc w' ∧ Kp c.mt w w' := by
 obtain ⟨ms, hm, ha⟩ := h.mt
 refine (Qka hm n (k : Int)).mono ?_
 rintro en w' ⟨rfl, hm', hk⟩
 have o : ∀ q, q < w.heap.size → q ≠ c.mt → w'.heap[q]? = w.heap[q]? := hk.block
 exact ⟨rfl, ⟨(o _ (Qab h.box) (h.mt.cells_ne h.box)).trans h.box, (o _ (Qab h.par) (h.mt.cells_ne h.par)).trans h.par, Qar.same _ _ _ _ _ h.prg hk.size (fun q hq hl => o q hl (by have := h.l0.2.1; have := h.n01; have hq' : q < n0 := hq; omega)), ⟨_, hm', Qhh (f := nOf) ha n k⟩, h.md.keep (o _ h.md.lt (Ne.symm h.ne.1)), h.mc.keep (o _ h.mc.lt (Ne.symm h.ne.2.1)), h.l0, h.n01, h.ne⟩, hk⟩
theorem Nc.putD (h : Nc n0 n1 p c kv rt rd rc w) (n : Txt) (k : Nat) :
  Calls Try.prog 76 #[.map (some c.md), str n, .int .i64 (k : Int)] w fun en w' => en = .returned (.tuple #[]) ∧ Nc n0 n1 p c kv rt (rd ++ [(n, k)]) rc w' ∧ Kp c.md w w' := by
 obtain ⟨ms, hm, ha⟩ := h.md
 refine (Qka hm n (k : Int)).mono ?_
 rintro en w' ⟨rfl, hm', hk⟩
 have o : ∀ q, q < w.heap.size → q ≠ c.md → w'.heap[q]? = w.heap[q]? := hk.block
 exact ⟨rfl, ⟨(o _ (Qab h.box) (h.md.cells_ne h.box)).trans h.box, (o _ (Qab h.par) (h.md.cells_ne h.par)).trans h.par, Qar.same _ _ _ _ _ h.prg hk.size (fun q hq hl => o q hl (by have := h.l0.2.2.1; have := h.n01; have hq' : q < n0 := hq; omega)), h.mt.keep (o _ h.mt.lt h.ne.1), ⟨_, hm', Qhh (f := nOf) ha n k⟩, h.mc.keep (o _ h.mc.lt (Ne.symm h.ne.2.2)), h.l0, h.n01, h.ne⟩, hk⟩
theorem Nc.putC (h : Nc n0 n1 p c kv rt rd rc w) (n : Txt) (i k : Nat) :
  Calls Try.prog 77 #[.map (some c.mc), str n, .agg #[.int .i64 (i : Int), .int .i64 (k : Int)]] w fun en w' => en = .returned (.tuple #[]) ∧ Nc n0 n1 p c kv rt rd (rc ++ [(n, (i, k))]) w' ∧ Kp c.mc w w' := by
 obtain ⟨ms, hm, ha⟩ := h.mc
 refine (Qpd hm n (i : Int) (k : Int) (fun u hu => ?_)).mono ?_
 ·
  rw [ha] at hu
  cases e : asc rc n with
  | none => rw [e] at hu; cases hu
  | some q => rw [e] at hu; cases hu; exact ⟨_, _, rfl⟩
 rintro en w' ⟨rfl, hm', hk⟩
 have o : ∀ q, q < w.heap.size → q ≠ c.mc → w'.heap[q]? = w.heap[q]? := hk.block
 exact ⟨rfl, ⟨(o _ (Qab h.box) (h.mc.cells_ne h.box)).trans h.box, (o _ (Qab h.par) (h.mc.cells_ne h.par)).trans h.par, Qar.same _ _ _ _ _ h.prg hk.size (fun q hq hl => o q hl (by have := h.l0.2.2.2; have := h.n01; have hq' : q < n0 := hq; omega)), h.mt.keep (o _ h.mt.lt h.ne.2.1), h.md.keep (o _ h.md.lt h.ne.2.2), ⟨_, hm', Qhh (f := pOf) ha n (i, k)⟩, h.l0, h.n01, h.ne⟩, hk⟩
end
theorem Qfg {α : Type} {xs : List α} {j : Nat} {x : α} (h : xs[j]? = some x) : (xs.take (j + 1)).zipIdx = (xs.take j).zipIdx ++ [(x, j)] := by
 have hl := (List.getElem?_eq_some_iff.1 h).1
 rw [List.take_add_one, h, List.zipIdx_append]
 simp [Nat.min_eq_left (Nat.le_of_lt hl)]
theorem Qlx {ts : List Typ} {j : Nat} {x : Typ} (h : ts[j]? = some x) : tyRow (ts.take (j + 1)) = tyRow (ts.take j) ++ [(x.name, 3 + j)] := by
 unfold tyRow
 rw [Qfg h]
 simp
theorem Qld {ds : List Dcl} {j : Nat} {x : Dcl} (h : ds[j]? = some x) : dcRow (ds.take (j + 1)) = dcRow (ds.take j) ++ [(x.name, j)] := by
 unfold dcRow
 rw [Qfg h]
 simp
def coRow (j : Nat) (cs : List Ctr) : List (Txt × (Nat × Nat)) := cs.zipIdx.map fun c => (c.1.name, (j, c.2))
theorem Qlb {cs : List Ctr} {i : Nat} {x : Ctr} (j : Nat) (h : cs[i]? = some x) : coRow j (cs.take (i + 1)) = coRow j (cs.take i) ++ [(x.name, (j, i))] := by
 unfold coRow
 rw [Qfg h]
 simp
theorem Qlc {ts : List Typ} {j : Nat} {x : Typ} (h : ts[j]? = some x) : ctRow (ts.take (j + 1)) = ctRow (ts.take j) ++ coRow j x.ctors := by
 unfold ctRow coRow
 rw [Qfg h]
 simp
end
end Go.Proofs.Ytfmbpaoapjmdnaa
