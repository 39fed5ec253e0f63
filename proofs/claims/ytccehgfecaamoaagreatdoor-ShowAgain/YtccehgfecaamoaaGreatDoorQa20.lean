/- syn: item, one of the clauses. syn: a component put in its place. syn: item, one of the comps. -/
import Derived.Test.YtccehgfecaamoaaGreatDoorQa19
set_option maxRecDepth 100000
set_option maxHeartbeats 32000000
namespace Go.Proofs.YtccehgfecaamoaaGreatDoor
section
open Go.RowKit Go.Maps
theorem Qiu {rb e dp pb base : Nat} {d : Nat} (hd : dp + d = 32) {C : Pr Cp} {wr : World} {l : List Tok} {it : Nat} {v0 v1 v2 v3 v4 : Value} {p : Pg} (h : Rd rb e wr l it dp) (h5 : P5 pb base wr v0 v1 v2 v3 v4 p) (hb : base ≤ wr.heap.size) (hrp : rb < pb) (hf : p.clauses.length ≤ 65536) (hi : it < 96) (hs0 : ¬ sgn e l = [46, 116, 121, 112, 101]) (hs1 : ¬ sgn e l = [46, 100, 101, 99, 108]) (hs2 : ¬ sgn e l = [46, 99, 111, 109, 112]) (hs3 : ¬ sgn e l = [46, 105, 110, 105, 116]) :
  Calls Tryz.prog 61 #[.pointer (some ⟨rb, 0, none⟩), .pointer (some ⟨pb, 0, none⟩)] wr fun en w' => ItA rb e dp pb base wr (itemP e d C p l it) en w' := by
 obtain ⟨a, cap, _, _, hcell, _, cf⟩ := h.cells
 have h96 : ¬ it = 96 := by omega
 have hz : ((it : Int) == 96) = false := by simp; omega
 obtain ⟨w1, hw1⟩ : ∃ w1, w1 = wr.setCell ⟨rb, 2, none⟩ (.int .i64 ((it : Int) + 1)) := ⟨_, rfl⟩
 have hR1 : Rd rb e w1 l (it + 1) dp := by rw [hw1]; exact h.more
 have k1 : Kp rb wr w1 := by rw [hw1]; exact Kp.set rb wr 2 _
 obtain ⟨a0, c0, rfl⟩ := h5.r0.slice
 obtain ⟨a1, c1, rfl⟩ := h5.r1.slice
 obtain ⟨a2, c2, rfl⟩ := h5.r2.slice
 obtain ⟨a3, c3, rfl⟩ := h5.r3.slice
 obtain ⟨a4, c4, rfl⟩ := h5.r4.slice
 have hg := Qco hR1
 have HC : Hid (∀ v, Below w1.heap.size w1 v → Calls Tryz.prog 97 #[.pointer (some ⟨rb, 0, none⟩)] v fun en w' => Ans rb e dp v (fun w2 v2 x => VCl (fun b => v.heap.size ≤ b) w2 v2 x) (clauseP e d l (it + 1)) en w') := fun v hv => Qmg hd (hR1.later hv)
 have E : itemP e d C p l it = (clauseP e d l (it + 1)).map fun x => .mk p.types p.decls p.comps p.inits (p.clauses ++ [x]) := by
  unfold itemP
  rw [if_neg h96, if_neg hs0, if_neg hs1, if_neg hs2, if_neg hs3]
 have g0 : (sgn e l == [46, 116, 121, 112, 101]) = false := by simpa using hs0
 have g1 : (sgn e l == [46, 100, 101, 99, 108]) = false := by simpa using hs1
 have g2 : (sgn e l == [46, 99, 111, 109, 112]) = false := by simpa using hs2
 have g3 : (sgn e l == [46, 105, 110, 105, 116]) = false := by simpa using hs3
 generalize sgn e l = sg at hg g0 g1 g2 g3
 clear hs0 hs1 hs2 hs3 hd
 obtain ⟨PO, hPO⟩ : ∃ PO : Ending → World → Prop, PO = fun en w' => ItA rb e dp pb base wr (itemP e d C p l it) en w' := ⟨_, rfl⟩
 rw [← hPO]
 rw [E] at hPO
 have HPO := hide hPO
 have hpl := h5.lt
 have hlb := Qaf h5.box
 generalize hn0 : p.types.length = n0 at h5
 generalize hn1 : p.decls.length = n1 at h5
 generalize hn2 : p.comps.length = n2 at h5
 generalize hn3 : p.inits.length = n3 at h5
 generalize hn4 : p.clauses.length = n4 at h5
 have H1 := hide (Ya h5 (Ya k1 (Ya hb (Ya hf hn4))))
 have HW1 := hide hw1
 clear h hR1 k1 hw1 E hPO h5 h96 hb hf hn0 hn1 hn2 hn3 hn4
 go_enter Tryz.func61, Tryz.ntmps61
 go_wp2_with fail
 rw [← Qa HW1]
 clear HW1 hcell cf hz hi
 refine hg.mono ?_
 clear hg
 rintro en w2 ⟨rfl, b2⟩
 have k2 : Kp rb wr w2.drew := ((Qa H1).2.1.trans (Kp.of_below b2)).trans (Kp.of_below ((Below.refl _ w2).drew))
 have h52 := (Qa H1).1.kp k2 hrp
 have hcl := Qa HC w2.drew b2.drew
 have H2 := hide (Ya k2 (Ya h52.box h52))
 clear b2 k2 h52 HC
 cases hq : clauseP e d l (it + 1) with
 | bad why at1 l4 =>
  rw [hq] at hcl HPO
  clear hq
  go_wp2_with fail
  refine Qam (m := 11) (ml := [(0, 1), (1, 1), (2, 1), (3, 1), (4, 2), (5, 1), (6, 0), (7, 0), (8, 0), (9, 1), (10, 1), (11, 0)]) (fun f w' => f = false → w'.heap[pb]? = some (.cells #[.slice a0 n0 c0, .slice a1 n1 c1, .slice a2 n2 c2, .slice a3 n3 c3, .slice a4 n4 c4] 28 (0, 0))) mixedO (by kernel_rfl) rfl (by rfl) (by kernel_rfl) (fun c a d v w h => by cases d <;> exact h) (fun PP PQ hPP hPQ => ?_)
  refine Qab rfl (by kernel_rfl) (fun _ _ _ => by go_simp <;> rfl) ?_
  refine Qab rfl (by kernel_rfl) (fun _ _ _ => by go_simp <;> rfl) ?_
  refine Qab rfl (by kernel_rfl) (fun _ _ _ => by go_simp <;> rfl) ?_
  refine Qab rfl (by kernel_rfl) (fun _ _ _ => by go_simp <;> rfl) ?_
  refine Qau (v := ?_) rfl (by kernel_rfl) (fun w' hw => ?_) ?_
  rotate_left
  · (obtain ⟨z0, z1, z2, z3, z4, zf⟩ := cl5 (hw rfl); go_simp <;> rfl)
  refine Qab rfl (by kernel_rfl) (fun _ _ _ => by go_simp <;> rfl) ?_
  refine Qad rfl (fun _ => (Qa H2).2.1) (fun K hK => ?_)
  go_simp
  refine hcl.mono ?_
  clear hcl
  rintro en w3 ⟨rfl, k3⟩
  have H3 := hide ((Qa H2).1.trans k3)
  clear k3
  go_wp2_with fail
  show PQ _ _ _
  refine hPQ _ _ _ ⟨rfl, ?_⟩
  rw [Qa HPO]
  exact ⟨rfl, KB.of_kp (Qa H3) (Qa H1).2.2.1⟩
 | ok x l4 i4 =>
  rw [hq] at hcl HPO
  clear hq
  go_wp2_with fail
  refine Qam (m := 11) (ml := [(0, 1), (1, 1), (2, 1), (3, 1), (4, 2), (5, 1), (6, 0), (7, 0), (8, 0), (9, 1), (10, 1), (11, 0)]) (fun f w' => f = false → w'.heap[pb]? = some (.cells #[.slice a0 n0 c0, .slice a1 n1 c1, .slice a2 n2 c2, .slice a3 n3 c3, .slice a4 n4 c4] 28 (0, 0))) mixedO (by kernel_rfl) rfl (by rfl) (by kernel_rfl) (fun c a d v w h => by cases d <;> exact h) (fun PP PQ hPP hPQ => ?_)
  refine Qab rfl (by kernel_rfl) (fun _ _ _ => by go_simp <;> rfl) ?_
  refine Qab rfl (by kernel_rfl) (fun _ _ _ => by go_simp <;> rfl) ?_
  refine Qab rfl (by kernel_rfl) (fun _ _ _ => by go_simp <;> rfl) ?_
  refine Qab rfl (by kernel_rfl) (fun _ _ _ => by go_simp <;> rfl) ?_
  refine Qau (v := ?_) rfl (by kernel_rfl) (fun w' hw => ?_) ?_
  rotate_left
  · (obtain ⟨z0, z1, z2, z3, z4, zf⟩ := cl5 (hw rfl); go_simp <;> rfl)
  refine Qab rfl (by kernel_rfl) (fun _ _ _ => by go_simp <;> rfl) ?_
  refine Qad rfl (fun _ => (Qa H2).2.1) (fun K hK => ?_)
  go_simp
  refine hcl.mono ?_
  clear hcl
  rintro en w3 ⟨_, rfl, ⟨aa, an, ac, ba, bn, bc, rfl, hX⟩, hR3, k3⟩
  obtain ⟨w4, hw4⟩ : ∃ w4, w4 = w3.alloc (.cells #[str x.head.rel, .slice aa an ac, .int .i64 x.head.at_, .slice ba bn bc, .int .i64 x.at_] 64) := ⟨_, rfl⟩
  have b4 : Below w3.heap.size w3 w4 := by rw [hw4]; exact (Below.refl _ w3).alloc (Nat.le_refl _) _
  have z4 : w4.heap[w3.heap.size]? = some (.cells #[str x.head.rel, .slice aa an ac, .int .i64 x.head.at_, .slice ba bn bc, .int .i64 x.at_] 64 (0, 0)) := by rw [hw4]; exact heap_alloc_new w3 _
  have k34 : Kp rb w2.drew w4 := k3.trans (Kp.of_below b4)
  have hbx3 := k3.keep (Qa H2).2.1 (by omega)
  have hbx4 := (b4.block _ (Qaf hbx3)).trans hbx3
  have hb2 : base ≤ w2.drew.heap.size := by have := (Qa H1).2.2.1; have := (Qa H2).1.size; omega
  obtain ⟨r, w8, hrun, ⟨gg, gc, er, gb, gl⟩, hbx8, h59, hR9, kb9⟩ := (Qa H2).2.2.add4 hb2 hrp k34 (hR3.later b4) (cs := [str x.head.rel, .slice aa an ac, .int .i64 x.head.at_, .slice ba bn bc, .int .i64 x.at_]) rfl (by simp [Value.oneCell', str]) (S := fun b => w2.drew.heap.size ≤ b) ⟨aa, an, ac, ba, bn, bc, rfl, hX.1.same Qae b4.size (fun b _ hl => b4.block b hl), hX.2.same Qbn b4.size (fun b _ hl => b4.block b hl)⟩ (fun b hb => hb) (Qa H1).2.2.2.1 w3.heap.size z4
  have kb : KB rb pb base wr (w8.setCell ⟨pb, 4, none⟩ r) := (KB.of_kp (Qa H2).1 (Qa H1).2.2.1).trans kb9
  have HF := hide (Ya h59 (Ya hR9 kb))
  have HX3 := hide hbx3
  have HX4 := hide hbx4
  have HX8 := hide hbx8
  obtain ⟨z0, z1, z2, z3, z4', zf⟩ := cl5 hbx8
  subst er
  have HW4 := hide hw4
  clear hX hR3 k3 hw4 b4 z4 k34 hbx3 hbx4 hb2 gb gl hbx8 h59 hR9 kb9 kb
  go_wp2_with fail
  refine Qad rfl (fun _ => Qa HX3) (fun K hK => ?_)
  go_simp
  rw [← Qa HW4]
  clear HW4
  refine hK _ _ ?_
  clear hK K
  refine Qad rfl (fun _ => Qa HX4) (fun K hK => Qbq rfl _ _ 26 rfl _ _ rfl rfl hrun (hK _ _ ?_))
  clear hK K hrun
  refine Qab rfl (by kernel_rfl) (fun _ _ _ => by go_simp <;> rfl) ?_
  refine Qab rfl (by kernel_rfl) (fun _ _ _ => by go_simp <;> rfl) ?_
  refine Qad rfl (fun _ => Qa HX8) (fun K hK => ?_)
  go_simp
  refine hK _ _ ?_
  clear hK K
  refine Qaz (fun h => by cases h) (hPP _ _ ?_)
  clear hPP hPQ
  go_wp2_with fail
  go_end0
  rw [Qa HPO]
  exact ⟨rfl, ⟨_, _, _, _, _, (Qa HF).1⟩, (Qa HF).2⟩
end
section
open Go.RowKit Go.Maps
theorem Qaj (g : Nat) : ∀ (vs : List Value) (o : Nat) (w : World) (k : Nat), k ≠ g → (w.setCells g o vs).heap[k]? = w.heap[k]?
 | [], _, _, _, _ => rfl
 | _ :: r, o, _, k, hk => (Qaj g r (o + 1) _ k hk).trans (hpS hk)
theorem Qdb (g : Nat) : ∀ (vs : List Value) (o : Nat) (w : World), (w.setCells g o vs).heap.size = w.heap.size
 | [], _, _ => rfl
 | _ :: r, o, _ => (Qdb g r (o + 1) _).trans (by simp [World.setCell])
theorem Qfx (g : Nat) : ∀ (vs : List Value) (o : Nat) (w : World), (w.setCells g o vs).os = w.os ∧ (w.setCells g o vs).tape = w.tape ∧ (w.setCells g o vs).output = w.output
 | [], _, _ => ⟨rfl, rfl, rfl⟩
 | v :: r, o, w => Qfx g r (o + 1) (w.setCell ⟨g, o, none⟩ v)
theorem Qjh (w : World) (a b : Addr) (u v : Value) (h : a.block ≠ b.block) : (w.setCell a u).setCell b v = (w.setCell b v).setCell a u := by
 unfold World.setCell
 congr 1
 apply Array.ext
 · simp
 intro i h1 h2
 simp only [Array.getElem_modify]
 by_cases e1 : a.block = i
 ·
  have e2 : ¬ b.block = i := fun e => h (e1.trans e.symm)
  simp [e1, e2]
 · simp [e1]
theorem Qec (g : Nat) (b : Addr) (v : Value) (h : b.block ≠ g) : ∀ (vs : List Value) (o : Nat) (w : World), (w.setCells g o vs).setCell b v = (w.setCell b v).setCells g o vs
 | [], _, _ => rfl
 | c :: r, o, w => by
  show ((w.setCell ⟨g, o, none⟩ c).setCells g (o + 1) r).setCell b v = ((w.setCell b v).setCell ⟨g, o, none⟩ c).setCells g (o + 1) r
  rw [Qec g b v h r (o + 1), Qjh w ⟨g, o, none⟩ b c v (Ne.symm h)]
theorem Qes {base : Nat} {T : TypeId} {size g n cap : Nat} : ∀ (vs : List Value) (o : Nat) (w : World) (xs : List Value), w.ownsRow base T size (.slice (some ⟨g, 0, none⟩) n cap) n xs → o + vs.length ≤ xs.length → (w.setCells g o vs).ownsRow base T size (.slice (some ⟨g, 0, none⟩) n cap) n (xs.take o ++ vs ++ xs.drop (o + vs.length))
 | [], o, w, xs, h, _ => by
  rw [List.append_nil, List.length_nil, Nat.add_zero, List.take_append_drop]; exact h
 | v :: r, o, w, xs, h, hl => by
  rw [List.length_cons] at hl
  have h1 := Qes r (o + 1) _ _ (World.ownsRow.stored h o v).1 (by rw [List.length_set]; omega)
  have e1 : (xs.set o v).take (o + 1) = xs.take o ++ [v] := by
   rw [List.take_add_one, List.getElem?_set_self (by omega), List.take_set_of_le (Nat.le_refl _)]; rfl
  have e2 : (xs.set o v).drop (o + 1 + r.length) = xs.drop (o + (v :: r).length) := by
   rw [List.drop_set_of_lt (by omega), List.length_cons, show o + 1 + r.length = o + (r.length + 1) by omega]
  have e3 : xs.take o ++ [v] ++ r ++ xs.drop (o + (v :: r).length) = xs.take o ++ v :: r ++ xs.drop (o + (v :: r).length) := by simp
  rw [e1, e2, e3] at h1
  exact h1
theorem Qeq : ∀ (n : Nat) (css : List (List Value)), (∀ c ∈ css, c.length = 8) → css.flatten.take (n * 8) = (css.take n).flatten
 | 0, css, _ => by simp
 | n + 1, [], _ => by simp
 | n + 1, c :: css, h => by
  have hc : c.length = 8 := h c (by simp)
  rw [List.flatten_cons, List.take_succ_cons, List.flatten_cons, List.take_append, List.take_of_length_le (by omega), hc, show (n + 1) * 8 - 8 = n * 8 by omega, Qeq n css (fun x hx => h x (by simp [hx]))]
theorem Rd.off {rb e : Nat} {w w' : World} {l : List Tok} {it dp : Nat} (h : Rd rb e w l it dp) (hb : ∀ b, b ≤ rb → w'.heap[b]? = w.heap[b]?) : Rd rb e w' l it dp := by
 obtain ⟨v, q1, a, cap, q2, q3, q4, q5⟩ := h.box
 refine ⟨⟨v, (hb rb (Nat.le_refl _)).trans q1, a, cap, q2, q3, q4, fun j t hj => ?_⟩, h.num, h.len, h.end_⟩
 obtain ⟨b, o, e1, e2, e3⟩ := q5 j t hj
 exact ⟨b, o, e1, e2, e3.same (hb b (by omega))⟩
theorem P5.put2 {pb base : Nat} {W : World} {v0 v1 v3 v4 : Value} {g n c : Nat} {ts : List Typ} {ds : List Dcl} {cs : List Cp} {is : List Ini} {ls : List Cls} {x0 x : Cp} {vs : List Value} (h : P5 pb base W v0 v1 (.slice (some ⟨g, 0, none⟩) (n + 1) c) v3 v4 (.mk ts ds (cs ++ [x0]) is ls)) (hn : cs.length = n) (hl : vs.length = 8)
  (hx : PCo (P5S base v0 v1 (.slice (some ⟨g, 0, none⟩) (n + 1) c) v3 v4) W vs x) : P5 pb base (W.setCells g (n * 8) vs) v0 v1 (.slice (some ⟨g, 0, none⟩) (n + 1) c) v3 v4 (.mk ts ds (cs ++ [x]) is ls) := by
 have hg : base ≤ g ∧ g < W.heap.size := h.r2.lt g rfl
 have hlt := h.lt
 have hS : ∀ b, P5S base v0 v1 (.slice (some ⟨g, 0, none⟩) (n + 1) c) v3 v4 b → b ≠ g := fun b hs e => hs.2.2.2.1 (by rw [e]; rfl)
 have hsz := Qdb g vs (n * 8) W
 have hap : ∀ v, Apt v (.slice (some ⟨g, 0, none⟩) (n + 1) c) → ∀ b, some b = v.ownBlock → b ≠ g := fun v ha b e1 e2 => ha b e1 (by rw [e2]; rfl)
 refine ⟨(Qaj g vs _ W pb (by omega)).trans h.box, h.lt, ?_, ?_, ?_, ?_, ?_, h.a01, h.a02, h.a03, h.a04, h.a12, h.a13, h.a14, h.a23, h.a24, h.a34⟩
 · exact h.r0.move Qbh (by omega) (fun b _ _ ho => Qaj g vs _ W b (by rcases ho with hs | e; exact hS b hs; exact hap _ h.a02 b e)) (fun b hs => hs.1) (fun b _ hs => hs)
 · exact h.r1.move Qbf (by omega) (fun b _ _ ho => Qaj g vs _ W b (by rcases ho with hs | e; exact hS b hs; exact hap _ h.a12 b e)) (fun b hs => hs.1) (fun b _ hs => hs)
 ·
  obtain ⟨css, ho, ha⟩ := h.r2
  have hlen : css.length = n + 1 := by rw [ha.1]; simp [Pg.comps, hn]
  have hl8 : ∀ c ∈ css, c.length = 8 := fun c hc => by
   obtain ⟨j, hj, e⟩ := List.getElem_of_mem hc
   have hj2 : j < (Pg.mk ts ds (cs ++ [x0]) is ls).comps.length := by rw [← ha.1]; exact hj
   exact (ha.2 j _ c (List.getElem?_eq_getElem hj2) (by rw [List.getElem?_eq_getElem hj, e])).1
  have e1 : (Pg.mk ts ds (cs ++ [x0]) is ls).comps.length = n + 1 := by simp [Pg.comps, hn]
  have e2 : (Pg.mk ts ds (cs ++ [x]) is ls).comps.length = n + 1 := by simp [Pg.comps, hn]
  rw [e1] at ho
  have hfl : css.flatten.length = (n + 1) * 8 := ho.1
  have ho2 := Qes vs (n * 8) W css.flatten ho (by rw [hfl, hl]; omega)
  rw [Qeq n css hl8, List.drop_of_length_le (by rw [hfl, hl]; omega), List.append_nil] at ho2
  refine ⟨css.take n ++ [vs], by rw [e2]; simpa using ho2, ?_⟩
  have ha0 : All PCo 8 (P5S base v0 v1 (.slice (some ⟨g, 0, none⟩) (n + 1) c) v3 v4) W (css.take n) cs := by
   refine ⟨by rw [List.length_take, hlen, hn]; omega, fun j y c hy hc => ?_⟩
   have hj : j < cs.length := (List.getElem?_eq_some_iff.1 hy).1
   refine ha.2 j y c (by show (cs ++ [x0])[j]? = some y; rw [List.getElem?_append_left hj]; exact hy) ?_
   rw [List.getElem?_take] at hc
   split at hc
   · exact hc
   · cases hc
  have hsm : ∀ b, P5S base v0 v1 (.slice (some ⟨g, 0, none⟩) (n + 1) c) v3 v4 b → b < W.heap.size → (W.setCells g (n * 8) vs).heap[b]? = W.heap[b]? := fun b hs _ => Qaj g vs _ W b (hS b hs)
  exact (ha0.same Qas (by omega) hsm).snoc hl (Qas.same _ _ _ _ _ hx (by omega) hsm)
 · exact h.r3.move Qbg (by omega) (fun b _ _ ho => Qaj g vs _ W b (by rcases ho with hs | e; exact hS b hs; exact hap _ h.a23.symm b e)) (fun b hs => hs.1) (fun b _ hs => hs)
 · exact h.r4.move Qbe (by omega) (fun b _ _ ho => Qaj g vs _ W b (by rcases ho with hs | e; exact hS b hs; exact hap _ h.a24.symm b e)) (fun b hs => hs.1) (fun b _ hs => hs)
theorem Qsu (S : Nat → Prop) (w : World) : PCo S w [.string ⟨#[]⟩, .slice none 0 0, .slice none 0 0, .slice none 0 0, .slice none 0 0, .slice none 0 0, .slice none 0 0, .int .i64 0] ([], [], .none, 0) :=
 ⟨.slice none 0 0, [.slice none 0 0, .slice none 0 0, .slice none 0 0, .slice none 0 0, .slice none 0 0], rfl, rfl, LsAt.nil _ _, Quj (LsAt.nil _ _) (LsAt.nil _ _) (LsAt.nil _ _) (LsAt.nil _ _) (LsAt.nil _ _)⟩
theorem P5.addC {rb e dp pb base : Nat} {wr w2 : World} {v0 v1 v2 v3 v4 : Value} {p : Pg} {l2 : List Tok} {i2 : Nat} (h : P5 pb base wr v0 v1 v2 v3 v4 p) (hb : base ≤ wr.heap.size) (hrp : rb < pb) (k2 : Kp rb wr w2) (hR : Rd rb e w2 l2 i2 dp) {x : Cp} {u0 u1 u2 u3 u4 u5 u6 u7 : Value} {S : Nat → Prop} (hx : PCo S w2 [u0, u1, u2, u3, u4, u5, u6, u7] x) (hS : ∀ b, S b → wr.heap.size ≤ b) (hf : p.comps.length ≤ 65536) (zb : Nat) (hzb : w2.heap[zb]? = some coZ) :
  ∃ g c w8 W, (Builtin.append_ #[24, 24] 24 #[v2, .slice (some ⟨zb, 0, none⟩) 1 1]).run Tryz.prog w2 = .ok (.slice (some ⟨g, 0, none⟩) (p.comps.length + 1) c) w8 ∧
   w8.heap[pb]? = some (.cells #[v0, v1, v2, v3, v4] 28 (0, 0)) ∧
   (∃ w9, (coStore (.pointer (some ⟨g, p.comps.length * 8, none⟩)) (.agg #[u0, u1, u2, u3, u4, u5, u6, u7])).run Tryz.prog w8 = .ok () w9 ∧ w9.heap[pb]? = some (.cells #[v0, v1, v2, v3, v4] 28 (0, 0)) ∧ w9.setCell ⟨pb, 2, none⟩ (.slice (some ⟨g, 0, none⟩) (p.comps.length + 1) c) = W) ∧
   (coStore (.pointer (some ⟨g, p.comps.length * 8, none⟩)) (.agg #[u0, u1, u2, u3, u4, u5, u6, u7])).run Tryz.prog (w8.setCell ⟨pb, 2, none⟩ (.slice (some ⟨g, 0, none⟩) (p.comps.length + 1) c)) = .ok () W ∧
   P5 pb base W v0 v1 (.slice (some ⟨g, 0, none⟩) (p.comps.length + 1) c) v3 v4 (.mk p.types p.decls (p.comps ++ [x]) p.inits p.clauses) ∧ Rd rb e W l2 i2 dp ∧ KB rb pb base wr W := by
 obtain ⟨r, w8, hrun, ⟨g, c, rfl, gb, gl⟩, hbx8, h59, hR9, kb9, hsm, hs8⟩ := h.add2 hb hrp k2 hR (x := ([], [], .none, 0)) (cs := [.string ⟨#[]⟩, .slice none 0 0, .slice none 0 0, .slice none 0 0, .slice none 0 0, .slice none 0 0, .slice none 0 0, .int .i64 0]) rfl (by simp [Value.oneCell']) (S := fun _ => False) (Qsu _ _) (fun b hb => hb.elim) hf zb hzb
 have hlt := h.lt
 have h1 := Qhp hx
 have hpg : pb ≠ g := by omega
 have hx9 : PCo (P5S base v0 v1 (.slice (some ⟨g, 0, none⟩) (p.comps.length + 1) c) v3 v4) (w8.setCell ⟨pb, 2, none⟩ (.slice (some ⟨g, 0, none⟩) (p.comps.length + 1) c)) [u0, u1, u2, u3, u4, u5, u6, u7] x := by
  have hx2 := Qas.mono _ (fun b => wr.heap.size ≤ b ∧ b < w2.heap.size) _ _ _ hx (fun b hl hs => ⟨hS b hs, hl⟩)
  have hx3 := Qas.same _ _ (w8.setCell ⟨pb, 2, none⟩ (.slice (some ⟨g, 0, none⟩) (p.comps.length + 1) c)) _ _ hx2 (by simp [World.setCell]; omega) (fun b hs _ => (hpS (by show b ≠ pb; omega)).trans (hsm b hs.1 hs.2).1)
  refine Qas.mono _ _ _ _ _ hx3 (fun b _ hs => ?_)
  exact ⟨by omega, fun e => by have := h.r0.lt b e; omega, fun e => by have := h.r1.lt b e; omega, (hsm b hs.1 hs.2).2, fun e => by have := h.r3.lt b e; omega, fun e => by have := h.r4.lt b e; omega⟩
 have hP := h59.put2 rfl rfl hx9
 have there9 : (w8.setCell ⟨pb, 2, none⟩ (.slice (some ⟨g, 0, none⟩) (p.comps.length + 1) c)).there g (p.comps.length * 8) 8 := fun j hj => by
  obtain ⟨css, ho, _⟩ := h59.r2
  have e1 : (p.comps ++ [(([], [], Pg.none, 0) : Cp)]).length = p.comps.length + 1 := by simp
  have ho' : (w8.setCell ⟨pb, 2, none⟩ (.slice (some ⟨g, 0, none⟩) (p.comps.length + 1) c)).ownsRow base 72 8 (.slice (some ⟨g, 0, none⟩) (p.comps.length + 1) c) (p.comps.length + 1) css.flatten := e1 ▸ ho
  refine ⟨?_, World.ownsRow.frozenAt ho' _⟩
  rw [World.ownsRow.cellAt ho' _ (by omega), List.getElem?_eq_getElem (by rw [ho'.1]; omega)]
  rfl
 have there8 : w8.there g (p.comps.length * 8) 8 := fun j hj => by
  have h9 := there9 j hj
  have e : (w8.setCell ⟨pb, 2, none⟩ (.slice (some ⟨g, 0, none⟩) (p.comps.length + 1) c)).heap[g]? = w8.heap[g]? := hpS (by show g ≠ pb; omega)
  simp only [World.cell?, World.frozen?, e] at h9 ⊢
  exact h9
 refine ⟨g, c, w8, (w8.setCell ⟨pb, 2, none⟩ (.slice (some ⟨g, 0, none⟩) (p.comps.length + 1) c)).setCells g (p.comps.length * 8) [u0, u1, u2, u3, u4, u5, u6, u7], hrun, hbx8, ⟨w8.setCells g (p.comps.length * 8) [u0, u1, u2, u3, u4, u5, u6, u7], ?_, ?_, ?_⟩, ?_, hP, ?_, ?_⟩
 · exact run_storeAt_mid w8 g _ 72 #[u0, u1, u2, u3, u4, u5, u6, u7] there8 Qds (by simpa using h1)
 · exact (Qaj g _ _ w8 pb hpg).trans hbx8
 · exact Qec g _ _ hpg _ _ _
 · exact run_storeAt_mid _ g _ 72 #[u0, u1, u2, u3, u4, u5, u6, u7] there9 Qds (by simpa using h1)
 · exact hR9.off (fun b hb' => Qaj g _ _ _ b (by omega))
 obtain ⟨o1, o2, o3⟩ := Qfx g [u0, u1, u2, u3, u4, u5, u6, u7] (p.comps.length * 8) (w8.setCell ⟨pb, 2, none⟩ (.slice (some ⟨g, 0, none⟩) (p.comps.length + 1) c))
 exact ⟨o1.trans kb9.os, o2.trans kb9.tape, o3.trans kb9.output, by rw [Qdb]; exact kb9.size, fun b hb1 hn hm => (Qaj g _ _ _ b (by omega)).trans (kb9.block b hb1 hn hm)⟩
theorem Qnw {rb e : Nat} {w : World} {l : List Tok} {it : Nat} (h : Rd rb e w l it 32) :
  Calls Tryz.prog 95 #[.pointer (some ⟨rb, 0, none⟩)] w fun en w' => en = .panicked [{ v := stopV 4 (ahd e 0 l).at_, recovered := false }] ∧ Kp rb w w' := by
 have b1 : Below w.heap.size w (w.alloc coZ) := (Below.refl _ w).alloc (Nat.le_refl _) _
 have hen := Qhh (h.later b1)
 have B1 := hide b1
 clear h b1
 generalize (ahd e 0 l).at_ = at0 at hen
 go_enter Tryz.func95, Tryz.ntmps95
 go_wp2_with fail
 refine hen.mono ?_
 clear hen
 rintro en w4 ⟨rfl, b4⟩
 have H4 := hide ((Qa B1).trans (b4.mono (Qa B1).size))
 clear b4
 go_wp2_with fail
 exact ⟨rfl, rfl, Kp.of_below (Qa H4)⟩
end
section
open Go.RowKit Go.Maps
attribute [local go_sem ↓] Qdk Qdw
theorem Qmo {rb e dp pb base : Nat} {d : Nat} {C : Pr Cp} (hC : ∀ w t l it, it ≤ 96 → Rd rb e w (t :: l) it dp → Calls Tryz.prog 95 #[.pointer (some ⟨rb, 0, none⟩)] w fun en w' => Ans rb e dp w (fun w2 v x => VCo (fun b => w.heap.size ≤ b) w2 v x) (C (t :: l) it) en w') {wr : World} {l : List Tok} {it : Nat} {v0 v1 v2 v3 v4 : Value} {p : Pg} (h : Rd rb e wr l it dp) (h5 : P5 pb base wr v0 v1 v2 v3 v4 p) (hb : base ≤ wr.heap.size) (hrp : rb < pb) (hf : p.comps.length ≤ 65536) (hi : it < 96) (hs : sgn e l = [46, 99, 111, 109, 112]) :
  Calls Tryz.prog 61 #[.pointer (some ⟨rb, 0, none⟩), .pointer (some ⟨pb, 0, none⟩)] wr fun en w' => ItA rb e dp pb base wr (itemP e d C p l it) en w' := by
 obtain ⟨a, cap, _, _, hcell, _, cf⟩ := h.cells
 have h96 : ¬ it = 96 := by omega
 have hz : ((it : Int) == 96) = false := by simp; omega
 obtain ⟨w1, hw1⟩ : ∃ w1, w1 = wr.setCell ⟨rb, 2, none⟩ (.int .i64 ((it : Int) + 1)) := ⟨_, rfl⟩
 have hR1 : Rd rb e w1 l (it + 1) dp := by rw [hw1]; exact h.more
 have k1 : Kp rb wr w1 := by rw [hw1]; exact Kp.set rb wr 2 _
 obtain ⟨a0, c0, rfl⟩ := h5.r0.slice
 obtain ⟨a1, c1, rfl⟩ := h5.r1.slice
 obtain ⟨a2, c2, rfl⟩ := h5.r2.slice
 obtain ⟨a3, c3, rfl⟩ := h5.r3.slice
 obtain ⟨a4, c4, rfl⟩ := h5.r4.slice
 obtain ⟨t, l1, rfl, -⟩ := Qbp hs (by decide)
 have hg := Qco hR1
 rw [hs] at hg
 have HC : Hid (∀ v, Kp rb w1 v → Rd rb e v (t :: l1) (it + 1) dp → Calls Tryz.prog 95 #[.pointer (some ⟨rb, 0, none⟩)] v fun en w' => Ans rb e dp v (fun w2 v2 x => VCo (fun b => v.heap.size ≤ b) w2 v2 x) (C (t :: l1) (it + 1)) en w') := fun v _ hv => hC v t l1 (it + 1) (by omega) hv
 have E : itemP e d C p (t :: l1) it = (C (t :: l1) (it + 1)).map fun x => .mk p.types p.decls (p.comps ++ [x]) p.inits p.clauses := by
  unfold itemP
  rw [if_neg h96, if_neg (by rw [hs]; decide), if_neg (by rw [hs]; decide), if_pos hs]
 clear hs hC
 obtain ⟨PO, hPO⟩ : ∃ PO : Ending → World → Prop, PO = fun en w' => ItA rb e dp pb base wr (itemP e d C p (t :: l1) it) en w' := ⟨_, rfl⟩
 rw [← hPO]
 rw [E] at hPO
 have HPO := hide hPO
 have hpl := h5.lt
 have hlb := Qaf h5.box
 have H1 := hide (Ya h5 (Ya k1 (Ya hb hf)))
 have HW1 := hide hw1
 have HR1 := hide hR1
 clear h hR1 k1 hw1 E hPO h5 h96 hb hf
 go_enter Tryz.func61, Tryz.ntmps61
 go_wp2_with fail
 rw [← Qa HW1]
 clear HW1 hcell cf hz hi
 refine hg.mono ?_
 clear hg
 rintro en w2 ⟨rfl, b2⟩
 have k2 : Kp rb wr w2.drew := ((Qa H1).2.1.trans (Kp.of_below b2)).trans (Kp.of_below ((Below.refl _ w2).drew))
 have h52 := (Qa H1).1.kp k2 hrp
 have hR2 := (Qa HR1).later b2.drew
 have hcl := Qa HC w2.drew (Kp.of_below b2.drew) hR2
 obtain ⟨w2b, hw2b⟩ : ∃ w2b, w2b = w2.drew.alloc coZ := ⟨_, rfl⟩
 have bb : Below w2.drew.heap.size w2.drew w2b := by rw [hw2b]; exact (Below.refl _ w2.drew).alloc (Nat.le_refl _) _
 have zz : w2b.heap[w2.drew.heap.size]? = some coZ := by rw [hw2b]; exact heap_alloc_new w2.drew _
 have hcl2 := Qa HC w2b ((Kp.of_below b2.drew).trans (Kp.of_below bb)) (hR2.later bb)
 have H2 := hide (Ya k2 (Ya h52.box h52))
 have HBB := hide (Ya bb zz)
 have HW2 : Hid (w2b = (w2.alloc (.cells #[.string ⟨#[]⟩, .slice none 0 0, .slice none 0 0, .slice none 0 0, .slice none 0 0, .slice none 0 0, .slice none 0 0, .int .i64 0] 72)).drew) := hw2b
 clear b2 k2 h52 hR2 bb zz hw2b HC HR1
 cases hq : C (t :: l1) (it + 1) with
 | bad why at1 l4 =>
  rw [hq] at hcl hcl2 HPO
  clear hq
  go_wp2_with fail
  refine Qfv (m := 13) (ml := [(0, 1), (1, 1), (2, 1), (3, 2), (4, 1), (6, 1), (5, 10), (8, 0), (9, 1), (11, 1), (12, 1), (10, 16)]) (fun f w' => f = false → w'.heap[pb]? = some (.cells #[.slice a0 p.types.length c0, .slice a1 p.decls.length c1, .slice a2 p.comps.length c2, .slice a3 p.inits.length c3, .slice a4 p.clauses.length c4] 28 (0, 0))) mixedO (by kernel_rfl) rfl (by rfl) (by kernel_rfl) (fun c a d v w h => by cases d <;> exact h) (fun PP PQ hPP hPQ => ?_)
  iterate 3 (refine Qbj (v := ?_) rfl (by kernel_rfl) (fun f w' hw => ?_) ?_; rotate_left; · (go_simp <;> rfl))
  refine Qgf (v := ?_) rfl (by kernel_rfl) (fun w' hw => ?_) ?_
  rotate_left
  · (obtain ⟨z0, z1, z2, z3, z4, zf⟩ := cl5 (hw rfl); go_simp <;> rfl)
  iterate 2 (refine Qbj (v := ?_) rfl (by kernel_rfl) (fun f w' hw => ?_) ?_; rotate_left; · (go_simp <;> rfl))
  refine Qdp rfl rfl (fun _ => (Qa H2).2.1) (fun K hK => ?_) (fun K hK => ?_)
  ·
   go_simp
   refine hcl.mono ?_
   clear hcl hcl2
   rintro en w3 ⟨rfl, k3⟩
   have H3 := hide ((Qa H2).1.trans k3)
   clear k3
   go_wp2_with fail
   show PQ _ _ _
   refine hPQ _ _ _ ⟨rfl, ?_⟩
   rw [Qa HPO]
   exact ⟨rfl, KB.of_kp (Qa H3) (Qa H1).2.2.1⟩
  go_simp
  rw [← Qa HW2]
  refine hK _ _ (fun _ => ((Qa HBB).1.block _ (Qaf (Qa H2).2.1)).trans (Qa H2).2.1) (fun K2 hK2 => ?_)
  clear hK K
  go_simp
  refine hcl2.mono ?_
  clear hcl hcl2
  rintro en w3 ⟨rfl, k3⟩
  have H3 := hide (((Qa H2).1.trans (Kp.of_below (Qa HBB).1)).trans k3)
  clear k3
  go_wp2_with fail
  show PQ _ _ _
  refine hPQ _ _ _ ⟨rfl, ?_⟩
  rw [Qa HPO]
  exact ⟨rfl, KB.of_kp (Qa H3) (Qa H1).2.2.1⟩
 | ok x l4 i4 =>
  rw [hq] at hcl hcl2 HPO
  clear hq
  go_wp2_with fail
  refine Qfv (m := 13) (ml := [(0, 1), (1, 1), (2, 1), (3, 2), (4, 1), (6, 1), (5, 10), (8, 0), (9, 1), (11, 1), (12, 1), (10, 16)]) (fun f w' => f = false → w'.heap[pb]? = some (.cells #[.slice a0 p.types.length c0, .slice a1 p.decls.length c1, .slice a2 p.comps.length c2, .slice a3 p.inits.length c3, .slice a4 p.clauses.length c4] 28 (0, 0))) mixedO (by kernel_rfl) rfl (by rfl) (by kernel_rfl) (fun c a d v w h => by cases d <;> exact h) (fun PP PQ hPP hPQ => ?_)
  iterate 3 (refine Qbj (v := ?_) rfl (by kernel_rfl) (fun f w' hw => ?_) ?_; rotate_left; · (go_simp <;> rfl))
  refine Qgf (v := ?_) rfl (by kernel_rfl) (fun w' hw => ?_) ?_
  rotate_left
  · (obtain ⟨z0, z1, z2, z3, z4, zf⟩ := cl5 (hw rfl); go_simp <;> rfl)
  iterate 2 (refine Qbj (v := ?_) rfl (by kernel_rfl) (fun f w' hw => ?_) ?_; rotate_left; · (go_simp <;> rfl))
  refine Qdp rfl rfl (fun _ => (Qa H2).2.1) (fun K hK => ?_) (fun K hK => ?_)
  ·
   go_simp
   refine hcl.mono ?_
   clear hcl hcl2
   rintro en w3 ⟨_, rfl, ⟨ba, bn, bc, d0, m0, q0, d1, m1, q1, d2, m2, q2, d3, m3, q3, d4, m4, q4, rfl, hX⟩, hR3, k3⟩
   obtain ⟨w4, hw4⟩ : ∃ w4, w4 = w3.alloc (.cells #[.string ⟨#[]⟩, .slice none 0 0, .slice none 0 0, .slice none 0 0, .slice none 0 0, .slice none 0 0, .slice none 0 0, .int .i64 0] 72) := ⟨_, rfl⟩
   have b4 : Below w3.heap.size w3 w4 := by rw [hw4]; exact (Below.refl _ w3).alloc (Nat.le_refl _) _
   obtain ⟨zb, hzb⟩ : ∃ zb, zb = w3.heap.size := ⟨_, rfl⟩
   have hz4 : w4.heap[zb]? = some coZ := by rw [hw4, hzb]; exact heap_alloc_new w3 _
   have hs3 := k3.size
   have k4 : Kp rb w2.drew w4 := k3.trans (Kp.of_below b4)
   have hR4 := hR3.later b4
   have hX4 : PCo (fun b => w2.drew.heap.size ≤ b ∧ b ≠ zb) w4 [str x.1, .slice ba bn bc, .slice d0 m0 q0, .slice d1 m1 q1, .slice d2 m2 q2, .slice d3 m3 q3, .slice d4 m4 q4, .int .i64 x.2.2.2] x := Qas.same _ _ w4 _ _ (Qas.mono _ _ _ _ _ hX (fun b hl hb => ⟨hb, by omega⟩)) b4.size (fun b _ hl => b4.block b hl)
   have hb2 : base ≤ w2.drew.heap.size := by have := (Qa H1).2.2.1; have := (Qa H2).1.size; omega
   have HX3 := hide (k3.keep (Qa H2).2.1 (by omega))
   have HW4 := hide hw4
   have HZB := hide hzb
   clear hX hR3 k3 hw4 b4 hs3 hzb
   obtain ⟨g, c, w8, W, hrun, hbx8, ⟨w9, hE1, hbx9, hWW⟩, hE2, hP9, hR9, kb9⟩ := (Qa H2).2.2.addC hb2 hrp k4 hR4 hX4 (fun b hb => hb.1) (Qa H1).2.2.2 zb hz4
   have kb : KB rb pb base wr W := (KB.of_kp (Qa H2).1 (Qa H1).2.2.1).trans kb9
   have HF := hide (Ya hP9 (Ya hR9 kb))
   have HX4 := hide (k4.keep (Qa H2).2.1 (by omega))
   have HX8 := hide hbx8
   have HX9 := hide hbx9
   obtain ⟨z0, z1, z2, z3, z4', zf⟩ := cl5 hbx8
   obtain ⟨x0, x1, x2, x3, x4, xf⟩ := cl5 hbx9
   have hfl := (Qa H1).2.2.2
   have HWW := hide hWW
   clear hX4 hR4 k4 hz4 hb2 hbx8 hbx9 hP9 hR9 kb9 kb hWW
   show K _ _
   refine hK _ _ (fun _ => Qa HX3) (fun K2 hK2 => ?_)
   go_simp
   rw [← Qa HW4, ← Qa HZB]
   refine hK2 _ _ ?_
   clear hK K hK2 K2 HW4 HZB
   refine Qev rfl (fun _ => Qa HX4) (fun K hK => Qbq rfl _ _ 24 rfl _ _ rfl rfl hrun (hK _ _ ?_))
   clear hK K hrun
   refine Qbj (v := ?_) rfl (by kernel_rfl) (fun f w' hw => ?_) ?_
   rotate_left
   · (go_simp; rw [if_pos (show (p.comps.length : Int) < (p.comps.length : Int) + 1 by omega)] <;> rfl)
   iterate 2 (refine Qbj (v := ?_) rfl (by kernel_rfl) (fun f w' hw => ?_) ?_; rotate_left; · (go_simp <;> rfl))
   refine Qdp rfl rfl (fun _ => Qa HX8) (fun K hK => ?_) (fun K hK => ?_)
   ·
    go_simp
    refine hK _ _ (fun _ => Qa HX9) (fun K2 hK2 => ?_)
    go_simp
    rw [Qa HWW]
    refine hK2 _ _ ?_
    clear hK K hK2 K2
    refine Qdo (fun h => by cases h) (hPP _ _ ?_)
    clear hPP hPQ
    go_wp2_with fail
    go_end0
    rw [Qa HPO]
    exact ⟨rfl, ⟨_, _, _, _, _, (Qa HF).1⟩, (Qa HF).2⟩
   go_simp
   refine hK _ _ (fun h => by cases h) (fun K2 hK2 => ?_)
   go_simp
   refine hK2 _ _ ?_
   clear hK K hK2 K2
   refine Qdo (fun h => by cases h) (hPP _ _ ?_)
   clear hPP hPQ
   go_wp2_with fail
   go_end0
   rw [Qa HPO]
   exact ⟨rfl, ⟨_, _, _, _, _, (Qa HF).1⟩, (Qa HF).2⟩
  go_simp
  rw [← Qa HW2]
  refine hK _ _ (fun _ => ((Qa HBB).1.block _ (Qaf (Qa H2).2.1)).trans (Qa H2).2.1) (fun K2 hK2 => ?_)
  clear hK K
  go_simp
  refine hcl2.mono ?_
  clear hcl hcl2
  rintro en w4 ⟨_, rfl, ⟨ba, bn, bc, d0, m0, q0, d1, m1, q1, d2, m2, q2, d3, m3, q3, d4, m4, q4, rfl, hX⟩, hR4, k3⟩
  obtain ⟨zb, hzb⟩ : ∃ zb, zb = w2.drew.heap.size := ⟨_, rfl⟩
  have hz2 : w2b.heap[zb]? = some coZ := by rw [hzb]; exact (Qa HBB).2
  have hz4 : w4.heap[zb]? = some coZ := k3.keep hz2 (by have := (Qa H2).1.size; omega)
  have hs3 := Qaf hz2
  have k4 : Kp rb w2.drew w4 := (Kp.of_below (Qa HBB).1).trans k3
  have hX4 : PCo (fun b => w2.drew.heap.size ≤ b ∧ b ≠ zb) w4 [str x.1, .slice ba bn bc, .slice d0 m0 q0, .slice d1 m1 q1, .slice d2 m2 q2, .slice d3 m3 q3, .slice d4 m4 q4, .int .i64 x.2.2.2] x := Qas.mono _ _ _ _ _ hX (fun b hl hb => by have hb' : w2b.heap.size ≤ b := hb; exact ⟨by omega, by omega⟩)
  have hb2 : base ≤ w2.drew.heap.size := by have := (Qa H1).2.2.1; have := (Qa H2).1.size; omega
  have HZB := hide hzb
  clear hX k3 hs3 hzb hz2
  obtain ⟨g, c, w8, W, hrun, hbx8, ⟨w9, hE1, hbx9, hWW⟩, hE2, hP9, hR9, kb9⟩ := (Qa H2).2.2.addC hb2 hrp k4 hR4 hX4 (fun b hb => hb.1) (Qa H1).2.2.2 zb hz4
  have kb : KB rb pb base wr W := (KB.of_kp (Qa H2).1 (Qa H1).2.2.1).trans kb9
  have HF := hide (Ya hP9 (Ya hR9 kb))
  have HX4 := hide (k4.keep (Qa H2).2.1 (by omega))
  have HX8 := hide hbx8
  have HX9 := hide hbx9
  obtain ⟨z0, z1, z2, z3, z4', zf⟩ := cl5 hbx8
  obtain ⟨x0, x1, x2, x3, x4, xf⟩ := cl5 hbx9
  have hfl := (Qa H1).2.2.2
  have HWW := hide hWW
  clear hX4 hR4 k4 hz4 hb2 hbx8 hbx9 hP9 hR9 kb9 kb hWW
  show K2 _ _
  refine hK2 _ _ ?_
  clear hK2 K2
  try rw [show w2.heap.size = w2.drew.heap.size from rfl]
  rw [← Qa HZB]
  clear HZB
  refine Qev rfl (fun _ => Qa HX4) (fun K hK => Qbq rfl _ _ 24 rfl _ _ rfl rfl hrun (hK _ _ ?_))
  clear hK K hrun
  refine Qbj (v := ?_) rfl (by kernel_rfl) (fun f w' hw => ?_) ?_
  rotate_left
  · (go_simp; rw [if_pos (show (p.comps.length : Int) < (p.comps.length : Int) + 1 by omega)] <;> rfl)
  iterate 2 (refine Qbj (v := ?_) rfl (by kernel_rfl) (fun f w' hw => ?_) ?_; rotate_left; · (go_simp <;> rfl))
  refine Qdp rfl rfl (fun _ => Qa HX8) (fun K hK => ?_) (fun K hK => ?_)
  ·
   go_simp
   refine hK _ _ (fun _ => Qa HX9) (fun K2 hK2 => ?_)
   go_simp
   rw [Qa HWW]
   refine hK2 _ _ ?_
   clear hK K hK2 K2
   refine Qdo (fun h => by cases h) (hPP _ _ ?_)
   clear hPP hPQ
   go_wp2_with fail
   go_end0
   rw [Qa HPO]
   exact ⟨rfl, ⟨_, _, _, _, _, (Qa HF).1⟩, (Qa HF).2⟩
  go_simp
  refine hK _ _ (fun h => by cases h) (fun K2 hK2 => ?_)
  go_simp
  refine hK2 _ _ ?_
  clear hK K hK2 K2
  refine Qdo (fun h => by cases h) (hPP _ _ ?_)
  clear hPP hPQ
  go_wp2_with fail
  go_end0
  rw [Qa HPO]
  exact ⟨rfl, ⟨_, _, _, _, _, (Qa HF).1⟩, (Qa HF).2⟩
end
end Go.Proofs.YtccehgfecaamoaaGreatDoor
