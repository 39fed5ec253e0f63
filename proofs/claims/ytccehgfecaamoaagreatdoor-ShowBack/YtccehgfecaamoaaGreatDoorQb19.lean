/- syn: a component put in its place. syn: item, one of the comps. syn: items up to an end. -/
import Derived.Test.YtccehgfecaamoaaGreatDoorQb18
set_option maxRecDepth 100000
set_option maxHeartbeats 32000000
namespace Go.Proofs.YtccehgfecaamoaaGreatDoor
section
open Go.RowKit Go.Maps
theorem Qat (g : Nat) : ∀ (vs : List Value) (o : Nat) (w : World) (k : Nat), k ≠ g → (w.setCells g o vs).heap[k]? = w.heap[k]?
 | [], _, _, _, _ => rfl
 | _ :: r, o, _, k, hk => (Qat g r (o + 1) _ k hk).trans (hpS hk)
theorem Qeu (g : Nat) : ∀ (vs : List Value) (o : Nat) (w : World), (w.setCells g o vs).heap.size = w.heap.size
 | [], _, _ => rfl
 | _ :: r, o, _ => (Qeu g r (o + 1) _).trans (by simp [World.setCell])
theorem Qiw (g : Nat) : ∀ (vs : List Value) (o : Nat) (w : World), (w.setCells g o vs).os = w.os ∧ (w.setCells g o vs).tape = w.tape ∧ (w.setCells g o vs).output = w.output
 | [], _, _ => ⟨rfl, rfl, rfl⟩
 | v :: r, o, w => Qiw g r (o + 1) (w.setCell ⟨g, o, none⟩ v)
theorem Qnv (w : World) (a b : Addr) (u v : Value) (h : a.block ≠ b.block) : (w.setCell a u).setCell b v = (w.setCell b v).setCell a u := by
 unfold World.setCell
 congr 1
 apply Array.ext
 · simp
 intro i h1 h2
 simp only [Array.getElem_modify]
 by_cases e1 : a.block = i
 ·
  have e2 : ¬ b.block = i := fun e => h (e1.trans e.symm)
  simp [e1, e2]
 · simp [e1]
theorem Qgk (g : Nat) (b : Addr) (v : Value) (h : b.block ≠ g) : ∀ (vs : List Value) (o : Nat) (w : World), (w.setCells g o vs).setCell b v = (w.setCell b v).setCells g o vs
 | [], _, _ => rfl
 | c :: r, o, w => by
  show ((w.setCell ⟨g, o, none⟩ c).setCells g (o + 1) r).setCell b v = ((w.setCell b v).setCell ⟨g, o, none⟩ c).setCells g (o + 1) r
  rw [Qgk g b v h r (o + 1), Qnv w ⟨g, o, none⟩ b c v (Ne.symm h)]
theorem Qhg {base : Nat} {T : TypeId} {size g n cap : Nat} : ∀ (vs : List Value) (o : Nat) (w : World) (xs : List Value), w.ownsRow base T size (.slice (some ⟨g, 0, none⟩) n cap) n xs → o + vs.length ≤ xs.length → (w.setCells g o vs).ownsRow base T size (.slice (some ⟨g, 0, none⟩) n cap) n (xs.take o ++ vs ++ xs.drop (o + vs.length))
 | [], o, w, xs, h, _ => by
  rw [List.append_nil, List.length_nil, Nat.add_zero, List.take_append_drop]; exact h
 | v :: r, o, w, xs, h, hl => by
  rw [List.length_cons] at hl
  have h1 := Qhg r (o + 1) _ _ (World.ownsRow.stored h o v).1 (by rw [List.length_set]; omega)
  have e1 : (xs.set o v).take (o + 1) = xs.take o ++ [v] := by
   rw [List.take_add_one, List.getElem?_set_self (by omega), List.take_set_of_le (Nat.le_refl _)]; rfl
  have e2 : (xs.set o v).drop (o + 1 + r.length) = xs.drop (o + (v :: r).length) := by
   rw [List.drop_set_of_lt (by omega), List.length_cons, show o + 1 + r.length = o + (r.length + 1) by omega]
  have e3 : xs.take o ++ [v] ++ r ++ xs.drop (o + (v :: r).length) = xs.take o ++ v :: r ++ xs.drop (o + (v :: r).length) := by simp
  rw [e1, e2, e3] at h1
  exact h1
theorem Qhe : ∀ (n : Nat) (css : List (List Value)), (∀ c ∈ css, c.length = 8) → css.flatten.take (n * 8) = (css.take n).flatten
 | 0, css, _ => by simp
 | n + 1, [], _ => by simp
 | n + 1, c :: css, h => by
  have hc : c.length = 8 := h c (by simp)
  rw [List.flatten_cons, List.take_succ_cons, List.flatten_cons, List.take_append, List.take_of_length_le (by omega), hc, show (n + 1) * 8 - 8 = n * 8 by omega, Qhe n css (fun x hx => h x (by simp [hx]))]
theorem Rd.off {rb e : Nat} {w w' : World} {l : List Tok} {it dp : Nat} (h : Rd rb e w l it dp) (hb : ∀ b, b ≤ rb → w'.heap[b]? = w.heap[b]?) : Rd rb e w' l it dp := by
 obtain ⟨v, q1, a, cap, q2, q3, q4, q5⟩ := h.box
 refine ⟨⟨v, (hb rb (Nat.le_refl _)).trans q1, a, cap, q2, q3, q4, fun j t hj => ?_⟩, h.num, h.len, h.end_⟩
 obtain ⟨b, o, e1, e2, e3⟩ := q5 j t hj
 exact ⟨b, o, e1, e2, e3.same (hb b (by omega))⟩
theorem P5.put2 {pb base : Nat} {W : World} {v0 v1 v3 v4 : Value} {g n c : Nat} {ts : List Typ} {ds : List Dcl} {cs : List Cp} {is : List Ini} {ls : List Cls} {x0 x : Cp} {vs : List Value} (h : P5 pb base W v0 v1 (.slice (some ⟨g, 0, none⟩) (n + 1) c) v3 v4 (.mk ts ds (cs ++ [x0]) is ls)) (hn : cs.length = n) (hl : vs.length = 8)
  (hx : PCo (P5S base v0 v1 (.slice (some ⟨g, 0, none⟩) (n + 1) c) v3 v4) W vs x) : P5 pb base (W.setCells g (n * 8) vs) v0 v1 (.slice (some ⟨g, 0, none⟩) (n + 1) c) v3 v4 (.mk ts ds (cs ++ [x]) is ls) := by
 have hg : base ≤ g ∧ g < W.heap.size := h.r2.lt g rfl
 have hlt := h.lt
 have hS : ∀ b, P5S base v0 v1 (.slice (some ⟨g, 0, none⟩) (n + 1) c) v3 v4 b → b ≠ g := fun b hs e => hs.2.2.2.1 (by rw [e]; rfl)
 have hsz := Qeu g vs (n * 8) W
 have hap : ∀ v, Apt v (.slice (some ⟨g, 0, none⟩) (n + 1) c) → ∀ b, some b = v.ownBlock → b ≠ g := fun v ha b e1 e2 => ha b e1 (by rw [e2]; rfl)
 refine ⟨(Qat g vs _ W pb (by omega)).trans h.box, h.lt, ?_, ?_, ?_, ?_, ?_, h.a01, h.a02, h.a03, h.a04, h.a12, h.a13, h.a14, h.a23, h.a24, h.a34⟩
 · exact h.r0.move Qbq (by omega) (fun b _ _ ho => Qat g vs _ W b (by rcases ho with hs | e; exact hS b hs; exact hap _ h.a02 b e)) (fun b hs => hs.1) (fun b _ hs => hs)
 · exact h.r1.move Qbp (by omega) (fun b _ _ ho => Qat g vs _ W b (by rcases ho with hs | e; exact hS b hs; exact hap _ h.a12 b e)) (fun b hs => hs.1) (fun b _ hs => hs)
 ·
  obtain ⟨css, ho, ha⟩ := h.r2
  have hlen : css.length = n + 1 := by rw [ha.1]; simp [Pg.comps, hn]
  have hl8 : ∀ c ∈ css, c.length = 8 := fun c hc => by
   obtain ⟨j, hj, e⟩ := List.getElem_of_mem hc
   have hj2 : j < (Pg.mk ts ds (cs ++ [x0]) is ls).comps.length := by rw [← ha.1]; exact hj
   exact (ha.2 j _ c (List.getElem?_eq_getElem hj2) (by rw [List.getElem?_eq_getElem hj, e])).1
  have e1 : (Pg.mk ts ds (cs ++ [x0]) is ls).comps.length = n + 1 := by simp [Pg.comps, hn]
  have e2 : (Pg.mk ts ds (cs ++ [x]) is ls).comps.length = n + 1 := by simp [Pg.comps, hn]
  rw [e1] at ho
  have hfl : css.flatten.length = (n + 1) * 8 := ho.1
  have ho2 := Qhg vs (n * 8) W css.flatten ho (by rw [hfl, hl]; omega)
  rw [Qhe n css hl8, List.drop_of_length_le (by rw [hfl, hl]; omega), List.append_nil] at ho2
  refine ⟨css.take n ++ [vs], by rw [e2]; simpa using ho2, ?_⟩
  have ha0 : All PCo 8 (P5S base v0 v1 (.slice (some ⟨g, 0, none⟩) (n + 1) c) v3 v4) W (css.take n) cs := by
   refine ⟨by rw [List.length_take, hlen, hn]; omega, fun j y c hy hc => ?_⟩
   have hj : j < cs.length := (List.getElem?_eq_some_iff.1 hy).1
   refine ha.2 j y c (by show (cs ++ [x0])[j]? = some y; rw [List.getElem?_append_left hj]; exact hy) ?_
   rw [List.getElem?_take] at hc
   split at hc
   · exact hc
   · cases hc
  have hsm : ∀ b, P5S base v0 v1 (.slice (some ⟨g, 0, none⟩) (n + 1) c) v3 v4 b → b < W.heap.size → (W.setCells g (n * 8) vs).heap[b]? = W.heap[b]? := fun b hs _ => Qat g vs _ W b (hS b hs)
  exact (ha0.same Qbb (by omega) hsm).snoc hl (Qbb.same _ _ _ _ _ hx (by omega) hsm)
 · exact h.r3.move Qbw (by omega) (fun b _ _ ho => Qat g vs _ W b (by rcases ho with hs | e; exact hS b hs; exact hap _ h.a23.symm b e)) (fun b hs => hs.1) (fun b _ hs => hs)
 · exact h.r4.move Qbg (by omega) (fun b _ _ ho => Qat g vs _ W b (by rcases ho with hs | e; exact hS b hs; exact hap _ h.a24.symm b e)) (fun b hs => hs.1) (fun b _ hs => hs)
theorem Jba (S : Nat → Prop) (w : World) : PCo S w [.string ⟨#[]⟩, .slice none 0 0, .slice none 0 0, .slice none 0 0, .slice none 0 0, .slice none 0 0, .slice none 0 0, .int .i64 0] ([], [], .none, 0) :=
 ⟨.slice none 0 0, [.slice none 0 0, .slice none 0 0, .slice none 0 0, .slice none 0 0, .slice none 0 0], rfl, rfl, LsAt.nil _ _, Jcy (LsAt.nil _ _) (LsAt.nil _ _) (LsAt.nil _ _) (LsAt.nil _ _) (LsAt.nil _ _)⟩
theorem P5.addC {rb e dp pb base : Nat} {wr w2 : World} {v0 v1 v2 v3 v4 : Value} {p : Pg} {l2 : List Tok} {i2 : Nat} (h : P5 pb base wr v0 v1 v2 v3 v4 p) (hb : base ≤ wr.heap.size) (hrp : rb < pb) (k2 : Kp rb wr w2) (hR : Rd rb e w2 l2 i2 dp) {x : Cp} {u0 u1 u2 u3 u4 u5 u6 u7 : Value} {S : Nat → Prop} (hx : PCo S w2 [u0, u1, u2, u3, u4, u5, u6, u7] x) (hS : ∀ b, S b → wr.heap.size ≤ b) (hf : p.comps.length ≤ 65536) (zb : Nat) (hzb : w2.heap[zb]? = some coZ) :
  ∃ g c w8 W, (Builtin.append_ #[24, 24] 24 #[v2, .slice (some ⟨zb, 0, none⟩) 1 1]).run Tryz.prog w2 = .ok (.slice (some ⟨g, 0, none⟩) (p.comps.length + 1) c) w8 ∧
   w8.heap[pb]? = some (.cells #[v0, v1, v2, v3, v4] 28 (0, 0)) ∧
   (∃ w9, (coStore (.pointer (some ⟨g, p.comps.length * 8, none⟩)) (.agg #[u0, u1, u2, u3, u4, u5, u6, u7])).run Tryz.prog w8 = .ok () w9 ∧ w9.heap[pb]? = some (.cells #[v0, v1, v2, v3, v4] 28 (0, 0)) ∧ w9.setCell ⟨pb, 2, none⟩ (.slice (some ⟨g, 0, none⟩) (p.comps.length + 1) c) = W) ∧
   (coStore (.pointer (some ⟨g, p.comps.length * 8, none⟩)) (.agg #[u0, u1, u2, u3, u4, u5, u6, u7])).run Tryz.prog (w8.setCell ⟨pb, 2, none⟩ (.slice (some ⟨g, 0, none⟩) (p.comps.length + 1) c)) = .ok () W ∧
   P5 pb base W v0 v1 (.slice (some ⟨g, 0, none⟩) (p.comps.length + 1) c) v3 v4 (.mk p.types p.decls (p.comps ++ [x]) p.inits p.clauses) ∧ Rd rb e W l2 i2 dp ∧ KB rb pb base wr W := by
 obtain ⟨r, w8, hrun, ⟨g, c, rfl, gb, gl⟩, hbx8, h59, hR9, kb9, hsm, hs8⟩ := h.add2 hb hrp k2 hR (x := ([], [], .none, 0)) (cs := [.string ⟨#[]⟩, .slice none 0 0, .slice none 0 0, .slice none 0 0, .slice none 0 0, .slice none 0 0, .slice none 0 0, .int .i64 0]) rfl (by simp [Value.oneCell']) (S := fun _ => False) (Jba _ _) (fun b hb => hb.elim) hf zb hzb
 have hlt := h.lt
 have h1 := Qiq hx
 have hpg : pb ≠ g := by omega
 have hx9 : PCo (P5S base v0 v1 (.slice (some ⟨g, 0, none⟩) (p.comps.length + 1) c) v3 v4) (w8.setCell ⟨pb, 2, none⟩ (.slice (some ⟨g, 0, none⟩) (p.comps.length + 1) c)) [u0, u1, u2, u3, u4, u5, u6, u7] x := by
  have hx2 := Qbb.mono _ (fun b => wr.heap.size ≤ b ∧ b < w2.heap.size) _ _ _ hx (fun b hl hs => ⟨hS b hs, hl⟩)
  have hx3 := Qbb.same _ _ (w8.setCell ⟨pb, 2, none⟩ (.slice (some ⟨g, 0, none⟩) (p.comps.length + 1) c)) _ _ hx2 (by simp [World.setCell]; omega) (fun b hs _ => (hpS (by show b ≠ pb; omega)).trans (hsm b hs.1 hs.2).1)
  refine Qbb.mono _ _ _ _ _ hx3 (fun b _ hs => ?_)
  exact ⟨by omega, fun e => by have := h.r0.lt b e; omega, fun e => by have := h.r1.lt b e; omega, (hsm b hs.1 hs.2).2, fun e => by have := h.r3.lt b e; omega, fun e => by have := h.r4.lt b e; omega⟩
 have hP := h59.put2 rfl rfl hx9
 have there9 : (w8.setCell ⟨pb, 2, none⟩ (.slice (some ⟨g, 0, none⟩) (p.comps.length + 1) c)).there g (p.comps.length * 8) 8 := fun j hj => by
  obtain ⟨css, ho, _⟩ := h59.r2
  have e1 : (p.comps ++ [(([], [], Pg.none, 0) : Cp)]).length = p.comps.length + 1 := by simp
  have ho' : (w8.setCell ⟨pb, 2, none⟩ (.slice (some ⟨g, 0, none⟩) (p.comps.length + 1) c)).ownsRow base 72 8 (.slice (some ⟨g, 0, none⟩) (p.comps.length + 1) c) (p.comps.length + 1) css.flatten := e1 ▸ ho
  refine ⟨?_, World.ownsRow.frozenAt ho' _⟩
  rw [World.ownsRow.cellAt ho' _ (by omega), List.getElem?_eq_getElem (by rw [ho'.1]; omega)]
  rfl
 have there8 : w8.there g (p.comps.length * 8) 8 := fun j hj => by
  have h9 := there9 j hj
  have e : (w8.setCell ⟨pb, 2, none⟩ (.slice (some ⟨g, 0, none⟩) (p.comps.length + 1) c)).heap[g]? = w8.heap[g]? := hpS (by show g ≠ pb; omega)
  simp only [World.cell?, World.frozen?, e] at h9 ⊢
  exact h9
 refine ⟨g, c, w8, (w8.setCell ⟨pb, 2, none⟩ (.slice (some ⟨g, 0, none⟩) (p.comps.length + 1) c)).setCells g (p.comps.length * 8) [u0, u1, u2, u3, u4, u5, u6, u7], hrun, hbx8, ⟨w8.setCells g (p.comps.length * 8) [u0, u1, u2, u3, u4, u5, u6, u7], ?_, ?_, ?_⟩, ?_, hP, ?_, ?_⟩
 · exact run_storeAt_mid w8 g _ 72 #[u0, u1, u2, u3, u4, u5, u6, u7] there8 Qfz (by simpa using h1)
 · exact (Qat g _ _ w8 pb hpg).trans hbx8
 · exact Qgk g _ _ hpg _ _ _
 · exact run_storeAt_mid _ g _ 72 #[u0, u1, u2, u3, u4, u5, u6, u7] there9 Qfz (by simpa using h1)
 · exact hR9.off (fun b hb' => Qat g _ _ _ b (by omega))
 obtain ⟨o1, o2, o3⟩ := Qiw g [u0, u1, u2, u3, u4, u5, u6, u7] (p.comps.length * 8) (w8.setCell ⟨pb, 2, none⟩ (.slice (some ⟨g, 0, none⟩) (p.comps.length + 1) c))
 exact ⟨o1.trans kb9.os, o2.trans kb9.tape, o3.trans kb9.output, by rw [Qeu]; exact kb9.size, fun b hb1 hn hm => (Qat g _ _ _ b (by omega)).trans (kb9.block b hb1 hn hm)⟩
theorem Quw {rb e : Nat} {w : World} {l : List Tok} {it : Nat} (h : Rd rb e w l it 32) :
  Calls Tryz.prog 95 #[.pointer (some ⟨rb, 0, none⟩)] w fun en w' => en = .panicked [{ v := stopV 4 (ahd e 0 l).at_, recovered := false }] ∧ Kp rb w w' := by
 have b1 : Below w.heap.size w (w.alloc coZ) := (Below.refl _ w).alloc (Nat.le_refl _) _
 have hen := Qky (h.later b1)
 have B1 := hide b1
 clear h b1
 generalize (ahd e 0 l).at_ = at0 at hen
 go_enter Tryz.func95, Tryz.ntmps95
 go_wp2_with fail
 refine hen.mono ?_
 clear hen
 rintro en w4 ⟨rfl, b4⟩
 have H4 := hide ((Qa B1).trans (b4.mono (Qa B1).size))
 clear b4
 go_wp2_with fail
 exact ⟨rfl, rfl, Kp.of_below (Qa H4)⟩
end
section
open Go.RowKit Go.Maps
attribute [local go_sem ↓] Qei Qfc
theorem Qtg {rb e dp pb base : Nat} {d : Nat} {C : Pr Cp} (hC : ∀ w t l it, it ≤ 96 → Rd rb e w (t :: l) it dp → Calls Tryz.prog 95 #[.pointer (some ⟨rb, 0, none⟩)] w fun en w' => Ans rb e dp w (fun w2 v x => VCo (fun b => w.heap.size ≤ b) w2 v x) (C (t :: l) it) en w') {wr : World} {l : List Tok} {it : Nat} {v0 v1 v2 v3 v4 : Value} {p : Pg} (h : Rd rb e wr l it dp) (h5 : P5 pb base wr v0 v1 v2 v3 v4 p) (hb : base ≤ wr.heap.size) (hrp : rb < pb) (hf : p.comps.length ≤ 65536) (hi : it < 96) (hs : sgn e l = [46, 99, 111, 109, 112]) :
  Calls Tryz.prog 61 #[.pointer (some ⟨rb, 0, none⟩), .pointer (some ⟨pb, 0, none⟩)] wr fun en w' => ItA rb e dp pb base wr (itemP e d C p l it) en w' := by
 obtain ⟨a, cap, _, _, hcell, _, cf⟩ := h.cells
 have h96 : ¬ it = 96 := by omega
 have hz : ((it : Int) == 96) = false := by simp; omega
 obtain ⟨w1, hw1⟩ : ∃ w1, w1 = wr.setCell ⟨rb, 2, none⟩ (.int .i64 ((it : Int) + 1)) := ⟨_, rfl⟩
 have hR1 : Rd rb e w1 l (it + 1) dp := by rw [hw1]; exact h.more
 have k1 : Kp rb wr w1 := by rw [hw1]; exact Kp.set rb wr 2 _
 obtain ⟨a0, c0, rfl⟩ := h5.r0.slice
 obtain ⟨a1, c1, rfl⟩ := h5.r1.slice
 obtain ⟨a2, c2, rfl⟩ := h5.r2.slice
 obtain ⟨a3, c3, rfl⟩ := h5.r3.slice
 obtain ⟨a4, c4, rfl⟩ := h5.r4.slice
 obtain ⟨t, l1, rfl, -⟩ := Qci hs (by decide)
 have hg := Qdv hR1
 rw [hs] at hg
 have HC : Hid (∀ v, Kp rb w1 v → Rd rb e v (t :: l1) (it + 1) dp → Calls Tryz.prog 95 #[.pointer (some ⟨rb, 0, none⟩)] v fun en w' => Ans rb e dp v (fun w2 v2 x => VCo (fun b => v.heap.size ≤ b) w2 v2 x) (C (t :: l1) (it + 1)) en w') := fun v _ hv => hC v t l1 (it + 1) (by omega) hv
 have E : itemP e d C p (t :: l1) it = (C (t :: l1) (it + 1)).map fun x => .mk p.types p.decls (p.comps ++ [x]) p.inits p.clauses := by
  unfold itemP
  rw [if_neg h96, if_neg (by rw [hs]; decide), if_neg (by rw [hs]; decide), if_pos hs]
 clear hs hC
 obtain ⟨PO, hPO⟩ : ∃ PO : Ending → World → Prop, PO = fun en w' => ItA rb e dp pb base wr (itemP e d C p (t :: l1) it) en w' := ⟨_, rfl⟩
 rw [← hPO]
 rw [E] at hPO
 have HPO := hide hPO
 have hpl := h5.lt
 have hlb := Qag h5.box
 have H1 := hide (Ya h5 (Ya k1 (Ya hb hf)))
 have HW1 := hide hw1
 have HR1 := hide hR1
 clear h hR1 k1 hw1 E hPO h5 h96 hb hf
 go_enter Tryz.func61, Tryz.ntmps61
 go_wp2_with fail
 rw [← Qa HW1]
 clear HW1 hcell cf hz hi
 refine hg.mono ?_
 clear hg
 rintro en w2 ⟨rfl, b2⟩
 have k2 : Kp rb wr w2.drew := ((Qa H1).2.1.trans (Kp.of_below b2)).trans (Kp.of_below ((Below.refl _ w2).drew))
 have h52 := (Qa H1).1.kp k2 hrp
 have hR2 := (Qa HR1).later b2.drew
 have hcl := Qa HC w2.drew (Kp.of_below b2.drew) hR2
 obtain ⟨w2b, hw2b⟩ : ∃ w2b, w2b = w2.drew.alloc coZ := ⟨_, rfl⟩
 have bb : Below w2.drew.heap.size w2.drew w2b := by rw [hw2b]; exact (Below.refl _ w2.drew).alloc (Nat.le_refl _) _
 have zz : w2b.heap[w2.drew.heap.size]? = some coZ := by rw [hw2b]; exact heap_alloc_new w2.drew _
 have hcl2 := Qa HC w2b ((Kp.of_below b2.drew).trans (Kp.of_below bb)) (hR2.later bb)
 have H2 := hide (Ya k2 (Ya h52.box h52))
 have HBB := hide (Ya bb zz)
 have HW2 : Hid (w2b = (w2.alloc (.cells #[.string ⟨#[]⟩, .slice none 0 0, .slice none 0 0, .slice none 0 0, .slice none 0 0, .slice none 0 0, .slice none 0 0, .int .i64 0] 72)).drew) := hw2b
 clear b2 k2 h52 hR2 bb zz hw2b HC HR1
 cases hq : C (t :: l1) (it + 1) with
 | bad why at1 l4 =>
  rw [hq] at hcl hcl2 HPO
  clear hq
  go_wp2_with fail
  refine Qfy (m := 13) (ml := [(0, 1), (1, 1), (2, 1), (3, 2), (4, 1), (6, 1), (5, 10), (8, 0), (9, 1), (11, 1), (12, 1), (10, 16)]) (fun f w' => f = false → w'.heap[pb]? = some (.cells #[.slice a0 p.types.length c0, .slice a1 p.decls.length c1, .slice a2 p.comps.length c2, .slice a3 p.inits.length c3, .slice a4 p.clauses.length c4] 28 (0, 0))) mixedO (by kernel_rfl) rfl (by rfl) (by kernel_rfl) (fun c a d v w h => by cases d <;> exact h) (fun PP PQ hPP hPQ => ?_)
  iterate 3 (refine Qap (v := ?_) rfl (by kernel_rfl) (fun f w' hw => ?_) ?_; rotate_left; · (go_simp <;> rfl))
  refine Qjf (v := ?_) rfl (by kernel_rfl) (fun w' hw => ?_) ?_
  rotate_left
  · (obtain ⟨z0, z1, z2, z3, z4, zf⟩ := cl5 (hw rfl); go_simp <;> rfl)
  iterate 2 (refine Qap (v := ?_) rfl (by kernel_rfl) (fun f w' hw => ?_) ?_; rotate_left; · (go_simp <;> rfl))
  refine Qek rfl rfl (fun _ => (Qa H2).2.1) (fun K hK => ?_) (fun K hK => ?_)
  ·
   go_simp
   refine hcl.mono ?_
   clear hcl hcl2
   rintro en w3 ⟨rfl, k3⟩
   have H3 := hide ((Qa H2).1.trans k3)
   clear k3
   go_wp2_with fail
   show PQ _ _ _
   refine hPQ _ _ _ ⟨rfl, ?_⟩
   rw [Qa HPO]
   exact ⟨rfl, KB.of_kp (Qa H3) (Qa H1).2.2.1⟩
  go_simp
  rw [← Qa HW2]
  refine hK _ _ (fun _ => ((Qa HBB).1.block _ (Qag (Qa H2).2.1)).trans (Qa H2).2.1) (fun K2 hK2 => ?_)
  clear hK K
  go_simp
  refine hcl2.mono ?_
  clear hcl hcl2
  rintro en w3 ⟨rfl, k3⟩
  have H3 := hide (((Qa H2).1.trans (Kp.of_below (Qa HBB).1)).trans k3)
  clear k3
  go_wp2_with fail
  show PQ _ _ _
  refine hPQ _ _ _ ⟨rfl, ?_⟩
  rw [Qa HPO]
  exact ⟨rfl, KB.of_kp (Qa H3) (Qa H1).2.2.1⟩
 | ok x l4 i4 =>
  rw [hq] at hcl hcl2 HPO
  clear hq
  go_wp2_with fail
  refine Qfy (m := 13) (ml := [(0, 1), (1, 1), (2, 1), (3, 2), (4, 1), (6, 1), (5, 10), (8, 0), (9, 1), (11, 1), (12, 1), (10, 16)]) (fun f w' => f = false → w'.heap[pb]? = some (.cells #[.slice a0 p.types.length c0, .slice a1 p.decls.length c1, .slice a2 p.comps.length c2, .slice a3 p.inits.length c3, .slice a4 p.clauses.length c4] 28 (0, 0))) mixedO (by kernel_rfl) rfl (by rfl) (by kernel_rfl) (fun c a d v w h => by cases d <;> exact h) (fun PP PQ hPP hPQ => ?_)
  iterate 3 (refine Qap (v := ?_) rfl (by kernel_rfl) (fun f w' hw => ?_) ?_; rotate_left; · (go_simp <;> rfl))
  refine Qjf (v := ?_) rfl (by kernel_rfl) (fun w' hw => ?_) ?_
  rotate_left
  · (obtain ⟨z0, z1, z2, z3, z4, zf⟩ := cl5 (hw rfl); go_simp <;> rfl)
  iterate 2 (refine Qap (v := ?_) rfl (by kernel_rfl) (fun f w' hw => ?_) ?_; rotate_left; · (go_simp <;> rfl))
  refine Qek rfl rfl (fun _ => (Qa H2).2.1) (fun K hK => ?_) (fun K hK => ?_)
  ·
   go_simp
   refine hcl.mono ?_
   clear hcl hcl2
   rintro en w3 ⟨_, rfl, ⟨ba, bn, bc, d0, m0, q0, d1, m1, q1, d2, m2, q2, d3, m3, q3, d4, m4, q4, rfl, hX⟩, hR3, k3⟩
   obtain ⟨w4, hw4⟩ : ∃ w4, w4 = w3.alloc (.cells #[.string ⟨#[]⟩, .slice none 0 0, .slice none 0 0, .slice none 0 0, .slice none 0 0, .slice none 0 0, .slice none 0 0, .int .i64 0] 72) := ⟨_, rfl⟩
   have b4 : Below w3.heap.size w3 w4 := bnw hw4
   obtain ⟨zb, hzb⟩ : ∃ zb, zb = w3.heap.size := ⟨_, rfl⟩
   have hz4 : w4.heap[zb]? = some coZ := by rw [hw4, hzb]; exact heap_alloc_new w3 _
   have hs3 := k3.size
   have k4 : Kp rb w2.drew w4 := k3.trans (Kp.of_below b4)
   have hR4 := hR3.later b4
   have hX4 : PCo (fun b => w2.drew.heap.size ≤ b ∧ b ≠ zb) w4 [str x.1, .slice ba bn bc, .slice d0 m0 q0, .slice d1 m1 q1, .slice d2 m2 q2, .slice d3 m3 q3, .slice d4 m4 q4, .int .i64 x.2.2.2] x := Qbb.same _ _ w4 _ _ (Qbb.mono _ _ _ _ _ hX (fun b hl hb => ⟨hb, by omega⟩)) b4.size (fun b _ hl => b4.block b hl)
   have hb2 : base ≤ w2.drew.heap.size := by have := (Qa H1).2.2.1; have := (Qa H2).1.size; omega
   have HX3 := hide (k3.keep (Qa H2).2.1 (by omega))
   have HW4 := hide hw4
   have HZB := hide hzb
   clear hX hR3 k3 hw4 b4 hs3 hzb
   obtain ⟨g, c, w8, W, hrun, hbx8, ⟨w9, hE1, hbx9, hWW⟩, hE2, hP9, hR9, kb9⟩ := (Qa H2).2.2.addC hb2 hrp k4 hR4 hX4 (fun b hb => hb.1) (Qa H1).2.2.2 zb hz4
   have kb : KB rb pb base wr W := (KB.of_kp (Qa H2).1 (Qa H1).2.2.1).trans kb9
   have HF := hide (Ya hP9 (Ya hR9 kb))
   have HX4 := hide (k4.keep (Qa H2).2.1 (by omega))
   have HX8 := hide hbx8
   have HX9 := hide hbx9
   obtain ⟨z0, z1, z2, z3, z4', zf⟩ := cl5 hbx8
   obtain ⟨x0, x1, x2, x3, x4, xf⟩ := cl5 hbx9
   have hfl := (Qa H1).2.2.2
   have HWW := hide hWW
   clear hX4 hR4 k4 hz4 hb2 hbx8 hbx9 hP9 hR9 kb9 kb hWW
   show K _ _
   refine hK _ _ (fun _ => Qa HX3) (fun K2 hK2 => ?_)
   go_simp
   rw [← Qa HW4, ← Qa HZB]
   refine hK2 _ _ ?_
   clear hK K hK2 K2 HW4 HZB
   refine Qck rfl (fun _ => Qa HX4) (fun K hK => Qcj rfl _ _ 24 rfl _ _ rfl rfl hrun (hK _ _ ?_))
   clear hK K hrun
   refine Qap (v := ?_) rfl (by kernel_rfl) (fun f w' hw => ?_) ?_
   rotate_left
   · (go_simp; rw [if_pos (show (p.comps.length : Int) < (p.comps.length : Int) + 1 by omega)] <;> rfl)
   iterate 2 (refine Qap (v := ?_) rfl (by kernel_rfl) (fun f w' hw => ?_) ?_; rotate_left; · (go_simp <;> rfl))
   refine Qek rfl rfl (fun _ => Qa HX8) (fun K hK => ?_) (fun K hK => ?_)
   ·
    go_simp
    refine hK _ _ (fun _ => Qa HX9) (fun K2 hK2 => ?_)
    go_simp
    rw [Qa HWW]
    refine hK2 _ _ ?_
    clear hK K hK2 K2
    refine Qdg (fun h => by cases h) (hPP _ _ ?_)
    clear hPP hPQ
    go_wp2_with fail
    go_end0
    rw [Qa HPO]
    exact ⟨rfl, ⟨_, _, _, _, _, (Qa HF).1⟩, (Qa HF).2⟩
   go_simp
   refine hK _ _ (fun h => by cases h) (fun K2 hK2 => ?_)
   go_simp
   refine hK2 _ _ ?_
   clear hK K hK2 K2
   refine Qdg (fun h => by cases h) (hPP _ _ ?_)
   clear hPP hPQ
   go_wp2_with fail
   go_end0
   rw [Qa HPO]
   exact ⟨rfl, ⟨_, _, _, _, _, (Qa HF).1⟩, (Qa HF).2⟩
  go_simp
  rw [← Qa HW2]
  refine hK _ _ (fun _ => ((Qa HBB).1.block _ (Qag (Qa H2).2.1)).trans (Qa H2).2.1) (fun K2 hK2 => ?_)
  clear hK K
  go_simp
  refine hcl2.mono ?_
  clear hcl hcl2
  rintro en w4 ⟨_, rfl, ⟨ba, bn, bc, d0, m0, q0, d1, m1, q1, d2, m2, q2, d3, m3, q3, d4, m4, q4, rfl, hX⟩, hR4, k3⟩
  obtain ⟨zb, hzb⟩ : ∃ zb, zb = w2.drew.heap.size := ⟨_, rfl⟩
  have hz2 : w2b.heap[zb]? = some coZ := by rw [hzb]; exact (Qa HBB).2
  have hz4 : w4.heap[zb]? = some coZ := k3.keep hz2 (by have := (Qa H2).1.size; omega)
  have hs3 := Qag hz2
  have k4 : Kp rb w2.drew w4 := (Kp.of_below (Qa HBB).1).trans k3
  have hX4 : PCo (fun b => w2.drew.heap.size ≤ b ∧ b ≠ zb) w4 [str x.1, .slice ba bn bc, .slice d0 m0 q0, .slice d1 m1 q1, .slice d2 m2 q2, .slice d3 m3 q3, .slice d4 m4 q4, .int .i64 x.2.2.2] x := Qbb.mono _ _ _ _ _ hX (fun b hl hb => by have hb' : w2b.heap.size ≤ b := hb; exact ⟨by omega, by omega⟩)
  have hb2 : base ≤ w2.drew.heap.size := by have := (Qa H1).2.2.1; have := (Qa H2).1.size; omega
  have HZB := hide hzb
  clear hX k3 hs3 hzb hz2
  obtain ⟨g, c, w8, W, hrun, hbx8, ⟨w9, hE1, hbx9, hWW⟩, hE2, hP9, hR9, kb9⟩ := (Qa H2).2.2.addC hb2 hrp k4 hR4 hX4 (fun b hb => hb.1) (Qa H1).2.2.2 zb hz4
  have kb : KB rb pb base wr W := (KB.of_kp (Qa H2).1 (Qa H1).2.2.1).trans kb9
  have HF := hide (Ya hP9 (Ya hR9 kb))
  have HX4 := hide (k4.keep (Qa H2).2.1 (by omega))
  have HX8 := hide hbx8
  have HX9 := hide hbx9
  obtain ⟨z0, z1, z2, z3, z4', zf⟩ := cl5 hbx8
  obtain ⟨x0, x1, x2, x3, x4, xf⟩ := cl5 hbx9
  have hfl := (Qa H1).2.2.2
  have HWW := hide hWW
  clear hX4 hR4 k4 hz4 hb2 hbx8 hbx9 hP9 hR9 kb9 kb hWW
  show K2 _ _
  refine hK2 _ _ ?_
  clear hK2 K2
  try rw [show w2.heap.size = w2.drew.heap.size from rfl]
  rw [← Qa HZB]
  clear HZB
  refine Qck rfl (fun _ => Qa HX4) (fun K hK => Qcj rfl _ _ 24 rfl _ _ rfl rfl hrun (hK _ _ ?_))
  clear hK K hrun
  refine Qap (v := ?_) rfl (by kernel_rfl) (fun f w' hw => ?_) ?_
  rotate_left
  · (go_simp; rw [if_pos (show (p.comps.length : Int) < (p.comps.length : Int) + 1 by omega)] <;> rfl)
  iterate 2 (refine Qap (v := ?_) rfl (by kernel_rfl) (fun f w' hw => ?_) ?_; rotate_left; · (go_simp <;> rfl))
  refine Qek rfl rfl (fun _ => Qa HX8) (fun K hK => ?_) (fun K hK => ?_)
  ·
   go_simp
   refine hK _ _ (fun _ => Qa HX9) (fun K2 hK2 => ?_)
   go_simp
   rw [Qa HWW]
   refine hK2 _ _ ?_
   clear hK K hK2 K2
   refine Qdg (fun h => by cases h) (hPP _ _ ?_)
   clear hPP hPQ
   go_wp2_with fail
   go_end0
   rw [Qa HPO]
   exact ⟨rfl, ⟨_, _, _, _, _, (Qa HF).1⟩, (Qa HF).2⟩
  go_simp
  refine hK _ _ (fun h => by cases h) (fun K2 hK2 => ?_)
  go_simp
  refine hK2 _ _ ?_
  clear hK K hK2 K2
  refine Qdg (fun h => by cases h) (hPP _ _ ?_)
  clear hPP hPQ
  go_wp2_with fail
  go_end0
  rw [Qa HPO]
  exact ⟨rfl, ⟨_, _, _, _, _, (Qa HF).1⟩, (Qa HF).2⟩
end
section
open Go.RowKit Go.Maps
def CompOk (rb e dp : Nat) (C : Pr Cp) : Prop := ∀ w t l it, it ≤ 96 → Rd rb e w (t :: l) it dp → Calls Tryz.prog 95 #[.pointer (some ⟨rb, 0, none⟩)] w fun en w' => Ans rb e dp w (fun w2 v x => VCo (fun b => w.heap.size ≤ b) w2 v x) (C (t :: l) it) en w'
theorem Jan {rb e dp d pb base : Nat} (hd : dp + d = 32) {C : Pr Cp} (hC : CompOk rb e dp C) {wr : World} {l : List Tok} {it : Nat} {v0 v1 v2 v3 v4 : Value} {p : Pg} (h : Rd rb e wr l it dp) (h5 : P5 pb base wr v0 v1 v2 v3 v4 p) (hb : base ≤ wr.heap.size) (hrp : rb < pb) (hf : Few p it) (hi : it ≤ 96) :
  Calls Tryz.prog 61 #[.pointer (some ⟨rb, 0, none⟩), .pointer (some ⟨pb, 0, none⟩)] wr fun en w' => ItA rb e dp pb base wr (itemP e d C p l it) en w' := by
 obtain ⟨f0, f1, f2, f3, f4⟩ := hf
 by_cases h96 : it = 96
 ·
  subst h96
  refine (Qwp (pb := pb) h hb).mono ?_
  intro en w' ha
  have E : itemP e d C p l 96 = .bad 3 (ahd e 0 l).at_ l := by unfold itemP; rw [if_pos rfl]; rfl
  rw [E]
  exact ha
 have hi' : it < 96 := by omega
 by_cases s0 : sgn e l = [46, 116, 121, 112, 101]
 · exact Qtj h h5 hb hrp (by omega) hi' s0
 by_cases s1 : sgn e l = [46, 100, 101, 99, 108]
 · exact Qth h h5 hb hrp (by omega) hi' s1
 by_cases s2 : sgn e l = [46, 99, 111, 109, 112]
 · exact Qtg hC h h5 hb hrp (by omega) hi' s2
 by_cases s3 : sgn e l = [46, 105, 110, 105, 116]
 · exact Qti h h5 hb hrp (by omega) hi' s3
 · exact Qmw hd h h5 hb hrp (by omega) hi' s0 s1 s2 s3
abbrev pgZ : Obj := .cells #[.slice none 0 0, .slice none 0 0, .slice none 0 0, .slice none 0 0, .slice none 0 0] 28
structure PI (rb e dp d : Nat) (top : Bool) (C : Pr Cp) (Z : List Tok → Nat → Prop) (r0 : Rs Pg) (w wr : World) (p : Pg) (l : List Tok) (it f : Nat) : Prop where
 kp : Kp rb w wr
 size : w.heap.size + 2 ≤ wr.heap.size
 res : wr.heap[w.heap.size]? = some pgZ
 p5 : ∃ v0 v1 v2 v3 v4, P5 (w.heap.size + 1) (w.heap.size + 2) wr v0 v1 v2 v3 v4 p
 rd : Rd rb e wr l it dp
 eq : r0 = progL e top d C f p l it
 fuel : l.length + 1 ≤ f
 few : Few p it
 most : it ≤ 96
 z : Z l it
theorem PI.later {rb e dp d : Nat} {top : Bool} {C : Pr Cp} {Z : List Tok → Nat → Prop} {r0 : Rs Pg} {w wr w' : World} {p : Pg} {l : List Tok} {it f : Nat} (h : PI rb e dp d top C Z r0 w wr p l it f) (b : Below wr.heap.size wr w') (hrb : rb < w.heap.size) : PI rb e dp d top C Z r0 w w' p l it f := by
 obtain ⟨v0, v1, v2, v3, v4, h5⟩ := h.p5
 have hs := h.size
 have hb := b.size
 exact ⟨h.kp.trans (Kp.of_below b), by omega, (b.block _ (by omega)).trans h.res, ⟨v0, v1, v2, v3, v4, h5.kp (rb := rb) (Kp.of_below b) (by omega)⟩, h.rd.later b, h.eq, h.fuel, h.few, h.most, h.z⟩
theorem PI.next {rb e dp d : Nat} {top : Bool} {C : Pr Cp} {Z : List Tok → Nat → Prop} (hC : GrS C) {r0 : Rs Pg} {w wr w' : World} {p q : Pg} {l l' : List Tok} {it it' f : Nat} (h : PI rb e dp d top C Z r0 w wr p l it (f + 1)) (hE : isEnd e top l = false) (hq : itemP e d C p l it = .ok q l' it') (hrb : rb < w.heap.size)
  (h5 : ∃ u0 u1 u2 u3 u4, P5 (w.heap.size + 1) (w.heap.size + 2) w' u0 u1 u2 u3 u4 q) (hR : Rd rb e w' l' it' dp) (hk : KB rb (w.heap.size + 1) (w.heap.size + 2) wr w') (hz : Z l' it') : PI rb e dp d top C Z r0 w w' q l' it' f := by
 obtain ⟨g1, g2, g3, g4⟩ := Qlg hC hq
 have hs := h.size
 have hs2 := hk.size
 refine ⟨⟨hk.os.trans h.kp.os, hk.tape.trans h.kp.tape, hk.output.trans h.kp.output, by omega, fun k hk1 hn => (hk.block k (by omega) hn (by omega)).trans (h.kp.block k hk1 hn)⟩, by omega, (hk.block _ (by omega) (by omega) (by omega)).trans h.res, h5, hR, ?_, by have := h.fuel; omega, g4 h.few, g3 h.most, hz⟩
 rw [h.eq]
 conv => lhs; unfold progL
 rw [if_neg (by rw [hE]; simp), hq]
 rfl
theorem PI.fin {rb e dp d : Nat} {top : Bool} {C : Pr Cp} {Z : List Tok → Nat → Prop} {r0 : Rs Pg} {w wr : World} {p : Pg} {l : List Tok} {it f : Nat} (h : PI rb e dp d top C Z r0 w wr p l it f) (hrb : rb < w.heap.size) : ∃ a0 m0 q0 a1 m1 q1 a2 m2 q2 a3 m3 q3 a4 m4 q4, wr.heap[w.heap.size + 1]? = some (.cells #[.slice a0 m0 q0, .slice a1 m1 q1, .slice a2 m2 q2, .slice a3 m3 q3, .slice a4 m4 q4] 28 (0, 0)) ∧
  ∀ c0 c1 c2 c3 c4, VPg (fun b => w.heap.size ≤ b) (((((wr.setCell ⟨w.heap.size, 0, none⟩ c0).setCell ⟨w.heap.size, 1, none⟩ c1).setCell ⟨w.heap.size, 2, none⟩ c2).setCell ⟨w.heap.size, 3, none⟩ c3).setCell ⟨w.heap.size, 4, none⟩ c4) (.agg #[.slice a0 m0 q0, .slice a1 m1 q1, .slice a2 m2 q2, .slice a3 m3 q3, .slice a4 m4 q4]) p ∧ Rd rb e (((((wr.setCell ⟨w.heap.size, 0, none⟩ c0).setCell ⟨w.heap.size, 1, none⟩ c1).setCell ⟨w.heap.size, 2, none⟩ c2).setCell ⟨w.heap.size, 3, none⟩ c3).setCell ⟨w.heap.size, 4, none⟩ c4) l it dp ∧ Kp rb w (((((wr.setCell ⟨w.heap.size, 0, none⟩ c0).setCell ⟨w.heap.size, 1, none⟩ c1).setCell ⟨w.heap.size, 2, none⟩ c2).setCell ⟨w.heap.size, 3, none⟩ c3).setCell ⟨w.heap.size, 4, none⟩ c4) := by
 obtain ⟨v0, v1, v2, v3, v4, h5⟩ := h.p5
 obtain ⟨a0, q0, rfl⟩ := h5.r0.slice
 obtain ⟨a1, q1, rfl⟩ := h5.r1.slice
 obtain ⟨a2, q2, rfl⟩ := h5.r2.slice
 obtain ⟨a3, q3, rfl⟩ := h5.r3.slice
 obtain ⟨a4, q4, rfl⟩ := h5.r4.slice
 refine ⟨_, _, _, _, _, _, _, _, _, _, _, _, _, _, _, h5.box, fun c0 c1 c2 c3 c4 => ?_⟩
 have hsame : ∀ b, b ≠ w.heap.size → (((((wr.setCell ⟨w.heap.size, 0, none⟩ c0).setCell ⟨w.heap.size, 1, none⟩ c1).setCell ⟨w.heap.size, 2, none⟩ c2).setCell ⟨w.heap.size, 3, none⟩ c3).setCell ⟨w.heap.size, 4, none⟩ c4).heap[b]? = wr.heap[b]? := fun b hb => by
  rw [hpS hb, hpS hb, hpS hb, hpS hb, hpS hb]
 have e2 : (Pg.mk p.types p.decls p.comps p.inits p.clauses) = p := by cases p; rfl
 have hP := Jcy (h5.r0.ls Qbq (fun b hs => hs.1)) (h5.r1.ls Qbp (fun b hs => hs.1)) (h5.r2.ls Qbb (fun b hs => hs.1)) (h5.r3.ls Qbw (fun b hs => hs.1)) (h5.r4.ls Qbg (fun b hs => hs.1))
 rw [e2] at hP
 refine ⟨⟨_, _, _, _, _, _, _, _, _, _, _, _, _, _, _, rfl, Qao.mono _ _ _ _ _ (Qao.same _ _ _ _ _ hP (by simp [World.setCell]) (fun b hb _ => hsame b (by have hb' : w.heap.size + 2 ≤ b := hb; omega))) (fun b _ hb => by have hb' : w.heap.size + 2 ≤ b := hb; omega)⟩, ((((h.rd.set2 (by omega)).set2 (by omega)).set2 (by omega)).set2 (by omega)).set2 (by omega), ((((h.kp.set2 (by omega)).set2 (by omega)).set2 (by omega)).set2 (by omega)).set2 (by omega)⟩

theorem prog_of {rb e dp d : Nat} {C : Pr Cp} (hG : GrS C) (top : Bool) (ek : Int) (et : Txt) (hE : ∀ l, isEnd e top l = (decide ((ahd e 0 l).kind = ek) && decide ((ahd e 0 l).text = et))) (Z : List Tok → Nat → Prop)
  (hI : ∀ (pb base : Nat) (wr : World) (l : List Tok) (it : Nat) (v0 v1 v2 v3 v4 : Value) (p : Pg), Rd rb e wr l it dp → P5 pb base wr v0 v1 v2 v3 v4 p → base ≤ wr.heap.size → rb < pb → Few p it → it ≤ 96 → Z l it → isEnd e top l = false → Calls Tryz.prog 61 #[.pointer (some ⟨rb, 0, none⟩), .pointer (some ⟨pb, 0, none⟩)] wr fun en w' => ItA rb e dp pb base wr (itemP e d C p l it) en w')
  (hZ : ∀ p l it q l' it', Z l it → isEnd e top l = false → itemP e d C p l it = .ok q l' it' → Z l' it') {w : World} {l : List Tok} {it : Nat} (hi : it ≤ 96) (h : Rd rb e w l it dp) (hz : Z l it) :
  Calls Tryz.prog 25 #[.pointer (some ⟨rb, 0, none⟩), .int .i64 ek, str et] w fun en w' => Ans rb e dp w (fun w2 v x => VPg (fun b => w.heap.size ≤ b) w2 v x) (progL e top d C (l.length + 1) .none l it) en w' := by
 obtain ⟨r0, hr0⟩ : ∃ r0, r0 = progL e top d C (l.length + 1) .none l it := ⟨_, rfl⟩
 rw [← hr0]
 have hrb := h.lt
 have hst : PI rb e dp d top C Z r0 w ((w.alloc pgZ).alloc pgZ) .none l it (l.length + 1) := by
  have b1 : Below w.heap.size w ((w.alloc pgZ).alloc pgZ) := ((Below.refl _ w).alloc (Nat.le_refl _) _).alloc (by simp) _
  have hsz : ((w.alloc pgZ).alloc pgZ).heap.size = w.heap.size + 2 := by simp
  have n1 : ((w.alloc pgZ).alloc pgZ).heap[w.heap.size + 1]? = some pgZ := by
   have := heap_alloc_new (w.alloc pgZ) pgZ
   simpa using this
  refine ⟨Kp.of_below b1, by omega, ?_, ⟨.slice none 0 0, .slice none 0 0, .slice none 0 0, .slice none 0 0, .slice none 0 0, n1, by omega, Row.nil _ _, Row.nil _ _, Row.nil _ _, Row.nil _ _, Row.nil _ _, ?_, ?_, ?_, ?_, ?_, ?_, ?_, ?_, ?_, ?_⟩, h.later b1, hr0, Nat.le_refl _, ⟨Nat.zero_le _, Nat.zero_le _, Nat.zero_le _, Nat.zero_le _, Nat.zero_le _⟩, hi, hz⟩
  · rw [Below.heap_alloc _ _ _ (by simp)]; exact heap_alloc_new w _
  all_goals exact fun b e => by cases e
 obtain ⟨PO, hPO⟩ : ∃ PO : Ending → World → Prop, PO = fun en w' => Ans rb e dp w (fun w2 v x => VPg (fun b => w.heap.size ≤ b) w2 v x) r0 en w' := ⟨_, rfl⟩
 rw [← hPO]
 have HPO := hide hPO
 have HST := hide hst
 have HC := hide (Ya hI (Ya hG (Ya hE hZ)))
 clear hst hr0 hPO hI hG hE hZ h hi hz
 go_enter Tryz.func25, Tryz.ntmps25
 go_wp2_with fail
 go_loopw [8] (fun _ wr => ∃ p l' it' f, PI rb e dp d top C Z r0 w wr p l' it' f) (fun _ wr => left rb wr)
 case atStart => exact ⟨_, _, _, _, Qa HST⟩
 obtain ⟨p, l', it', f, hJ⟩ := hrel
 clear HST
 obtain ⟨f', rfl⟩ : ∃ f', f = f' + 1 := ⟨f - 1, by have := hJ.fuel; omega⟩
 have ha := Qau hJ.rd 0
 unfold tokV at ha
 have hend := (Qa HC).2.2.1 l'
 have hlf := Qbz hJ.rd
 have HJ := hide hJ
 obtain ⟨tk, htk⟩ : ∃ tk, tk = ahd e 0 l' := ⟨_, rfl⟩
 rw [← htk] at ha hend
 have HLF := hide hlf
 clear hJ htk hlf
 by_cases hk : tk.kind = ek
 ·
  have g1 : (tk.kind == ek) = true := by simpa using hk
  by_cases ht : tk.text = et
  ·
   have g2 : (tk.text == et) = true := by simpa using ht
   have HEN : Hid (isEnd e top l' = true) := by rw [hend, decide_eq_true hk, decide_eq_true ht]; rfl
   clear hk ht hend
   go_wp2_with fail
   refine ha.mono ?_
   clear ha
   rintro en w1 ⟨rfl, b1⟩
   have hJ2 := (Qa HJ).later (b1.alloc b1.size (.cells #[.int .i64 tk.kind, str tk.text, .int .i64 tk.num, .int .i64 (tk.at_ : Int)] 83)) hrb
   obtain ⟨a0, m0, q0, a1, m1, q1, a2, m2, q2, a3, m3, q3, a4, m4, q4, hbx, hfin⟩ := hJ2.fin hrb
   obtain ⟨z0, z1, z2, z3, z4, zf⟩ := cl5 hbx
   obtain ⟨y0, y1, y2, y3, y4, yf⟩ := cl5 hJ2.res
   have HF := hide (Ya hJ2.eq hfin)
   clear b1 hJ2 HJ hbx hfin zf
   go_wp2_with fail
   refine bodyPost_ret (v := .agg #[.slice a0 m0 q0, .slice a1 m1 q1, .slice a2 m2 q2, .slice a3 m3 q3, .slice a4 m4 q4]) (by simp [results, Tryz.results25, go_sem, y0, y1, y2, y3, y4]) rfl ?_
   have E : r0 = .ok p l' it' := by
    rw [(Qa HF).1]
    unfold progL
    rw [if_pos (Qa HEN)]
   rw [Qa HPO, E]
   exact ⟨_, rfl, (Qa HF).2 _ _ _ _ _⟩
  have g2 : (tk.text == et) = false := by simpa using ht
  have HEN : Hid (isEnd e top l' = false) := by rw [hend, decide_eq_true hk, decide_eq_false ht]; rfl
  clear hk ht hend
  go_wp2_with fail
  refine ha.mono ?_
  clear ha
  rintro en w1 ⟨rfl, b1⟩
  obtain ⟨w2, hw2⟩ : ∃ w2, w2 = w1.alloc (.cells #[.int .i64 tk.kind, str tk.text, .int .i64 tk.num, .int .i64 (tk.at_ : Int)] 83) := ⟨_, rfl⟩
  have b2 : Below wr.heap.size wr w2 := by rw [hw2]; exact b1.alloc b1.size _
  have hJ2 := (Qa HJ).later b2 hrb
  obtain ⟨v0, v1, v2, v3, v4, h5⟩ := hJ2.p5
  have hit := (Qa HC).1 _ _ _ _ _ _ _ _ _ _ _ hJ2.rd h5 hJ2.size (by omega) hJ2.few hJ2.most hJ2.z (Qa HEN)
  have HJ2 := hide hJ2
  have HW2 := hide hw2
  clear b1 hw2 b2 hJ2 h5 HJ
  cases hq : itemP e d C p l' it' with
  | bad why at1 l4 =>
   rw [hq] at hit
   have HE : Hid (r0 = .bad why at1 l4) := by
    show r0 = _
    rw [(Qa HJ2).eq]
    unfold progL
    rw [if_neg (by rw [Qa HEN]; simp), hq]; rfl
   clear hq
   go_wp2_with fail
   rw [← Qa HW2]
   refine hit.mono ?_
   clear hit
   rintro en w3 ⟨rfl, k3⟩
   have HK3 : Hid (Kp rb w w3) := by
    have hs := (Qa HJ2).size
    have hs2 := k3.size
    exact ⟨k3.os.trans (Qa HJ2).kp.os, k3.tape.trans (Qa HJ2).kp.tape, k3.output.trans (Qa HJ2).kp.output, by omega, fun k hk1 hn => (k3.block k (by omega) hn (by omega)).trans ((Qa HJ2).kp.block k hk1 hn)⟩
   clear k3
   go_wp2_with fail
   refine ⟨rfl, ?_⟩
   rw [Qa HPO, Qa HE]
   exact ⟨rfl, Qa HK3⟩
  | ok q l4 i4 =>
   rw [hq] at hit
   have HN : Hid (∀ w3, (∃ u0 u1 u2 u3 u4, P5 (w.heap.size + 1) (w.heap.size + 2) w3 u0 u1 u2 u3 u4 q) → Rd rb e w3 l4 i4 dp → KB rb (w.heap.size + 1) (w.heap.size + 2) w2 w3 → PI rb e dp d top C Z r0 w w3 q l4 i4 f' ∧ l4.length < l'.length) := fun w3 a b c => ⟨PI.next (Qa HC).2.1 (Qa HJ2) (Qa HEN) hq hrb a b c ((Qa HC).2.2.2 _ _ _ _ _ _ (Qa HJ2).z (Qa HEN) hq), (Qlg (Qa HC).2.1 hq).1⟩
   clear hq
   go_wp2_with fail
   rw [← Qa HW2]
   clear HW2
   refine hit.mono ?_
   clear hit
   rintro en w3 ⟨rfl, h5, hR3, k3⟩
   obtain ⟨hN, hlt⟩ := Qa HN w3 h5 hR3 k3
   have hl9 := Qbz hR3
   have HN3 := hide (Ya hN (Ya hl9 hlt))
   clear h5 hR3 k3 hN hlt hl9 HN
   go_wp2_with fail
   go_roundw
   case rel => exact ⟨_, _, _, _, (Qa HN3).1⟩
   have hm := Qa HLF
   obtain ⟨_, r1, r2⟩ := Qa HN3
   rw [r1, hm]
   exact r2
 have g1 : (tk.kind == ek) = false := by simpa using hk
 have HEN : Hid (isEnd e top l' = false) := by rw [hend, decide_eq_false hk]; rfl
 clear hk hend
 go_wp2_with fail
 refine ha.mono ?_
 clear ha
 rintro en w1 ⟨rfl, b1⟩
 obtain ⟨w2, hw2⟩ : ∃ w2, w2 = w1.alloc (.cells #[.int .i64 tk.kind, str tk.text, .int .i64 tk.num, .int .i64 (tk.at_ : Int)] 83) := ⟨_, rfl⟩
 have b2 : Below wr.heap.size wr w2 := by rw [hw2]; exact b1.alloc b1.size _
 have hJ2 := (Qa HJ).later b2 hrb
 obtain ⟨v0, v1, v2, v3, v4, h5⟩ := hJ2.p5
 have hit := (Qa HC).1 _ _ _ _ _ _ _ _ _ _ _ hJ2.rd h5 hJ2.size (by omega) hJ2.few hJ2.most hJ2.z (Qa HEN)
 have HJ2 := hide hJ2
 have HW2 := hide hw2
 clear b1 hw2 b2 hJ2 h5 HJ
 cases hq : itemP e d C p l' it' with
 | bad why at1 l4 =>
  rw [hq] at hit
  have HE : Hid (r0 = .bad why at1 l4) := by
   show r0 = _
   rw [(Qa HJ2).eq]
   unfold progL
   rw [if_neg (by rw [Qa HEN]; simp), hq]; rfl
  clear hq
  go_wp2_with fail
  rw [← Qa HW2]
  refine hit.mono ?_
  clear hit
  rintro en w3 ⟨rfl, k3⟩
  have HK3 : Hid (Kp rb w w3) := by
   have hs := (Qa HJ2).size
   have hs2 := k3.size
   exact ⟨k3.os.trans (Qa HJ2).kp.os, k3.tape.trans (Qa HJ2).kp.tape, k3.output.trans (Qa HJ2).kp.output, by omega, fun k hk1 hn => (k3.block k (by omega) hn (by omega)).trans ((Qa HJ2).kp.block k hk1 hn)⟩
  clear k3
  go_wp2_with fail
  refine ⟨rfl, ?_⟩
  rw [Qa HPO, Qa HE]
  exact ⟨rfl, Qa HK3⟩
 | ok q l4 i4 =>
  rw [hq] at hit
  have HN : Hid (∀ w3, (∃ u0 u1 u2 u3 u4, P5 (w.heap.size + 1) (w.heap.size + 2) w3 u0 u1 u2 u3 u4 q) → Rd rb e w3 l4 i4 dp → KB rb (w.heap.size + 1) (w.heap.size + 2) w2 w3 → PI rb e dp d top C Z r0 w w3 q l4 i4 f' ∧ l4.length < l'.length) := fun w3 a b c => ⟨PI.next (Qa HC).2.1 (Qa HJ2) (Qa HEN) hq hrb a b c ((Qa HC).2.2.2 _ _ _ _ _ _ (Qa HJ2).z (Qa HEN) hq), (Qlg (Qa HC).2.1 hq).1⟩
  clear hq
  go_wp2_with fail
  rw [← Qa HW2]
  clear HW2
  refine hit.mono ?_
  clear hit
  rintro en w3 ⟨rfl, h5, hR3, k3⟩
  obtain ⟨hN, hlt⟩ := Qa HN w3 h5 hR3 k3
  have hl9 := Qbz hR3
  have HN3 := hide (Ya hN (Ya hl9 hlt))
  clear h5 hR3 k3 hN hlt hl9 HN
  go_wp2_with fail
  go_roundw
  case rel => exact ⟨_, _, _, _, (Qa HN3).1⟩
  have hm := Qa HLF
  obtain ⟨_, r1, r2⟩ := Qa HN3
  rw [r1, hm]
  exact r2
theorem Qs {rb e dp d : Nat} (hd : dp + d = 32) {C : Pr Cp} (hC : CompOk rb e dp C) (hG : GrS C) (top : Bool) (ek : Int) (et : Txt) (hE : ∀ l, isEnd e top l = (decide ((ahd e 0 l).kind = ek) && decide ((ahd e 0 l).text = et))) {w : World} {l : List Tok} {it : Nat} (hi : it ≤ 96) (h : Rd rb e w l it dp) :
  Calls Tryz.prog 25 #[.pointer (some ⟨rb, 0, none⟩), .int .i64 ek, str et] w fun en w' => Ans rb e dp w (fun w2 v x => VPg (fun b => w.heap.size ≤ b) w2 v x) (progL e top d C (l.length + 1) .none l it) en w' :=
 prog_of hG top ek et hE (fun _ _ => True) (fun _ _ _ _ _ _ _ _ _ _ _ h h5 hb hrp hf hi _ _ => Jan hd hC h h5 hb hrp hf hi) (fun _ _ _ _ _ _ _ _ _ => trivial) hi h trivial
theorem Qqj {rb e : Nat} : ∀ (d dp : Nat), dp + d = 32 → CompOk rb e dp (compC e d)
 | 0, dp, hd => fun w t l it _ h => by
  obtain rfl : dp = 32 := by omega
  exact Quw h
 | d + 1, dp, hd => fun w t l it hi h => by
  have hB : ∀ w l it, it ≤ 96 → Rd rb e w l it (dp + 1) → Calls Tryz.prog 25 #[.pointer (some ⟨rb, 0, none⟩), .int .i64 4, str [125]] w fun en w' => Ans rb e (dp + 1) w (fun w2 v x => VPg (fun b => w.heap.size ≤ b) w2 v x) (progD e d false l it) en w' := fun w l it hi h => by
   rw [Qdc]
   exact Qs (by omega) (Qqj d (dp + 1) (by omega)) (Qku d) false 4 [125] (fun l => rfl) hi h
  show Calls _ _ _ _ fun en w' => Ans rb e dp w (fun w2 v x => VCo (fun b => w.heap.size ≤ b) w2 v x) (compB e (progD e d false) (t :: l) it) en w'
  cases hq : wordQ e l it with
  | bad why at0 l2 => exact Qux (by omega) hB hi h (fun s l2 i2 hs => by rw [hq] at hs; cases hs)
  | ok s l2 i2 =>
   by_cases hs : sgn e l2 = [58]
   · exact comp_bs (by omega) hB hi h (fun s' l2' i2' he => by rw [hq] at he; cases he; exact hs)
   · exact Qux (by omega) hB hi h (fun s' l2' i2' he => by rw [hq] at he; cases he; exact hs)
theorem Qph {rb e : Nat} {w : World} {l : List Tok} (h : Rd rb e w l 0 0) : Calls Tryz.prog 25 #[.pointer (some ⟨rb, 0, none⟩), .int .i64 0, str []] w fun en w' => Ans rb e 0 w (fun w2 v x => VPg (fun b => w.heap.size ≤ b) w2 v x) (progD e 32 true l 0) en w' := by
 rw [Qdc]
 exact Qs rfl (Qqj 32 0 rfl) (Qku 32) true 0 [] (fun l => rfl) (Nat.zero_le _) h
end
end Go.Proofs.YtccehgfecaamoaaGreatDoor
