/- The document's reader: expressions, at every depth; ahead. The document's reader: atom. The document's reader: a box of one's own, and a list in it that grows. A map by texts in memory. types: addFirst. -/
import Derived.Test.YtfmbpaoapjmdnaaQb14
import Derived.Test.YtfmbpaoapjmdnaaQb05
import Derived.Test.YtfmbpaoapjmdnaaQb02
set_option maxRecDepth 100000
set_option maxHeartbeats 32000000
namespace Go.Proofs.Ytfmbpaoapjmdnaa
section
open Go.RowKit Go.Maps
theorem Qnw {rb g cap d : Nat} {l : List Tok} (hd : d ≤ 63) : ExC 116 rb g cap l d #[.pointer (some ⟨rb, 0, none⟩)] := (Qny (fun _ _ hE hF => qone_of hE hF) (63 - d) d (by omega)).1
theorem Qbs {rb g cap a d i : Nat} {l : List Tok} {w : World} {y f : Int} (h : Rr rb g cap l w a d i y f) {t : Tok} (ht : l[min (a + 1) (l.length - 1)]? = some t) :
  Calls Try.prog 90 #[.pointer (some ⟨rb, 0, none⟩)] w fun en w' => en = .returned (tkA t) ∧ Below w.heap.size w w' := by
 obtain ⟨W, hW⟩ : ∃ W, W = (w.alloc tokZ).drew := ⟨_, rfl⟩
 have bW : Below w.heap.size w W := by rw [hW]; exact ((Below.refl _ w).alloc (Nat.le_refl _) _).drew
 have nW : W.heap[w.heap.size]? = some tokZ := by rw [hW]; exact heap_alloc_new w _
 have hlt := h.lt
 have hfw := h.few
 have hcl := h.row.le
 have hcm := h.row.cm
 unfold maxLen at hcm
 obtain ⟨n, hn⟩ : ∃ n, l.length = n := ⟨_, rfl⟩
 rw [hn] at hlt hfw hcl
 obtain ⟨am, ham⟩ : ∃ am, min (a + 1) (n - 1) = am := ⟨_, rfl⟩
 rw [hn, ham] at ht
 have haz : min ((a : Int) + 1) ((n : Int) - 1) = (am : Int) := by omega
 have hal : am < n := by omega
 have HC : Hid (∀ w', Below w.heap.size w w' → w'.heap[rb]? = some (.cells #[.slice (some ⟨g, 0, none⟩) n cap, .int .i64 (a : Int), .int .i64 (d : Int), .int .i64 (i : Int), .int .i64 y, .int .i64 f] 56 (0, 0)) ∧ (∀ q c, ([.int .i64 t.kind, str t.text, .int .i64 t.num, .int .i64 (t.at_ : Int)] : List Value)[q]? = some c → w'.cell? ⟨g, am * 4 + q, none⟩ = some c)) := fun w' bb => by
  have hb := h.later bb
  refine ⟨by have := hb.box; rw [hn] at this; exact this, fun q c hq => ?_⟩
  have hc := hb.row.cells am t ht
  match q, hq with
  | 0, hq => cases hq; exact hc.1
  | 1, hq => cases hq; exact hc.2.1
  | 2, hq => cases hq; exact hc.2.2.1
  | 3, hq => cases hq; exact hc.2.2.2
  | q + 4, hq => simp at hq
 obtain ⟨V, hV⟩ : ∃ V, V = W.setRow w.heap.size #[.int .i64 t.kind, str t.text, .int .i64 t.num, .int .i64 (t.at_ : Int)] := ⟨_, rfl⟩
 have bV : Below w.heap.size w V := by
  rw [hV]
  exact ⟨bW.os, bW.tape, bW.output, by rw [size_setRow]; exact bW.size, fun k hk => by rw [setRow_other _ _ _ _ (by omega)]; exact bW.block k hk⟩
 have nV : V.heap[w.heap.size]? = some (.cells #[.int .i64 t.kind, str t.text, .int .i64 t.num, .int .i64 (t.at_ : Int)] 54 (0, 0)) := by rw [hV]; exact setRow_heap _ _ _ _ _ _ nW
 have HW := hide hW
 have HV := hide hV
 have HB := hide (Ya bW (Ya nW (Ya bV nV)))
 clear hW hV bW nW bV nV h ht hn ham
 go_enter Try.func90, Try.ntmps90
 go_wp2_with fail
 have hw1 := Qck (a + 1) (by omega)
 rw [Int.natCast_add, Int.natCast_one] at hw1
 have hw2 := Qge n (by omega) (by omega)
 refine Qav (md := [(0, true), (1, true), (2, true), (3, true), (4, true), (5, true), (6, true), (7, true), (8, true), (9, true), (10, true), (11, true), (12, true), (13, true), (14, true), (15, true), (16, true), (17, true), (18, false)]) (fun w' => w'.heap[rb]? = some (.cells #[.slice (some ⟨g, 0, none⟩) n cap, .int .i64 (a : Int), .int .i64 (d : Int), .int .i64 (i : Int), .int .i64 y, .int .i64 f] 56 (0, 0)) ∧ (∀ q c, ([.int .i64 t.kind, str t.text, .int .i64 t.num, .int .i64 (t.at_ : Int)] : List Value)[q]? = some c → w'.cell? ⟨g, am * 4 + q, none⟩ = some c)) mixedO (by kernel_rfl) rfl (by kernel_rfl) (fun PP hPP => ?_)
 rw [← Qa HW]
 iterate 8 refine Qac rfl (by kernel_rfl) (fun w' hw => by obtain ⟨x_0, x_1, x_2, x_3, x_4, x_5, xf⟩ := cl6 hw.1; obtain ⟨y_0, y_1, y_2, y_3⟩ := cs4 hw.2; go_simp <;> rfl) ?_
 refine Qac (v := .int .i64 ((a : Int) + 1)) rfl (by kernel_rfl) (fun w' hw => by clear hw; go_simp) ?_
 iterate 5 refine Qac rfl (by kernel_rfl) (fun w' hw => by obtain ⟨x_0, x_1, x_2, x_3, x_4, x_5, xf⟩ := cl6 hw.1; obtain ⟨y_0, y_1, y_2, y_3⟩ := cs4 hw.2; go_simp <;> rfl) ?_
 refine Qac (v := .int .i64 ((n : Int) - 1)) rfl (by kernel_rfl) (fun w' hw => by clear hw; go_simp) ?_
 refine Qac (v := .int .i64 (am : Int)) rfl (by kernel_rfl) (fun w' hw => by clear hw; go_simp) ?_
 iterate 2 refine Qac rfl (by kernel_rfl) (fun w' hw => by obtain ⟨x_0, x_1, x_2, x_3, x_4, x_5, xf⟩ := cl6 hw.1; obtain ⟨y_0, y_1, y_2, y_3⟩ := cs4 hw.2; go_simp <;> rfl) ?_
 refine Qkz (b := { tmps := #[.pointer (some ⟨rb, 0, none⟩), undef, .pointer (some ⟨w.heap.size, 0, none⟩), .pointer (some ⟨rb, 0, none⟩), .pointer (some ⟨rb, 0, none⟩), .pointer (some ⟨rb, 0, none⟩), .slice (some ⟨g, 0, none⟩) n cap, .pointer (some ⟨rb, 0, none⟩), .pointer (some ⟨rb, 0, none⟩), .pointer (some ⟨rb, 1, none⟩), .int .i64 (a : Int), .int .i64 ((a : Int) + 1), .pointer (some ⟨rb, 0, none⟩), .pointer (some ⟨rb, 0, none⟩), .pointer (some ⟨rb, 0, none⟩), .slice (some ⟨g, 0, none⟩) n cap, .int .i64 (n : Int), .int .i64 ((n : Int) - 1), .int .i64 (am : Int), .pointer (some ⟨g, am * 4, none⟩), tkA t], defers := [] }) (by kernel_rfl) ?_
 refine Qal rfl (Qa HC _ (Qa HB).1) (fun K hK => ?_)
 refine Qcb rfl _ _ _ rfl w.heap.size _ _ #[.int .i64 t.kind, str t.text, .int .i64 t.num, .int .i64 (t.at_ : Int)] (by kernel_rfl) (by kernel_rfl) (Qa HB).2.1 (by kernel_rfl) rfl (by simp [Value.oneCell', str]) ?_
 refine hK _ _ ?_
 clear hK K
 rw [← Qa HV]
 refine Qaw (Qa HC _ (Qa HB).2.2.1) (hPP _ _ ?_)
 clear hPP PP
 simp [Act.put]
 obtain ⟨z_0, z_1, z_2, z_3, zf⟩ := cl4 (Qa HB).2.2.2
 go_wp2_with fail
 refine bodyPost_ret (v := tkA t) (by simp [results, Try.results90, go_sem, z_0, z_1, z_2, z_3]) rfl ?_
 exact ⟨rfl, (Qa HB).2.2.1⟩
end
section
open Go.RowKit Go.Maps
def amV (w : World) (w' : World) (v : Value) : Prop := ∃ x : Atm, VAm (fun b => w.heap.size ≤ b) w' v x
theorem Qfv {rb g cap a d i : Nat} {l : List Tok} {w : World} {y f : Int} (h : Rr rb g cap l w a d i y f) (hd : d ≤ 63) :
  Calls Try.prog 92 #[.pointer (some ⟨rb, 0, none⟩)] w fun en w' => RA rb g cap l w d (amV w) (CoY a i y) en w' := by
 have b0 : Below w.heap.size w (w.alloc (.cells #[.string ⟨#[]⟩, .slice none 0 0, .int .i64 0] 75)) := (Below.refl _ w).alloc (Nat.le_refl _) _
 have n0 : (w.alloc (.cells #[.string ⟨#[]⟩, .slice none 0 0, .int .i64 0] 75)).heap[w.heap.size]? = some (.cells #[.string ⟨#[]⟩, .slice none 0 0, .int .i64 0] 75 (0, 0)) := heap_alloc_new w _
 have s0 : (w.alloc (.cells #[.string ⟨#[]⟩, .slice none 0 0, .int .i64 0] 75)).heap.size = w.heap.size + 1 := by simp
 obtain ⟨t, ht⟩ := h.tok
 have HNW : Hid (∀ w', Below w.heap.size w w' → Calls Try.prog 17 #[.pointer (some ⟨rb, 0, none⟩)] w' fun en w2 => en = .returned (.agg #[.int .i64 t.kind, str t.text, .int .i64 t.num, .int .i64 (t.at_ : Int)]) ∧ Below w'.heap.size w' w2) := fun w' bb => Qak (h.later bb) ht
 have HH := hide h
 have HE := hide (Qnw (rb := rb) (g := g) (cap := cap) (l := l) hd)
 have H0 := hide (Ya b0 (Ya n0 s0))
 clear h ht b0 n0 s0
 go_enter Try.func92, Try.ntmps92
 go_wp2_with fail
 refine (Qa HNW _ (Qa H0).1).mono ?_
 rintro en w1 ⟨rfl, b1⟩
 obtain ⟨b0, n0, s0⟩ := Qa H0
 have hb1 := b0.trans (b1.mono (by omega))
 have n1 := (b1.block _ (by omega)).trans n0
 have hnm := Qdi ((Qa HH).later hb1)
 have hrl := Qab (Qa HH).box
 have hgl := (Qa HH).row.lt
 have hs1 := b1.size
 have K1 := hide (Ya (Kp.of_below (rb := rb) hb1) (Ya n1 (show rb < w.heap.size ∧ g < w.heap.size ∧ w.heap.size < w1.heap.size by omega)))
 clear b1 b0 n0 s0 hb1 n1 hrl hgl hs1
 go_wp2_with fail
 rename_i hK
 refine hK _ _ ?_
 clear hK
 go_wp2_with fail
 refine hnm.mono ?_
 clear hnm
 rintro en w2 ⟨_, a2, i2, y2, f2, rfl, ⟨x2, rfl⟩, ⟨ei, ha2, hy2⟩, h2, k2⟩
 rw [ei] at h2
 clear ei
 obtain ⟨k1, n1, g1, g2, g3⟩ := Qa K1
 have hs2 := k2.size
 have n2 := k2.keep n1 (by omega)
 obtain ⟨xb, hxb⟩ : ∃ xb, w2.heap.size = xb := ⟨_, rfl⟩
 obtain ⟨w3, hw3⟩ : ∃ w3, w3 = w2.alloc (.cells #[str x2, .slice none 0 0, .int .i64 (t.at_ : Int)] 75) := ⟨_, rfl⟩
 have b3 : Below w2.heap.size w2 w3 := by rw [hw3]; exact (Below.refl _ w2).alloc (Nat.le_refl _) _
 have n3 : w3.heap[xb]? = some (.cells #[str x2, .slice none 0 0, .int .i64 (t.at_ : Int)] 75 (0, 0)) := by rw [hw3, ← hxb]; exact heap_alloc_new w2 _
 have s3 : w3.heap.size = xb + 1 := by rw [hw3, ← hxb]; simp
 have q3 := (b3.block _ (by omega)).trans n2
 have hes := Qir (h2.later b3) (Qa HE)
 have K3 := hide (Ya ((k1.trans k2).trans (Kp.of_below b3)) (Ya n3 (Ya q3 (Ya (show rb < w.heap.size ∧ g < w.heap.size ∧ w.heap.size < xb by omega) (Ya s3 (Ya ha2 hy2))))))
 have HW3 := hide (Ya hw3 hxb)
 clear k1 n1 g1 g2 g3 hs2 n2 hxb hw3 b3 n3 s3 q3 ha2 hy2 h2 k2 K1
 go_wp2_with fail
 rw [← (Qa HW3).1, (Qa HW3).2]
 clear HW3
 refine hes.mono ?_
 clear hes
 rintro en w7 ⟨_, a7, i7, y7, f7, rfl, ⟨ks, hks⟩, ⟨ei, ha7, hy7⟩, h7, k7⟩
 rw [ei] at h7
 clear ei
 obtain ⟨ka, kc, rfl⟩ := hks.sl
 obtain ⟨k3, n3, q3, ⟨g1, g2, g3⟩, s3, ha2, hy2⟩ := Qa K3
 have hs7 := k7.size
 have n7 := k7.keep n3 (by omega)
 have q7 := k7.keep q3 (by omega)
 have hne : w.heap.size ≠ xb := by omega
 obtain ⟨w8, hw8⟩ : ∃ w8, w8 = w7.setCell ⟨xb, 1, none⟩ (.slice ka ks.length kc) := ⟨_, rfl⟩
 have n8 : w8.heap[xb]? = some (.cells #[str x2, .slice ka ks.length kc, .int .i64 (t.at_ : Int)] 75 (0, 0)) := by rw [hw8]; exact (Qah n7 1 _).trans rfl
 have o8 : ∀ q, q ≠ xb → w8.heap[q]? = w7.heap[q]? := fun q hq => by rw [hw8, hpS hq]
 have s8 : w8.heap.size = w7.heap.size := by rw [hw8]; simp
 have q8 := (o8 _ hne).trans q7
 have k8 : Kp rb w w8 := by rw [hw8]; exact (k3.trans k7).set2 (by omega)
 have h8 := h7.move (w' := w8) (by omega) (o8 rb (by omega)) (o8 g (by omega))
 have hL8 : LsAt PE 5 (fun b => w3.heap.size ≤ b) w8 (.slice ka ks.length kc) ks := hks.same Qae (by omega) (fun b hb hl => o8 b (by have hb' : w3.heap.size ≤ b := hb; omega))
 have hC : CoY a i y a7 i y7 := ⟨rfl, by omega, fun e => ⟨(hy2 (hy7 e).1).1, by have := (hy2 (hy7 e).1).2; omega⟩⟩
 obtain ⟨x_0, x_1, x_2, xf⟩ := cl3 n7
 obtain ⟨z0, z1, z2, zf⟩ := cl3 n8
 obtain ⟨y0, y1, y2', yf⟩ := cl3 q8
 have HF : Hid (∀ q0 q1 q2, RA rb g cap l w d (amV w) (CoY a i y) (.returned (.agg #[str x2, .slice ka ks.length kc, .int .i64 (t.at_ : Int)])) (((w8.setCell ⟨w.heap.size, 0, none⟩ q0).setCell ⟨w.heap.size, 1, none⟩ q1).setCell ⟨w.heap.size, 2, none⟩ q2)) := fun q0 q1 q2 => by
  have hsame : ∀ b, b ≠ w.heap.size → (((w8.setCell ⟨w.heap.size, 0, none⟩ q0).setCell ⟨w.heap.size, 1, none⟩ q1).setCell ⟨w.heap.size, 2, none⟩ q2).heap[b]? = w8.heap[b]? := fun b hb => by
   rw [hpS hb, hpS hb, hpS hb]
  exact ⟨_, _, _, _, _, rfl, ⟨⟨x2, ks, t.at_⟩, _, _, _, rfl, (hL8.same Qae (by simp [World.setCell]) (fun b hb hl => hsame b (by have hb' : w3.heap.size ≤ b := hb; omega))).mono Qae (fun b _ hb => by have hb' : w3.heap.size ≤ b := hb; omega)⟩, hC, h8.move (by simp [World.setCell]) (hsame rb (by omega)) (hsame g (by omega)), ((k8.set2 (by omega)).set2 (by omega)).set2 (by omega)⟩
 clear h7 k7 hks k3 n3 q3 g1 g2 g3 s3 ha2 hy2 hs7 n7 q7 n8 o8 s8 q8 k8 h8 hL8 hC ha7 hy7 K3 x_0 x_2 zf hne
 subst hw8
 go_wp2_with fail
 refine bodyPost_ret (v := .agg #[str x2, .slice ka ks.length kc, .int .i64 t.at_]) (by simp [results, Try.results92, go_sem, y0, y1, y2']) rfl ?_
 exact Qa HF _ _ _
end
section
open Go.RowKit Go.Maps
def Qo {α : Type} (p : PS α) (k : Nat) (T : TypeId) (base : Nat) (wr : World) (sl : Value) (acc : List α) : Prop := ∃ css, wr.ownsRow base T k sl acc.length css.flatten ∧ All p k (fun b => base ≤ b ∧ some b ≠ sl.ownBlock) wr css acc
section
variable {α : Type} {p : PS α} {k : Nat} {T : TypeId} {base : Nat}
theorem Qo.nil (wr : World) : Qo p k T base wr (.slice none 0 0) [] := ⟨[], World.ownsRow_nil _ _ _ _, ⟨rfl, fun j x cs hx => by simp at hx⟩⟩
theorem Qo.move (hp : PSok p) {wr w' : World} {sl : Value} {acc : List α} (h : Qo p k T base wr sl acc) (hs : wr.heap.size ≤ w'.heap.size) (hb : ∀ b, base ≤ b → b < wr.heap.size → w'.heap[b]? = wr.heap[b]?) : Qo p k T base w' sl acc := by
 obtain ⟨css, ho, ha⟩ := h
 refine ⟨css, ⟨ho.1, ?_⟩, ha.same hp hs (fun b hs hl => hb b hs.1 hl)⟩
 rcases ho.2 with e | ⟨g, cap, cur, e1, e2, e3, e4⟩
 · exact .inl e
 · exact .inr ⟨g, cap, cur, e1, e2, (hb g e2 (Qab e3)).trans e3, e4⟩
theorem Qo.sl {wr : World} {sl : Value} {acc : List α} (h : Qo p k T base wr sl acc) : ∃ a c, sl = .slice a acc.length c ∧ acc.length ≤ c ∧ c ≤ maxLen := by
 obtain ⟨css, ho, _⟩ := h
 rcases ho.2 with ⟨e, e2⟩ | ⟨g, cap, cur, e, _, _, e4, e5, _⟩
 · exact ⟨none, 0, by rw [e, e2], by omega, by unfold maxLen; omega⟩
 · exact ⟨_, _, e, e4, e5⟩
theorem Qo.ls (hp : PSok p) {wr : World} {sl : Value} {acc : List α} (h : Qo p k T base wr sl acc) : LsAt p k (fun b => base ≤ b) wr sl acc := by
 obtain ⟨css, ho, ha⟩ := h
 exact LsAt.of ho (ha.mono hp (fun b _ hs => hs.1))
theorem Qo.more (hp : PSok p) {ST : TypeId} {i0 : TypeInfo} {z : Value} {by_ : Nat} (ht : Try.prog.underlying ST = some (.slice T)) (hi : Try.prog.info? T = some i0) (hz : i0.zero = some z) (hsz : i0.size = k) (hby : i0.bytes = by_) (hzc : z.cells.size = k) (hk : 0 < k) (hb6 : by_ ≤ 1000)
  {rb g cap a d i : Nat} {l : List Tok} {y f : Int} {wr w2 : World} {sl : Value} {acc : List α} (h : Qo p k T base wr sl acc) (hbw : base ≤ wr.heap.size) {x : α} {cs : List Value}
  (hl : cs.length = k) (h1 : ∀ c ∈ cs, c.oneCell' = true) (hx : p (fun b => wr.heap.size ≤ b) w2 cs x) (hR : Rr rb g cap l w2 a d i y f) (k2 : Kp rb wr w2) (hrb : rb < base) (hg : g < base) (hf : acc.length ≤ 65536) :
  ∃ r w8, (Builtin.append_ #[ST, ST] ST #[sl, .slice (some ⟨w2.heap.size, 0, none⟩) 1 1]).run Try.prog (w2.alloc (.cells cs.toArray T)) = .ok r w8 ∧ KB rb rb base wr w8 ∧ w2.heap.size ≤ w8.heap.size ∧ Rr rb g cap l w8 a d i y f ∧ Qo p k T base w8 r (acc ++ [x]) := by
 obtain ⟨css, ho, ha⟩ := h
 have hs2 := k2.size
 have hown : ∀ b, some b = sl.ownBlock → base ≤ b ∧ b < wr.heap.size := fun b e => World.ownsRow.lt ho b e.symm
 have ho2 : (w2.alloc (.cells cs.toArray T)).ownsRow base T k sl acc.length css.flatten := by
  refine World.ownsRow.alloc ?_ _
  refine ⟨ho.1, ?_⟩
  rcases ho.2 with e | ⟨g, cap, cur, e1, e2, e3, e4⟩
  · exact .inl e
  · exact .inr ⟨g, cap, cur, e1, e2, k2.keep e3 (by omega), e4⟩
 obtain ⟨r, w8, hr, o8, g8, _, a8⟩ := run_append_own_at (P := Try.prog) (w2.alloc (.cells cs.toArray T)) base ST ST T i0 z k by_ ht hi hz hsz hby hzc hk sl acc.length css.flatten ho2 ⟨w2.heap.size, 0, none⟩ 1 1 cs (by rw [hl, Nat.one_mul]) (fun j u hj => by
  have e1 : (⟨w2.heap.size, 0, none⟩ : Addr).add j = ⟨w2.heap.size, j, none⟩ := by cases j <;> simp [Addr.add]
  rw [e1, Qaf (heap_alloc_new w2 _)]
  simpa using hj) h1 (by unfold maxLen; omega) (by
  have h3 : acc.length + 1 ≤ 65537 := by omega
  have := Nat.mul_le_mul h3 hb6
  omega) (by simp; omega)
 have hz2 : (w2.alloc (.cells cs.toArray T)).heap.size = w2.heap.size + 1 := by simp
 have hs8 := g8.size
 have hsame : ∀ b, b < w2.heap.size → some b ≠ sl.ownBlock → w8.heap[b]? = w2.heap[b]? := fun b hb hn => by
  rw [g8.block b (by omega) hn, Below.heap_alloc _ _ _ hb]
 have kb8 : KB rb rb base wr w8 := by
  have hb := (Below.refl w2.heap.size w2).alloc (Nat.le_refl _) (.cells cs.toArray T)
  refine ⟨g8.os.trans (hb.os.trans k2.os), g8.tape.trans (hb.tape.trans k2.tape), g8.output.trans (hb.output.trans k2.output), by omega, fun j hj hn _ => ?_⟩
  rw [hsame j (by omega) (fun e => by have := (hown j e).1; omega), k2.block j (by omega) hn]
 have rd8 : Rr rb g cap l w8 a d i y f := hR.move (by omega) (hsame rb (by omega) (fun e => by have := (hown rb e).1; omega)) (hsame g (by omega) (fun e => by have := (hown g e).1; omega))
 have hrn : ∀ b, some b = r.ownBlock → some b = sl.ownBlock ∨ w2.heap.size < b + 1 ∧ w2.heap.size + 1 ≤ b := fun b e => by
  rcases a8 with e2 | e2
  · exact .inl (e.trans e2)
  rw [e2] at e
  simp only [Option.some.injEq] at e
  exact .inr (by omega)
 refine ⟨r, w8, hr, kb8, by omega, rd8, css ++ [cs], by rw [List.length_append]; simpa using o8, ?_⟩
 have hold : All p k (fun b => base ≤ b ∧ some b ≠ r.ownBlock) w8 css acc := by
  have h2 : All p k (fun b => (base ≤ b ∧ some b ≠ sl.ownBlock) ∧ b < wr.heap.size) w2 css acc := (ha.mono hp (fun b hb hs => ⟨hs, hb⟩)).same hp hs2 (fun b hs hb => k2.block b hb (by omega))
  have h3 := h2.same hp (w' := w8) (by omega) (fun b hs hb => hsame b hb hs.1.2)
  refine h3.mono hp (fun b _ hs => ⟨hs.1.1, fun e => ?_⟩)
  rcases hrn b e with e | e
  · exact hs.1.2 e
  have := hs.2
  omega
 have hx8 : p (fun b => base ≤ b ∧ some b ≠ r.ownBlock) w8 cs x := by
  have h2 := hp.mono _ (fun b => wr.heap.size ≤ b ∧ b < w2.heap.size) _ _ _ hx (fun b hb hs => ⟨hs, hb⟩)
  have h3 := hp.same _ _ w8 _ _ h2 (by omega) (fun b hs hb => hsame b hb (fun e => by have := (hown b e).2; have := hs.1; omega))
  refine hp.mono _ _ _ _ _ h3 (fun b _ hs => ⟨by have := hs.1; omega, fun e => ?_⟩)
  rcases hrn b e with e | e
  ·
   have := (hown b e).2
   have := hs.1
   omega
  have := hs.2
  omega
 exact hold.snoc hl hx8
end
structure Bx (rb g : Nat) (w : World) (xb : Nat) (T : TypeId) (zs cs : Array Value) (W : World) : Prop where
 kp : Kp rb w W
 box : W.heap[xb]? = some (.cells cs T (0, 0))
 res : W.heap[w.heap.size]? = some (.cells zs T (0, 0))
 r1 : rb < w.heap.size
 g1 : g < w.heap.size
 x1 : w.heap.size < xb
section
variable {rb g : Nat} {w : World} {xb : Nat} {T : TypeId} {zs cs : Array Value} {W W' : World}
theorem Bx.call (h : Bx rb g w xb T zs cs W) (k : Kp rb W W') : Bx rb g w xb T zs cs W' :=
 ⟨h.kp.trans k, k.keep h.box (by have := h.r1; have := h.x1; omega), k.keep h.res (by have := h.r1; omega), h.r1, h.g1, h.x1⟩
theorem Bx.set (h : Bx rb g w xb T zs cs W) (j : Nat) (v : Value) : Bx rb g w xb T zs (cs.setIfInBounds j v) (W.setCell ⟨xb, j, none⟩ v) :=
 ⟨h.kp.set2 (by have := h.x1; omega), Qah h.box j v, (hpS (by have := h.x1; show w.heap.size ≠ xb; omega)).trans h.res, h.r1, h.g1, h.x1⟩
theorem Rr.atBox {cap a d i : Nat} {l : List Tok} {y f : Int} (h : Rr rb g cap l W a d i y f) (hx : rb < xb ∧ g < xb) (j : Nat) (v : Value) : Rr rb g cap l (W.setCell ⟨xb, j, none⟩ v) a d i y f :=
 h.move (by simp) (hpS (by show rb ≠ xb; omega)) (hpS (by show g ≠ xb; omega))
end
def EK (w : World) (xb : Nat) (E : World → Prop) : Prop := ∀ W W' : World, W.heap.size ≤ W'.heap.size → (∀ q, w.heap.size < q → q < xb → q < W.heap.size → W'.heap[q]? = W.heap[q]?) → E W → E W'
theorem EK.none (w : World) (xb : Nat) : EK w xb (fun _ => True) := fun _ _ _ _ _ => trivial
structure Gx {α : Type} (p : PS α) (k : Nat) (TE : TypeId) (rb g cap : Nat) (l : List Tok) (w : World) (d i a : Nat) (y : Int) (xb : Nat) (T : TypeId) (zs : Array Value) (E : World → Prop) (W : World) (cs : Array Value) (aX : Nat) (yX fX : Int) (sl : Value) (acc : List α) : Prop where
 r : Rr rb g cap l W aX d i yX fX
 b : Bx rb g w xb T zs cs W
 e : E W
 q : Qo p k TE (xb + 1) W sl acc
 le : a ≤ aX
 y0 : yX = 0 → y = 0 ∧ a < aX
 n : acc.length ≤ aX + 1
 n0 : yX = 0 → acc.length ≤ aX
section
variable {α : Type} {p : PS α} {k : Nat} {TE : TypeId} {rb g cap : Nat} {l : List Tok} {w : World} {d i a : Nat} {y : Int} {xb : Nat} {T : TypeId} {zs : Array Value} {E : World → Prop} {W W' : World} {cs : Array Value} {aX a2 : Nat} {yX fX y2 f2 : Int} {sl : Value} {acc : List α}
theorem Gx.call (hp : PSok p) (hE : EK w xb E) (h : Gx p k TE rb g cap l w d i a y xb T zs E W cs aX yX fX sl acc) (kk : Kp rb W W') (hR : Rr rb g cap l W' a2 d i y2 f2) (ha : aX ≤ a2) (hy : y2 = 0 → yX = 0) : Gx p k TE rb g cap l w d i a y xb T zs E W' cs a2 y2 f2 sl acc :=
 ⟨hR, h.b.call kk, hE _ _ kk.size (fun q h1 _ hl => kk.block q hl (by have := h.b.r1; omega)) h.e, h.q.move hp kk.size (fun b hb hl => kk.block b hl (by have := h.b.r1; have := h.b.x1; omega)), by have := h.le; omega, fun e => ⟨(h.y0 (hy e)).1, by have := (h.y0 (hy e)).2; omega⟩, by have := h.n; omega, fun e => by have := h.n0 (hy e); omega⟩
theorem Gx.more (hp : PSok p) (hE : EK w xb E) {ST : TypeId} {i0 : TypeInfo} {z : Value} {by_ : Nat} (ht : Try.prog.underlying ST = some (.slice TE)) (hi : Try.prog.info? TE = some i0) (hz : i0.zero = some z) (hsz : i0.size = k) (hby : i0.bytes = by_) (hzc : z.cells.size = k) (hk : 0 < k) (hb6 : by_ ≤ 1000)
  (h : Gx p k TE rb g cap l w d i a y xb T zs E W cs aX yX fX sl acc) {w2 : World} {x : α} {cx : List Value} (hl : cx.length = k) (h1 : ∀ c ∈ cx, c.oneCell' = true) (hx : p (fun b => W.heap.size ≤ b) w2 cx x) (hR : Rr rb g cap l w2 a2 d i y2 f2) (k2 : Kp rb W w2) (ha : aX ≤ a2) (hy : y2 = 0 → yX = 0 ∧ aX < a2) (hn : acc.length ≤ aX) (j : Nat) :
  ∃ ra rc w8, (Builtin.append_ #[ST, ST] ST #[sl, .slice (some ⟨w2.heap.size, 0, none⟩) 1 1]).run Try.prog (w2.alloc (.cells cx.toArray TE)) = .ok (.slice ra (acc.length + 1) rc) w8 ∧ acc.length + 1 ≤ rc ∧ rc ≤ maxLen ∧ w8.heap[xb]? = some (.cells cs T (0, 0)) ∧ Gx p k TE rb g cap l w d i a y xb T zs E (w8.setCell ⟨xb, j, none⟩ (.slice ra (acc.length + 1) rc)) (cs.setIfInBounds j (.slice ra (acc.length + 1) rc)) a2 y2 f2 (.slice ra (acc.length + 1) rc) (acc ++ [x]) := by
 have hx1 := h.b.x1
 have hr1 := h.b.r1
 have hg1 := h.b.g1
 have hxl := Qab h.b.box
 obtain ⟨r, w8, hr, kb, hs28, R8, q8⟩ := h.q.more hp ht hi hz hsz hby hzc hk hb6 (by omega) hl h1 hx hR k2 (by omega) (by omega) (by have := h.r.lt; have := h.r.few; omega)
 obtain ⟨ra, rc, er, e1, e2⟩ := q8.sl
 have el : (acc ++ [x]).length = acc.length + 1 := by simp
 rw [el] at er e1
 subst er
 have hs8 := kb.size
 have bx8 : w8.heap[xb]? = some (.cells cs T (0, 0)) := (kb.block xb (by omega) (by omega) (by omega)).trans h.b.box
 have B8 : Bx rb g w xb T zs cs w8 := ⟨⟨kb.os.trans h.b.kp.os, kb.tape.trans h.b.kp.tape, kb.output.trans h.b.kp.output, Nat.le_trans h.b.kp.size hs8, fun q hq hn => (kb.block q (by omega) hn hn).trans (h.b.kp.block q hq hn)⟩, bx8, (kb.block _ (by omega) (by omega) (by omega)).trans h.b.res, hr1, hg1, hx1⟩
 have o9 : ∀ q, q ≠ xb → (w8.setCell ⟨xb, j, none⟩ (.slice ra (acc.length + 1) rc)).heap[q]? = w8.heap[q]? := fun q hq => hpS hq
 have s9 : (w8.setCell ⟨xb, j, none⟩ (.slice ra (acc.length + 1) rc)).heap.size = w8.heap.size := by simp
 refine ⟨ra, rc, w8, hr, e1, e2, bx8, R8.atBox ⟨by omega, by omega⟩ j _, B8.set j _, ?_, ?_, by have := h.le; omega, fun e => ⟨(h.y0 (hy e).1).1, by have := (h.y0 (hy e).1).2; omega⟩, by rw [el]; omega, fun e => by rw [el]; have := (hy e).2; omega⟩
 · exact hE W _ (by omega) (fun q h1 h2 hl => (o9 q (by omega)).trans (kb.block q (by omega) (by omega) (by omega))) h.e
 · exact q8.move hp (by omega) (fun b hb _ => o9 b (by omega))
theorem Gx.fin (hp : PSok p) (hE : EK w xb E) (h : Gx p k TE rb g cap l w d i a y xb T zs E W cs aX yX fX sl acc) (hs : W'.heap.size = W.heap.size) (ho : W'.os = W.os ∧ W'.tape = W.tape ∧ W'.output = W.output) (hb : ∀ q, q ≠ w.heap.size → W'.heap[q]? = W.heap[q]?) :
  Rr rb g cap l W' aX d i yX fX ∧ Kp rb w W' ∧ E W' ∧ Qo p k TE (xb + 1) W' sl acc := by
 have hx1 := h.b.x1
 have hr1 := h.b.r1
 have hg1 := h.b.g1
 refine ⟨h.r.move (by omega) (hb rb (by omega)) (hb g (by omega)), ⟨ho.1.trans h.b.kp.os, ho.2.1.trans h.b.kp.tape, ho.2.2.trans h.b.kp.output, by rw [hs]; exact h.b.kp.size, fun q hq hn => (hb q (by omega)).trans (h.b.kp.block q hq hn)⟩, hE _ _ (by omega) (fun q h1 _ _ => hb q (by omega)) h.e, h.q.move hp (by omega) (fun b hl _ => hb b (by omega))⟩
end
end
section
open Go.RowKit Go.Maps
theorem str_beq (s t : Txt) : ((⟨s.toArray⟩ : ByteArray) == ⟨t.toArray⟩) = decide (s = t) := by
 have e : ((⟨s.toArray⟩ : ByteArray) == ⟨t.toArray⟩) = (s.toArray == t.toArray) := rfl
 rw [e]
 by_cases h : s = t
 · subst h; simp
 rw [decide_eq_false h]
 exact beq_eq_false_iff_ne.2 fun e => h (by simpa using congrArg Array.toList e)
def findS {α : Type} (t : Txt) : List (Txt × α) → Nat → Option (Nat × α)
 | [], _ => none
 | p :: r, i => if t = p.1 then some (i, p.2) else findS t r (i + 1)
theorem Qfp {α : Type} (t : Txt) : ∀ (l : List (Txt × α)) (i : Nat), (findS t l i).map (·.2) = asc l t
 | [], _ => rfl
 | p :: r, i => by
  unfold findS asc
  by_cases h : t = p.1
  · rw [if_pos h]; simp [h]
  rw [if_neg h, Qfp t r (i + 1)]
  have h2 : ¬ p.1 = t := fun e => h e.symm
  simp [asc, h2]
theorem Qqw (t : Txt) : ∀ (es : List MapEntry) (ms : List (Txt × Value)) (i : Nat), es.map (fun e => (e.key, e.val)) = ms.map (fun p => (str p.1, p.2)) →
  Instr.findNow .string (str t) es i = some (findS t ms i)
 | [], [], _, _ => rfl
 | [], _ :: _, _, h => by simp at h
 | _ :: _, [], _, h => by simp at h
 | e :: es, p :: ms, i, h => by
  simp only [List.map_cons, List.cons.injEq, Prod.mk.injEq] at h
  obtain ⟨⟨h1, h2⟩, h3⟩ := h
  have ih := Qqw t es ms (i + 1) h3
  unfold Instr.findNow findS
  rw [h1]
  simp only [Instr.sameNow, str_beq]
  by_cases hk : t = p.1
  · simp [hk, h2]
  · simp [hk, ih]
def MpS (w : World) (mb : Nat) (ms : List (Txt × Value)) : Prop := ∃ es clock, w.heap[mb]? = some (.map es clock) ∧ es.toList.map (fun e => (e.key, e.val)) = ms.map (fun p => (str p.1, p.2))
theorem MpS.lt {w : World} {mb : Nat} {ms : List (Txt × Value)} (h : MpS w mb ms) : mb < w.heap.size := by
 obtain ⟨_, _, h, _⟩ := h
 exact (Array.getElem?_eq_some_iff.1 h).1
theorem MpS.keep {w w' : World} {mb : Nat} {ms : List (Txt × Value)} (h : MpS w mb ms) (e : w'.heap[mb]? = w.heap[mb]?) : MpS w' mb ms := by
 obtain ⟨es, c, h1, h2⟩ := h
 exact ⟨es, c, e.trans h1, h2⟩
theorem MpS.new (w : World) : MpS (w.alloc (.map #[] 0)) w.heap.size [] := ⟨#[], 0, heap_alloc_new w _, rfl⟩
section
variable {M KT ET : TypeId} (hK : Try.prog.underlying KT = some .string)
include hK
theorem Qqx (w : World) (t : Txt) (es : List MapEntry) (ms : List (Txt × Value)) (h : es.map (fun e => (e.key, e.val)) = ms.map (fun p => (str p.1, p.2))) :
  (Instr.findKey KT (str t) es).run Try.prog w = .ok (findS t ms 0) w := by
 unfold Instr.findKey
 simp only [Sem.run_bind, run_underlying hK, Result.andThen_ok, Qqw t es ms 0 h, Sem.run_pure]
theorem Qmg (w : World) (em : Bool) (d : Nat) (t : Txt) : (Instr.checkKey em (d + 1) KT (str t)).run Try.prog w = .ok () w := by
 simp [Instr.checkKey, run_underlying hK]
variable (hM : Try.prog.underlying M = some (.map KT ET))
include hM
theorem Qef {z : Value} (hz : ∀ w, (zeroValue ET).run Try.prog w = .ok z w) (w : World) (mb : Nat) (ms : List (Txt × Value)) (t : Txt) (h : MpS w mb ms) (c : Bool) :
  (Instr.lookup M (.map (some mb)) (str t) c).run Try.prog w = .ok (if c then .tuple #[(asc ms t).getD z, .bool (asc ms t).isSome] else (asc ms t).getD z) w := by
 obtain ⟨es, clock, hh, he⟩ := h
 have h1 := fun em => Qmg hK w em 9999 t
 have h2 := Qqx hK w t es.toList ms he
 have hg : (getObj mb).run Try.prog w = .ok (.map es clock) w := MapKept.run_getObj_map hh
 unfold Instr.lookup
 simp only [Sem.run_bind, run_underlying hM, Result.andThen_ok, hg, Sem.run_pure, h1, h2]
 rw [← Qfp t ms 0]
 cases hf : findS t ms 0 with
 | none => simp [hz]
 | some q => obtain ⟨k, v⟩ := q; simp
theorem Qoi (w : World) (mb : Nat) (ms : List (Txt × Value)) (t : Txt) (v : Value) (h : MpS w mb ms) (hn : asc ms t = none) :
  ∃ w', (Instr.mapUpdate M (.map (some mb)) (str t) v).run Try.prog w = .ok () w' ∧ MpS w' mb (ms ++ [(t, v)]) ∧ w'.heap.size = w.heap.size ∧ w'.os = w.os ∧ w'.tape = w.tape ∧ w'.output = w.output ∧ ∀ b, b ≠ mb → w'.heap[b]? = w.heap[b]? := by
 obtain ⟨es, clock, hh, he⟩ := h
 have h1 := fun em => Qmg hK w em 9999 t
 have h2 := Qqx hK w t es.toList ms he
 have hg : (getObj mb).run Try.prog w = .ok (.map es clock) w := MapKept.run_getObj_map hh
 have hlt : mb < w.heap.size := (Array.getElem?_eq_some_iff.1 hh).1
 have hf : findS t ms 0 = none := by
  have := Qfp t ms 0
  rw [hn] at this
  simpa using this
 refine ⟨{ w with heap := w.heap.setIfInBounds mb (.map (es.push { key := str t, val := v, born := clock }) (clock + 1)) }, ?_, ⟨es.push { key := str t, val := v, born := clock }, clock + 1, ?_, ?_⟩, by simp, rfl, rfl, rfl, fun b hb => ?_⟩
 ·
  unfold Instr.mapUpdate
  simp only [Sem.run_bind, run_underlying hM, Result.andThen_ok, hg, h1, h2, hf]
  exact MapKept.run_setObj_map _ hh
 ·
  show (w.heap.setIfInBounds mb _)[mb]? = some _
  exact Array.getElem?_setIfInBounds_self_of_lt hlt
 · simp [he]
 show (w.heap.setIfInBounds mb _)[b]? = _
 exact Array.getElem?_setIfInBounds_ne (Ne.symm hb)
end
end
section
open Go.RowKit Go.Maps
theorem mI : Try.prog.underlying 61 = some (.map 9 3) := by kernel_rfl
theorem mP : Try.prog.underlying 142 = some (.map 9 149) := by kernel_rfl
theorem uS : Try.prog.underlying 9 = some .string := by kernel_rfl
theorem zI (w : World) : (zeroValue 3).run Try.prog w = .ok (.int .i64 0) w := Try.zeroValue3 w
theorem zP (w : World) : (zeroValue 149).run Try.prog w = .ok (.agg #[.int .i64 0, .int .i64 0]) w := Try.zeroValue149 w
def addF (ms : List (Txt × Value)) (n : Txt) (v : Value) : List (Txt × Value) := match asc ms n with | some _ => ms | none => ms ++ [(n, v)]
theorem Qpf (ms : List (Txt × Value)) (n : Txt) (v : Value) (t : Txt) : asc (addF ms n v) t = asc (ms ++ [(n, v)]) t := by
 rw [Qig]
 unfold addF
 cases h : asc ms n with
 | some _ => rfl
 | none =>
  simp only
  rw [Qig, h]
theorem Qka {w : World} {mb : Nat} {ms : List (Txt × Value)} (h : MpS w mb ms) (n : Txt) (k : Int) :
  Calls Try.prog 76 #[.map (some mb), str n, .int .i64 k] w fun en w' => en = .returned (.tuple #[]) ∧ MpS w' mb (addF ms n (.int .i64 k)) ∧ Kp mb w w' := by
 have hl := Qef uS mI zI w mb ms n h true
 rw [if_pos rfl] at hl
 have H := hide h
 unfold addF
 cases hc : asc ms n with
 | some u =>
  rw [hc] at hl
  simp only [Option.getD_some, Option.isSome_some] at hl
  clear h hc
  go_enter Try.func76, Try.ntmps76
  go_wp2_with fail
  go_end0
  exact ⟨rfl, Qa H, Kp.refl _ _⟩
 | none =>
  rw [hc] at hl
  simp only [Option.getD_none, Option.isSome_none] at hl
  obtain ⟨w', hr, hm, hs, ho, ht, hu, hb⟩ := Qoi uS mI w mb ms n (.int .i64 k) h hc
  have HE := hide (show MpS w' mb (ms ++ [(n, .int .i64 k)]) ∧ Kp mb w w' from ⟨hm, ho, ht, hu, by omega, fun b _ hn => hb b hn⟩)
  clear h hc hm hs ho ht hu hb
  go_enter Try.func76, Try.ntmps76
  go_wp2_with fail
  go_end0
  exact ⟨rfl, Qa HE⟩
theorem Qpd {w : World} {mb : Nat} {ms : List (Txt × Value)} (h : MpS w mb ms) (n : Txt) (i k : Int) (hp : ∀ u, asc ms n = some u → ∃ a b : Int, u = .agg #[.int .i64 a, .int .i64 b]) :
  Calls Try.prog 77 #[.map (some mb), str n, .agg #[.int .i64 i, .int .i64 k]] w fun en w' => en = .returned (.tuple #[]) ∧ MpS w' mb (addF ms n (.agg #[.int .i64 i, .int .i64 k])) ∧ Kp mb w w' := by
 obtain ⟨w1, hw1⟩ : ∃ w1, w1 = w.alloc (.cells #[.int .i64 i, .int .i64 k] 149) := ⟨_, rfl⟩
 have b1 := bnw hw1
 have n1 := nnw hw1
 have s1 : w1.heap.size = w.heap.size + 1 := by rw [hw1]; simp
 have h1 := h.keep (b1.block _ h.lt)
 have hl := Qef uS mP zP w1 mb ms n h1 true
 rw [if_pos rfl] at hl
 unfold addF
 cases hc : asc ms n with
 | some u =>
  rw [hc] at hl
  obtain ⟨a, b, rfl⟩ := hp u hc
  simp only [Option.getD_some, Option.isSome_some] at hl
  obtain ⟨w2, hw2⟩ : ∃ w2, w2 = w1.alloc (.cells #[.int .i64 a, .int .i64 b] 149) := ⟨_, rfl⟩
  have b2 := bnw hw2
  have HE := hide (show MpS w2 mb ms ∧ Kp mb w w2 from ⟨h1.keep (b2.block _ h1.lt), (Kp.of_below b1).trans (Kp.of_below b2)⟩)
  have HW1 := hide hw1
  have HW2 := hide hw2
  clear h hp hc h1 b1 n1 s1 b2 hw1 hw2
  go_enter Try.func77, Try.ntmps77
  go_upto_region 1 with fail
  rw [← Qa HW1]
  go_wp2_with fail
  rw [← Qa HW2]
  go_end0
  exact ⟨rfl, Qa HE⟩
 | none =>
  rw [hc] at hl
  simp only [Option.getD_none, Option.isSome_none] at hl
  obtain ⟨w2, hw2⟩ : ∃ w2, w2 = w1.alloc (.cells #[.int .i64 0, .int .i64 0] 149) := ⟨_, rfl⟩
  have b2 := bnw hw2
  have h2 := h1.keep (b2.block _ h1.lt)
  have n2 := (b2.block _ (by omega)).trans n1
  obtain ⟨x0, x1, xf⟩ := cl2 n2
  obtain ⟨w', hr, hm, hs, ho, ht, hu, hb⟩ := Qoi uS mP w2 mb ms n (.agg #[.int .i64 i, .int .i64 k]) h2 hc
  have HE := hide (show MpS w' mb (ms ++ [(n, .agg #[.int .i64 i, .int .i64 k])]) ∧ Kp mb w w' from ⟨hm, ((Kp.of_below b1).trans (Kp.of_below b2)).trans ⟨ho, ht, hu, by omega, fun b _ hn => hb b hn⟩⟩)
  have HW1 := hide hw1
  have HW2 := hide hw2
  clear h hp hc h1 b1 n1 s1 b2 h2 n2 hm hs ho ht hu hb hw1 hw2
  go_enter Try.func77, Try.ntmps77
  go_upto_region 1 with fail
  rw [← Qa HW1]
  go_upto_region 2 with fail
  rw [← Qa HW2]
  go_wp2_with fail
  go_end0
  exact ⟨rfl, Qa HE⟩
end
end Go.Proofs.Ytfmbpaoapjmdnaa
