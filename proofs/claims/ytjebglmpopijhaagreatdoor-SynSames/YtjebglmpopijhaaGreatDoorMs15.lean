/- syn: a Lit of any kind; the clause. A region that leaves its order open: where two operations are ready, both ways. syn: item, what it comes to; too many items. syn: item, one of the types. syn: item, one of the decls. syn: item, one of the inits. syn: item, one of the clauses. syn: a component put in its place. syn: item, one of the comps. -/
import Derived.Test.YtjebglmpopijhaaGreatDoorMs14
import Derived.Test.YtjebglmpopijhaaGreatDoorMs08
import Derived.Test.YtjebglmpopijhaaGreatDoorMs13
set_option maxRecDepth 100000
set_option maxHeartbeats 32000000
namespace Go.Proofs.YtjebglmpopijhaaGreatDoor
section
open Go.RowKit Go.Maps
theorem lit_any {rb e dp d : Nat} (hd : dp + d = 32) {w : World} {l : List Tok} {it : Nat} (h : Rd rb e w l it dp) :
  Calls Tryz.prog 163 #[.pointer (some ⟨rb, 0, none⟩)] w fun en w' => Ans rb e dp w (fun w2 v x => ∃ c0 c1 c2 c3 c4 c5 c6 c7 c8 c9 c10 c11 c12 c13 c14 c15, v = .agg #[c0, c1, c2, c3, c4, c5, c6, c7, c8, c9, c10, c11, c12, c13, c14, c15] ∧ PLt (fun b => w.heap.size ≤ b) w2 [c0, c1, c2, c3, c4, c5, c6, c7, c8, c9, c10, c11, c12, c13, c14, c15] x) (litP e d l it) en w' := by
 by_cases hb : sgn e l = [33]
 · exact lit_not hd h hb
 cases hc : callN e l with
 | true => exact Qrx hd h hb hc
 | false => exact lit_cmp hd h hb hc
theorem Qsc {rb e dp d : Nat} (hd : dp + d = 32) : PartL PLt rb e dp (litP e d) := fun w l it hR => by
 refine (lit_any hd hR).mono ?_
 intro en w' ha
 cases hq : litP e d l it with
 | bad why at0 l2 => rw [hq] at ha; exact ha
 | ok x l2 i2 =>
  rw [hq] at ha
  obtain ⟨v, e1, ⟨c0, c1, c2, c3, c4, c5, c6, c7, c8, c9, c10, c11, c12, c13, c14, c15, e2, hL⟩, h3, h4⟩ := ha
  exact ⟨v, e1, ⟨c0, c1, c2, c3, c4, c5, c6, c7, c8, c9, c10, c11, c12, c13, c14, c15, e2, Qeq hL, hL⟩, h3, h4⟩
abbrev clZ : Obj := .cells #[.string ⟨#[]⟩, .slice none 0 0, .int .i64 0, .slice none 0 0, .int .i64 0] 80
def VCl (S : Nat → Prop) (w : World) (v : Value) (x : Cls) : Prop := ∃ aa an ac ba bn bc, v = .agg #[str x.head.rel, .slice aa an ac, .int .i64 x.head.at_, .slice ba bn bc, .int .i64 x.at_] ∧ LsAt PE 5 S w (.slice aa an ac) x.head.args ∧ LsAt PLt 16 S w (.slice ba bn bc) x.body

theorem Qmn {rb e dp d : Nat} (hd : dp + d = 32) {w : World} {l : List Tok} {it : Nat} (h : Rd rb e w l it dp) :
  Calls Tryz.prog 135 #[.pointer (some ⟨rb, 0, none⟩)] w fun en w' => Ans rb e dp w (fun w2 v x => VCl (fun b => w.heap.size ≤ b) w2 v x) (clauseP e d l it) en w' := by
 obtain ⟨w1, hw1⟩ : ∃ w1, w1 = w.alloc clZ := ⟨_, rfl⟩
 have b1 : Below w.heap.size w w1 := by rw [hw1]; exact (Below.refl _ w).alloc (Nat.le_refl _) _
 have q1 : w1.heap[w.heap.size]? = some clZ := by rw [hw1]; exact heap_alloc_new w _
 have s1 : w1.heap.size = w.heap.size + 1 := by rw [hw1]; simp
 have ha := Qbc (h.later b1) 0
 unfold tokV at ha
 have hrb := h.lt
 obtain ⟨PO, hPO⟩ : ∃ PO : Ending → World → Prop, PO = fun en w' => Ans rb e dp w (fun w2 v x => VCl (fun b => w.heap.size ≤ b) w2 v x) (clauseP e d l it) en w' := ⟨_, rfl⟩
 rw [← hPO]
 have HW1 : Hid (w1 = w.alloc (.cells #[.string ⟨#[]⟩, .slice none 0 0, .int .i64 0, .slice none 0 0, .int .i64 0] 80)) := hw1
 have HH := hide (Ya h (Ya b1 (Ya q1 s1)))
 have HPO := hide hPO
 have HD := hide hd
 obtain ⟨t, ht⟩ : ∃ t, t = ahd e 0 l := ⟨_, rfl⟩
 rw [← ht] at ha
 have hsg : Hid (clauseP e d l it = (atomP e d l it).bind fun h l2 i =>
  if sgn e l2 = [58, 45] then (listP e [44] 16 (litP e d) (l2.drop 1) i).bind fun b l3 i => (want e [46] l3 i).map fun _ => ⟨h, b, t.at_⟩
  else (want e [46] l2 i).map fun _ => ⟨h, [], t.at_⟩) := by rw [ht]; rfl
 generalize clauseP e d l it = sr at HPO hsg
 clear h b1 q1 s1 hw1 hPO ht hd
 go_enter Tryz.func135, Tryz.ntmps135
 go_wp2_with fail
 rw [← Qa HW1]
 refine ha.mono ?_
 clear ha
 rintro en w2 ⟨rfl, b2⟩
 obtain ⟨h, b1, q1, s1⟩ := Qa HH
 have hs2 := b2.size
 obtain ⟨w3, hw3⟩ : ∃ w3, w3 = w2.alloc (.cells #[.string ⟨#[]⟩, .slice none 0 0, .int .i64 0, .slice none 0 0, .int .i64 (t.at_ : Int)] 80) := ⟨_, rfl⟩
 have b3 : Below w.heap.size w w3 := by rw [hw3]; exact (b1.trans (b2.mono (by omega))).alloc (by omega) _
 have n3 : w3.heap[w2.heap.size]? = some (.cells #[.string ⟨#[]⟩, .slice none 0 0, .int .i64 0, .slice none 0 0, .int .i64 (t.at_ : Int)] 80 (0, 0)) := by rw [hw3]; exact heap_alloc_new w2 _
 have q3 : w3.heap[w.heap.size]? = some clZ := by rw [hw3, Below.heap_alloc _ _ _ (by omega)]; exact (b2.block _ (by omega)).trans q1
 have hc := Qhs (Qa HD) (h.later b3)
 have HW3 := hide hw3
 have K3 := hide (Ya (Kp.of_below (rb := rb) b3) (Ya n3 (Ya q3 (Ya (by omega : w.heap.size + 1 ≤ w2.heap.size) (Qag n3)))))
 generalize hxb : w2.heap.size = xb at K3
 clear h b1 q1 s1 hs2 b2 b3 n3 q3 hw3 HH
 go_wp2_with fail
 rename_i hK
 refine hK _ _ ?_
 clear hK
 cases hq : atomP e d l it with
 | bad why at1 l2 =>
  rw [hq] at hc hsg
  rw [Qa hsg] at HPO
  clear hq hsg
  go_wp2_with fail
  rw [← Qa HW3]
  refine hc.mono ?_
  clear hc
  rintro en w4 ⟨rfl, k4⟩
  have H4 := hide ((Qa K3).1.trans k4)
  clear k4
  go_wp2_with fail
  refine ⟨rfl, ?_⟩
  rw [Qa HPO]
  exact ⟨rfl, Qa H4⟩
 | ok am l2 i2 =>
  rw [hq] at hc hsg
  rw [Qa hsg, Rs.bind] at HPO
  clear hq hsg
  go_wp2_with fail
  rw [← Qa HW3]
  clear HW3 hxb
  refine hc.mono ?_
  clear hc
  rintro en w4 ⟨_, rfl, ⟨aa, an, ac, rfl, hL⟩, hR4, k4⟩
  obtain ⟨k3, n3, q3, g1, g2⟩ := Qa K3
  have hs4 := k4.size
  have n4 := k4.keep n3 (by omega)
  have q4 := k4.keep q3 (by omega)
  have hne : w.heap.size ≠ xb := by omega
  obtain ⟨x0, x1, x2, x3, x4, xf⟩ := cl5 n4
  obtain ⟨w5, hw5⟩ : ∃ w5, w5 = ((w4.setCell ⟨xb, 0, none⟩ (str am.rel)).setCell ⟨xb, 1, none⟩ (.slice aa an ac)).setCell ⟨xb, 2, none⟩ (.int .i64 am.at_) := ⟨_, rfl⟩
  have n5 : w5.heap[xb]? = some (.cells #[str am.rel, .slice aa an ac, .int .i64 am.at_, .slice none 0 0, .int .i64 (t.at_ : Int)] 80 (0, 0)) := by rw [hw5]; exact (Qae (Qae (Qae n4 0 _) 1 _) 2 _).trans rfl
  have hs5 : ∀ k, k ≠ xb → w5.heap[k]? = w4.heap[k]? := fun k hk => by rw [hw5, hpS hk, hpS hk, hpS hk]
  have s5 : w5.heap.size = w4.heap.size := by rw [hw5]; simp [World.setCell]
  have q5 : w5.heap[w.heap.size]? = some clZ := (hs5 _ hne).trans q4
  have k5 : Kp rb w w5 := by rw [hw5]; exact (((k3.trans k4).set2 (by omega)).set2 (by omega)).set2 (by omega)
  have hR5 : Rd rb e w5 l2 i2 dp := by rw [hw5]; exact ((hR4.set2 (by omega)).set2 (by omega)).set2 (by omega)
  have LA5 : LsAt PE 5 (fun b => w.heap.size < b ∧ b ≠ xb) w5 (.slice aa an ac) am.args := by
   refine (hL.same Qaf (by omega) (fun b hb hl => hs5 b ?_)).mono Qaf (fun b _ hb => ?_)
   · have hb' : w3.heap.size ≤ b := hb; omega
   · have hb' : w3.heap.size ≤ b := hb; exact ⟨by omega, by omega⟩
  have hsk := Qde hR5 [58, 45] (by decide)
  have HW5 := hide hw5
  have K5 := hide (Ya k5 (Ya n5 (Ya q5 (Ya g1 (Ya LA5 (Qag n5))))))
  clear hL hR4 k4 k3 n3 q3 g1 g2 hs4 n4 q4 hw5 n5 hs5 s5 q5 k5 hR5 LA5 K3 x3 x4
  by_cases hb : sgn e l2 = [58, 45]
  ·
   rw [if_pos hb, decide_eq_true hb] at hsk
   rw [if_pos hb] at HPO
   clear hb
   go_wp2_with fail
   rw [← Qa HW5]
   clear HW5 x0 x1 x2 xf
   refine hsk.mono ?_
   clear hsk
   rintro en w6 ⟨rfl, hR6, k6⟩
   have hli := Qpa PLt Qbl (Qsc (Qa HD)) (Qqt d) hR6 [44] (by decide) 16
   have K6 := hide k6
   clear hR6 k6
   cases hq : listP e [44] 16 (litP e d) (l2.drop 1) i2 with
   | bad why at1 l4 =>
    rw [hq] at hli HPO
    clear hq
    go_wp2_with fail
    refine hli.mono ?_
    clear hli
    rintro en w7 ⟨rfl, k7⟩
    have H7 := hide (((Qa K5).1.trans (Qa K6)).trans k7)
    clear k7
    go_wp2_with fail
    refine ⟨rfl, ?_⟩
    rw [Qa HPO]
    exact ⟨rfl, Qa H7⟩
   | ok ks lw iw =>
    rw [hq] at hli
    rw [hq, Rs.bind] at HPO
    clear hq
    go_wp2_with fail
    refine hli.mono ?_
    clear hli
    rintro en w7 ⟨_, rfl, hL, hR7, k7'⟩
    obtain ⟨ka, kc, _, ev, _⟩ := id hL
    subst ev
    obtain ⟨k5, n5, q5, g1, LA5, g2⟩ := Qa K5
    have hs6 := (Qa K6).size
    have k7 := (Qa K6).trans k7'
    have n7 := k7.keep n5 (by omega)
    have q7 := k7.keep q5 (by omega)
    have LA7 := LA5.same Qaf k7.size (fun b hb hl => k7.block b hl (by have hb' : w.heap.size < b ∧ b ≠ xb := hb; omega))
    obtain ⟨x0, x1, x2, x3, x4, xf⟩ := cl5 n7
    obtain ⟨w8, hw8⟩ : ∃ w8, w8 = w7.setCell ⟨xb, 3, none⟩ (.slice ka ks.length kc) := ⟨_, rfl⟩
    have nW : w8.heap[xb]? = some (.cells #[str am.rel, .slice aa an ac, .int .i64 am.at_, .slice ka ks.length kc, .int .i64 (t.at_ : Int)] 80 (0, 0)) := by rw [hw8]; exact (Qae n7 3 _).trans rfl
    have hs8 : ∀ k, k ≠ xb → w8.heap[k]? = w7.heap[k]? := fun k hk => by rw [hw8, hpS hk]
    have s8 : w8.heap.size = w7.heap.size := by rw [hw8]; simp [World.setCell]
    have qW : w8.heap[w.heap.size]? = some clZ := (hs8 _ hne).trans q7
    have kW : Kp rb w w8 := by rw [hw8]; exact (k5.trans k7).set2 (by omega)
    have hRW : Rd rb e w8 lw iw dp := by rw [hw8]; exact hR7.set2 (by omega)
    have LA : LsAt PE 5 (fun b => w.heap.size < b ∧ b ≠ xb) w8 (.slice aa an ac) am.args := LA7.same Qaf (by omega) (fun b hb _ => hs8 b (by have hb' : w.heap.size < b ∧ b ≠ xb := hb; exact hb'.2))
    have LB : LsAt PLt 16 (fun b => w.heap.size < b ∧ b ≠ xb) w8 (.slice ka ks.length kc) ks := by
     refine (hL.same Qbl (by omega) (fun b hb hl => hs8 b ?_)).mono Qbl (fun b _ hb => ?_)
     · have hb' : w6.heap.size ≤ b := hb; omega
     · have hb' : w6.heap.size ≤ b := hb; exact ⟨by omega, by omega⟩
    have HW8 := hide hw8
    clear hL hR7 k7' k5 n5 q5 LA5 hs6 k7 n7 q7 LA7 hw8 hs8 s8 x0 x1 x2 x4 K5
    have hwt := Qfe hRW [46] (by decide)
    have KW := hide (Ya kW (Ya nW (Ya qW (Ya LA LB))))
    clear kW nW qW LA LB hRW
    cases hq : want e [46] lw iw with
    | bad why at1 l9 =>
     rw [hq] at hwt HPO
     clear hq
     go_wp2_with fail
     rw [← Qa HW8]; clear HW8 x3 xf
     refine hwt.mono ?_
     clear hwt
     rintro en w9 ⟨rfl, k9⟩
     have H9 := hide ((Qa KW).1.trans k9)
     clear k9
     go_wp2_with fail
     refine ⟨rfl, ?_⟩
     rw [Qa HPO]
     exact ⟨rfl, Qa H9⟩
    | ok u l9 i9 =>
     rw [hq] at hwt HPO
     clear hq
     go_wp2_with fail
     rw [← Qa HW8]; clear HW8 x3 xf
     refine hwt.mono ?_
     clear hwt
     rintro en w9 ⟨_, rfl, rfl, hR9, k9⟩
     obtain ⟨kW, nW, qW, LA, LB⟩ := Qa KW
     have n9 := k9.keep nW (by omega)
     have q9 := k9.keep qW (by omega)
     have k09 := kW.trans k9
     have LA9 := LA.same Qaf k9.size (fun b hb hl => k9.block b hl (by have hb' : w.heap.size < b ∧ b ≠ xb := hb; omega))
     have LB9 := LB.same Qbl k9.size (fun b hb hl => k9.block b hl (by have hb' : w.heap.size < b ∧ b ≠ xb := hb; omega))
     obtain ⟨z0, z1, z2, z3, z4, zf⟩ := cl5 n9
     obtain ⟨y0, y1, y2, y3, y4, yf⟩ := cl5 q9
     have HF : Hid (∀ q0 q1 q2 q3 q4, VCl (fun b => w.heap.size ≤ b) (((((w9.setCell ⟨w.heap.size, 0, none⟩ q0).setCell ⟨w.heap.size, 1, none⟩ q1).setCell ⟨w.heap.size, 2, none⟩ q2).setCell ⟨w.heap.size, 3, none⟩ q3).setCell ⟨w.heap.size, 4, none⟩ q4) (.agg #[str am.rel, .slice aa an ac, .int .i64 am.at_, .slice ka ks.length kc, .int .i64 (t.at_ : Int)]) ⟨am, ks, t.at_⟩ ∧ Rd rb e (((((w9.setCell ⟨w.heap.size, 0, none⟩ q0).setCell ⟨w.heap.size, 1, none⟩ q1).setCell ⟨w.heap.size, 2, none⟩ q2).setCell ⟨w.heap.size, 3, none⟩ q3).setCell ⟨w.heap.size, 4, none⟩ q4) l9 i9 dp ∧ Kp rb w (((((w9.setCell ⟨w.heap.size, 0, none⟩ q0).setCell ⟨w.heap.size, 1, none⟩ q1).setCell ⟨w.heap.size, 2, none⟩ q2).setCell ⟨w.heap.size, 3, none⟩ q3).setCell ⟨w.heap.size, 4, none⟩ q4)) := fun q0 q1 q2 q3 q4 => by
      have hsame : ∀ b, b ≠ w.heap.size → (((((w9.setCell ⟨w.heap.size, 0, none⟩ q0).setCell ⟨w.heap.size, 1, none⟩ q1).setCell ⟨w.heap.size, 2, none⟩ q2).setCell ⟨w.heap.size, 3, none⟩ q3).setCell ⟨w.heap.size, 4, none⟩ q4).heap[b]? = w9.heap[b]? := fun b hb => by
       rw [hpS hb, hpS hb, hpS hb, hpS hb, hpS hb]
      refine ⟨⟨_, _, _, _, _, _, rfl, (LA9.same Qaf (by simp [World.setCell]) (fun b hb _ => hsame b ?_)).mono Qaf (fun b _ hb => ?_), (LB9.same Qbl (by simp [World.setCell]) (fun b hb _ => hsame b ?_)).mono Qbl (fun b _ hb => ?_)⟩, ((((hR9.set2 (by omega)).set2 (by omega)).set2 (by omega)).set2 (by omega)).set2 (by omega), ((((k09.set2 (by omega)).set2 (by omega)).set2 (by omega)).set2 (by omega)).set2 (by omega)⟩
      all_goals
       have hb' : w.heap.size < b ∧ b ≠ xb := hb
       omega
     clear hR9 k9 kW nW qW LA LB n9 q9 k09 LA9 LB9 zf KW hne
     go_wp2_with fail
     refine bodyPost_ret (v := .agg #[str am.rel, .slice aa an ac, .int .i64 am.at_, .slice ka ks.length kc, .int .i64 t.at_]) (by simp [results, Tryz.results135, go_sem, y0, y1, y2, y3, y4]) rfl ?_
     rw [Qa HPO]
     exact ⟨_, rfl, Qa HF _ _ _ _ _⟩
  rw [if_neg hb, decide_eq_false hb] at hsk
  rw [if_neg hb] at HPO
  clear hb
  go_wp2_with fail
  rw [← Qa HW5]
  clear HW5 x0 x1 x2 xf
  refine hsk.mono ?_
  clear hsk
  rintro en w6 ⟨rfl, hRW, k6⟩
  obtain ⟨k5, n5, q5, g1, LA5, g2⟩ := Qa K5
  have nW := k6.keep n5 (by omega)
  have qW := k6.keep q5 (by omega)
  have kW := k5.trans k6
  have LA := LA5.same Qaf k6.size (fun b hb hl => k6.block b hl (by have hb' : w.heap.size < b ∧ b ≠ xb := hb; omega))
  have LB : LsAt PLt 16 (fun b => w.heap.size < b ∧ b ≠ xb) w6 (.slice none 0 0) [] := LsAt.nil _ _
  generalize hlw : l2 = lw at hRW HPO
  generalize hiw : i2 = iw at hRW HPO
  clear hlw hiw k6 k5 n5 q5 LA5 K5
  have hwt := Qfe hRW [46] (by decide)
  have KW := hide (Ya kW (Ya nW (Ya qW (Ya LA LB))))
  clear kW nW qW LA LB hRW
  cases hq : want e [46] lw iw with
  | bad why at1 l9 =>
   rw [hq] at hwt HPO
   clear hq
   go_wp2_with fail
   refine hwt.mono ?_
   clear hwt
   rintro en w9 ⟨rfl, k9⟩
   have H9 := hide ((Qa KW).1.trans k9)
   clear k9
   go_wp2_with fail
   refine ⟨rfl, ?_⟩
   rw [Qa HPO]
   exact ⟨rfl, Qa H9⟩
  | ok u l9 i9 =>
   rw [hq] at hwt HPO
   clear hq
   go_wp2_with fail
   refine hwt.mono ?_
   clear hwt
   rintro en w9 ⟨_, rfl, rfl, hR9, k9⟩
   obtain ⟨kW, nW, qW, LA, LB⟩ := Qa KW
   have n9 := k9.keep nW (by omega)
   have q9 := k9.keep qW (by omega)
   have k09 := kW.trans k9
   have LA9 := LA.same Qaf k9.size (fun b hb hl => k9.block b hl (by have hb' : w.heap.size < b ∧ b ≠ xb := hb; omega))
   have LB9 := LB.same Qbl k9.size (fun b hb hl => k9.block b hl (by have hb' : w.heap.size < b ∧ b ≠ xb := hb; omega))
   obtain ⟨z0, z1, z2, z3, z4, zf⟩ := cl5 n9
   obtain ⟨y0, y1, y2, y3, y4, yf⟩ := cl5 q9
   have HF : Hid (∀ q0 q1 q2 q3 q4, VCl (fun b => w.heap.size ≤ b) (((((w9.setCell ⟨w.heap.size, 0, none⟩ q0).setCell ⟨w.heap.size, 1, none⟩ q1).setCell ⟨w.heap.size, 2, none⟩ q2).setCell ⟨w.heap.size, 3, none⟩ q3).setCell ⟨w.heap.size, 4, none⟩ q4) (.agg #[str am.rel, .slice aa an ac, .int .i64 am.at_, .slice none 0 0, .int .i64 (t.at_ : Int)]) ⟨am, [], t.at_⟩ ∧ Rd rb e (((((w9.setCell ⟨w.heap.size, 0, none⟩ q0).setCell ⟨w.heap.size, 1, none⟩ q1).setCell ⟨w.heap.size, 2, none⟩ q2).setCell ⟨w.heap.size, 3, none⟩ q3).setCell ⟨w.heap.size, 4, none⟩ q4) l9 i9 dp ∧ Kp rb w (((((w9.setCell ⟨w.heap.size, 0, none⟩ q0).setCell ⟨w.heap.size, 1, none⟩ q1).setCell ⟨w.heap.size, 2, none⟩ q2).setCell ⟨w.heap.size, 3, none⟩ q3).setCell ⟨w.heap.size, 4, none⟩ q4)) := fun q0 q1 q2 q3 q4 => by
    have hsame : ∀ b, b ≠ w.heap.size → (((((w9.setCell ⟨w.heap.size, 0, none⟩ q0).setCell ⟨w.heap.size, 1, none⟩ q1).setCell ⟨w.heap.size, 2, none⟩ q2).setCell ⟨w.heap.size, 3, none⟩ q3).setCell ⟨w.heap.size, 4, none⟩ q4).heap[b]? = w9.heap[b]? := fun b hb => by
     rw [hpS hb, hpS hb, hpS hb, hpS hb, hpS hb]
    refine ⟨⟨_, _, _, _, _, _, rfl, (LA9.same Qaf (by simp [World.setCell]) (fun b hb _ => hsame b ?_)).mono Qaf (fun b _ hb => ?_), (LB9.same Qbl (by simp [World.setCell]) (fun b hb _ => hsame b ?_)).mono Qbl (fun b _ hb => ?_)⟩, ((((hR9.set2 (by omega)).set2 (by omega)).set2 (by omega)).set2 (by omega)).set2 (by omega), ((((k09.set2 (by omega)).set2 (by omega)).set2 (by omega)).set2 (by omega)).set2 (by omega)⟩
    all_goals
     have hb' : w.heap.size < b ∧ b ≠ xb := hb
     omega
   clear hR9 k9 kW nW qW LA LB n9 q9 k09 LA9 LB9 zf KW hne
   go_wp2_with fail
   refine bodyPost_ret (v := .agg #[str am.rel, .slice aa an ac, .int .i64 am.at_, .slice none 0 0, .int .i64 t.at_]) (by simp [results, Tryz.results135, go_sem, y0, y1, y2, y3, y4]) rfl ?_
   rw [Qa HPO]
   exact ⟨_, rfl, Qa HF _ _ _ _ _⟩
end
section
open Go.RowKit
section
variable {P : Program} {ops : Array Oper} {md : Region.Mode} {Q : Exit → Act → World → Prop} {C : Bool → World → Prop} {m : Nat}

def lenT : List (Nat × Nat) → Nat
 | [] => 0
 | (_, _ + 3) :: r => lenT r + 2
 | _ :: r => lenT r + 1
def orderT (md : Region.Mode) (ops : Array Oper) (m : Nat) : List (Nat × Nat) → Array Bool → Bool
 | [], listed => (Region.ready md ops listed).isEmpty && listed.getD m true
 | (k, 0) :: r, listed => decide (Region.ready md ops listed = [k]) && orderT md ops m r (listed.setIfInBounds k true)
 | (k, 1) :: r, listed => ((Region.ready md ops listed).contains k && Region.free md ops listed k && decide (m ≠ k)) && orderT md ops m r (listed.setIfInBounds k true)
 | (k, 2) :: r, listed => ((Region.ready md ops listed).contains k && Region.free md ops listed k && decide (m ≠ k) && !(listed.getD m true) && depB md ops m k) && orderT md ops m r (listed.setIfInBounds k true)
 | (k, n + 3) :: r, listed => (decide (Region.ready md ops listed = [k, n]) && decide (k ≠ n) && decide (Region.ready md ops (listed.setIfInBounds k true) = [n]) && decide (Region.ready md ops (listed.setIfInBounds n true) = [k])) && orderT md ops m r ((listed.setIfInBounds k true).setIfInBounds n true)
def wpMixT (P : Program) (ops : Array Oper) (m : Nat) (C : Bool → World → Prop) (Q : Exit → Act → World → Prop) : Bool → List (Nat × Nat) → Act → World → Prop
 | _, [], a, w => C true w ∧ Q .normal a w
 | f, (k, 0) :: r, a, w => C f w ∧ wpOp P ops Q k (fun a' w' => wpMixT P ops m C Q (f || k == m) r a' w') a w
 | f, (k, 1) :: r, a, w => ∃ o v, ops[k]? = some o ∧ (∀ f w, C f w → YieldsAt P ops w o v a) ∧ wpMixT P ops m C Q f r (a.put o.dst v) w
 | f, (k, 2) :: r, a, w => ∃ o v, ops[k]? = some o ∧ (∀ w, C false w → YieldsAt P ops w o v a) ∧ wpMixT P ops m C Q f r (a.put o.dst v) w
 | f, (k, n + 3) :: r, a, w => C f w ∧ wpOp P ops Q k (fun a' w' => C (f || k == m) w' ∧ wpOp P ops Q n (fun a2 w2 => wpMixT P ops m C Q (f || k == m || n == m) r a2 w2) a' w') a w ∧
   wpOp P ops Q n (fun a' w' => C (f || n == m) w' ∧ wpOp P ops Q k (fun a2 w2 => wpMixT P ops m C Q (f || k == m || n == m) r a2 w2) a' w') a w
theorem Qcn (hsel : Region.noSelect ops = true) (hL : ¬ LetsOut Q) (hQ : ∀ c (a : Act) d v w, Q (.panic c) (a.put d v) w → Q (.panic c) a w) : ∀ (l : List (Nat × Nat)) (f : Bool) (listed : Array Bool) (a : Act) (w : World), listed.getD m true = f → orderT md ops m l listed = true → wpMixT P ops m C Q f l a w → wpAnyF P md ops m C Q (lenT l) listed a w
 | [], f, listed, a, w, hf, hB, h => by
  simp only [orderT, Bool.and_eq_true] at hB
  exact ⟨by rw [hB.2]; exact h.1, by simpa using hB.1, h.2⟩
 | (k, 0) :: r, f, listed, a, w, hf, hB, h => by
  simp only [orderT, Bool.and_eq_true, decide_eq_true_eq] at hB
  refine ⟨by rw [hf]; exact h.1, fun e => (by rw [hB.1] at e; cases e), fun i hi => ?_⟩
  have hi' := hi
  rw [hB.1] at hi
  have e : i = k := by simpa using hi
  subst e
  exact wpOp_mono (fun a' w' h' => Qcn hsel hL hQ r _ _ a' w' (by rw [Qcr (Qcs hi'), hf]) hB.2 h') h.2
 | (k, 1) :: r, f, listed, a, w, hf, hB, h => by
  simp only [orderT, Bool.and_eq_true, decide_eq_true_eq] at hB
  obtain ⟨⟨⟨hr, hfr⟩, hne⟩, hB'⟩ := hB
  obtain ⟨o, v, ho, hy, h'⟩ := h
  have hr' : k ∈ Region.ready md ops listed := by simpa using hr
  refine Qdh (D := fun w => ∃ f, C f w) (G := fun _ => True) ho hne (Region.noSelect_spec hsel) hL hQ (fun _ _ _ h => ⟨_, h⟩) (fun _ _ _ _ _ _ => trivial) (lenT r) listed a w trivial (Region.free_spec ho hfr) hr' (fun w ⟨f, hc⟩ => hy f w hc) (Qcn hsel hL hQ r f _ _ _ ?_ hB' h')
  rw [Qcr (Qcs hr'), hf]
  simp [Ne.symm hne]
 | (k, 2) :: r, f, listed, a, w, hf, hB, h => by
  simp only [orderT, Bool.and_eq_true, decide_eq_true_eq, Bool.not_eq_true'] at hB
  obtain ⟨⟨⟨⟨⟨hr, hfr⟩, hne⟩, hun⟩, hdep⟩, hB'⟩ := hB
  obtain ⟨o, v, ho, hy, h'⟩ := h
  have hr' : k ∈ Region.ready md ops listed := by simpa using hr
  refine Qdh (D := C false) (G := fun l => l.getD m true = false) ho hne (Region.noSelect_spec hsel) hL hQ (fun l w hg h => hg ▸ h) (fun l j hg hk hjk hj => ?_) (lenT r) listed a w hun (Region.free_spec ho hfr) hr' hy (Qcn hsel hL hQ r f _ _ _ ?_ hB' h')
  ·
   have hjm : j ≠ m := fun e => by
    subst e
    obtain ⟨_, oj, hoj, hall⟩ := mem_ready.1 hj
    unfold depB at hdep
    rw [hoj] at hdep
    obtain ⟨e, he, hb⟩ := Array.any_eq_true'.1 hdep
    simp only [Bool.and_eq_true, beq_iff_eq] at hb
    have := hall e he hb.1
    rw [hb.2, getD_both hk] at this
    cases this
   rw [getD_set_ne true hjm]
   exact hg
  rw [Qcr (Qcs hr'), hf]
  simp [Ne.symm hne]
 | (k, n + 3) :: r, f, listed, a, w, hf, hB, h => by
  simp only [orderT, Bool.and_eq_true, decide_eq_true_eq] at hB
  obtain ⟨⟨⟨⟨hr, hne⟩, hrk⟩, hrn⟩, hB'⟩ := hB
  obtain ⟨hC, h1, h2⟩ := h
  have hk : k ∈ Region.ready md ops listed := by rw [hr]; simp
  have hn : n ∈ Region.ready md ops listed := by rw [hr]; simp
  have hn' : n ∈ Region.ready md ops (listed.setIfInBounds k true) := by rw [hrk]; simp
  have hk' : k ∈ Region.ready md ops (listed.setIfInBounds n true) := by rw [hrn]; simp
  have fk : (listed.setIfInBounds k true).getD m true = (f || k == m) := by rw [Qcr (Qcs hk), hf]
  have fn : (listed.setIfInBounds n true).getD m true = (f || n == m) := by rw [Qcr (Qcs hn), hf]
  have fkn : ((listed.setIfInBounds k true).setIfInBounds n true).getD m true = (f || k == m || n == m) := by rw [Qcr (Qcs hn'), fk]
  refine ⟨by rw [hf]; exact hC, fun e => (by rw [hr] at e; cases e), fun i hi => ?_⟩
  rw [hr] at hi
  simp only [List.mem_cons, List.not_mem_nil, or_false] at hi
  rcases hi with rfl | rfl
  ·
   refine wpOp_mono (fun a' w' h' => ?_) h1
   refine ⟨by rw [fk]; exact h'.1, fun e => (by rw [hrk] at e; cases e), fun j hj => ?_⟩
   rw [hrk] at hj
   have e : j = n := by simpa using hj
   subst e
   exact wpOp_mono (fun a2 w2 h2 => Qcn hsel hL hQ r _ _ a2 w2 fkn hB' h2) h'.2
  refine wpOp_mono (fun a' w' h' => ?_) h2
  refine ⟨by rw [fn]; exact h'.1, fun e => (by rw [hrn] at e; cases e), fun j hj => ?_⟩
  rw [hrn] at hj
  have e : j = k := by simpa using hj
  subst e
  exact wpOp_mono (fun a2 w2 h2 => Qcn hsel hL hQ r _ _ a2 w2 (by rw [Array.setIfInBounds_comm _ _ (Ne.symm hne)]; exact fkn) (by rw [Array.setIfInBounds_comm _ _ (Ne.symm hne)]; exact hB') h2) h'.2
theorem Qcd {f : Bool} {k : Nat} {o : Oper} {v : Value} {r : List (Nat × Nat)} {a : Act} {w : World} (ho : ops[k]? = some o) (hw : Region.wanted o (yielded ops a.tmps) = true) (hy : ∀ f w', C f w' → (execOp a.eval o).run P w' = .ok (.value v) w')
  (h : wpMixT P ops m C Q f r (a.put o.dst v) w) : wpMixT P ops m C Q f ((k, 1) :: r) a w := ⟨o, v, ho, fun f w' hc => .inl ⟨hw, .inl (hy f w' hc)⟩, h⟩
theorem Qdi {f : Bool} {k : Nat} {o : Oper} {r : List (Nat × Nat)} {a : Act} {w : World} (ho : ops[k]? = some o) (hC : C f w) (h : ∀ K' : Act → World → Prop, (∀ a w, wpMixT P ops m C Q (f || k == m) r a w → K' a w) → if Region.wanted o (yielded ops a.tmps) = true then Oper.wp P o a w K' Q else K' (a.put o.dst undef) w) : wpMixT P ops m C Q f ((k, 0) :: r) a w := ⟨hC, wpOp_step ho h⟩
theorem Qnk {f : Bool} {k n : Nat} {o p : Oper} {r : List (Nat × Nat)} {a : Act} {w : World} (ho : ops[k]? = some o) (hp : ops[n]? = some p) (hC : C f w)
  (h1 : ∀ K' : Act → World → Prop, (∀ a w, C (f || k == m) w → (∀ K2 : Act → World → Prop, (∀ a w, wpMixT P ops m C Q (f || k == m || n == m) r a w → K2 a w) → if Region.wanted p (yielded ops a.tmps) = true then Oper.wp P p a w K2 Q else K2 (a.put p.dst undef) w) → K' a w) → if Region.wanted o (yielded ops a.tmps) = true then Oper.wp P o a w K' Q else K' (a.put o.dst undef) w)
  (h2 : ∀ K' : Act → World → Prop, (∀ a w, C (f || n == m) w → (∀ K2 : Act → World → Prop, (∀ a w, wpMixT P ops m C Q (f || k == m || n == m) r a w → K2 a w) → if Region.wanted o (yielded ops a.tmps) = true then Oper.wp P o a w K2 Q else K2 (a.put o.dst undef) w) → K' a w) → if Region.wanted p (yielded ops a.tmps) = true then Oper.wp P p a w K' Q else K' (a.put p.dst undef) w) :
  wpMixT P ops m C Q f ((k, n + 3) :: r) a w :=
 ⟨hC, wpOp_step ho (fun K' hK => h1 K' (fun a w hc h => hK a w ⟨hc, wpOp_step hp h⟩)), wpOp_step hp (fun K' hK => h2 K' (fun a w hc h => hK a w ⟨hc, wpOp_step ho h⟩))⟩
theorem Qhq {f : Bool} {a : Act} {w : World} (hC : C true w) (h : Q .normal a w) : wpMixT P ops m C Q f [] a w := ⟨hC, h⟩
end
theorem Qks {P : Program} {Q : Exit → Act → World → Prop} {id m : Nat} {a : Act} {w : World} {ops : Array Oper} {ml : List (Nat × Nat)} (C : Bool → World → Prop) (hm : P.follows .mixedOrders = true) (hsel : Region.noSelect ops = true) (hlen : lenT ml = ops.size) (hm2 : (Array.replicate ops.size false).getD m true = false) (hB : orderT .any ops m ml (Array.replicate ops.size false) = true)
  (hpan : ∀ c (a : Act) d v w, Q (.panic c) (a.put d v) w → Q (.panic c) a w)
  (h : ∀ (PP : Act → World → Prop) (PQ : List PanicEntry → Act → World → Prop), (∀ a' w', Q .normal a' w' → PP a' w') → (∀ c a' w', Q (.panic c) a' w' → PQ c a' w') → wpMixT P ops m C (onlyP PP PQ) false ml a w.drew) : (Code.region id ops true).wp P Q a w := by
 have hL : ¬ LetsOut (onlyP (Q .normal) (fun c => Q (.panic c))) := by rintro ⟨_, _, h⟩; exact h
 have h1 := Qel _ _ _ _ (Qcn (md := .any) hsel hL (fun c a d v w h => hpan c a d v w h) ml false _ a _ hm2 hB (h (Q .normal) (fun c => Q (.panic c)) (fun _ _ h => h) (fun _ _ _ h => h)))
 rw [hlen] at h1
 refine wp_mono (Q := onlyP (Q .normal) (fun c => Q (.panic c))) (wp_region_any hm h1) ?_
 intro e a w h
 cases e
 case normal => exact h
 case panic c => exact h
 all_goals exact h.elim
end
section
open Go.RowKit Go.Maps
def ItA (rb e dp pb base : Nat) (wr : World) (r : Rs Pg) (en : Ending) (w' : World) : Prop := match r with
 | .bad why at_ _ => en = .panicked [{ v := stopV why at_, recovered := false }] ∧ KB rb pb base wr w'
 | .ok p' l' i' => en = .returned (.tuple #[]) ∧ (∃ u0 u1 u2 u3 u4, P5 pb base w' u0 u1 u2 u3 u4 p') ∧ Rd rb e w' l' i' dp ∧ KB rb pb base wr w'
theorem mixedO : Tryz.prog.follows .mixedOrders = true := by kernel_rfl
theorem Rd.more {rb e : Nat} {w : World} {l : List Tok} {it dp : Nat} (h : Rd rb e w l it dp) : Rd rb e (w.setCell ⟨rb, 2, none⟩ (.int .i64 ((it : Int) + 1))) l (it + 1) dp := by
 obtain ⟨v, hbx, hT⟩ := h.box
 exact ⟨⟨v, by have := Qae hbx 2 (.int .i64 ((it : Int) + 1)); exact this.trans (by rw [Int.natCast_add]; rfl), hT.kp (Kp.set rb w 2 _)⟩, h.num, h.len, h.end_⟩
end
section
open Go.RowKit Go.Maps

end
section
open Go.RowKit Go.Maps

end
section
open Go.RowKit Go.Maps

end
section
open Go.RowKit Go.Maps
theorem Qjc {rb e dp pb base : Nat} {d : Nat} (hd : dp + d = 32) {C : Pr Cp} {wr : World} {l : List Tok} {it : Nat} {v0 v1 v2 v3 v4 : Value} {p : Pg} (h : Rd rb e wr l it dp) (h5 : P5 pb base wr v0 v1 v2 v3 v4 p) (hb : base ≤ wr.heap.size) (hrp : rb < pb) (hf : p.clauses.length ≤ 65536) (hi : it < 96) (hs0 : ¬ sgn e l = [46, 116, 121, 112, 101]) (hs1 : ¬ sgn e l = [46, 100, 101, 99, 108]) (hs2 : ¬ sgn e l = [46, 99, 111, 109, 112]) (hs3 : ¬ sgn e l = [46, 105, 110, 105, 116]) :
  Calls Tryz.prog 105 #[.pointer (some ⟨rb, 0, none⟩), .pointer (some ⟨pb, 0, none⟩)] wr fun en w' => ItA rb e dp pb base wr (itemP e d C p l it) en w' := by
 obtain ⟨a, cap, _, _, hcell, _, cf⟩ := h.cells
 have h96 : ¬ it = 96 := by omega
 have hz : ((it : Int) == 96) = false := by simp; omega
 obtain ⟨w1, hw1⟩ : ∃ w1, w1 = wr.setCell ⟨rb, 2, none⟩ (.int .i64 ((it : Int) + 1)) := ⟨_, rfl⟩
 have hR1 : Rd rb e w1 l (it + 1) dp := by rw [hw1]; exact h.more
 have k1 : Kp rb wr w1 := by rw [hw1]; exact Kp.set rb wr 2 _
 obtain ⟨a0, c0, rfl⟩ := h5.r0.slice
 obtain ⟨a1, c1, rfl⟩ := h5.r1.slice
 obtain ⟨a2, c2, rfl⟩ := h5.r2.slice
 obtain ⟨a3, c3, rfl⟩ := h5.r3.slice
 obtain ⟨a4, c4, rfl⟩ := h5.r4.slice
 have hg := Qge hR1
 have HC : Hid (∀ v, Below w1.heap.size w1 v → Calls Tryz.prog 135 #[.pointer (some ⟨rb, 0, none⟩)] v fun en w' => Ans rb e dp v (fun w2 v2 x => VCl (fun b => v.heap.size ≤ b) w2 v2 x) (clauseP e d l (it + 1)) en w') := fun v hv => Qmn hd (hR1.later hv)
 have E : itemP e d C p l it = (clauseP e d l (it + 1)).map fun x => .mk p.types p.decls p.comps p.inits (p.clauses ++ [x]) := by
  unfold itemP
  rw [if_neg h96, if_neg hs0, if_neg hs1, if_neg hs2, if_neg hs3]
 have g0 : (sgn e l == [46, 116, 121, 112, 101]) = false := by simpa using hs0
 have g1 : (sgn e l == [46, 100, 101, 99, 108]) = false := by simpa using hs1
 have g2 : (sgn e l == [46, 99, 111, 109, 112]) = false := by simpa using hs2
 have g3 : (sgn e l == [46, 105, 110, 105, 116]) = false := by simpa using hs3
 generalize sgn e l = sg at hg g0 g1 g2 g3
 clear hs0 hs1 hs2 hs3 hd
 obtain ⟨PO, hPO⟩ : ∃ PO : Ending → World → Prop, PO = fun en w' => ItA rb e dp pb base wr (itemP e d C p l it) en w' := ⟨_, rfl⟩
 rw [← hPO]
 rw [E] at hPO
 have HPO := hide hPO
 have hpl := h5.lt
 have hlb := Qag h5.box
 generalize hn0 : p.types.length = n0 at h5
 generalize hn1 : p.decls.length = n1 at h5
 generalize hn2 : p.comps.length = n2 at h5
 generalize hn3 : p.inits.length = n3 at h5
 generalize hn4 : p.clauses.length = n4 at h5
 have H1 := hide (Ya h5 (Ya k1 (Ya hb (Ya hf hn4))))
 have HW1 := hide hw1
 clear h hR1 k1 hw1 E hPO h5 h96 hb hf hn0 hn1 hn2 hn3 hn4
 go_enter Tryz.func105, Tryz.ntmps105
 go_wp2_with fail
 rw [← Qa HW1]
 clear HW1 hcell cf hz hi
 refine hg.mono ?_
 clear hg
 rintro en w2 ⟨rfl, b2⟩
 have k2 : Kp rb wr w2.drew := ((Qa H1).2.1.trans (Kp.of_below b2)).trans (Kp.of_below ((Below.refl _ w2).drew))
 have h52 := (Qa H1).1.kp k2 hrp
 have hcl := Qa HC w2.drew b2.drew
 have H2 := hide (Ya k2 (Ya h52.box h52))
 clear b2 k2 h52 HC
 cases hq : clauseP e d l (it + 1) with
 | bad why at1 l4 =>
  rw [hq] at hcl HPO
  clear hq
  go_wp2_with fail
  refine Qcc (m := 11) (ml := [(0, 1), (1, 1), (2, 1), (3, 1), (4, 2), (5, 1), (6, 0), (7, 0), (8, 0), (9, 1), (10, 1), (11, 0)]) (fun f w' => f = false → w'.heap[pb]? = some (.cells #[.slice a0 n0 c0, .slice a1 n1 c1, .slice a2 n2 c2, .slice a3 n3 c3, .slice a4 n4 c4] 28 (0, 0))) mixedO (by kernel_rfl) rfl (by rfl) (by kernel_rfl) (fun c a d v w h => by cases d <;> exact h) (fun PP PQ hPP hPQ => ?_)
  refine Qac rfl (by kernel_rfl) (fun _ _ _ => by go_simp <;> rfl) ?_
  refine Qac rfl (by kernel_rfl) (fun _ _ _ => by go_simp <;> rfl) ?_
  refine Qac rfl (by kernel_rfl) (fun _ _ _ => by go_simp <;> rfl) ?_
  refine Qac rfl (by kernel_rfl) (fun _ _ _ => by go_simp <;> rfl) ?_
  refine Qaz (v := ?_) rfl (by kernel_rfl) (fun w' hw => ?_) ?_
  rotate_left
  · (obtain ⟨z0, z1, z2, z3, z4, zf⟩ := cl5 (hw rfl); go_simp <;> rfl)
  refine Qac rfl (by kernel_rfl) (fun _ _ _ => by go_simp <;> rfl) ?_
  refine Qab rfl (fun _ => (Qa H2).2.1) (fun K hK => ?_)
  go_simp
  refine hcl.mono ?_
  clear hcl
  rintro en w3 ⟨rfl, k3⟩
  have H3 := hide ((Qa H2).1.trans k3)
  clear k3
  go_wp2_with fail
  show PQ _ _ _
  refine hPQ _ _ _ ⟨rfl, ?_⟩
  rw [Qa HPO]
  exact ⟨rfl, KB.of_kp (Qa H3) (Qa H1).2.2.1⟩
 | ok x l4 i4 =>
  rw [hq] at hcl HPO
  clear hq
  go_wp2_with fail
  refine Qcc (m := 11) (ml := [(0, 1), (1, 1), (2, 1), (3, 1), (4, 2), (5, 1), (6, 0), (7, 0), (8, 0), (9, 1), (10, 1), (11, 0)]) (fun f w' => f = false → w'.heap[pb]? = some (.cells #[.slice a0 n0 c0, .slice a1 n1 c1, .slice a2 n2 c2, .slice a3 n3 c3, .slice a4 n4 c4] 28 (0, 0))) mixedO (by kernel_rfl) rfl (by rfl) (by kernel_rfl) (fun c a d v w h => by cases d <;> exact h) (fun PP PQ hPP hPQ => ?_)
  refine Qac rfl (by kernel_rfl) (fun _ _ _ => by go_simp <;> rfl) ?_
  refine Qac rfl (by kernel_rfl) (fun _ _ _ => by go_simp <;> rfl) ?_
  refine Qac rfl (by kernel_rfl) (fun _ _ _ => by go_simp <;> rfl) ?_
  refine Qac rfl (by kernel_rfl) (fun _ _ _ => by go_simp <;> rfl) ?_
  refine Qaz (v := ?_) rfl (by kernel_rfl) (fun w' hw => ?_) ?_
  rotate_left
  · (obtain ⟨z0, z1, z2, z3, z4, zf⟩ := cl5 (hw rfl); go_simp <;> rfl)
  refine Qac rfl (by kernel_rfl) (fun _ _ _ => by go_simp <;> rfl) ?_
  refine Qab rfl (fun _ => (Qa H2).2.1) (fun K hK => ?_)
  go_simp
  refine hcl.mono ?_
  clear hcl
  rintro en w3 ⟨_, rfl, ⟨aa, an, ac, ba, bn, bc, rfl, hX⟩, hR3, k3⟩
  obtain ⟨w4, hw4⟩ : ∃ w4, w4 = w3.alloc (.cells #[str x.head.rel, .slice aa an ac, .int .i64 x.head.at_, .slice ba bn bc, .int .i64 x.at_] 80) := ⟨_, rfl⟩
  have b4 : Below w3.heap.size w3 w4 := by rw [hw4]; exact (Below.refl _ w3).alloc (Nat.le_refl _) _
  have z4 : w4.heap[w3.heap.size]? = some (.cells #[str x.head.rel, .slice aa an ac, .int .i64 x.head.at_, .slice ba bn bc, .int .i64 x.at_] 80 (0, 0)) := by rw [hw4]; exact heap_alloc_new w3 _
  have k34 : Kp rb w2.drew w4 := k3.trans (Kp.of_below b4)
  have hbx3 := k3.keep (Qa H2).2.1 (by omega)
  have hbx4 := (b4.block _ (Qag hbx3)).trans hbx3
  have hb2 : base ≤ w2.drew.heap.size := by have := (Qa H1).2.2.1; have := (Qa H2).1.size; omega
  obtain ⟨r, w8, hrun, ⟨gg, gc, er, gb, gl⟩, hbx8, h59, hR9, kb9⟩ := (Qa H2).2.2.add4 hb2 hrp k34 (hR3.later b4) (cs := [str x.head.rel, .slice aa an ac, .int .i64 x.head.at_, .slice ba bn bc, .int .i64 x.at_]) rfl (by simp [Value.oneCell', str]) (S := fun b => w2.drew.heap.size ≤ b) ⟨aa, an, ac, ba, bn, bc, rfl, hX.1.same Qaf b4.size (fun b _ hl => b4.block b hl), hX.2.same Qbl b4.size (fun b _ hl => b4.block b hl)⟩ (fun b hb => hb) (Qa H1).2.2.2.1 w3.heap.size z4
  have kb : KB rb pb base wr (w8.setCell ⟨pb, 4, none⟩ r) := (KB.of_kp (Qa H2).1 (Qa H1).2.2.1).trans kb9
  have HF := hide (Ya h59 (Ya hR9 kb))
  have HX3 := hide hbx3
  have HX4 := hide hbx4
  have HX8 := hide hbx8
  obtain ⟨z0, z1, z2, z3, z4', zf⟩ := cl5 hbx8
  subst er
  have HW4 := hide hw4
  clear hX hR3 k3 hw4 b4 z4 k34 hbx3 hbx4 hb2 gb gl hbx8 h59 hR9 kb9 kb
  go_wp2_with fail
  refine Qab rfl (fun _ => Qa HX3) (fun K hK => ?_)
  go_simp
  rw [← Qa HW4]
  clear HW4
  refine hK _ _ ?_
  clear hK K
  refine Qab rfl (fun _ => Qa HX4) (fun K hK => Qbp rfl _ _ 26 rfl _ _ rfl rfl hrun (hK _ _ ?_))
  clear hK K hrun
  refine Qac rfl (by kernel_rfl) (fun _ _ _ => by go_simp <;> rfl) ?_
  refine Qac rfl (by kernel_rfl) (fun _ _ _ => by go_simp <;> rfl) ?_
  refine Qab rfl (fun _ => Qa HX8) (fun K hK => ?_)
  go_simp
  refine hK _ _ ?_
  clear hK K
  refine Qar (fun h => by cases h) (hPP _ _ ?_)
  clear hPP hPQ
  go_wp2_with fail
  go_end0
  rw [Qa HPO]
  exact ⟨rfl, ⟨_, _, _, _, _, (Qa HF).1⟩, (Qa HF).2⟩
end
section
open Go.RowKit Go.Maps
theorem Rd.off {rb e : Nat} {w w' : World} {l : List Tok} {it dp : Nat} (h : Rd rb e w l it dp) (hb : ∀ b, b ≤ rb → w'.heap[b]? = w.heap[b]?) : Rd rb e w' l it dp := by
 obtain ⟨v, q1, a, cap, q2, q3, q4, q5⟩ := h.box
 refine ⟨⟨v, (hb rb (Nat.le_refl _)).trans q1, a, cap, q2, q3, q4, fun j t hj => ?_⟩, h.num, h.len, h.end_⟩
 obtain ⟨b, o, e1, e2, e3⟩ := q5 j t hj
 exact ⟨b, o, e1, e2, e3.same (hb b (by omega))⟩
end
section
open Go.RowKit Go.Maps
attribute [local go_sem ↓] Qej Qev
end
end Go.Proofs.YtjebglmpopijhaaGreatDoor
