/- syn: fields as parts; ctor. syn: instance. syn: typeDecl. -/
import Derived.Test.YtdjehbdpcdikkaaGreatDoorMg15
namespace Go.Proofs.YtdjehbdpcdikkaaGreatDoor
open Go.RowKit Go.Maps

/-- A field's two cells. -/
def PF : PS Fld := fun _ _ cs f => cs = [str f.name, str f.type]
theorem pf_ok : PSok PF where
  mono := fun _ _ _ _ _ h _ => h
  same := fun _ _ _ _ _ h _ _ => h
theorem partF_of {rb e dp : Nat} : PartF PF rb e dp (fieldP e) := fun w l it hR => by
  refine (field_any hR).mono ?_
  intro en w' ha
  cases hq : fieldP e l it with
  | bad why at0 l2 => rw [hq] at ha; exact ha
  | ok x l2 i2 =>
    rw [hq] at ha
    obtain ⟨v, e1, e2, h3, h4⟩ := ha
    exact ⟨v, e1, ⟨_, _, e2, fun c hc => by
      simp only [List.mem_cons, List.not_mem_nil, or_false] at hc
      rcases hc with rfl | rfl <;> rfl, rfl⟩, h3, h4⟩
theorem cl2 {w : World} {b : Nat} {T : TypeId} {v0 v1 : Value} (h : w.heap[b]? = some (.cells #[v0, v1] T (0, 0))) :
    w.cell? ⟨b, 0, none⟩ = some v0 ∧ w.cell? ⟨b, 1, none⟩ = some v1 ∧ ∀ o, w.frozen? ⟨b, o, none⟩ = false :=
  ⟨(cell_hp h 0).trans rfl, (cell_hp h 1).trans rfl, fun o => by simp [World.frozen?, h]⟩
abbrev ctZ : Obj := .cells #[.string ⟨#[]⟩, .slice none 0 0] 120
/-- A constructor's two cells. -/
def PC : PS Ctr := fun S w cs c => ∃ xa xn xc, cs = [str c.name, .slice xa xn xc] ∧ LsAt PF 2 S w (.slice xa xn xc) c.fields
theorem pc_ok : PSok PC where
  mono := fun _ _ _ _ _ ⟨xa, xn, xc, h1, h2⟩ hS => ⟨xa, xn, xc, h1, h2.mono pf_ok hS⟩
  same := fun _ _ _ _ _ ⟨xa, xn, xc, h1, h2⟩ hs hb => ⟨xa, xn, xc, h1, h2.same pf_ok hs hb⟩

set_option maxRecDepth 100000 in
set_option maxHeartbeats 4000000 in
theorem ctor_any {rb e dp : Nat} {w : World} {l : List Tok} {it : Nat} (h : Rd rb e w l it dp) :
    Calls Tryz.prog 155 #[.pointer (some ⟨rb, 0, none⟩)] w fun en w' => Ans rb e dp w (fun w2 v x => ∃ xa xn xc, v = .agg #[str x.name, .slice xa xn xc] ∧ LsAt PF 2 (fun b => w.heap.size ≤ b) w2 (.slice xa xn xc) x.fields) (ctorP e l it) en w' := by
  obtain ⟨w1, hw1⟩ : ∃ w1, w1 = w.alloc ctZ := ⟨_, rfl⟩
  have b1 : Below w.heap.size w w1 := by rw [hw1]; exact (Below.refl _ w).alloc (Nat.le_refl _) _
  have q1 : w1.heap[w.heap.size]? = some ctZ := by rw [hw1]; exact heap_alloc_new w _
  have s1 : w1.heap.size = w.heap.size + 1 := by rw [hw1]; simp
  have hc := wordq_any (h.later b1)
  have hrb := h.lt
  obtain ⟨PO, hPO⟩ : ∃ PO : Ending → World → Prop, PO = fun en w' => Ans rb e dp w (fun w2 v x => ∃ xa xn xc, v = .agg #[str x.name, .slice xa xn xc] ∧ LsAt PF 2 (fun b => w.heap.size ≤ b) w2 (.slice xa xn xc) x.fields) (ctorP e l it) en w' := ⟨_, rfl⟩
  rw [← hPO]
  have HW1 : Hid (w1 = w.alloc (.cells #[.string ⟨#[]⟩, .slice none 0 0] 120)) := hw1
  have HPO := hide hPO
  have hsg : Hid (ctorP e l it = (wordQ e l it).bind fun n l i => (encl e [123] [125] (fieldP e) l i).map fun fs => ⟨n, fs⟩) := rfl
  generalize ctorP e l it = sr at HPO hsg
  have K1 := hide (And.intro (Kp.of_below (rb := rb) b1) (And.intro q1 s1))
  clear h b1 q1 s1 hw1 hPO
  cases hq : wordQ e l it with
  | bad why at1 l2 =>
    rw [hq] at hc hsg
    rw [unhide hsg] at HPO
    clear hq hsg
    go_enter Tryz.func155, Tryz.ntmps155
    go_wp2_with fail
    rw [← unhide HW1]
    refine hc.mono ?_
    clear hc
    rintro en w4 ⟨rfl, k4⟩
    have H4 := hide ((unhide K1).1.trans k4)
    clear k4
    go_wp2_with fail
    refine ⟨rfl, ?_⟩
    rw [unhide HPO]
    exact ⟨rfl, unhide H4⟩
  | ok s l2 i2 =>
    rw [hq] at hc hsg
    clear hq
    go_enter Tryz.func155, Tryz.ntmps155
    go_wp2_with fail
    rw [← unhide HW1]
    clear HW1
    refine hc.mono ?_
    clear hc
    rintro en w4 ⟨_, rfl, rfl, hR4, k4⟩
    obtain ⟨k1, q1, s1⟩ := unhide K1
    have hs4 := k4.size
    obtain ⟨w5, hw5⟩ : ∃ w5, w5 = w4.alloc (.cells #[str s, .slice none 0 0] 120) := ⟨_, rfl⟩
    have b5 : Below w4.heap.size w4 w5 := by rw [hw5]; exact (Below.refl _ w4).alloc (Nat.le_refl _) _
    have n5 : w5.heap[w4.heap.size]? = some (.cells #[str s, .slice none 0 0] 120 (0, 0)) := by rw [hw5]; exact heap_alloc_new w4 _
    have q5 : w5.heap[w.heap.size]? = some ctZ := (b5.block _ (by omega)).trans (k4.keep q1 (by omega))
    have k5 : Kp rb w w5 := (k1.trans k4).trans (Kp.of_below b5)
    have s5 : w5.heap.size = w4.heap.size + 1 := by rw [hw5]; simp
    have hen := enclF_any PF pf_ok partF_of shr_field (hR4.later b5) [123] [125] (by decide) (by decide)
    have HW5 := hide hw5
    have K5 := hide (And.intro k5 (And.intro n5 (And.intro q5 (And.intro (by omega : w.heap.size + 1 ≤ w4.heap.size) (by omega : w4.heap.size < w5.heap.size)))))
    generalize hxb : w4.heap.size = xb at K5
    clear k1 q1 s1 hs4 hw5 b5 n5 q5 k5 s5 K1 hR4 k4
    cases hq : encl e [123] [125] (fieldP e) l2 i2 with
    | bad why at1 l4 =>
      rw [hq] at hen
      rw [unhide hsg, Rs.bind, hq] at HPO
      clear hq hsg
      go_wp2_with fail
      rw [← unhide HW5]
      refine hen.mono ?_
      clear hen
      rintro en w7 ⟨rfl, k7⟩
      have H7 := hide ((unhide K5).1.trans k7)
      clear k7
      go_wp2_with fail
      refine ⟨rfl, ?_⟩
      rw [unhide HPO]
      exact ⟨rfl, unhide H7⟩
    | ok ks l4 i4 =>
      rw [hq] at hen
      rw [unhide hsg, Rs.bind, hq] at HPO
      clear hq hsg
      go_wp2_with fail
      rw [← unhide HW5]
      clear HW5 hxb
      refine hen.mono ?_
      clear hen
      rintro en w7 ⟨_, rfl, hL, hR7, k7⟩
      obtain ⟨ka, kc, _, ev, _⟩ := id hL
      subst ev
      obtain ⟨k5, n5, q5, g1, g2⟩ := unhide K5
      have n7 := k7.keep n5 (by omega)
      have q7 := k7.keep q5 (by omega)
      have hne : w.heap.size ≠ xb := by omega
      obtain ⟨w8, hw8⟩ : ∃ w8, w8 = w7.setCell ⟨xb, 1, none⟩ (.slice ka ks.length kc) := ⟨_, rfl⟩
      have n8 : w8.heap[xb]? = some (.cells #[str s, .slice ka ks.length kc] 120 (0, 0)) := by rw [hw8]; exact (set_hp n7 1 _).trans rfl
      have q8 : w8.heap[w.heap.size]? = some ctZ := by rw [hw8, Below.heap_setCell _ _ _ _ hne]; exact q7
      have k8 : Kp rb w w8 := by rw [hw8]; exact (k5.trans k7).set2 (by omega)
      have hR8 : Rd rb e w8 l4 i4 dp := by rw [hw8]; exact hR7.set2 (by omega)
      have hL8 : LsAt PF 2 (fun b => w5.heap.size ≤ b) w8 (.slice ka ks.length kc) ks := by
        refine hL.same pf_ok (by rw [hw8]; simp [World.setCell]) (fun b hb hl => ?_)
        have hb' : w5.heap.size ≤ b := hb
        have hn : b ≠ xb := by omega
        rw [hw8, Below.heap_setCell _ _ _ _ hn]
      obtain ⟨x0, x1, xf⟩ := cl2 n7
      obtain ⟨z0, z1, zf⟩ := cl2 n8
      obtain ⟨y0, y1, yf⟩ := cl2 q8
      have HF : Hid (∀ q0 q1, (∃ xa xn xc, (.agg #[str s, .slice ka ks.length kc] : Value) = .agg #[str s, .slice xa xn xc] ∧ LsAt PF 2 (fun b => w.heap.size ≤ b) ((w8.setCell ⟨w.heap.size, 0, none⟩ q0).setCell ⟨w.heap.size, 1, none⟩ q1) (.slice xa xn xc) ks) ∧ Rd rb e ((w8.setCell ⟨w.heap.size, 0, none⟩ q0).setCell ⟨w.heap.size, 1, none⟩ q1) l4 i4 dp ∧ Kp rb w ((w8.setCell ⟨w.heap.size, 0, none⟩ q0).setCell ⟨w.heap.size, 1, none⟩ q1)) := fun q0 q1 => by
        have hsame : ∀ b, b ≠ w.heap.size → ((w8.setCell ⟨w.heap.size, 0, none⟩ q0).setCell ⟨w.heap.size, 1, none⟩ q1).heap[b]? = w8.heap[b]? := fun b hb => by
          rw [Below.heap_setCell _ _ _ _ hb, Below.heap_setCell _ _ _ _ hb]
        exact ⟨⟨_, _, _, rfl, (hL8.same pf_ok (by simp [World.setCell]) (fun b hb hl => hsame b (by have hb' : w5.heap.size ≤ b := hb; omega))).mono pf_ok (fun b _ hb => by have hb' : w5.heap.size ≤ b := hb; omega)⟩, (hR8.set2 (by omega)).set2 (by omega), (k8.set2 (by omega)).set2 (by omega)⟩
      clear hR7 k7 k5 n5 q5 g1 g2 n7 q7 n8 q8 k8 hR8 hL8 hL x0 zf hne
      subst hw8
      go_wp2_with fail
      refine bodyPost_ret (v := .agg #[str s, .slice ka ks.length kc]) (by simp [results, Tryz.results155, go_sem, y0, y1]) rfl ?_
      rw [unhide HPO]
      exact ⟨_, rfl, unhide HF _ _⟩
theorem partC_of {rb e dp : Nat} : PartC PC rb e dp (ctorP e) := fun w l it hR => by
  refine (ctor_any hR).mono ?_
  intro en w' ha
  cases hq : ctorP e l it with
  | bad why at0 l2 => rw [hq] at ha; exact ha
  | ok x l2 i2 =>
    rw [hq] at ha
    obtain ⟨v, e1, ⟨xa, xn, xc, e2, hL⟩, h3, h4⟩ := ha
    exact ⟨v, e1, ⟨_, _, e2, fun c hc => by
      simp only [List.mem_cons, List.not_mem_nil, or_false] at hc
      rcases hc with rfl | rfl <;> rfl, ⟨xa, xn, xc, rfl, hL⟩⟩, h3, h4⟩
end Go.Proofs.YtdjehbdpcdikkaaGreatDoor

namespace Go.Proofs.YtdjehbdpcdikkaaGreatDoor
open Go.RowKit Go.Maps

abbrev inZ : Obj := .cells #[.string ⟨#[]⟩, .string ⟨#[]⟩, .int .i64 0] 74

set_option maxRecDepth 100000 in
set_option maxHeartbeats 4000000 in
theorem instance_any {rb e dp : Nat} {w : World} {t : Tok} {l : List Tok} {it : Nat} (h : Rd rb e w (t :: l) it dp) :
    Calls Tryz.prog 137 #[.pointer (some ⟨rb, 0, none⟩)] w fun en w' => Ans rb e dp w (fun _ v x => v = .agg #[str x.name, str x.comp, .int .i64 x.at_]) (initP e (t :: l) it) en w' := by
  obtain ⟨w1, hw1⟩ : ∃ w1, w1 = w.alloc inZ := ⟨_, rfl⟩
  have b1 : Below w.heap.size w w1 := by rw [hw1]; exact (Below.refl _ w).alloc (Nat.le_refl _) _
  have q1 : w1.heap[w.heap.size]? = some inZ := by rw [hw1]; exact heap_alloc_new w _
  have s1 : w1.heap.size = w.heap.size + 1 := by rw [hw1]; simp
  have ha : Calls Tryz.prog 150 #[.pointer (some ⟨rb, 0, none⟩)] w1 fun en w' => en = .returned (.agg #[.int .i64 t.kind, str t.text, .int .i64 t.num, .int .i64 (t.at_ : Int)]) ∧ Rd rb e w' l it dp ∧ Kp rb w1 w' := take_any (h.later b1)
  have hrb := h.lt
  obtain ⟨PO, hPO⟩ : ∃ PO : Ending → World → Prop, PO = fun en w' => Ans rb e dp w (fun _ v x => v = .agg #[str x.name, str x.comp, .int .i64 x.at_]) (initP e (t :: l) it) en w' := ⟨_, rfl⟩
  rw [← hPO]
  have HW1 : Hid (w1 = w.alloc (.cells #[.string ⟨#[]⟩, .string ⟨#[]⟩, .int .i64 0] 74)) := hw1
  have HPO := hide hPO
  have hsg : Hid (initP e (t :: l) it = (wordQ e l it).bind fun n l2 i => (want e [61] l2 i).bind fun _ l3 i => (nmQ e l3 i).map fun c => ⟨n, c, t.at_⟩) := rfl
  generalize initP e (t :: l) it = sr at HPO hsg
  have K1 := hide (And.intro (Kp.of_below (rb := rb) b1) (And.intro q1 s1))
  clear h b1 q1 s1 hw1 hPO
  go_enter Tryz.func137, Tryz.ntmps137
  go_wp2_with fail
  rw [← unhide HW1]
  refine ha.mono ?_
  clear ha
  rintro en w2 ⟨rfl, hR2, k2⟩
  obtain ⟨k1, q1, s1⟩ := unhide K1
  have hs2 := k2.size
  obtain ⟨w3, hw3⟩ : ∃ w3, w3 = w2.alloc (.cells #[.string ⟨#[]⟩, .string ⟨#[]⟩, .int .i64 (t.at_ : Int)] 74) := ⟨_, rfl⟩
  have b3 : Below w2.heap.size w2 w3 := by rw [hw3]; exact (Below.refl _ w2).alloc (Nat.le_refl _) _
  have n3 : w3.heap[w2.heap.size]? = some (.cells #[.string ⟨#[]⟩, .string ⟨#[]⟩, .int .i64 (t.at_ : Int)] 74 (0, 0)) := by rw [hw3]; exact heap_alloc_new w2 _
  have q3 : w3.heap[w.heap.size]? = some inZ := (b3.block _ (by omega)).trans (k2.keep q1 (by omega))
  have s3 : w3.heap.size = w2.heap.size + 1 := by rw [hw3]; simp
  have hc := wordq_any (hR2.later b3)
  have HW3 := hide hw3
  have K3 := hide (And.intro ((k1.trans k2).trans (Kp.of_below b3)) (And.intro n3 (And.intro q3 (And.intro (by omega : w.heap.size + 1 ≤ w2.heap.size) s3))))
  generalize hxb : w2.heap.size = xb at K3
  clear k1 q1 s1 hs2 k2 b3 n3 q3 s3 hw3 K1 hR2
  go_wp2_with fail
  rename_i hK
  refine hK _ _ ?_
  clear hK
  cases hq : wordQ e l it with
  | bad why at1 l2 =>
    rw [hq] at hc hsg
    rw [unhide hsg] at HPO
    clear hq hsg
    go_wp2_with fail
    rw [← unhide HW3]
    refine hc.mono ?_
    clear hc
    rintro en w4 ⟨rfl, k4⟩
    have H4 := hide ((unhide K3).1.trans k4)
    clear k4
    go_wp2_with fail
    refine ⟨rfl, ?_⟩
    rw [unhide HPO]
    exact ⟨rfl, unhide H4⟩
  | ok s l2 i2 =>
    rw [hq] at hc hsg
    clear hq
    go_wp2_with fail
    rw [← unhide HW3]
    clear HW3 hxb
    refine hc.mono ?_
    clear hc
    rintro en w4 ⟨_, rfl, rfl, hR4, k4⟩
    obtain ⟨k3, n3, q3, g1, s3⟩ := unhide K3
    have hs4 := k4.size
    have n4 := k4.keep n3 (by omega)
    have q4 := k4.keep q3 (by omega)
    have hne : w.heap.size ≠ xb := by omega
    obtain ⟨c0, c1, c2, cf⟩ := cl3 n4
    obtain ⟨w5, hw5⟩ : ∃ w5, w5 = w4.setCell ⟨xb, 0, none⟩ (str s) := ⟨_, rfl⟩
    have n5 : w5.heap[xb]? = some (.cells #[str s, .string ⟨#[]⟩, .int .i64 (t.at_ : Int)] 74 (0, 0)) := by rw [hw5]; exact (set_hp n4 0 _).trans rfl
    have q5 : w5.heap[w.heap.size]? = some inZ := by rw [hw5, Below.heap_setCell _ _ _ _ hne]; exact q4
    have k5 : Kp rb w w5 := by rw [hw5]; exact (k3.trans k4).set2 (by omega)
    have hR5 : Rd rb e w5 l2 i2 dp := by rw [hw5]; exact hR4.set2 (by omega)
    have hwt := want_any hR5 [61] (by decide)
    have HW5 := hide hw5
    have K5 := hide (And.intro k5 (And.intro n5 (And.intro q5 g1)))
    clear k3 n3 q3 g1 s3 hs4 n4 q4 c1 c2 hw5 n5 q5 k5 hR5 K3 hR4 k4
    cases hq : want e [61] l2 i2 with
    | bad why at1 l4 =>
      rw [hq] at hwt
      rw [unhide hsg, Rs.bind, hq] at HPO
      clear hq hsg
      go_wp2_with fail
      rw [← unhide HW5]
      refine hwt.mono ?_
      clear hwt
      rintro en w7 ⟨rfl, k7⟩
      have H7 := hide ((unhide K5).1.trans k7)
      clear k7
      go_wp2_with fail
      refine ⟨rfl, ?_⟩
      rw [unhide HPO]
      exact ⟨rfl, unhide H7⟩
    | ok u l3 i3 =>
      rw [hq] at hwt
      rw [unhide hsg, Rs.bind, hq, Rs.bind] at HPO
      clear hq hsg
      go_wp2_with fail
      rw [← unhide HW5]
      clear HW5
      refine hwt.mono ?_
      clear hwt
      rintro en w6 ⟨_, rfl, rfl, hR6, k6⟩
      have hnm := name_any hR6
      have K6 := hide k6
      clear hR6 k6 c0 cf
      cases hq : nmQ e l3 i3 with
      | bad why at1 l4 =>
        rw [hq] at hnm HPO
        clear hq
        go_wp2_with fail
        refine hnm.mono ?_
        clear hnm
        rintro en w7 ⟨rfl, k7⟩
        have H7 := hide (((unhide K5).1.trans (unhide K6)).trans k7)
        clear k7
        go_wp2_with fail
        refine ⟨rfl, ?_⟩
        rw [unhide HPO]
        exact ⟨rfl, unhide H7⟩
      | ok cn l4 i4 =>
        rw [hq] at hnm HPO
        clear hq
        go_wp2_with fail
        refine hnm.mono ?_
        clear hnm
        rintro en w7 ⟨_, rfl, rfl, hR7, k7'⟩
        obtain ⟨k5, n5, q5, g1⟩ := unhide K5
        have k7 := (unhide K6).trans k7'
        have n7 := k7.keep n5 (by omega)
        have q7 := k7.keep q5 (by omega)
        obtain ⟨w8, hw8⟩ : ∃ w8, w8 = w7.setCell ⟨xb, 1, none⟩ (str cn) := ⟨_, rfl⟩
        have n8 : w8.heap[xb]? = some (.cells #[str s, str cn, .int .i64 (t.at_ : Int)] 74 (0, 0)) := by rw [hw8]; exact (set_hp n7 1 _).trans rfl
        have q8 : w8.heap[w.heap.size]? = some inZ := by rw [hw8, Below.heap_setCell _ _ _ _ hne]; exact q7
        have k8 : Kp rb w w8 := by rw [hw8]; exact (k5.trans k7).set2 (by omega)
        have hR8 : Rd rb e w8 l4 i4 dp := by rw [hw8]; exact hR7.set2 (by omega)
        obtain ⟨x0, x1, x2, xf⟩ := cl3 n7
        obtain ⟨z0, z1, z2, zf⟩ := cl3 n8
        obtain ⟨y0, y1, y2, yf⟩ := cl3 q8
        have HF : Hid (∀ q0 q1 q2, Rd rb e (((w8.setCell ⟨w.heap.size, 0, none⟩ q0).setCell ⟨w.heap.size, 1, none⟩ q1).setCell ⟨w.heap.size, 2, none⟩ q2) l4 i4 dp ∧ Kp rb w (((w8.setCell ⟨w.heap.size, 0, none⟩ q0).setCell ⟨w.heap.size, 1, none⟩ q1).setCell ⟨w.heap.size, 2, none⟩ q2)) := fun q0 q1 q2 =>
          ⟨((hR8.set2 (by omega)).set2 (by omega)).set2 (by omega), ((k8.set2 (by omega)).set2 (by omega)).set2 (by omega)⟩
        clear hR7 k7 k5 n5 q5 g1 n7 q7 n8 q8 k8 hR8 x0 x2 zf hne k7'
        subst hw8
        go_wp2_with fail
        refine bodyPost_ret (v := .agg #[str s, str cn, .int .i64 t.at_]) (by simp [results, Tryz.results137, go_sem, y0, y1, y2]) rfl ?_
        rw [unhide HPO]
        exact ⟨_, rfl, rfl, unhide HF _ _ _⟩
end Go.Proofs.YtdjehbdpcdikkaaGreatDoor

namespace Go.Proofs.YtdjehbdpcdikkaaGreatDoor
open Go.RowKit Go.Maps

theorem cl4 {w : World} {b : Nat} {T : TypeId} {v0 v1 v2 v3 : Value} (h : w.heap[b]? = some (.cells #[v0, v1, v2, v3] T (0, 0))) :
    w.cell? ⟨b, 0, none⟩ = some v0 ∧ w.cell? ⟨b, 1, none⟩ = some v1 ∧ w.cell? ⟨b, 2, none⟩ = some v2 ∧ w.cell? ⟨b, 3, none⟩ = some v3 ∧ ∀ o, w.frozen? ⟨b, o, none⟩ = false :=
  ⟨(cell_hp h 0).trans rfl, (cell_hp h 1).trans rfl, (cell_hp h 2).trans rfl, (cell_hp h 3).trans rfl, fun o => by simp [World.frozen?, h]⟩
abbrev tyZ : Obj := .cells #[.string ⟨#[]⟩, .string ⟨#[]⟩, .slice none 0 0, .int .i64 0] 61
/-- A type's value. -/
def VTy (S : Nat → Prop) (w : World) (v : Value) (x : Typ) : Prop := ∃ xa xn xc, v = .agg #[str x.name, str x.sub, .slice xa xn xc, .int .i64 x.at_] ∧ LsAt PC 2 S w (.slice xa xn xc) x.ctors

set_option maxRecDepth 100000 in
set_option maxHeartbeats 4000000 in
theorem typeDecl_any {rb e dp : Nat} {w : World} {t : Tok} {l : List Tok} {it : Nat} (h : Rd rb e w (t :: l) it dp) :
    Calls Tryz.prog 134 #[.pointer (some ⟨rb, 0, none⟩)] w fun en w' => Ans rb e dp w (fun w2 v x => VTy (fun b => w.heap.size ≤ b) w2 v x) (typeP e (t :: l) it) en w' := by
  obtain ⟨w1, hw1⟩ : ∃ w1, w1 = w.alloc tyZ := ⟨_, rfl⟩
  have b1 : Below w.heap.size w w1 := by rw [hw1]; exact (Below.refl _ w).alloc (Nat.le_refl _) _
  have q1 : w1.heap[w.heap.size]? = some tyZ := by rw [hw1]; exact heap_alloc_new w _
  have s1 : w1.heap.size = w.heap.size + 1 := by rw [hw1]; simp
  have ha : Calls Tryz.prog 150 #[.pointer (some ⟨rb, 0, none⟩)] w1 fun en w' => en = .returned (.agg #[.int .i64 t.kind, str t.text, .int .i64 t.num, .int .i64 (t.at_ : Int)]) ∧ Rd rb e w' l it dp ∧ Kp rb w1 w' := take_any (h.later b1)
  have hrb := h.lt
  obtain ⟨PO, hPO⟩ : ∃ PO : Ending → World → Prop, PO = fun en w' => Ans rb e dp w (fun w2 v x => VTy (fun b => w.heap.size ≤ b) w2 v x) (typeP e (t :: l) it) en w' := ⟨_, rfl⟩
  rw [← hPO]
  have HW1 : Hid (w1 = w.alloc (.cells #[.string ⟨#[]⟩, .string ⟨#[]⟩, .slice none 0 0, .int .i64 0] 61)) := hw1
  have HPO := hide hPO
  have hsg : Hid (typeP e (t :: l) it = (wordQ e l it).bind fun n l2 i => (choose e [[60, 58], [61]] l2 i).bind fun s l3 i => if s = [60, 58] then (nmQ e l3 i).map fun c => ⟨n, c, [], t.at_⟩ else (listP e [124] noMost (ctorP e) l3 i).map fun cs => ⟨n, [], cs, t.at_⟩) := rfl
  generalize typeP e (t :: l) it = sr at HPO hsg
  have K1 := hide (And.intro (Kp.of_below (rb := rb) b1) (And.intro q1 s1))
  clear h b1 q1 s1 hw1 hPO
  go_enter Tryz.func134, Tryz.ntmps134
  go_wp2_with fail
  rw [← unhide HW1]
  refine ha.mono ?_
  clear ha
  rintro en w2 ⟨rfl, hR2, k2⟩
  obtain ⟨k1, q1, s1⟩ := unhide K1
  have hs2 := k2.size
  obtain ⟨w3, hw3⟩ : ∃ w3, w3 = w2.alloc (.cells #[.string ⟨#[]⟩, .string ⟨#[]⟩, .slice none 0 0, .int .i64 (t.at_ : Int)] 61) := ⟨_, rfl⟩
  have b3 : Below w2.heap.size w2 w3 := by rw [hw3]; exact (Below.refl _ w2).alloc (Nat.le_refl _) _
  have n3 : w3.heap[w2.heap.size]? = some (.cells #[.string ⟨#[]⟩, .string ⟨#[]⟩, .slice none 0 0, .int .i64 (t.at_ : Int)] 61 (0, 0)) := by rw [hw3]; exact heap_alloc_new w2 _
  have q3 : w3.heap[w.heap.size]? = some tyZ := (b3.block _ (by omega)).trans (k2.keep q1 (by omega))
  have s3 : w3.heap.size = w2.heap.size + 1 := by rw [hw3]; simp
  have hc := wordq_any (hR2.later b3)
  have HW3 := hide hw3
  have K3 := hide (And.intro ((k1.trans k2).trans (Kp.of_below b3)) (And.intro n3 (And.intro q3 (And.intro (by omega : w.heap.size + 1 ≤ w2.heap.size) s3))))
  generalize hxb : w2.heap.size = xb at K3
  clear k1 q1 s1 hs2 k2 b3 n3 q3 s3 hw3 K1 hR2
  go_wp2_with fail
  rename_i hK
  refine hK _ _ ?_
  clear hK
  cases hq : wordQ e l it with
  | bad why at1 l2 =>
    rw [hq] at hc hsg
    rw [unhide hsg] at HPO
    clear hq hsg
    go_wp2_with fail
    rw [← unhide HW3]
    refine hc.mono ?_
    clear hc
    rintro en w4 ⟨rfl, k4⟩
    have H4 := hide ((unhide K3).1.trans k4)
    clear k4
    go_wp2_with fail
    refine ⟨rfl, ?_⟩
    rw [unhide HPO]
    exact ⟨rfl, unhide H4⟩
  | ok s l2 i2 =>
    rw [hq] at hc hsg
    clear hq
    go_wp2_with fail
    rw [← unhide HW3]
    clear HW3 hxb
    refine hc.mono ?_
    clear hc
    rintro en w4 ⟨_, rfl, rfl, hR4, k4⟩
    obtain ⟨k3, n3, q3, g1, s3⟩ := unhide K3
    have hs4 := k4.size
    have n4 := k4.keep n3 (by omega)
    have q4 := k4.keep q3 (by omega)
    have hne : w.heap.size ≠ xb := by omega
    obtain ⟨c0, c1, c2, c3, cf⟩ := cl4 n4
    obtain ⟨w5, hw5⟩ : ∃ w5, w5 = w4.setCell ⟨xb, 0, none⟩ (str s) := ⟨_, rfl⟩
    have n5 : w5.heap[xb]? = some (.cells #[str s, .string ⟨#[]⟩, .slice none 0 0, .int .i64 (t.at_ : Int)] 61 (0, 0)) := by rw [hw5]; exact (set_hp n4 0 _).trans rfl
    have q5 : w5.heap[w.heap.size]? = some tyZ := by rw [hw5, Below.heap_setCell _ _ _ _ hne]; exact q4
    have k5 : Kp rb w w5 := by rw [hw5]; exact (k3.trans k4).set2 (by omega)
    have hR5 : Rd rb e w5 l2 i2 dp := by rw [hw5]; exact hR4.set2 (by omega)
    have s5 : w4.heap.size = w5.heap.size := by rw [hw5]; simp [World.setCell]
    obtain ⟨w6, hw6⟩ : ∃ w6, w6 = w5.alloc (.cells #[.string ⟨#[60, 58]⟩, .string ⟨#[61]⟩] 9) := ⟨_, rfl⟩
    have b6 : Below w5.heap.size w5 w6 := by rw [hw6]; exact (Below.refl _ w5).alloc (Nat.le_refl _) _
    have m6 : w6.heap[w5.heap.size]? = some (.cells #[.string ⟨#[60, 58]⟩, .string ⟨#[61]⟩] 9 (0, 0)) := by rw [hw6]; exact heap_alloc_new w5 _
    have s6 : w6.heap.size = w5.heap.size + 1 := by rw [hw6]; simp
    have hsv : SgAt rb w6 (.slice (some ⟨w4.heap.size, 0, none⟩) 2 2) [[60, 58], [61]] := by
      refine ⟨w4.heap.size, 0, 2, rfl, by omega, by omega, fun j x hx => ?_⟩
      rw [s5, cell_hp m6]
      match j, hx with
      | 0, hx => simp at hx; subst hx; rfl
      | 1, hx => simp at hx; subst hx; rfl
    have hch := choose_any (hR5.later b6) _ _ hsv (by decide) (by decide)
    have n6 := (b6.block _ (lt_hp n5)).trans n5
    have q6 := (b6.block _ (lt_hp q5)).trans q5
    have K6 := hide (And.intro (k5.trans (Kp.of_below b6)) (And.intro n6 (And.intro q6 (And.intro g1 (by have := lt_hp n5; omega : xb < w6.heap.size)))))
    have HW6 : Hid (w6 = (w4.setCell ⟨xb, 0, none⟩ (str s)).alloc (.cells #[.string ⟨#[60, 58]⟩, .string ⟨#[61]⟩] 9)) := by rw [hw5] at hw6; exact hw6
    clear k3 n3 q3 g1 s3 hs4 n4 q4 c1 c2 c3 hw5 n5 q5 k5 hR5 K3 hR4 k4 s5 hw6 b6 m6 s6 hsv n6 q6
    cases hq : choose e [[60, 58], [61]] l2 i2 with
    | bad why at1 l4 =>
      rw [hq] at hch
      rw [unhide hsg, Rs.bind, hq] at HPO
      clear hq hsg
      go_wp2_with fail
      rw [← unhide HW6]
      refine hch.mono ?_
      clear hch
      rintro en w7 ⟨rfl, k7⟩
      have H7 := hide ((unhide K6).1.trans k7)
      clear k7
      go_wp2_with fail
      refine ⟨rfl, ?_⟩
      rw [unhide HPO]
      exact ⟨rfl, unhide H7⟩
    | ok g l3 i3 =>
      rw [hq] at hch
      rw [unhide hsg, Rs.bind, hq, Rs.bind] at HPO
      clear hq hsg
      go_wp2_with fail
      rw [← unhide HW6]
      clear HW6 c0 cf
      refine hch.mono ?_
      clear hch
      rintro en w7 ⟨_, rfl, rfl, hR7, k7⟩
      have K7 := hide k7
      by_cases cg : g = [60, 58]
      · have g1 : (g == [60, 58]) = true := by simpa using cg
        rw [if_pos cg] at HPO
        have hnm := name_any hR7
        clear hR7 k7 cg
        cases hq : nmQ e l3 i3 with
        | bad why at1 l4 =>
          rw [hq] at hnm HPO
          clear hq
          go_wp2_with fail
          refine hnm.mono ?_
          clear hnm
          rintro en w8 ⟨rfl, k8⟩
          have H8 := hide (((unhide K6).1.trans (unhide K7)).trans k8)
          clear k8
          go_wp2_with fail
          refine ⟨rfl, ?_⟩
          rw [unhide HPO]
          exact ⟨rfl, unhide H8⟩
        | ok cn l4 i4 =>
          rw [hq] at hnm HPO
          clear hq
          go_wp2_with fail
          refine hnm.mono ?_
          clear hnm
          rintro en w8 ⟨_, rfl, rfl, hR8, k8'⟩
          obtain ⟨k6, n6, q6, g2, g3⟩ := unhide K6
          have hs7 := (unhide K7).size
          have k8 := (unhide K7).trans k8'
          have n8 := k8.keep n6 (by omega)
          have q8 := k8.keep q6 (by omega)
          obtain ⟨w9, hw9⟩ : ∃ w9, w9 = w8.setCell ⟨xb, 1, none⟩ (str cn) := ⟨_, rfl⟩
          have n9 : w9.heap[xb]? = some (.cells #[str s, str cn, .slice none 0 0, .int .i64 (t.at_ : Int)] 61 (0, 0)) := by rw [hw9]; exact (set_hp n8 1 _).trans rfl
          have q9 : w9.heap[w.heap.size]? = some tyZ := by rw [hw9, Below.heap_setCell _ _ _ _ hne]; exact q8
          have k9 : Kp rb w w9 := by rw [hw9]; exact (k6.trans k8).set2 (by omega)
          have hR9 : Rd rb e w9 l4 i4 dp := by rw [hw9]; exact hR8.set2 (by omega)
          have hL9 : LsAt PC 2 (fun b => w7.heap.size ≤ b) w9 (.slice none 0 0) [] := LsAt.nil _ _
          obtain ⟨x0, x1, x2, x3, xf⟩ := cl4 n8
          obtain ⟨z0, z1, z2, z3, zf⟩ := cl4 n9
          obtain ⟨y0, y1, y2, y3, yf⟩ := cl4 q9
          have HF : Hid (∀ q0 q1 q2 q3, VTy (fun b => w.heap.size ≤ b) ((((w9.setCell ⟨w.heap.size, 0, none⟩ q0).setCell ⟨w.heap.size, 1, none⟩ q1).setCell ⟨w.heap.size, 2, none⟩ q2).setCell ⟨w.heap.size, 3, none⟩ q3) (.agg #[str s, str cn, .slice none 0 0, .int .i64 (t.at_ : Int)]) ⟨s, cn, [], t.at_⟩ ∧ Rd rb e ((((w9.setCell ⟨w.heap.size, 0, none⟩ q0).setCell ⟨w.heap.size, 1, none⟩ q1).setCell ⟨w.heap.size, 2, none⟩ q2).setCell ⟨w.heap.size, 3, none⟩ q3) l4 i4 dp ∧ Kp rb w ((((w9.setCell ⟨w.heap.size, 0, none⟩ q0).setCell ⟨w.heap.size, 1, none⟩ q1).setCell ⟨w.heap.size, 2, none⟩ q2).setCell ⟨w.heap.size, 3, none⟩ q3)) := fun q0 q1 q2 q3 => by
            have hsame : ∀ b, b ≠ w.heap.size → ((((w9.setCell ⟨w.heap.size, 0, none⟩ q0).setCell ⟨w.heap.size, 1, none⟩ q1).setCell ⟨w.heap.size, 2, none⟩ q2).setCell ⟨w.heap.size, 3, none⟩ q3).heap[b]? = w9.heap[b]? := fun b hb => by
              rw [Below.heap_setCell _ _ _ _ hb, Below.heap_setCell _ _ _ _ hb, Below.heap_setCell _ _ _ _ hb, Below.heap_setCell _ _ _ _ hb]
            exact ⟨⟨_, _, _, rfl, (hL9.same pc_ok (by simp [World.setCell]) (fun b hb hl => hsame b (by have hb' : w7.heap.size ≤ b := hb; omega))).mono pc_ok (fun b _ hb => by have hb' : w7.heap.size ≤ b := hb; omega)⟩, (((hR9.set2 (by omega)).set2 (by omega)).set2 (by omega)).set2 (by omega), (((k9.set2 (by omega)).set2 (by omega)).set2 (by omega)).set2 (by omega)⟩
          clear hR8 k8 k6 n6 q6 g2 g3 hs7 n8 q8 n9 q9 k9 hR9 hL9 x0 x2 x3 zf hne k8'
          subst hw9
          go_wp2_with fail
          refine bodyPost_ret (v := .agg #[str s, str cn, .slice none 0 0, .int .i64 t.at_]) (by simp [results, Tryz.results134, go_sem, y0, y1, y2, y3]) rfl ?_
          rw [unhide HPO]
          exact ⟨_, rfl, unhide HF _ _ _ _⟩
      · have g1 : (g == [60, 58]) = false := by simpa using cg
        rw [if_neg cg] at HPO
        have hnm := listC_any PC pc_ok partC_of shr_ctor hR7 [124] (by decide) noMost
        clear hR7 k7 cg
        cases hq : listP e [124] noMost (ctorP e) l3 i3 with
        | bad why at1 l4 =>
          rw [hq] at hnm HPO
          clear hq
          go_wp2_with fail
          refine hnm.mono ?_
          clear hnm
          rintro en w8 ⟨rfl, k8⟩
          have H8 := hide (((unhide K6).1.trans (unhide K7)).trans k8)
          clear k8
          go_wp2_with fail
          refine ⟨rfl, ?_⟩
          rw [unhide HPO]
          exact ⟨rfl, unhide H8⟩
        | ok ks l4 i4 =>
          rw [hq] at hnm HPO
          clear hq
          go_wp2_with fail
          refine hnm.mono ?_
          clear hnm
          rintro en w8 ⟨_, rfl, hL, hR8, k8'⟩
          obtain ⟨ka, kc, _, ev, _⟩ := id hL
          subst ev
          obtain ⟨k6, n6, q6, g2, g3⟩ := unhide K6
          have hs7 := (unhide K7).size
          have k8 := (unhide K7).trans k8'
          have n8 := k8.keep n6 (by omega)
          have q8 := k8.keep q6 (by omega)
          obtain ⟨w9, hw9⟩ : ∃ w9, w9 = w8.setCell ⟨xb, 2, none⟩ (.slice ka ks.length kc) := ⟨_, rfl⟩
          have n9 : w9.heap[xb]? = some (.cells #[str s, .string ⟨#[]⟩, .slice ka ks.length kc, .int .i64 (t.at_ : Int)] 61 (0, 0)) := by rw [hw9]; exact (set_hp n8 2 _).trans rfl
          have q9 : w9.heap[w.heap.size]? = some tyZ := by rw [hw9, Below.heap_setCell _ _ _ _ hne]; exact q8
          have k9 : Kp rb w w9 := by rw [hw9]; exact (k6.trans k8).set2 (by omega)
          have hR9 : Rd rb e w9 l4 i4 dp := by rw [hw9]; exact hR8.set2 (by omega)
          have hL9 : LsAt PC 2 (fun b => w7.heap.size ≤ b) w9 (.slice ka ks.length kc) ks := by
            refine hL.same pc_ok (by rw [hw9]; simp [World.setCell]) (fun b hb hl => ?_)
            have hb' : w7.heap.size ≤ b := hb
            have hn : b ≠ xb := by omega
            rw [hw9, Below.heap_setCell _ _ _ _ hn]
          obtain ⟨x0, x1, x2, x3, xf⟩ := cl4 n8
          obtain ⟨z0, z1, z2, z3, zf⟩ := cl4 n9
          obtain ⟨y0, y1, y2, y3, yf⟩ := cl4 q9
          have HF : Hid (∀ q0 q1 q2 q3, VTy (fun b => w.heap.size ≤ b) ((((w9.setCell ⟨w.heap.size, 0, none⟩ q0).setCell ⟨w.heap.size, 1, none⟩ q1).setCell ⟨w.heap.size, 2, none⟩ q2).setCell ⟨w.heap.size, 3, none⟩ q3) (.agg #[str s, .string ⟨#[]⟩, .slice ka ks.length kc, .int .i64 (t.at_ : Int)]) ⟨s, [], ks, t.at_⟩ ∧ Rd rb e ((((w9.setCell ⟨w.heap.size, 0, none⟩ q0).setCell ⟨w.heap.size, 1, none⟩ q1).setCell ⟨w.heap.size, 2, none⟩ q2).setCell ⟨w.heap.size, 3, none⟩ q3) l4 i4 dp ∧ Kp rb w ((((w9.setCell ⟨w.heap.size, 0, none⟩ q0).setCell ⟨w.heap.size, 1, none⟩ q1).setCell ⟨w.heap.size, 2, none⟩ q2).setCell ⟨w.heap.size, 3, none⟩ q3)) := fun q0 q1 q2 q3 => by
            have hsame : ∀ b, b ≠ w.heap.size → ((((w9.setCell ⟨w.heap.size, 0, none⟩ q0).setCell ⟨w.heap.size, 1, none⟩ q1).setCell ⟨w.heap.size, 2, none⟩ q2).setCell ⟨w.heap.size, 3, none⟩ q3).heap[b]? = w9.heap[b]? := fun b hb => by
              rw [Below.heap_setCell _ _ _ _ hb, Below.heap_setCell _ _ _ _ hb, Below.heap_setCell _ _ _ _ hb, Below.heap_setCell _ _ _ _ hb]
            exact ⟨⟨_, _, _, rfl, (hL9.same pc_ok (by simp [World.setCell]) (fun b hb hl => hsame b (by have hb' : w7.heap.size ≤ b := hb; omega))).mono pc_ok (fun b _ hb => by have hb' : w7.heap.size ≤ b := hb; omega)⟩, (((hR9.set2 (by omega)).set2 (by omega)).set2 (by omega)).set2 (by omega), (((k9.set2 (by omega)).set2 (by omega)).set2 (by omega)).set2 (by omega)⟩
          clear hR8 k8 k6 n6 q6 g2 g3 hs7 n8 q8 n9 q9 k9 hR9 hL9 hL x0 x1 x3 zf hne k8'
          subst hw9
          go_wp2_with fail
          refine bodyPost_ret (v := .agg #[str s, .string ⟨#[]⟩, .slice ka ks.length kc, .int .i64 t.at_]) (by simp [results, Tryz.results134, go_sem, y0, y1, y2, y3]) rfl ?_
          rw [unhide HPO]
          exact ⟨_, rfl, unhide HF _ _ _ _⟩
end Go.Proofs.YtdjehbdpcdikkaaGreatDoor
