/- syn: typeDecl. syn: decl. syn: the generic list, at Lt. -/
import Derived.Test.YtccehgfecaamoaaGreatDoorQb11
import Derived.Test.YtccehgfecaamoaaGreatDoorQb07
set_option maxRecDepth 100000
set_option maxHeartbeats 32000000
namespace Go.Proofs.YtccehgfecaamoaaGreatDoor
section
open Go.RowKit Go.Maps
theorem cl4 {w : World} {b : Nat} {T : TypeId} {v0 v1 v2 v3 : Value} (h : w.heap[b]? = some (.cells #[v0, v1, v2, v3] T (0, 0))) :
  w.cell? ⟨b, 0, none⟩ = some v0 ∧ w.cell? ⟨b, 1, none⟩ = some v1 ∧ w.cell? ⟨b, 2, none⟩ = some v2 ∧ w.cell? ⟨b, 3, none⟩ = some v3 ∧ ∀ o, w.frozen? ⟨b, o, none⟩ = false :=
 ⟨(Qab h 0).trans rfl, (Qab h 1).trans rfl, (Qab h 2).trans rfl, (Qab h 3).trans rfl, fun o => by simp [World.frozen?, h]⟩
abbrev tyZ : Obj := .cells #[.string ⟨#[]⟩, .string ⟨#[]⟩, .slice none 0 0, .int .i64 0] 94
def VTy (S : Nat → Prop) (w : World) (v : Value) (x : Typ) : Prop := ∃ xa xn xc, v = .agg #[str x.name, str x.sub, .slice xa xn xc, .int .i64 x.at_] ∧ LsAt PC 2 S w (.slice xa xn xc) x.ctors

theorem Qob {rb e dp : Nat} {w : World} {t : Tok} {l : List Tok} {it : Nat} (h : Rd rb e w (t :: l) it dp) :
  Calls Tryz.prog 93 #[.pointer (some ⟨rb, 0, none⟩)] w fun en w' => Ans rb e dp w (fun w2 v x => VTy (fun b => w.heap.size ≤ b) w2 v x) (typeP e (t :: l) it) en w' := by
 obtain ⟨w1, hw1⟩ : ∃ w1, w1 = w.alloc tyZ := ⟨_, rfl⟩
 have b1 : Below w.heap.size w w1 := bnw hw1
 have q1 : w1.heap[w.heap.size]? = some tyZ := nnw hw1
 have s1 : w1.heap.size = w.heap.size + 1 := by rw [hw1]; simp
 have ha : Calls Tryz.prog 110 #[.pointer (some ⟨rb, 0, none⟩)] w1 fun en w' => en = .returned (.agg #[.int .i64 t.kind, str t.text, .int .i64 t.num, .int .i64 (t.at_ : Int)]) ∧ Rd rb e w' l it dp ∧ Kp rb w1 w' := Qbu (h.later b1)
 have hrb := h.lt
 obtain ⟨PO, hPO⟩ : ∃ PO : Ending → World → Prop, PO = fun en w' => Ans rb e dp w (fun w2 v x => VTy (fun b => w.heap.size ≤ b) w2 v x) (typeP e (t :: l) it) en w' := ⟨_, rfl⟩
 rw [← hPO]
 have HW1 : Hid (w1 = w.alloc (.cells #[.string ⟨#[]⟩, .string ⟨#[]⟩, .slice none 0 0, .int .i64 0] 94)) := hw1
 have HPO := hide hPO
 have hsg : Hid (typeP e (t :: l) it = (wordQ e l it).bind fun n l2 i => (choose e [[60, 58], [61]] l2 i).bind fun s l3 i => if s = [60, 58] then (nmQ e l3 i).map fun c => ⟨n, c, [], t.at_⟩ else (listP e [124] noMost (ctorP e) l3 i).map fun cs => ⟨n, [], cs, t.at_⟩) := rfl
 generalize typeP e (t :: l) it = sr at HPO hsg
 have K1 := hide (Ya (Kp.of_below (rb := rb) b1) (Ya q1 s1))
 clear h b1 q1 s1 hw1 hPO
 go_enter Tryz.func93, Tryz.ntmps93
 go_wp2_with fail
 rw [← Qa HW1]
 refine ha.mono ?_
 clear ha
 rintro en w2 ⟨rfl, hR2, k2⟩
 obtain ⟨k1, q1, s1⟩ := Qa K1
 have hs2 := k2.size
 obtain ⟨w3, hw3⟩ : ∃ w3, w3 = w2.alloc (.cells #[.string ⟨#[]⟩, .string ⟨#[]⟩, .slice none 0 0, .int .i64 (t.at_ : Int)] 94) := ⟨_, rfl⟩
 have b3 : Below w2.heap.size w2 w3 := bnw hw3
 have n3 : w3.heap[w2.heap.size]? = some (.cells #[.string ⟨#[]⟩, .string ⟨#[]⟩, .slice none 0 0, .int .i64 (t.at_ : Int)] 94 (0, 0)) := nnw hw3
 have q3 : w3.heap[w.heap.size]? = some tyZ := (b3.block _ (by omega)).trans (k2.keep q1 (by omega))
 have s3 : w3.heap.size = w2.heap.size + 1 := by rw [hw3]; simp
 have hc := Qcp (hR2.later b3)
 have HW3 := hide hw3
 have K3 := hide (Ya ((k1.trans k2).trans (Kp.of_below b3)) (Ya n3 (Ya q3 (Ya (by omega : w.heap.size + 1 ≤ w2.heap.size) s3))))
 generalize hxb : w2.heap.size = xb at K3
 clear k1 q1 s1 hs2 k2 b3 n3 q3 s3 hw3 K1 hR2
 go_wp2_with fail
 rename_i hK
 refine hK _ _ ?_
 clear hK
 cases hq : wordQ e l it with
 | bad why at1 l2 =>
  rw [hq] at hc hsg
  rw [Qa hsg] at HPO
  clear hq hsg
  go_wp2_with fail
  rw [← Qa HW3]
  refine hc.mono ?_
  clear hc
  rintro en w4 ⟨rfl, k4⟩
  have H4 := hide ((Qa K3).1.trans k4)
  clear k4
  go_wp2_with fail
  refine ⟨rfl, ?_⟩
  rw [Qa HPO]
  exact ⟨rfl, Qa H4⟩
 | ok s l2 i2 =>
  rw [hq] at hc hsg
  clear hq
  go_wp2_with fail
  rw [← Qa HW3]
  clear HW3 hxb
  refine hc.mono ?_
  clear hc
  rintro en w4 ⟨_, rfl, rfl, hR4, k4⟩
  obtain ⟨k3, n3, q3, g1, s3⟩ := Qa K3
  have hs4 := k4.size
  have n4 := k4.keep n3 (by omega)
  have q4 := k4.keep q3 (by omega)
  have hne : w.heap.size ≠ xb := by omega
  obtain ⟨c0, c1, c2, c3, cf⟩ := cl4 n4
  obtain ⟨w5, hw5⟩ : ∃ w5, w5 = w4.setCell ⟨xb, 0, none⟩ (str s) := ⟨_, rfl⟩
  have n5 : w5.heap[xb]? = some (.cells #[str s, .string ⟨#[]⟩, .slice none 0 0, .int .i64 (t.at_ : Int)] 94 (0, 0)) := by rw [hw5]; exact (Qad n4 0 _).trans rfl
  have q5 : w5.heap[w.heap.size]? = some tyZ := by rw [hw5, hpS hne]; exact q4
  have k5 : Kp rb w w5 := by rw [hw5]; exact (k3.trans k4).set2 (by omega)
  have hR5 : Rd rb e w5 l2 i2 dp := by rw [hw5]; exact hR4.set2 (by omega)
  have s5 : w4.heap.size = w5.heap.size := by rw [hw5]; simp [World.setCell]
  obtain ⟨w6, hw6⟩ : ∃ w6, w6 = w5.alloc (.cells #[.string ⟨#[60, 58]⟩, .string ⟨#[61]⟩] 9) := ⟨_, rfl⟩
  have b6 : Below w5.heap.size w5 w6 := bnw hw6
  have m6 : w6.heap[w5.heap.size]? = some (.cells #[.string ⟨#[60, 58]⟩, .string ⟨#[61]⟩] 9 (0, 0)) := nnw hw6
  have s6 : w6.heap.size = w5.heap.size + 1 := by rw [hw6]; simp
  have hsv : SgAt rb w6 (.slice (some ⟨w4.heap.size, 0, none⟩) 2 2) [[60, 58], [61]] := by
   refine ⟨w4.heap.size, 0, 2, rfl, by omega, by omega, fun j x hx => ?_⟩
   rw [s5, Qab m6]
   match j, hx with
   | 0, hx => simp at hx; subst hx; rfl
   | 1, hx => simp at hx; subst hx; rfl
  have hch := Qgp (hR5.later b6) _ _ hsv (by decide) (by decide)
  have n6 := (b6.block _ (Qag n5)).trans n5
  have q6 := (b6.block _ (Qag q5)).trans q5
  have K6 := hide (Ya (k5.trans (Kp.of_below b6)) (Ya n6 (Ya q6 (Ya g1 (by have := Qag n5; omega : xb < w6.heap.size)))))
  have HW6 : Hid (w6 = (w4.setCell ⟨xb, 0, none⟩ (str s)).alloc (.cells #[.string ⟨#[60, 58]⟩, .string ⟨#[61]⟩] 9)) := by rw [hw5] at hw6; exact hw6
  clear k3 n3 q3 g1 s3 hs4 n4 q4 c1 c2 c3 hw5 n5 q5 k5 hR5 K3 hR4 k4 s5 hw6 b6 m6 s6 hsv n6 q6
  cases hq : choose e [[60, 58], [61]] l2 i2 with
  | bad why at1 l4 =>
   rw [hq] at hch
   rw [Qa hsg, Rs.bind, hq] at HPO
   clear hq hsg
   go_wp2_with fail
   rw [← Qa HW6]
   refine hch.mono ?_
   clear hch
   rintro en w7 ⟨rfl, k7⟩
   have H7 := hide ((Qa K6).1.trans k7)
   clear k7
   go_wp2_with fail
   refine ⟨rfl, ?_⟩
   rw [Qa HPO]
   exact ⟨rfl, Qa H7⟩
  | ok g l3 i3 =>
   rw [hq] at hch
   rw [Qa hsg, Rs.bind, hq, Rs.bind] at HPO
   clear hq hsg
   go_wp2_with fail
   rw [← Qa HW6]
   clear HW6 c0 cf
   refine hch.mono ?_
   clear hch
   rintro en w7 ⟨_, rfl, rfl, hR7, k7⟩
   have K7 := hide k7
   by_cases cg : g = [60, 58]
   ·
    have g1 : (g == [60, 58]) = true := by simpa using cg
    rw [if_pos cg] at HPO
    have hnm := Qgf hR7
    clear hR7 k7 cg
    cases hq : nmQ e l3 i3 with
    | bad why at1 l4 =>
     rw [hq] at hnm HPO
     clear hq
     go_wp2_with fail
     refine hnm.mono ?_
     clear hnm
     rintro en w8 ⟨rfl, k8⟩
     have H8 := hide (((Qa K6).1.trans (Qa K7)).trans k8)
     clear k8
     go_wp2_with fail
     refine ⟨rfl, ?_⟩
     rw [Qa HPO]
     exact ⟨rfl, Qa H8⟩
    | ok cn l4 i4 =>
     rw [hq] at hnm HPO
     clear hq
     go_wp2_with fail
     refine hnm.mono ?_
     clear hnm
     rintro en w8 ⟨_, rfl, rfl, hR8, k8'⟩
     obtain ⟨k6, n6, q6, g2, g3⟩ := Qa K6
     have hs7 := (Qa K7).size
     have k8 := (Qa K7).trans k8'
     have n8 := k8.keep n6 (by omega)
     have q8 := k8.keep q6 (by omega)
     obtain ⟨w9, hw9⟩ : ∃ w9, w9 = w8.setCell ⟨xb, 1, none⟩ (str cn) := ⟨_, rfl⟩
     have n9 : w9.heap[xb]? = some (.cells #[str s, str cn, .slice none 0 0, .int .i64 (t.at_ : Int)] 94 (0, 0)) := by rw [hw9]; exact (Qad n8 1 _).trans rfl
     have q9 : w9.heap[w.heap.size]? = some tyZ := by rw [hw9, hpS hne]; exact q8
     have k9 : Kp rb w w9 := by rw [hw9]; exact (k6.trans k8).set2 (by omega)
     have hR9 : Rd rb e w9 l4 i4 dp := by rw [hw9]; exact hR8.set2 (by omega)
     have hL9 : LsAt PC 2 (fun b => w7.heap.size ≤ b) w9 (.slice none 0 0) [] := LsAt.nil _ _
     obtain ⟨x0, x1, x2, x3, xf⟩ := cl4 n8
     obtain ⟨z0, z1, z2, z3, zf⟩ := cl4 n9
     obtain ⟨y0, y1, y2, y3, yf⟩ := cl4 q9
     have HF : Hid (∀ q0 q1 q2 q3, VTy (fun b => w.heap.size ≤ b) ((((w9.setCell ⟨w.heap.size, 0, none⟩ q0).setCell ⟨w.heap.size, 1, none⟩ q1).setCell ⟨w.heap.size, 2, none⟩ q2).setCell ⟨w.heap.size, 3, none⟩ q3) (.agg #[str s, str cn, .slice none 0 0, .int .i64 (t.at_ : Int)]) ⟨s, cn, [], t.at_⟩ ∧ Rd rb e ((((w9.setCell ⟨w.heap.size, 0, none⟩ q0).setCell ⟨w.heap.size, 1, none⟩ q1).setCell ⟨w.heap.size, 2, none⟩ q2).setCell ⟨w.heap.size, 3, none⟩ q3) l4 i4 dp ∧ Kp rb w ((((w9.setCell ⟨w.heap.size, 0, none⟩ q0).setCell ⟨w.heap.size, 1, none⟩ q1).setCell ⟨w.heap.size, 2, none⟩ q2).setCell ⟨w.heap.size, 3, none⟩ q3)) := fun q0 q1 q2 q3 => by
      have hsame : ∀ b, b ≠ w.heap.size → ((((w9.setCell ⟨w.heap.size, 0, none⟩ q0).setCell ⟨w.heap.size, 1, none⟩ q1).setCell ⟨w.heap.size, 2, none⟩ q2).setCell ⟨w.heap.size, 3, none⟩ q3).heap[b]? = w9.heap[b]? := fun b hb => by
       rw [hpS hb, hpS hb, hpS hb, hpS hb]
      exact ⟨⟨_, _, _, rfl, (hL9.same Qex (by simp [World.setCell]) (fun b hb hl => hsame b (by have hb' : w7.heap.size ≤ b := hb; omega))).mono Qex (fun b _ hb => by have hb' : w7.heap.size ≤ b := hb; omega)⟩, (((hR9.set2 (by omega)).set2 (by omega)).set2 (by omega)).set2 (by omega), (((k9.set2 (by omega)).set2 (by omega)).set2 (by omega)).set2 (by omega)⟩
     clear hR8 k8 k6 n6 q6 g2 g3 hs7 n8 q8 n9 q9 k9 hR9 hL9 x0 x2 x3 zf hne k8'
     subst hw9
     go_wp2_with fail
     refine bodyPost_ret (v := .agg #[str s, str cn, .slice none 0 0, .int .i64 t.at_]) (by simp [results, Tryz.results93, go_sem, y0, y1, y2, y3]) rfl ?_
     rw [Qa HPO]
     exact ⟨_, rfl, Qa HF _ _ _ _⟩
   have g1 : (g == [60, 58]) = false := by simpa using cg
   rw [if_neg cg] at HPO
   have hnm := Qwr PC Qex Jay Qsf hR7 [124] (by decide) noMost
   clear hR7 k7 cg
   cases hq : listP e [124] noMost (ctorP e) l3 i3 with
   | bad why at1 l4 =>
    rw [hq] at hnm HPO
    clear hq
    go_wp2_with fail
    refine hnm.mono ?_
    clear hnm
    rintro en w8 ⟨rfl, k8⟩
    have H8 := hide (((Qa K6).1.trans (Qa K7)).trans k8)
    clear k8
    go_wp2_with fail
    refine ⟨rfl, ?_⟩
    rw [Qa HPO]
    exact ⟨rfl, Qa H8⟩
   | ok ks l4 i4 =>
    rw [hq] at hnm HPO
    clear hq
    go_wp2_with fail
    refine hnm.mono ?_
    clear hnm
    rintro en w8 ⟨_, rfl, hL, hR8, k8'⟩
    obtain ⟨ka, kc, _, ev, _⟩ := id hL
    subst ev
    obtain ⟨k6, n6, q6, g2, g3⟩ := Qa K6
    have hs7 := (Qa K7).size
    have k8 := (Qa K7).trans k8'
    have n8 := k8.keep n6 (by omega)
    have q8 := k8.keep q6 (by omega)
    obtain ⟨w9, hw9⟩ : ∃ w9, w9 = w8.setCell ⟨xb, 2, none⟩ (.slice ka ks.length kc) := ⟨_, rfl⟩
    have n9 : w9.heap[xb]? = some (.cells #[str s, .string ⟨#[]⟩, .slice ka ks.length kc, .int .i64 (t.at_ : Int)] 94 (0, 0)) := by rw [hw9]; exact (Qad n8 2 _).trans rfl
    have q9 : w9.heap[w.heap.size]? = some tyZ := by rw [hw9, hpS hne]; exact q8
    have k9 : Kp rb w w9 := by rw [hw9]; exact (k6.trans k8).set2 (by omega)
    have hR9 : Rd rb e w9 l4 i4 dp := by rw [hw9]; exact hR8.set2 (by omega)
    have hL9 : LsAt PC 2 (fun b => w7.heap.size ≤ b) w9 (.slice ka ks.length kc) ks := by
     refine hL.same Qex (by rw [hw9]; simp [World.setCell]) (fun b hb hl => ?_)
     have hb' : w7.heap.size ≤ b := hb
     have hn : b ≠ xb := by omega
     rw [hw9, hpS hn]
    obtain ⟨x0, x1, x2, x3, xf⟩ := cl4 n8
    obtain ⟨z0, z1, z2, z3, zf⟩ := cl4 n9
    obtain ⟨y0, y1, y2, y3, yf⟩ := cl4 q9
    have HF : Hid (∀ q0 q1 q2 q3, VTy (fun b => w.heap.size ≤ b) ((((w9.setCell ⟨w.heap.size, 0, none⟩ q0).setCell ⟨w.heap.size, 1, none⟩ q1).setCell ⟨w.heap.size, 2, none⟩ q2).setCell ⟨w.heap.size, 3, none⟩ q3) (.agg #[str s, .string ⟨#[]⟩, .slice ka ks.length kc, .int .i64 (t.at_ : Int)]) ⟨s, [], ks, t.at_⟩ ∧ Rd rb e ((((w9.setCell ⟨w.heap.size, 0, none⟩ q0).setCell ⟨w.heap.size, 1, none⟩ q1).setCell ⟨w.heap.size, 2, none⟩ q2).setCell ⟨w.heap.size, 3, none⟩ q3) l4 i4 dp ∧ Kp rb w ((((w9.setCell ⟨w.heap.size, 0, none⟩ q0).setCell ⟨w.heap.size, 1, none⟩ q1).setCell ⟨w.heap.size, 2, none⟩ q2).setCell ⟨w.heap.size, 3, none⟩ q3)) := fun q0 q1 q2 q3 => by
     have hsame : ∀ b, b ≠ w.heap.size → ((((w9.setCell ⟨w.heap.size, 0, none⟩ q0).setCell ⟨w.heap.size, 1, none⟩ q1).setCell ⟨w.heap.size, 2, none⟩ q2).setCell ⟨w.heap.size, 3, none⟩ q3).heap[b]? = w9.heap[b]? := fun b hb => by
      rw [hpS hb, hpS hb, hpS hb, hpS hb]
     exact ⟨⟨_, _, _, rfl, (hL9.same Qex (by simp [World.setCell]) (fun b hb hl => hsame b (by have hb' : w7.heap.size ≤ b := hb; omega))).mono Qex (fun b _ hb => by have hb' : w7.heap.size ≤ b := hb; omega)⟩, (((hR9.set2 (by omega)).set2 (by omega)).set2 (by omega)).set2 (by omega), (((k9.set2 (by omega)).set2 (by omega)).set2 (by omega)).set2 (by omega)⟩
    clear hR8 k8 k6 n6 q6 g2 g3 hs7 n8 q8 n9 q9 k9 hR9 hL9 hL x0 x1 x3 zf hne k8'
    subst hw9
    go_wp2_with fail
    refine bodyPost_ret (v := .agg #[str s, .string ⟨#[]⟩, .slice ka ks.length kc, .int .i64 t.at_]) (by simp [results, Tryz.results93, go_sem, y0, y1, y2, y3]) rfl ?_
    rw [Qa HPO]
    exact ⟨_, rfl, Qa HF _ _ _ _⟩
end
section
open Go.RowKit Go.Maps
theorem cl5 {w : World} {b : Nat} {T : TypeId} {v0 v1 v2 v3 v4 : Value} (h : w.heap[b]? = some (.cells #[v0, v1, v2, v3, v4] T (0, 0))) :
  w.cell? ⟨b, 0, none⟩ = some v0 ∧ w.cell? ⟨b, 1, none⟩ = some v1 ∧ w.cell? ⟨b, 2, none⟩ = some v2 ∧ w.cell? ⟨b, 3, none⟩ = some v3 ∧ w.cell? ⟨b, 4, none⟩ = some v4 ∧ ∀ o, w.frozen? ⟨b, o, none⟩ = false :=
 ⟨(Qab h 0).trans rfl, (Qab h 1).trans rfl, (Qab h 2).trans rfl, (Qab h 3).trans rfl, (Qab h 4).trans rfl, fun o => by simp [World.frozen?, h]⟩
abbrev dcZ : Obj := .cells #[.string ⟨#[]⟩, .slice none 0 0, .bool false, .bool false, .int .i64 0] 99
def VDc (S : Nat → Prop) (w : World) (v : Value) (x : Dcl) : Prop := ∃ xa xn xc, v = .agg #[str x.name, .slice xa xn xc, .bool x.input, .bool x.output, .int .i64 x.at_] ∧ LsAt PF 2 S w (.slice xa xn xc) x.cols
structure DI (rb e dp : Nat) (r0 : Rs (Bool × Bool)) (w : World) (xb : Nat) (s : Txt) (ka : Option Addr) (ks : List Fld) (kc : Nat) (at0 : Int) (wr : World) (a b : Bool) (l : List Tok) (it f : Nat) : Prop where
 kp : Kp rb w wr
 rd : Rd rb e wr l it dp
 box : wr.heap[xb]? = some (.cells #[str s, .slice ka ks.length kc, .bool a, .bool b, .int .i64 at0] 99 (0, 0))
 ls : LsAt PF 2 (fun k => w.heap.size < k ∧ k ≠ xb) wr (.slice ka ks.length kc) ks
 res : wr.heap[w.heap.size]? = some dcZ
 eq : r0 = flagL e f a b l it
 fuel : l.length + 1 ≤ f
 xb1 : w.heap.size < xb
theorem DI.later {rb e dp : Nat} {r0 : Rs (Bool × Bool)} {w : World} {xb : Nat} {s : Txt} {ka : Option Addr} {ks : List Fld} {kc : Nat} {at0 : Int} {wr : World} {a b : Bool} {l : List Tok} {it f : Nat} (h : DI rb e dp r0 w xb s ka ks kc at0 wr a b l it f) {w' : World} (hb : Below wr.heap.size wr w') : DI rb e dp r0 w xb s ka ks kc at0 w' a b l it f :=
 ⟨h.kp.trans (Kp.of_below hb), h.rd.later hb, (hb.block _ (Qag h.box)).trans h.box, h.ls.same Qbv hb.size (fun k _ hl => hb.block k hl), (hb.block _ (Qag h.res)).trans h.res, h.eq, h.fuel, h.xb1⟩
theorem DI.fin {rb e dp : Nat} {r0 : Rs (Bool × Bool)} {w : World} {xb : Nat} {s : Txt} {ka : Option Addr} {ks : List Fld} {kc : Nat} {at0 : Int} {w9 : World} {a b : Bool} {l : List Tok} {it f : Nat} (h : DI rb e dp r0 w xb s ka ks kc at0 w9 a b l it f) (hrb : rb < w.heap.size) (q0 q1 q2 q3 q4 : Value) :
  VDc (fun b => w.heap.size ≤ b) (((((w9.setCell ⟨w.heap.size, 0, none⟩ q0).setCell ⟨w.heap.size, 1, none⟩ q1).setCell ⟨w.heap.size, 2, none⟩ q2).setCell ⟨w.heap.size, 3, none⟩ q3).setCell ⟨w.heap.size, 4, none⟩ q4) (.agg #[str s, .slice ka ks.length kc, .bool a, .bool b, .int .i64 at0]) ⟨s, ks, a, b, at0⟩ ∧ Rd rb e (((((w9.setCell ⟨w.heap.size, 0, none⟩ q0).setCell ⟨w.heap.size, 1, none⟩ q1).setCell ⟨w.heap.size, 2, none⟩ q2).setCell ⟨w.heap.size, 3, none⟩ q3).setCell ⟨w.heap.size, 4, none⟩ q4) l it dp ∧ Kp rb w (((((w9.setCell ⟨w.heap.size, 0, none⟩ q0).setCell ⟨w.heap.size, 1, none⟩ q1).setCell ⟨w.heap.size, 2, none⟩ q2).setCell ⟨w.heap.size, 3, none⟩ q3).setCell ⟨w.heap.size, 4, none⟩ q4) := by
 have hsame : ∀ k, k ≠ w.heap.size → (((((w9.setCell ⟨w.heap.size, 0, none⟩ q0).setCell ⟨w.heap.size, 1, none⟩ q1).setCell ⟨w.heap.size, 2, none⟩ q2).setCell ⟨w.heap.size, 3, none⟩ q3).setCell ⟨w.heap.size, 4, none⟩ q4).heap[k]? = w9.heap[k]? := fun k hb => by
  rw [hpS hb, hpS hb, hpS hb, hpS hb, hpS hb]
 exact ⟨⟨_, _, _, rfl, (h.ls.same Qbv (by simp [World.setCell]) (fun k hk hl => hsame k (by have hk' : w.heap.size < k ∧ k ≠ xb := hk; omega))).mono Qbv (fun k _ hk => by have hk' : w.heap.size < k ∧ k ≠ xb := hk; omega)⟩, ((((h.rd.set2 (by omega)).set2 (by omega)).set2 (by omega)).set2 (by omega)).set2 (by omega), ((((h.kp.set2 (by omega)).set2 (by omega)).set2 (by omega)).set2 (by omega)).set2 (by omega)⟩

theorem Jab {rb e dp : Nat} {w : World} {t : Tok} {l : List Tok} {it : Nat} (h : Rd rb e w (t :: l) it dp) :
  Calls Tryz.prog 94 #[.pointer (some ⟨rb, 0, none⟩)] w fun en w' => Ans rb e dp w (fun w2 v x => VDc (fun b => w.heap.size ≤ b) w2 v x) (declP e (t :: l) it) en w' := by
 obtain ⟨w1, hw1⟩ : ∃ w1, w1 = w.alloc dcZ := ⟨_, rfl⟩
 have b1 : Below w.heap.size w w1 := bnw hw1
 have q1 : w1.heap[w.heap.size]? = some dcZ := nnw hw1
 have s1 : w1.heap.size = w.heap.size + 1 := by rw [hw1]; simp
 have ha : Calls Tryz.prog 110 #[.pointer (some ⟨rb, 0, none⟩)] w1 fun en w' => en = .returned (.agg #[.int .i64 t.kind, str t.text, .int .i64 t.num, .int .i64 (t.at_ : Int)]) ∧ Rd rb e w' l it dp ∧ Kp rb w1 w' := Qbu (h.later b1)
 have hrb := h.lt
 obtain ⟨PO, hPO⟩ : ∃ PO : Ending → World → Prop, PO = fun en w' => Ans rb e dp w (fun w2 v x => VDc (fun b => w.heap.size ≤ b) w2 v x) (declP e (t :: l) it) en w' := ⟨_, rfl⟩
 rw [← hPO]
 have HW1 : Hid (w1 = w.alloc (.cells #[.string ⟨#[]⟩, .slice none 0 0, .bool false, .bool false, .int .i64 0] 99)) := hw1
 have HPO := hide hPO
 have hsg : Hid (declP e (t :: l) it = (wordQ e l it).bind fun n l2 i => (encl e [40] [41] (fieldP e) l2 i).bind fun cs l3 i => (flagL e (l3.length + 1) false false l3 i).map fun p => ⟨n, cs, p.1, p.2, t.at_⟩) := rfl
 generalize declP e (t :: l) it = sr at HPO hsg
 have K1 := hide (Ya (Kp.of_below (rb := rb) b1) (Ya q1 s1))
 clear h b1 q1 s1 hw1 hPO
 go_enter Tryz.func94, Tryz.ntmps94
 go_wp2_with fail
 rw [← Qa HW1]
 refine ha.mono ?_
 clear ha
 rintro en w2 ⟨rfl, hR2, k2⟩
 obtain ⟨k1, q1, s1⟩ := Qa K1
 have hs2 := k2.size
 obtain ⟨w3, hw3⟩ : ∃ w3, w3 = w2.alloc (.cells #[.string ⟨#[]⟩, .slice none 0 0, .bool false, .bool false, .int .i64 (t.at_ : Int)] 99) := ⟨_, rfl⟩
 have b3 : Below w2.heap.size w2 w3 := bnw hw3
 have n3 : w3.heap[w2.heap.size]? = some (.cells #[.string ⟨#[]⟩, .slice none 0 0, .bool false, .bool false, .int .i64 (t.at_ : Int)] 99 (0, 0)) := nnw hw3
 have q3 : w3.heap[w.heap.size]? = some dcZ := (b3.block _ (by omega)).trans (k2.keep q1 (by omega))
 have s3 : w3.heap.size = w2.heap.size + 1 := by rw [hw3]; simp
 have hc := Qcp (hR2.later b3)
 have HW3 := hide hw3
 have K3 := hide (Ya ((k1.trans k2).trans (Kp.of_below b3)) (Ya n3 (Ya q3 (Ya (by omega : w.heap.size + 1 ≤ w2.heap.size) s3))))
 generalize hxb : w2.heap.size = xb at K3
 clear k1 q1 s1 hs2 k2 b3 n3 q3 s3 hw3 K1 hR2
 go_wp2_with fail
 rename_i hK
 refine hK _ _ ?_
 clear hK
 cases hq : wordQ e l it with
 | bad why at1 l2 =>
  rw [hq] at hc hsg
  rw [Qa hsg] at HPO
  clear hq hsg
  go_wp2_with fail
  rw [← Qa HW3]
  refine hc.mono ?_
  clear hc
  rintro en w4 ⟨rfl, k4⟩
  have H4 := hide ((Qa K3).1.trans k4)
  clear k4
  go_wp2_with fail
  refine ⟨rfl, ?_⟩
  rw [Qa HPO]
  exact ⟨rfl, Qa H4⟩
 | ok s l2 i2 =>
  rw [hq] at hc hsg
  clear hq
  go_wp2_with fail
  rw [← Qa HW3]
  clear HW3 hxb
  refine hc.mono ?_
  clear hc
  rintro en w4 ⟨_, rfl, rfl, hR4, k4⟩
  obtain ⟨k3, n3, q3, g1, s3⟩ := Qa K3
  have hs4 := k4.size
  have n4 := k4.keep n3 (by omega)
  have q4 := k4.keep q3 (by omega)
  have hne : w.heap.size ≠ xb := by omega
  obtain ⟨c0, c1, c2, c3, c4, cf⟩ := cl5 n4
  obtain ⟨w5, hw5⟩ : ∃ w5, w5 = w4.setCell ⟨xb, 0, none⟩ (str s) := ⟨_, rfl⟩
  have n5 : w5.heap[xb]? = some (.cells #[str s, .slice none 0 0, .bool false, .bool false, .int .i64 (t.at_ : Int)] 99 (0, 0)) := by rw [hw5]; exact (Qad n4 0 _).trans rfl
  have q5 : w5.heap[w.heap.size]? = some dcZ := by rw [hw5, hpS hne]; exact q4
  have k5 : Kp rb w w5 := by rw [hw5]; exact (k3.trans k4).set2 (by omega)
  have hR5 : Rd rb e w5 l2 i2 dp := by rw [hw5]; exact hR4.set2 (by omega)
  have s5 : w4.heap.size = w5.heap.size := by rw [hw5]; simp [World.setCell]
  have hen := Qml PF Qbv Qry Qgm hR5 [40] [41] (by decide) (by decide)
  have HW5 := hide hw5
  have K5 := hide (Ya k5 (Ya n5 (Ya q5 (Ya g1 (by have := Qag n5; omega : xb < w5.heap.size)))))
  clear k3 n3 q3 g1 s3 hs4 n4 q4 c1 c2 c3 c4 hw5 n5 q5 k5 hR5 K3 hR4 k4 s5
  cases hq : encl e [40] [41] (fieldP e) l2 i2 with
  | bad why at1 l4 =>
   rw [hq] at hen
   rw [Qa hsg, Rs.bind, hq] at HPO
   clear hq hsg
   go_wp2_with fail
   rw [← Qa HW5]
   refine hen.mono ?_
   clear hen
   rintro en w7 ⟨rfl, k7⟩
   have H7 := hide ((Qa K5).1.trans k7)
   clear k7
   go_wp2_with fail
   refine ⟨rfl, ?_⟩
   rw [Qa HPO]
   exact ⟨rfl, Qa H7⟩
  | ok ks l3 i3 =>
   rw [hq] at hen
   rw [Qa hsg, Rs.bind, hq, Rs.bind] at HPO
   clear hq hsg
   go_wp2_with fail
   rw [← Qa HW5]
   clear HW5 c0 cf
   refine hen.mono ?_
   clear hen
   rintro en w7 ⟨_, rfl, hL, hR7, k7⟩
   obtain ⟨ka, kc, _, ev, _⟩ := id hL
   subst ev
   obtain ⟨k5, n5, q5, g1, g2⟩ := Qa K5
   have n7 := k7.keep n5 (by omega)
   have q7 := k7.keep q5 (by omega)
   obtain ⟨x0, x1, x2, x3, x4, xf⟩ := cl5 n7
   obtain ⟨r0, hr0⟩ : ∃ r0, r0 = flagL e (l3.length + 1) false false l3 i3 := ⟨_, rfl⟩
   rw [← hr0] at HPO
   obtain ⟨w8, hw8⟩ : ∃ w8, w8 = w7.setCell ⟨xb, 1, none⟩ (.slice ka ks.length kc) := ⟨_, rfl⟩
   have hD : DI rb e dp r0 w xb s ka ks kc t.at_ w8 false false l3 i3 (l3.length + 1) := by
    refine ⟨by rw [hw8]; exact (k5.trans k7).set2 (by omega), by rw [hw8]; exact hR7.set2 (by omega), by rw [hw8]; exact (Qad n7 1 _).trans rfl, ?_, by rw [hw8, hpS hne]; exact q7, hr0, Nat.le_refl _, by omega⟩
    refine (hL.same Qbv (by rw [hw8]; simp [World.setCell]) (fun b hb hl => ?_)).mono Qbv (fun b _ hb => ?_)
    ·
     have hb' : w5.heap.size ≤ b := hb
     have hn : b ≠ xb := by omega
     rw [hw8, hpS hn]
    have hb' : w5.heap.size ≤ b := hb
    have h5 := Qag q5
    exact ⟨by omega, by omega⟩
   have HD := hide hD
   have HW8 := hide hw8
   clear hL hR7 k7 k5 n5 q5 g1 g2 n7 q7 x0 x2 x3 x4 hr0 hD hw8 K5 hne
   go_wp2_with fail
   rw [← Qa HW8]
   clear HW8 x1 xf
   go_loopw [29] (fun _ wr => ∃ a b l' it' f, DI rb e dp r0 w xb s ka ks kc t.at_ wr a b l' it' f) (fun _ wr => left rb wr)
   case atStart => exact ⟨_, _, _, _, _, Qa HD⟩
   obtain ⟨a, b, l', it', f, hJ⟩ := hrel
   clear HD
   obtain ⟨f', rfl⟩ : ∃ f', f = f' + 1 := ⟨f - 1, by have := hJ.fuel; omega⟩
   have ha := Qau hJ.rd 0
   unfold tokV at ha
   obtain ⟨tk, htk⟩ : ∃ tk, tk = ahd e 0 l' := ⟨_, rfl⟩
   rw [← htk] at ha
   have HJ := hide hJ
   by_cases c1 : tk.kind = 1
   ·
    have g1 : (tk.kind == 1) = true := by simpa using c1
    obtain ⟨tk', l4, rfl, hk⟩ := Qem (htk ▸ c1) (by decide)
    clear hk
    have e0 : tk = tk' := htk
    subst e0
    have HC : Hid (∀ u, Below wr.heap.size wr u → Calls Tryz.prog 118 #[.pointer (some ⟨rb, 0, none⟩)] u fun en w' => en = .returned (.bool (callN e (tk :: l4))) ∧ Below u.heap.size u w') := fun u hu => Qf (hJ.rd.later hu)
    have HA : Hid (∀ u, Below wr.heap.size wr u → Calls Tryz.prog 60 #[.pointer (some ⟨rb, 0, none⟩), .int .i64 0] u fun en w' => en = .returned (.agg #[.int .i64 tk.kind, str tk.text, .int .i64 tk.num, .int .i64 (tk.at_ : Int)]) ∧ Below u.heap.size u w') := fun u hu => Qau (hJ.rd.later hu) 0
    have hfl := hJ.eq
    rw [flagL] at hfl
    cases hcn : callN e (tk :: l4) with
    | true =>
     have HE : Hid (r0 = .ok (a, b) (tk :: l4) it') := by rw [hcn, if_neg (by simp)] at hfl; exact hfl
     rw [hcn] at HC
     clear hcn hfl c1 htk hJ HA
     go_wp2_with fail
     refine ha.mono ?_
     clear ha
     rintro en w1 ⟨rfl, b1⟩
     have hcl := Qa HC w1 b1
     have B1 := hide b1
     clear b1 HC
     go_wp2_with fail
     rename_i hK
     refine hK _ _ ?_
     clear hK
     go_wp2_with fail
     refine hcl.mono ?_
     clear hcl
     rintro en w2 ⟨rfl, b2⟩
     have hJ2 := (Qa HJ).later ((Qa B1).trans (b2.mono (Qa B1).size))
     obtain ⟨z0, z1, z2, z3, z4, zf⟩ := cl5 hJ2.box
     obtain ⟨y0, y1, y2, y3, y4, yf⟩ := cl5 hJ2.res
     have HF := hide (hJ2.fin hrb)
     clear b2 hJ2 HJ zf
     go_wp2_with fail
     refine bodyPost_ret (v := .agg #[str s, .slice ka ks.length kc, .bool a, .bool b, .int .i64 t.at_]) (by simp [results, Tryz.results94, go_sem, y0, y1, y2, y3, y4]) rfl ?_
     rw [Qa HPO, Qa HE]
     exact ⟨_, rfl, Qa HF _ _ _ _ _⟩
    | false =>
     rw [hcn, if_pos ⟨(show (ahd e 0 (tk :: l4)).kind = 1 from c1), rfl⟩] at hfl
     have hfl2 : r0 = if tk.text = wIn then flagL e f' true b l4 it' else if tk.text = wOut then flagL e f' a true l4 it' else .ok (a, b) (tk :: l4) it' := hfl
     rw [hcn] at HC
     have HFL := hide hfl2
     clear hcn hfl hfl2 c1 htk hJ
     go_wp2_with fail
     refine ha.mono ?_
     clear ha
     rintro en w1 ⟨rfl, b1⟩
     have hcl := Qa HC w1 b1
     have B1 := hide b1
     clear b1 HC
     go_wp2_with fail
     rename_i hK
     refine hK _ _ ?_
     clear hK
     go_wp2_with fail
     refine hcl.mono ?_
     clear hcl
     rintro en w2 ⟨rfl, b2⟩
     have b02 := (Qa B1).trans (b2.mono (Qa B1).size)
     have ha2 := Qa HA w2 b02
     have B2 := hide b02
     clear b2 b02 HA B1
     go_wp2_with fail
     refine ha2.mono ?_
     clear ha2
     rintro en w3 ⟨rfl, b3⟩
     have hJ3 := (Qa HJ).later ((Qa B2).trans (b3.mono (Qa B2).size))
     have hlw := Qbz (Qa HJ).rd
     clear b3 B2 HJ
     go_wp2_with fail
     rename_i hK
     refine hK _ _ ?_
     clear hK
     obtain ⟨z0, z1, z2, z3, z4, zf⟩ := cl5 hJ3.box
     have hx := hJ3.xb1
     by_cases ci : tk.text = wIn
     ·
      have gi : (tk.text == [105, 110, 112, 117, 116]) = true := by rw [ci]; rfl
      have hE : r0 = flagL e f' true b l4 it' := by rw [Qa HFL, if_pos ci]
      obtain ⟨w4', hw4⟩ : ∃ w4', w4' = w3.setCell ⟨xb, 2, none⟩ (.bool true) := ⟨_, rfl⟩
      have hs : ∀ k, k ≠ xb → w4'.heap[k]? = w3.heap[k]? := fun k hk => by rw [hw4, hpS hk]
      have k4 : Kp rb w w4' := by rw [hw4]; exact hJ3.kp.set2 (by omega)
      have hR4 : Rd rb e w4' (tk :: l4) it' dp := by rw [hw4]; exact hJ3.rd.set2 (by omega)
      have n4 : w4'.heap[xb]? = some (.cells #[str s, .slice ka ks.length kc, .bool true, .bool b, .int .i64 t.at_] 99 (0, 0)) := by rw [hw4]; exact (Qad hJ3.box 2 _).trans rfl
      have L4 : LsAt PF 2 (fun k => w.heap.size < k ∧ k ≠ xb) w4' (.slice ka ks.length kc) ks := hJ3.ls.same Qbv (by rw [hw4]; simp [World.setCell]) (fun k hk _ => hs k hk.2)
      have q4 : w4'.heap[w.heap.size]? = some dcZ := (hs _ (by omega)).trans hJ3.res
      have hfu := hJ3.fuel
      have htk : Calls Tryz.prog 110 #[.pointer (some ⟨rb, 0, none⟩)] w4' fun en w' => en = .returned (.agg #[.int .i64 tk.kind, str tk.text, .int .i64 tk.num, .int .i64 (tk.at_ : Int)]) ∧ Rd rb e w' l4 it' dp ∧ Kp rb w4' w' := Qbu hR4
      have K4 := hide (Ya k4 (Ya n4 (Ya L4 (Ya q4 (Ya hE (Ya hx (Ya hlw hfu)))))))
      have HW4 := hide hw4
      clear ci hE hw4 hs k4 hR4 n4 L4 q4 hJ3 hlw hx hfu HFL
      go_wp2_with fail
      rw [← Qa HW4]
      clear HW4
      refine htk.mono ?_
      clear htk
      rintro en w5 ⟨rfl, hR5, k5⟩
      obtain ⟨k4, n4, L4, q4, hE, hx, hlw, hfu⟩ := Qa K4
      have hD5 : DI rb e dp r0 w xb s ka ks kc t.at_ w5 true b l4 it' f' := ⟨k4.trans k5, hR5, k5.keep n4 (by omega), L4.same Qbv k5.size (fun k hk hl => k5.block k hl (by have hk' : w.heap.size < k ∧ k ≠ xb := hk; omega)), k5.keep q4 (by omega), hE, by simp at hfu; omega, hx⟩
      have HL5 := hide (Ya (Qbz hD5.rd) hlw)
      have HD5 := hide hD5
      clear hR5 k5 k4 n4 L4 q4 hE hx hlw hfu hD5 K4 z0 z1 z2 z3 z4 zf
      go_wp2_with fail
      go_roundw
      case rel => exact ⟨_, _, _, _, _, Qa HD5⟩
      obtain ⟨r1, r2⟩ := Qa HL5
      rw [r1, r2]
      simp
     have gi : (tk.text == [105, 110, 112, 117, 116]) = false := by
      have : ¬ tk.text = [105, 110, 112, 117, 116] := ci
      simpa using this
     by_cases co : tk.text = wOut
     ·
      have go_ : (tk.text == [111, 117, 116, 112, 117, 116]) = true := by rw [co]; rfl
      have hE : r0 = flagL e f' a true l4 it' := by rw [Qa HFL, if_neg ci, if_pos co]
      obtain ⟨w4', hw4⟩ : ∃ w4', w4' = w3.setCell ⟨xb, 3, none⟩ (.bool true) := ⟨_, rfl⟩
      have hs : ∀ k, k ≠ xb → w4'.heap[k]? = w3.heap[k]? := fun k hk => by rw [hw4, hpS hk]
      have k4 : Kp rb w w4' := by rw [hw4]; exact hJ3.kp.set2 (by omega)
      have hR4 : Rd rb e w4' (tk :: l4) it' dp := by rw [hw4]; exact hJ3.rd.set2 (by omega)
      have n4 : w4'.heap[xb]? = some (.cells #[str s, .slice ka ks.length kc, .bool a, .bool true, .int .i64 t.at_] 99 (0, 0)) := by rw [hw4]; exact (Qad hJ3.box 3 _).trans rfl
      have L4 : LsAt PF 2 (fun k => w.heap.size < k ∧ k ≠ xb) w4' (.slice ka ks.length kc) ks := hJ3.ls.same Qbv (by rw [hw4]; simp [World.setCell]) (fun k hk _ => hs k hk.2)
      have q4 : w4'.heap[w.heap.size]? = some dcZ := (hs _ (by omega)).trans hJ3.res
      have hfu := hJ3.fuel
      have htk : Calls Tryz.prog 110 #[.pointer (some ⟨rb, 0, none⟩)] w4' fun en w' => en = .returned (.agg #[.int .i64 tk.kind, str tk.text, .int .i64 tk.num, .int .i64 (tk.at_ : Int)]) ∧ Rd rb e w' l4 it' dp ∧ Kp rb w4' w' := Qbu hR4
      have K4 := hide (Ya k4 (Ya n4 (Ya L4 (Ya q4 (Ya hE (Ya hx (Ya hlw hfu)))))))
      have HW4 := hide hw4
      clear ci co hE hw4 hs k4 hR4 n4 L4 q4 hJ3 hlw hx hfu HFL
      go_wp2_with fail
      rw [← Qa HW4]
      clear HW4
      refine htk.mono ?_
      clear htk
      rintro en w5 ⟨rfl, hR5, k5⟩
      obtain ⟨k4, n4, L4, q4, hE, hx, hlw, hfu⟩ := Qa K4
      have hD5 : DI rb e dp r0 w xb s ka ks kc t.at_ w5 a true l4 it' f' := ⟨k4.trans k5, hR5, k5.keep n4 (by omega), L4.same Qbv k5.size (fun k hk hl => k5.block k hl (by have hk' : w.heap.size < k ∧ k ≠ xb := hk; omega)), k5.keep q4 (by omega), hE, by simp at hfu; omega, hx⟩
      have HL5 := hide (Ya (Qbz hD5.rd) hlw)
      have HD5 := hide hD5
      clear hR5 k5 k4 n4 L4 q4 hE hx hlw hfu hD5 K4 z0 z1 z2 z3 z4 zf
      go_wp2_with fail
      go_roundw
      case rel => exact ⟨_, _, _, _, _, Qa HD5⟩
      obtain ⟨r1, r2⟩ := Qa HL5
      rw [r1, r2]
      simp
     have go_ : (tk.text == [111, 117, 116, 112, 117, 116]) = false := by
      have : ¬ tk.text = [111, 117, 116, 112, 117, 116] := co
      simpa using this
     have HE : Hid (r0 = .ok (a, b) (tk :: l4) it') := by rw [Qa HFL, if_neg ci, if_neg co]; rfl
     obtain ⟨y0, y1, y2, y3, y4, yf⟩ := cl5 hJ3.res
     have HF := hide (hJ3.fin hrb)
     clear ci co HFL hJ3 hlw hx zf
     go_wp2_with fail
     refine bodyPost_ret (v := .agg #[str s, .slice ka ks.length kc, .bool a, .bool b, .int .i64 t.at_]) (by simp [results, Tryz.results94, go_sem, y0, y1, y2, y3, y4]) rfl ?_
     rw [Qa HPO, Qa HE]
     exact ⟨_, rfl, Qa HF _ _ _ _ _⟩
   have g1 : (tk.kind == 1) = false := by simpa using c1
   have HE : Hid (r0 = .ok (a, b) l' it') := by
    have := hJ.eq
    rw [flagL, ← htk, if_neg (fun h => c1 h.1)] at this
    exact this
   clear c1 htk hJ
   go_wp2_with fail
   refine ha.mono ?_
   clear ha
   rintro en w1 ⟨rfl, b1⟩
   have hJ1 := (Qa HJ).later b1
   obtain ⟨z0, z1, z2, z3, z4, zf⟩ := cl5 hJ1.box
   obtain ⟨y0, y1, y2, y3, y4, yf⟩ := cl5 hJ1.res
   have HF := hide (hJ1.fin hrb)
   clear b1 hJ1 HJ zf
   go_wp2_with fail
   rename_i hK
   refine hK _ _ ?_
   clear hK
   go_wp2_with fail
   refine bodyPost_ret (v := .agg #[str s, .slice ka ks.length kc, .bool a, .bool b, .int .i64 t.at_]) (by simp [results, Tryz.results94, go_sem, y0, y1, y2, y3, y4]) rfl ?_
   rw [Qa HPO, Qa HE]
   exact ⟨_, rfl, Qa HF _ _ _ _ _⟩
end
section
open Go.RowKit Go.Maps
theorem infoL : ∃ i0 : TypeInfo, Tryz.prog.info? 69 = some i0 ∧ i0.zero = some (.agg #[.int .i64 0, .string ⟨#[]⟩, .slice none 0 0, .int .i64 0, .string ⟨#[]⟩, .int .i64 0, .int .i64 0, .string ⟨#[]⟩, .slice none 0 0, .int .i64 0, .int .i64 0, .int .i64 0, .string ⟨#[]⟩, .slice none 0 0, .int .i64 0, .int .i64 0]) ∧ i0.size = 16 ∧ i0.bytes = 208 := by
 have h : (Tryz.prog.info? 69).map (fun i => (i.zero, i.size, i.bytes)) = some (some (.agg #[.int .i64 0, .string ⟨#[]⟩, .slice none 0 0, .int .i64 0, .string ⟨#[]⟩, .int .i64 0, .int .i64 0, .string ⟨#[]⟩, .slice none 0 0, .int .i64 0, .int .i64 0, .int .i64 0, .string ⟨#[]⟩, .slice none 0 0, .int .i64 0, .int .i64 0]), 16, 208) := by kernel_rfl
 obtain ⟨i0, hi, hi3⟩ := Option.map_eq_some_iff.1 h
 simp only [Prod.mk.injEq] at hi3
 exact ⟨i0, hi, hi3⟩
def PartL (p : PS Lt) (rb e dp : Nat) (part : Pr Lt) : Prop := ∀ (w : World) (l : List Tok) (it : Nat), Rd rb e w l it dp → Calls Tryz.prog 126 #[.pointer (some ⟨rb, 0, none⟩)] w fun en w' => Ans rb e dp w (fun w2 v x => ∃ c0 c1 c2 c3 c4 c5 c6 c7 c8 c9 c10 c11 c12 c13 c14 c15, v = .agg #[c0, c1, c2, c3, c4, c5, c6, c7, c8, c9, c10, c11, c12, c13, c14, c15] ∧ (∀ c ∈ ([c0, c1, c2, c3, c4, c5, c6, c7, c8, c9, c10, c11, c12, c13, c14, c15] : List Value), c.oneCell' = true) ∧ p (fun b => w.heap.size ≤ b) w2 [c0, c1, c2, c3, c4, c5, c6, c7, c8, c9, c10, c11, c12, c13, c14, c15] x) (part l it) en w'

theorem Qwu (p : PS Lt) (hp : PSok p) {rb e dp : Nat} {part : Pr Lt} (hpart : PartL p rb e dp part) (hshr : Shr part) {w : World} {l : List Tok} {it : Nat} (h : Rd rb e w l it dp) (sep : Txt) (hsep : sep ≠ []) (most : Nat) :
  Calls Tryz.prog 125 #[.pointer (some ⟨rb, 0, none⟩), str sep, .int .i64 (most : Int), .func (.func 126) #[.pointer (some ⟨rb, 0, none⟩)] #[]] w fun en w' => Ans rb e dp w (fun w2 v xs => LsAt p 16 (fun b => w.heap.size ≤ b) w2 v xs) (listP e sep most part l it) en w' := by
 obtain ⟨r0, hr0⟩ : ∃ r0, r0 = listP e sep most part l it := ⟨_, rfl⟩
 have hst : LI p 16 69 rb e dp sep most part r0 w (.slice none 0 0) w [] l it (l.length + 1) := ⟨Kp.refl rb w, h, ⟨[], World.ownsRow_nil _ _ _ _, ⟨rfl, fun j x cs hx => by simp at hx⟩⟩, hr0, Nat.le_refl _, by have := h.len; simpa using this⟩
 rw [← hr0]
 obtain ⟨PO, hPO⟩ : ∃ PO : Ending → World → Prop, PO = fun en w' => Ans rb e dp w (fun w2 v xs => LsAt p 16 (fun b => w.heap.size ≤ b) w2 v xs) r0 en w' := ⟨_, rfl⟩
 rw [← hPO]
 have HPO := hide hPO
 have HST := hide hst
 have HP := hide (Ya hpart (Ya hshr hp))
 have hrb := h.lt
 clear hst hr0 hPO hpart hshr h hp
 obtain ⟨i0, hi, hz, hsz, hby⟩ := infoL
 have HIN := hide (Ya hi (Ya hz (Ya hsz hby)))
 have ht : Tryz.prog.underlying 62 = some (.slice 69) := by kernel_rfl
 have HTY := hide ht
 clear hi hz hsz hby ht
 go_enter Tryz.func125, Tryz.ntmps125
 go_wp2_with fail
 go_loopw [9] (fun sl wr => ∃ acc l' it' f sa sc, sl = .slice sa (List.length acc) sc ∧ LI p 16 69 rb e dp sep most part r0 w sl wr acc l' it' f) (fun _ wr => left rb wr)
 case atStart => exact ⟨[], l, it, _, none, 0, rfl, Qa HST⟩
 obtain ⟨acc, l', it', f, sa, sc, rfl, hL⟩ := hrel
 clear HST
 obtain ⟨f', rfl⟩ : ∃ f', f = f' + 1 := ⟨f - 1, by have := hL.fuel; omega⟩
 by_cases hm : acc.length = most
 ·
  have hr := Qbr hL.rd 3
  have hE : r0 = .bad 3 (ahd e 0 l').at_ l' := by
   rw [hL.eq]
   unfold listL
   rw [if_pos hm]; rfl
  have HE := hide (Ya hE hL.kp)
  have hm2 : ((acc.length : Int) == (most : Int)) = true := by rw [hm]; simp
  clear hL hE hm
  generalize (ahd e 0 l').at_ = at0 at hr HE
  go_wp2_with fail
  refine hr.mono ?_
  clear hr
  rintro en w3 ⟨rfl, b3⟩
  have H3 := hide ((Qa HE).2.trans (Kp.of_below b3))
  clear b3
  go_wp2_with fail
  refine ⟨rfl, ?_⟩
  rw [Qa HPO, (Qa HE).1]
  exact ⟨rfl, Qa H3⟩
 have hm2 : ((acc.length : Int) == (most : Int)) = false := by simp; omega
 obtain ⟨hpart, hshr, hp⟩ := Qa HP
 have hc := hpart wr l' it' hL.rd
 have hE : r0 = (part l' it').bind fun x l i => if sgn e l = sep then listL e sep most part f' (acc ++ [x]) (l.drop 1) i else .ok (acc ++ [x]) l i := by
  rw [hL.eq]
  conv => lhs; unfold listL
  rw [if_neg hm]
 cases hq : part l' it' with
 | bad why at0 l2 =>
  rw [hq] at hc hE
  have HE := hide (Ya hE hL.kp)
  clear hL hE hm hpart hshr hp hq
  go_wp2_with fail
  refine hc.mono ?_
  clear hc
  rintro en w3 ⟨rfl, k3⟩
  have H3 := hide ((Qa HE).2.trans k3)
  clear k3
  go_wp2_with fail
  refine ⟨rfl, ?_⟩
  rw [Qa HPO, (Qa HE).1]
  exact ⟨rfl, Qa H3⟩
 | ok x l2 i2 =>
  have hle := hshr _ _ _ _ _ hq
  rw [hq] at hc hE
  have HE := hide (Ya hL hE)
  clear hL hE hm hpart hshr hp hq
  go_wp2_with fail
  refine hc.mono ?_
  clear hc
  rintro en w2 ⟨_, rfl, ⟨c0, c1, c2, c3, c4, c5, c6, c7, c8, c9, c10, c11, c12, c13, c14, c15, rfl, h1, hx⟩, hR2, k2⟩
  obtain ⟨hL, hE⟩ := Qa HE
  obtain ⟨hi, hz, hsz, hby⟩ := Qa HIN
  obtain ⟨r, w8, hrun, kp8, rd8, ⟨ra, rc, er⟩, hown8⟩ := hL.more (Qa HP).2.2 (Qa HTY) hi hz hsz hby rfl (by decide) (by decide) (cs := [c0, c1, c2, c3, c4, c5, c6, c7, c8, c9, c10, c11, c12, c13, c14, c15]) rfl h1 hx hR2 k2 hrb
  subst er
  have HRUN := hide hrun
  have hsk := Qcb rd8 sep hsep
  have hfu := hL.fuel
  have hfw := hL.few
  have hlf := Qbz hL.rd
  have H8 := hide (Ya kp8 (Ya hown8 hE))
  clear hL hE hi hz hsz hby h1 hx hR2 k2 hrun kp8 rd8 hown8 HE
  go_wp2_with (at_builtin; refine Qbs _ rfl _ _ 62 rfl _ _ rfl rfl _ _ (Qa HRUN) ?_; clear HRUN)
  refine hsk.mono ?_
  clear hsk
  rintro en w9 ⟨rfl, hR9, k9⟩
  obtain ⟨kp8, ⟨css, ho8, ha8⟩, hE⟩ := Qa H8
  have own9 : w9.ownsRow w.heap.size 69 16 (.slice ra (acc.length + 1) rc) (acc ++ [x]).length css.flatten := by
   refine ⟨ho8.1, ?_⟩
   rcases ho8.2 with q | ⟨g, cap, cur, e1, e2, e3, e4⟩
   · exact .inl q
   · exact .inr ⟨g, cap, cur, e1, e2, k9.keep e3 (by omega), e4⟩
  have all9 := ha8.same (Qa HP).2.2 k9.size (fun b hs hb => k9.block b hb (by omega))
  have kp9 := kp8.trans k9
  clear kp8 ho8 ha8 k9 H8
  by_cases hS : sgn e l2 = sep
  ·
   rw [if_pos hS] at hR9
   have hS2 : decide (sgn e l2 = sep) = true := decide_eq_true hS
   obtain ⟨t2, l3, e2, hq2⟩ := Qci hS hsep
   clear hq2
   subst e2
   have hN : LI p 16 69 rb e dp sep most part r0 w (.slice ra (acc.length + 1) rc) w9 (acc ++ [x]) l3 i2 f' := ⟨kp9, hR9, ⟨css, own9, all9⟩, by rw [hE]; show (if sgn e (t2 :: l3) = sep then _ else _) = _; rw [if_pos hS]; rfl, by simp at hle; omega, by simp at hle ⊢; omega⟩
   have hl9 := Qbz hR9
   have HN := hide hN
   rw [hS2]
   have HL9 := hide (Ya hl9 (Ya hlf hle))
   clear hN hR9 own9 all9 kp9 hE hS hS2 hl9 hlf hle
   go_wp2_with fail
   go_roundw
   case rel => exact ⟨_, _, _, _, ra, rc, by simp, Qa HN⟩
   obtain ⟨q1, q2, q3⟩ := Qa HL9
   rw [q1, q2]
   simp at q3 ⊢
   omega
  rw [if_neg hS] at hR9
  have hS2 : decide (sgn e l2 = sep) = false := decide_eq_false hS
  have hF : r0 = .ok (acc ++ [x]) l2 i2 := by rw [hE]; show (if sgn e l2 = sep then _ else _) = _; rw [if_neg hS]
  have HF : Hid (r0 = .ok (acc ++ [x]) l2 i2 ∧ LsAt p 16 (fun b => w.heap.size ≤ b) w9 (.slice ra (acc.length + 1) rc) (acc ++ [x]) ∧ Rd rb e w9 l2 i2 dp ∧ Kp rb w w9) := ⟨hF, LsAt.of own9 (all9.mono (Qa HP).2.2 (fun b _ hs => hs.1)), hR9, kp9⟩
  rw [hS2]
  clear hF hR9 own9 all9 kp9 hE hS hS2 hlf hle
  go_wp2_with fail
  rw [Qa HPO, (Qa HF).1]
  exact ⟨_, rfl, (Qa HF).2⟩
end
end Go.Proofs.YtccehgfecaamoaaGreatDoor
