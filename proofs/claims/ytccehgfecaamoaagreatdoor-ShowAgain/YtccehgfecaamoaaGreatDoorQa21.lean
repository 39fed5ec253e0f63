/- syn: items up to an end. syn: what a wrong place carries is caught. syn: read. What the listed variables and the world's shape give the walks of lex; the wrap that keeps both; the law's own probe. -/
import Derived.Test.YtccehgfecaamoaaGreatDoorQa19
import Derived.Test.YtccehgfecaamoaaGreatDoorQa20
import Derived.Defers
import Derived.Recover
import Derived.Laws.Pointers
import Derived.Test.YtccehgfecaamoaaGreatDoorRows
import Derived.Test.YtccehgfecaamoaaGreatDoorQa05
import Derived.ProofKit
import Derived.LaidMore
import Derived.OpenShut
import Derived.Stop.Joined
import Derived.Stop.LaidErr
import Derived.Lib.LaidTab
import Derived.HandedShaped
set_option maxRecDepth 100000
set_option maxHeartbeats 32000000
namespace Go.Proofs.YtccehgfecaamoaaGreatDoor
section
open Go.RowKit Go.Maps
def CompOk (rb e dp : Nat) (C : Pr Cp) : Prop := ∀ w t l it, it ≤ 96 → Rd rb e w (t :: l) it dp → Calls Tryz.prog 95 #[.pointer (some ⟨rb, 0, none⟩)] w fun en w' => Ans rb e dp w (fun w2 v x => VCo (fun b => w.heap.size ≤ b) w2 v x) (C (t :: l) it) en w'
theorem Qsk {rb e dp d pb base : Nat} (hd : dp + d = 32) {C : Pr Cp} (hC : CompOk rb e dp C) {wr : World} {l : List Tok} {it : Nat} {v0 v1 v2 v3 v4 : Value} {p : Pg} (h : Rd rb e wr l it dp) (h5 : P5 pb base wr v0 v1 v2 v3 v4 p) (hb : base ≤ wr.heap.size) (hrp : rb < pb) (hf : Few p it) (hi : it ≤ 96) :
  Calls Tryz.prog 61 #[.pointer (some ⟨rb, 0, none⟩), .pointer (some ⟨pb, 0, none⟩)] wr fun en w' => ItA rb e dp pb base wr (itemP e d C p l it) en w' := by
 obtain ⟨f0, f1, f2, f3, f4⟩ := hf
 by_cases h96 : it = 96
 ·
  subst h96
  refine (Qpo (pb := pb) h hb).mono ?_
  intro en w' ha
  have E : itemP e d C p l 96 = .bad 3 (ahd e 0 l).at_ l := by unfold itemP; rw [if_pos rfl]; rfl
  rw [E]
  exact ha
 have hi' : it < 96 := by omega
 by_cases s0 : sgn e l = [46, 116, 121, 112, 101]
 · exact Qmr h h5 hb hrp (by omega) hi' s0
 by_cases s1 : sgn e l = [46, 100, 101, 99, 108]
 · exact Qmp h h5 hb hrp (by omega) hi' s1
 by_cases s2 : sgn e l = [46, 99, 111, 109, 112]
 · exact Qmo hC h h5 hb hrp (by omega) hi' s2
 by_cases s3 : sgn e l = [46, 105, 110, 105, 116]
 · exact Qmq h h5 hb hrp (by omega) hi' s3
 · exact Qiu hd h h5 hb hrp (by omega) hi' s0 s1 s2 s3
abbrev pgZ : Obj := .cells #[.slice none 0 0, .slice none 0 0, .slice none 0 0, .slice none 0 0, .slice none 0 0] 28
structure PI (rb e dp d : Nat) (top : Bool) (C : Pr Cp) (Z : List Tok → Nat → Prop) (r0 : Rs Pg) (w wr : World) (p : Pg) (l : List Tok) (it f : Nat) : Prop where
 kp : Kp rb w wr
 size : w.heap.size + 2 ≤ wr.heap.size
 res : wr.heap[w.heap.size]? = some pgZ
 p5 : ∃ v0 v1 v2 v3 v4, P5 (w.heap.size + 1) (w.heap.size + 2) wr v0 v1 v2 v3 v4 p
 rd : Rd rb e wr l it dp
 eq : r0 = progL e top d C f p l it
 fuel : l.length + 1 ≤ f
 few : Few p it
 most : it ≤ 96
 z : Z l it
theorem PI.later {rb e dp d : Nat} {top : Bool} {C : Pr Cp} {Z : List Tok → Nat → Prop} {r0 : Rs Pg} {w wr w' : World} {p : Pg} {l : List Tok} {it f : Nat} (h : PI rb e dp d top C Z r0 w wr p l it f) (b : Below wr.heap.size wr w') (hrb : rb < w.heap.size) : PI rb e dp d top C Z r0 w w' p l it f := by
 obtain ⟨v0, v1, v2, v3, v4, h5⟩ := h.p5
 have hs := h.size
 have hb := b.size
 exact ⟨h.kp.trans (Kp.of_below b), by omega, (b.block _ (by omega)).trans h.res, ⟨v0, v1, v2, v3, v4, h5.kp (rb := rb) (Kp.of_below b) (by omega)⟩, h.rd.later b, h.eq, h.fuel, h.few, h.most, h.z⟩
theorem PI.next {rb e dp d : Nat} {top : Bool} {C : Pr Cp} {Z : List Tok → Nat → Prop} (hC : GrS C) {r0 : Rs Pg} {w wr w' : World} {p q : Pg} {l l' : List Tok} {it it' f : Nat} (h : PI rb e dp d top C Z r0 w wr p l it (f + 1)) (hE : isEnd e top l = false) (hq : itemP e d C p l it = .ok q l' it') (hrb : rb < w.heap.size)
  (h5 : ∃ u0 u1 u2 u3 u4, P5 (w.heap.size + 1) (w.heap.size + 2) w' u0 u1 u2 u3 u4 q) (hR : Rd rb e w' l' it' dp) (hk : KB rb (w.heap.size + 1) (w.heap.size + 2) wr w') (hz : Z l' it') : PI rb e dp d top C Z r0 w w' q l' it' f := by
 obtain ⟨g1, g2, g3, g4⟩ := Qhl hC hq
 have hs := h.size
 have hs2 := hk.size
 refine ⟨⟨hk.os.trans h.kp.os, hk.tape.trans h.kp.tape, hk.output.trans h.kp.output, by omega, fun k hk1 hn => (hk.block k (by omega) hn (by omega)).trans (h.kp.block k hk1 hn)⟩, by omega, (hk.block _ (by omega) (by omega) (by omega)).trans h.res, h5, hR, ?_, by have := h.fuel; omega, g4 h.few, g3 h.most, hz⟩
 rw [h.eq]
 conv => lhs; unfold progL
 rw [if_neg (by rw [hE]; simp), hq]
 rfl
theorem PI.fin {rb e dp d : Nat} {top : Bool} {C : Pr Cp} {Z : List Tok → Nat → Prop} {r0 : Rs Pg} {w wr : World} {p : Pg} {l : List Tok} {it f : Nat} (h : PI rb e dp d top C Z r0 w wr p l it f) (hrb : rb < w.heap.size) : ∃ a0 m0 q0 a1 m1 q1 a2 m2 q2 a3 m3 q3 a4 m4 q4, wr.heap[w.heap.size + 1]? = some (.cells #[.slice a0 m0 q0, .slice a1 m1 q1, .slice a2 m2 q2, .slice a3 m3 q3, .slice a4 m4 q4] 28 (0, 0)) ∧
  ∀ c0 c1 c2 c3 c4, VPg (fun b => w.heap.size ≤ b) (((((wr.setCell ⟨w.heap.size, 0, none⟩ c0).setCell ⟨w.heap.size, 1, none⟩ c1).setCell ⟨w.heap.size, 2, none⟩ c2).setCell ⟨w.heap.size, 3, none⟩ c3).setCell ⟨w.heap.size, 4, none⟩ c4) (.agg #[.slice a0 m0 q0, .slice a1 m1 q1, .slice a2 m2 q2, .slice a3 m3 q3, .slice a4 m4 q4]) p ∧ Rd rb e (((((wr.setCell ⟨w.heap.size, 0, none⟩ c0).setCell ⟨w.heap.size, 1, none⟩ c1).setCell ⟨w.heap.size, 2, none⟩ c2).setCell ⟨w.heap.size, 3, none⟩ c3).setCell ⟨w.heap.size, 4, none⟩ c4) l it dp ∧ Kp rb w (((((wr.setCell ⟨w.heap.size, 0, none⟩ c0).setCell ⟨w.heap.size, 1, none⟩ c1).setCell ⟨w.heap.size, 2, none⟩ c2).setCell ⟨w.heap.size, 3, none⟩ c3).setCell ⟨w.heap.size, 4, none⟩ c4) := by
 obtain ⟨v0, v1, v2, v3, v4, h5⟩ := h.p5
 obtain ⟨a0, q0, rfl⟩ := h5.r0.slice
 obtain ⟨a1, q1, rfl⟩ := h5.r1.slice
 obtain ⟨a2, q2, rfl⟩ := h5.r2.slice
 obtain ⟨a3, q3, rfl⟩ := h5.r3.slice
 obtain ⟨a4, q4, rfl⟩ := h5.r4.slice
 refine ⟨_, _, _, _, _, _, _, _, _, _, _, _, _, _, _, h5.box, fun c0 c1 c2 c3 c4 => ?_⟩
 have hsame : ∀ b, b ≠ w.heap.size → (((((wr.setCell ⟨w.heap.size, 0, none⟩ c0).setCell ⟨w.heap.size, 1, none⟩ c1).setCell ⟨w.heap.size, 2, none⟩ c2).setCell ⟨w.heap.size, 3, none⟩ c3).setCell ⟨w.heap.size, 4, none⟩ c4).heap[b]? = wr.heap[b]? := fun b hb => by
  rw [hpS hb, hpS hb, hpS hb, hpS hb, hpS hb]
 have e2 : (Pg.mk p.types p.decls p.comps p.inits p.clauses) = p := by cases p; rfl
 have hP := Quj (h5.r0.ls Qbh (fun b hs => hs.1)) (h5.r1.ls Qbf (fun b hs => hs.1)) (h5.r2.ls Qas (fun b hs => hs.1)) (h5.r3.ls Qbg (fun b hs => hs.1)) (h5.r4.ls Qbe (fun b hs => hs.1))
 rw [e2] at hP
 refine ⟨⟨_, _, _, _, _, _, _, _, _, _, _, _, _, _, _, rfl, Qat.mono _ _ _ _ _ (Qat.same _ _ _ _ _ hP (by simp [World.setCell]) (fun b hb _ => hsame b (by have hb' : w.heap.size + 2 ≤ b := hb; omega))) (fun b _ hb => by have hb' : w.heap.size + 2 ≤ b := hb; omega)⟩, ((((h.rd.set2 (by omega)).set2 (by omega)).set2 (by omega)).set2 (by omega)).set2 (by omega), ((((h.kp.set2 (by omega)).set2 (by omega)).set2 (by omega)).set2 (by omega)).set2 (by omega)⟩

theorem prog_of {rb e dp d : Nat} {C : Pr Cp} (hG : GrS C) (top : Bool) (ek : Int) (et : Txt) (hE : ∀ l, isEnd e top l = (decide ((ahd e 0 l).kind = ek) && decide ((ahd e 0 l).text = et))) (Z : List Tok → Nat → Prop)
  (hI : ∀ (pb base : Nat) (wr : World) (l : List Tok) (it : Nat) (v0 v1 v2 v3 v4 : Value) (p : Pg), Rd rb e wr l it dp → P5 pb base wr v0 v1 v2 v3 v4 p → base ≤ wr.heap.size → rb < pb → Few p it → it ≤ 96 → Z l it → isEnd e top l = false → Calls Tryz.prog 61 #[.pointer (some ⟨rb, 0, none⟩), .pointer (some ⟨pb, 0, none⟩)] wr fun en w' => ItA rb e dp pb base wr (itemP e d C p l it) en w')
  (hZ : ∀ p l it q l' it', Z l it → isEnd e top l = false → itemP e d C p l it = .ok q l' it' → Z l' it') {w : World} {l : List Tok} {it : Nat} (hi : it ≤ 96) (h : Rd rb e w l it dp) (hz : Z l it) :
  Calls Tryz.prog 25 #[.pointer (some ⟨rb, 0, none⟩), .int .i64 ek, str et] w fun en w' => Ans rb e dp w (fun w2 v x => VPg (fun b => w.heap.size ≤ b) w2 v x) (progL e top d C (l.length + 1) .none l it) en w' := by
 obtain ⟨r0, hr0⟩ : ∃ r0, r0 = progL e top d C (l.length + 1) .none l it := ⟨_, rfl⟩
 rw [← hr0]
 have hrb := h.lt
 have hst : PI rb e dp d top C Z r0 w ((w.alloc pgZ).alloc pgZ) .none l it (l.length + 1) := by
  have b1 : Below w.heap.size w ((w.alloc pgZ).alloc pgZ) := ((Below.refl _ w).alloc (Nat.le_refl _) _).alloc (by simp) _
  have hsz : ((w.alloc pgZ).alloc pgZ).heap.size = w.heap.size + 2 := by simp
  have n1 : ((w.alloc pgZ).alloc pgZ).heap[w.heap.size + 1]? = some pgZ := by
   have := heap_alloc_new (w.alloc pgZ) pgZ
   simpa using this
  refine ⟨Kp.of_below b1, by omega, ?_, ⟨.slice none 0 0, .slice none 0 0, .slice none 0 0, .slice none 0 0, .slice none 0 0, n1, by omega, Row.nil _ _, Row.nil _ _, Row.nil _ _, Row.nil _ _, Row.nil _ _, ?_, ?_, ?_, ?_, ?_, ?_, ?_, ?_, ?_, ?_⟩, h.later b1, hr0, Nat.le_refl _, ⟨Nat.zero_le _, Nat.zero_le _, Nat.zero_le _, Nat.zero_le _, Nat.zero_le _⟩, hi, hz⟩
  · rw [Below.heap_alloc _ _ _ (by simp)]; exact heap_alloc_new w _
  all_goals exact fun b e => by cases e
 obtain ⟨PO, hPO⟩ : ∃ PO : Ending → World → Prop, PO = fun en w' => Ans rb e dp w (fun w2 v x => VPg (fun b => w.heap.size ≤ b) w2 v x) r0 en w' := ⟨_, rfl⟩
 rw [← hPO]
 have HPO := hide hPO
 have HST := hide hst
 have HC := hide (Ya hI (Ya hG (Ya hE hZ)))
 clear hst hr0 hPO hI hG hE hZ h hi hz
 go_enter Tryz.func25, Tryz.ntmps25
 go_wp2_with fail
 go_loopw [8] (fun _ wr => ∃ p l' it' f, PI rb e dp d top C Z r0 w wr p l' it' f) (fun _ wr => left rb wr)
 case atStart => exact ⟨_, _, _, _, Qa HST⟩
 obtain ⟨p, l', it', f, hJ⟩ := hrel
 clear HST
 obtain ⟨f', rfl⟩ : ∃ f', f = f' + 1 := ⟨f - 1, by have := hJ.fuel; omega⟩
 have ha := Qak hJ.rd 0
 unfold tokV at ha
 have hend := (Qa HC).2.2.1 l'
 have hlf := Qba hJ.rd
 have HJ := hide hJ
 obtain ⟨tk, htk⟩ : ∃ tk, tk = ahd e 0 l' := ⟨_, rfl⟩
 rw [← htk] at ha hend
 have HLF := hide hlf
 clear hJ htk hlf
 by_cases hk : tk.kind = ek
 ·
  have g1 : (tk.kind == ek) = true := by simpa using hk
  by_cases ht : tk.text = et
  ·
   have g2 : (tk.text == et) = true := by simpa using ht
   have HEN : Hid (isEnd e top l' = true) := by rw [hend, decide_eq_true hk, decide_eq_true ht]; rfl
   clear hk ht hend
   go_wp2_with fail
   refine ha.mono ?_
   clear ha
   rintro en w1 ⟨rfl, b1⟩
   have hJ2 := (Qa HJ).later (b1.alloc b1.size (.cells #[.int .i64 tk.kind, str tk.text, .int .i64 tk.num, .int .i64 (tk.at_ : Int)] 83)) hrb
   obtain ⟨a0, m0, q0, a1, m1, q1, a2, m2, q2, a3, m3, q3, a4, m4, q4, hbx, hfin⟩ := hJ2.fin hrb
   obtain ⟨z0, z1, z2, z3, z4, zf⟩ := cl5 hbx
   obtain ⟨y0, y1, y2, y3, y4, yf⟩ := cl5 hJ2.res
   have HF := hide (Ya hJ2.eq hfin)
   clear b1 hJ2 HJ hbx hfin zf
   go_wp2_with fail
   refine bodyPost_ret (v := .agg #[.slice a0 m0 q0, .slice a1 m1 q1, .slice a2 m2 q2, .slice a3 m3 q3, .slice a4 m4 q4]) (by simp [results, Tryz.results25, go_sem, y0, y1, y2, y3, y4]) rfl ?_
   have E : r0 = .ok p l' it' := by
    rw [(Qa HF).1]
    unfold progL
    rw [if_pos (Qa HEN)]
   rw [Qa HPO, E]
   exact ⟨_, rfl, (Qa HF).2 _ _ _ _ _⟩
  have g2 : (tk.text == et) = false := by simpa using ht
  have HEN : Hid (isEnd e top l' = false) := by rw [hend, decide_eq_true hk, decide_eq_false ht]; rfl
  clear hk ht hend
  go_wp2_with fail
  refine ha.mono ?_
  clear ha
  rintro en w1 ⟨rfl, b1⟩
  obtain ⟨w2, hw2⟩ : ∃ w2, w2 = w1.alloc (.cells #[.int .i64 tk.kind, str tk.text, .int .i64 tk.num, .int .i64 (tk.at_ : Int)] 83) := ⟨_, rfl⟩
  have b2 : Below wr.heap.size wr w2 := by rw [hw2]; exact b1.alloc b1.size _
  have hJ2 := (Qa HJ).later b2 hrb
  obtain ⟨v0, v1, v2, v3, v4, h5⟩ := hJ2.p5
  have hit := (Qa HC).1 _ _ _ _ _ _ _ _ _ _ _ hJ2.rd h5 hJ2.size (by omega) hJ2.few hJ2.most hJ2.z (Qa HEN)
  have HJ2 := hide hJ2
  have HW2 := hide hw2
  clear b1 hw2 b2 hJ2 h5 HJ
  cases hq : itemP e d C p l' it' with
  | bad why at1 l4 =>
   rw [hq] at hit
   have HE : Hid (r0 = .bad why at1 l4) := by
    show r0 = _
    rw [(Qa HJ2).eq]
    unfold progL
    rw [if_neg (by rw [Qa HEN]; simp), hq]; rfl
   clear hq
   go_wp2_with fail
   rw [← Qa HW2]
   refine hit.mono ?_
   clear hit
   rintro en w3 ⟨rfl, k3⟩
   have HK3 : Hid (Kp rb w w3) := by
    have hs := (Qa HJ2).size
    have hs2 := k3.size
    exact ⟨k3.os.trans (Qa HJ2).kp.os, k3.tape.trans (Qa HJ2).kp.tape, k3.output.trans (Qa HJ2).kp.output, by omega, fun k hk1 hn => (k3.block k (by omega) hn (by omega)).trans ((Qa HJ2).kp.block k hk1 hn)⟩
   clear k3
   go_wp2_with fail
   refine ⟨rfl, ?_⟩
   rw [Qa HPO, Qa HE]
   exact ⟨rfl, Qa HK3⟩
  | ok q l4 i4 =>
   rw [hq] at hit
   have HN : Hid (∀ w3, (∃ u0 u1 u2 u3 u4, P5 (w.heap.size + 1) (w.heap.size + 2) w3 u0 u1 u2 u3 u4 q) → Rd rb e w3 l4 i4 dp → KB rb (w.heap.size + 1) (w.heap.size + 2) w2 w3 → PI rb e dp d top C Z r0 w w3 q l4 i4 f' ∧ l4.length < l'.length) := fun w3 a b c => ⟨PI.next (Qa HC).2.1 (Qa HJ2) (Qa HEN) hq hrb a b c ((Qa HC).2.2.2 _ _ _ _ _ _ (Qa HJ2).z (Qa HEN) hq), (Qhl (Qa HC).2.1 hq).1⟩
   clear hq
   go_wp2_with fail
   rw [← Qa HW2]
   clear HW2
   refine hit.mono ?_
   clear hit
   rintro en w3 ⟨rfl, h5, hR3, k3⟩
   obtain ⟨hN, hlt⟩ := Qa HN w3 h5 hR3 k3
   have hl9 := Qba hR3
   have HN3 := hide (Ya hN (Ya hl9 hlt))
   clear h5 hR3 k3 hN hlt hl9 HN
   go_wp2_with fail
   go_roundw
   case rel => exact ⟨_, _, _, _, (Qa HN3).1⟩
   have hm := Qa HLF
   obtain ⟨_, r1, r2⟩ := Qa HN3
   rw [r1, hm]
   exact r2
 have g1 : (tk.kind == ek) = false := by simpa using hk
 have HEN : Hid (isEnd e top l' = false) := by rw [hend, decide_eq_false hk]; rfl
 clear hk hend
 go_wp2_with fail
 refine ha.mono ?_
 clear ha
 rintro en w1 ⟨rfl, b1⟩
 obtain ⟨w2, hw2⟩ : ∃ w2, w2 = w1.alloc (.cells #[.int .i64 tk.kind, str tk.text, .int .i64 tk.num, .int .i64 (tk.at_ : Int)] 83) := ⟨_, rfl⟩
 have b2 : Below wr.heap.size wr w2 := by rw [hw2]; exact b1.alloc b1.size _
 have hJ2 := (Qa HJ).later b2 hrb
 obtain ⟨v0, v1, v2, v3, v4, h5⟩ := hJ2.p5
 have hit := (Qa HC).1 _ _ _ _ _ _ _ _ _ _ _ hJ2.rd h5 hJ2.size (by omega) hJ2.few hJ2.most hJ2.z (Qa HEN)
 have HJ2 := hide hJ2
 have HW2 := hide hw2
 clear b1 hw2 b2 hJ2 h5 HJ
 cases hq : itemP e d C p l' it' with
 | bad why at1 l4 =>
  rw [hq] at hit
  have HE : Hid (r0 = .bad why at1 l4) := by
   show r0 = _
   rw [(Qa HJ2).eq]
   unfold progL
   rw [if_neg (by rw [Qa HEN]; simp), hq]; rfl
  clear hq
  go_wp2_with fail
  rw [← Qa HW2]
  refine hit.mono ?_
  clear hit
  rintro en w3 ⟨rfl, k3⟩
  have HK3 : Hid (Kp rb w w3) := by
   have hs := (Qa HJ2).size
   have hs2 := k3.size
   exact ⟨k3.os.trans (Qa HJ2).kp.os, k3.tape.trans (Qa HJ2).kp.tape, k3.output.trans (Qa HJ2).kp.output, by omega, fun k hk1 hn => (k3.block k (by omega) hn (by omega)).trans ((Qa HJ2).kp.block k hk1 hn)⟩
  clear k3
  go_wp2_with fail
  refine ⟨rfl, ?_⟩
  rw [Qa HPO, Qa HE]
  exact ⟨rfl, Qa HK3⟩
 | ok q l4 i4 =>
  rw [hq] at hit
  have HN : Hid (∀ w3, (∃ u0 u1 u2 u3 u4, P5 (w.heap.size + 1) (w.heap.size + 2) w3 u0 u1 u2 u3 u4 q) → Rd rb e w3 l4 i4 dp → KB rb (w.heap.size + 1) (w.heap.size + 2) w2 w3 → PI rb e dp d top C Z r0 w w3 q l4 i4 f' ∧ l4.length < l'.length) := fun w3 a b c => ⟨PI.next (Qa HC).2.1 (Qa HJ2) (Qa HEN) hq hrb a b c ((Qa HC).2.2.2 _ _ _ _ _ _ (Qa HJ2).z (Qa HEN) hq), (Qhl (Qa HC).2.1 hq).1⟩
  clear hq
  go_wp2_with fail
  rw [← Qa HW2]
  clear HW2
  refine hit.mono ?_
  clear hit
  rintro en w3 ⟨rfl, h5, hR3, k3⟩
  obtain ⟨hN, hlt⟩ := Qa HN w3 h5 hR3 k3
  have hl9 := Qba hR3
  have HN3 := hide (Ya hN (Ya hl9 hlt))
  clear h5 hR3 k3 hN hlt hl9 HN
  go_wp2_with fail
  go_roundw
  case rel => exact ⟨_, _, _, _, (Qa HN3).1⟩
  have hm := Qa HLF
  obtain ⟨_, r1, r2⟩ := Qa HN3
  rw [r1, hm]
  exact r2
theorem Qlw {rb e dp d : Nat} (hd : dp + d = 32) {C : Pr Cp} (hC : CompOk rb e dp C) (hG : GrS C) (top : Bool) (ek : Int) (et : Txt) (hE : ∀ l, isEnd e top l = (decide ((ahd e 0 l).kind = ek) && decide ((ahd e 0 l).text = et))) {w : World} {l : List Tok} {it : Nat} (hi : it ≤ 96) (h : Rd rb e w l it dp) :
  Calls Tryz.prog 25 #[.pointer (some ⟨rb, 0, none⟩), .int .i64 ek, str et] w fun en w' => Ans rb e dp w (fun w2 v x => VPg (fun b => w.heap.size ≤ b) w2 v x) (progL e top d C (l.length + 1) .none l it) en w' :=
 prog_of hG top ek et hE (fun _ _ => True) (fun _ _ _ _ _ _ _ _ _ _ _ h h5 hb hrp hf hi _ _ => Qsk hd hC h h5 hb hrp hf hi) (fun _ _ _ _ _ _ _ _ _ => trivial) hi h trivial
theorem Qlb {rb e : Nat} : ∀ (d dp : Nat), dp + d = 32 → CompOk rb e dp (compC e d)
 | 0, dp, hd => fun w t l it _ h => by
  obtain rfl : dp = 32 := by omega
  exact Qnw h
 | d + 1, dp, hd => fun w t l it hi h => by
  have hB : ∀ w l it, it ≤ 96 → Rd rb e w l it (dp + 1) → Calls Tryz.prog 25 #[.pointer (some ⟨rb, 0, none⟩), .int .i64 4, str [125]] w fun en w' => Ans rb e (dp + 1) w (fun w2 v x => VPg (fun b => w.heap.size ≤ b) w2 v x) (progD e d false l it) en w' := fun w l it hi h => by
   rw [Qdz]
   exact Qlw (by omega) (Qlb d (dp + 1) (by omega)) (Qhf d) false 4 [125] (fun l => rfl) hi h
  show Calls _ _ _ _ fun en w' => Ans rb e dp w (fun w2 v x => VCo (fun b => w.heap.size ≤ b) w2 v x) (compB e (progD e d false) (t :: l) it) en w'
  cases hq : wordQ e l it with
  | bad why at0 l2 => exact Qnx (by omega) hB hi h (fun s l2 i2 hs => by rw [hq] at hs; cases hs)
  | ok s l2 i2 =>
   by_cases hs : sgn e l2 = [58]
   · exact comp_bs (by omega) hB hi h (fun s' l2' i2' he => by rw [hq] at he; cases he; exact hs)
   · exact Qnx (by omega) hB hi h (fun s' l2' i2' he => by rw [hq] at he; cases he; exact hs)
theorem Qkd {rb e : Nat} {w : World} {l : List Tok} (h : Rd rb e w l 0 0) : Calls Tryz.prog 25 #[.pointer (some ⟨rb, 0, none⟩), .int .i64 0, str []] w fun en w' => Ans rb e 0 w (fun w2 v x => VPg (fun b => w.heap.size ≤ b) w2 v x) (progD e 32 true l 0) en w' := by
 rw [Qdz]
 exact Qlw rfl (Qlb 32 0 rfl) (Qhf 32) true 0 [] (fun l => rfl) (Nat.zero_le _) h
end
section
open Go.RowKit Go.Maps
abbrev ftZ : Obj := .cells #[.int .i64 0, .int .i64 0] 31
theorem Qmd (pb fb : Nat) (w : World) :
  CallsD Tryz.prog 24 #[.pointer (some ⟨pb, 0, none⟩), .pointer (some ⟨fb, 0, none⟩)] .returning w fun e u' w' => e = .returned (.tuple #[]) ∧ u' = .returning ∧ w' = w := by
 refine callsD_of_wpS Tryz.func24 rfl fun c₀ cs hu => ?_
 apply wpS_seq
 apply wpS_region
 simp [wpOpsS, go_sem, recoverD, hu, Tryz.ntmps24, Exit.thenS]
 refine wpS_of_wp ?_
 cases c₀
 show Code.wp _ _ _ (⟨#[.pointer (some ⟨pb, 0, none⟩), .pointer (some ⟨fb, 0, none⟩), .nilIface, undef, undef, .nilIface, undef, undef, undef, undef, undef, undef, undef, undef, undef, undef, undef, undef, undef], []⟩ : Act) _
 go_wp2_with fail
 simp_all [bodyPostS, results, Tryz.results24]
theorem Qme {pb fb : Nat} (why at_ : Int) (older : List PanicEntry) {w : World} (hp : w.heap[pb]? = some pgZ) (hf : w.heap[fb]? = some ftZ) (hne : pb ≠ fb) :
  CallsD Tryz.prog 24 #[.pointer (some ⟨pb, 0, none⟩), .pointer (some ⟨fb, 0, none⟩)] (.panicking ({ v := stopV why at_, recovered := false } :: older)) w fun e u' w' => e = .returned (.tuple #[]) ∧ u' = .panicking ({ v := stopV why at_, recovered := true } :: older) ∧
   w'.heap[pb]? = some pgZ ∧ w'.heap[fb]? = some (.cells #[.int .i64 why, .int .i64 at_] 31) ∧ w.heap.size ≤ w'.heap.size ∧ w'.os = w.os ∧ w'.tape = w.tape ∧ w'.output = w.output ∧ ∀ k, k < w.heap.size → k ≠ pb → k ≠ fb → w'.heap[k]? = w.heap[k]? := by
 refine callsD_of_wpS Tryz.func24 rfl fun c₀ cs hu => ?_
 apply wpS_seq
 apply wpS_region
 simp [wpOpsS, go_sem, recoverD, hu, Tryz.ntmps24, Exit.thenS]
 refine wpS_of_wp ?_
 show Code.wp _ _ _ (⟨#[.pointer (some ⟨pb, 0, none⟩), .pointer (some ⟨fb, 0, none⟩), .iface 87 (.agg #[.int .i64 why, .int .i64 at_]), undef, undef, .iface 87 (.agg #[.int .i64 why, .int .i64 at_]), undef, undef, undef, undef, undef, undef, undef, undef, undef, undef, undef, undef, undef], []⟩ : Act) _
 have hta : ∀ w, (Instr.typeAssert (.iface 87 (.agg #[.int .i64 why, .int .i64 at_])) 20 87 true).run Tryz.prog w = .ok (.tuple #[.agg #[.int .i64 why, .int .i64 at_], .bool true]) w := fun w => rfl
 have hlp := Qaf hp
 have hlf := Qaf hf
 obtain ⟨w1, hw1⟩ : ∃ w1, w1 = w.alloc (.cells #[.int .i64 why, .int .i64 at_] 87) := ⟨_, rfl⟩
 have n1 : w1.heap[w.heap.size]? = some (.cells #[.int .i64 why, .int .i64 at_] 87 (0, 0)) := by rw [hw1]; exact heap_alloc_new w _
 have p1 : w1.heap[pb]? = some pgZ := by rw [hw1, Below.heap_alloc _ _ _ hlp]; exact hp
 have f1 : w1.heap[fb]? = some ftZ := by rw [hw1, Below.heap_alloc _ _ _ hlf]; exact hf
 go_wp2_with fail
 rw [← hw1]
 have s1 : w1.heap.size = w.heap.size + 1 := by rw [hw1]; simp
 have bw1 : Below w.heap.size w w1 := by rw [hw1]; exact (Below.refl _ w).alloc (Nat.le_refl _) _
 obtain ⟨x0, x1, x2, x3, x4, xf⟩ := cl5 p1
 obtain ⟨W5, hW5⟩ : ∃ W5, W5 = (((((w1.setCell ⟨pb, 0, none⟩ (.slice none 0 0)).setCell ⟨pb, 1, none⟩ (.slice none 0 0)).setCell ⟨pb, 2, none⟩ (.slice none 0 0)).setCell ⟨pb, 3, none⟩ (.slice none 0 0)).setCell ⟨pb, 4, none⟩ (.slice none 0 0)).drew := ⟨_, rfl⟩
 have ho5 : ∀ k, k ≠ pb → W5.heap[k]? = w1.heap[k]? := fun k hk => by
  rw [hW5, show ∀ v : World, v.drew.heap = v.heap from fun _ => rfl, hpS hk, hpS hk, hpS hk, hpS hk, hpS hk]
 have p5 : W5.heap[pb]? = some pgZ := by
  rw [hW5]
  exact (Qac (Qac (Qac (Qac (Qac p1 0 _) 1 _) 2 _) 3 _) 4 _).trans rfl
 have f5 : W5.heap[fb]? = some ftZ := (ho5 fb (Ne.symm hne)).trans f1
 have n5 := (ho5 w.heap.size (by omega)).trans n1
 obtain ⟨y0, y1, yf⟩ := cl2 f5
 have hs5 : W5.heap.size = w1.heap.size := by rw [hW5, show ∀ v : World, v.drew.heap = v.heap from fun _ => rfl]; simp [World.setCell]
 have e5 : W5.os = w1.os ∧ W5.tape = w1.tape ∧ W5.output = w1.output := by rw [hW5]; exact ⟨rfl, rfl, rfl⟩
 have HN := hide (Ya n1 n5)
 have HF : Hid (((W5.setCell ⟨fb, 0, none⟩ (.int .i64 why)).setCell ⟨fb, 1, none⟩ (.int .i64 at_)).heap[w.heap.size]? = some (.cells #[.int .i64 why, .int .i64 at_] 87 (0, 0)) ∧ ((W5.setCell ⟨fb, 0, none⟩ (.int .i64 why)).setCell ⟨fb, 1, none⟩ (.int .i64 at_)).heap[pb]? = some pgZ ∧ ((W5.setCell ⟨fb, 0, none⟩ (.int .i64 why)).setCell ⟨fb, 1, none⟩ (.int .i64 at_)).heap[fb]? = some (.cells #[.int .i64 why, .int .i64 at_] 31) ∧ w.heap.size ≤ ((W5.setCell ⟨fb, 0, none⟩ (.int .i64 why)).setCell ⟨fb, 1, none⟩ (.int .i64 at_)).heap.size ∧ ((W5.setCell ⟨fb, 0, none⟩ (.int .i64 why)).setCell ⟨fb, 1, none⟩ (.int .i64 at_)).os = w.os ∧ ((W5.setCell ⟨fb, 0, none⟩ (.int .i64 why)).setCell ⟨fb, 1, none⟩ (.int .i64 at_)).tape = w.tape ∧ ((W5.setCell ⟨fb, 0, none⟩ (.int .i64 why)).setCell ⟨fb, 1, none⟩ (.int .i64 at_)).output = w.output ∧ ∀ k, k < w.heap.size → k ≠ pb → k ≠ fb → ((W5.setCell ⟨fb, 0, none⟩ (.int .i64 why)).setCell ⟨fb, 1, none⟩ (.int .i64 at_)).heap[k]? = w.heap[k]?) := by
  have ho6 : ∀ k, k ≠ fb → ((W5.setCell ⟨fb, 0, none⟩ (.int .i64 why)).setCell ⟨fb, 1, none⟩ (.int .i64 at_)).heap[k]? = W5.heap[k]? := fun k hk => by rw [hpS hk, hpS hk]
  refine ⟨(ho6 _ (by omega)).trans n5, (ho6 pb hne).trans p5, (Qac (Qac f5 0 _) 1 _).trans rfl, ?_, e5.1.trans bw1.os, e5.2.1.trans bw1.tape, e5.2.2.trans bw1.output, fun k hk hn hm => ?_⟩
  ·
   simp [World.setCell]
   omega
  · rw [ho6 k hm, ho5 k hn]; exact bw1.block k hk
 have HW5 := hide hW5
 clear hw1 hp hf n1 p1 f1 hlp hlf s1 bw1 hW5 ho5 p5 f5 n5 hs5 e5 hta
 refine Qfu (m := 4) (ml := [(0, 1), (1, 1), (2, 1), (3, 0), (4, 0)]) (fun _ w' => w'.heap[w.heap.size]? = some (.cells #[.int .i64 why, .int .i64 at_] 87 (0, 0))) mixedO (by kernel_rfl) rfl (by rfl) (by kernel_rfl) (fun PP hPP => ?_)
 refine Qab rfl (by kernel_rfl) (fun _ _ _ => by go_simp <;> rfl) ?_
 refine Qab rfl (by kernel_rfl) (fun _ _ _ => by go_simp <;> rfl) ?_
 refine Qab rfl (by kernel_rfl) (fun f w' hw => by obtain ⟨u0, u1, uf⟩ := cl2 hw; go_simp <;> rfl) ?_
 refine Qad rfl (Qa HN).1 (fun K hK => ?_)
 go_simp
 rw [← Qa HW5]
 refine hK _ _ ?_
 clear hK K HW5 x0 x1 x2 x3 x4 xf
 refine Qad rfl (Qa HN).2 (fun K hK => ?_)
 go_simp
 refine hK _ _ ?_
 clear hK K
 refine Qaz (Qa HF).1 (hPP _ _ ?_)
 clear hPP PP
 go_wp2_with fail
 have hfin := (Qa HF).2
 cases c₀
 simp_all [bodyPostS, results, Tryz.results24]
end
section
open Go.RowKit Go.Maps
def RdAns (rb : Nat) (w : World) (r : Rs Pg) (en : Ending) (w' : World) : Prop := match r with
 | .bad why at_ _ => en = .returned (.tuple #[.agg #[.slice none 0 0, .slice none 0 0, .slice none 0 0, .slice none 0 0, .slice none 0 0], .agg #[.int .i64 why, .int .i64 at_]]) ∧ Kp rb w w'
 | .ok p _ _ => ∃ v, en = .returned (.tuple #[v, .agg #[.int .i64 0, .int .i64 0]]) ∧ VPg (fun b => w.heap.size ≤ b) w' v p ∧ Kp rb w w'
theorem read_of {rb e : Nat} {w : World} {l : List Tok} (h : Rd rb e w l 0 0) (hpr0 : ∀ w2, Below w.heap.size w w2 → Calls Tryz.prog 25 #[.pointer (some ⟨rb, 0, none⟩), .int .i64 0, str []] w2 fun en w' => Ans rb e 0 w2 (fun w3 v x => VPg (fun b => w2.heap.size ≤ b) w3 v x) (progD e 32 true l 0) en w') :
  Calls Tryz.prog 12 #[.pointer (some ⟨rb, 0, none⟩)] w fun en w' => RdAns rb w (progD e 32 true l 0) en w' := by
 have hmf : ∀ (fn : Fn) (first cap : Array Value) (w : World), (Instr.makeFunc fn first cap).run Tryz.prog w = .ok (.func fn first cap) w := fun _ _ _ _ => rfl
 obtain ⟨w2, hw2⟩ : ∃ w2, w2 = (w.alloc pgZ).alloc ftZ := ⟨_, rfl⟩
 have b2 : Below w.heap.size w w2 := by rw [hw2]; exact ((Below.refl _ w).alloc (Nat.le_refl _) _).alloc (by simp) _
 have s2 : w2.heap.size = w.heap.size + 2 := by rw [hw2]; simp
 have p2 : w2.heap[w.heap.size]? = some pgZ := by rw [hw2, Below.heap_alloc _ _ _ (by simp)]; exact heap_alloc_new w _
 have f2 : w2.heap[w.heap.size + 1]? = some ftZ := by
  rw [hw2]
  have := heap_alloc_new (w.alloc pgZ) ftZ
  simpa using this
 have hrb := h.lt
 have hpr := hpr0 w2 b2
 have HW2 : Hid (w2 = (w.alloc (.cells #[.slice none 0 0, .slice none 0 0, .slice none 0 0, .slice none 0 0, .slice none 0 0] 28)).alloc (.cells #[.int .i64 0, .int .i64 0] 31)) := hw2
 have K2 := hide (Ya (Kp.of_below (rb := rb) b2) (Ya p2 (Ya f2 s2)))
 clear b2 s2 p2 f2 hw2 h hpr0
 obtain ⟨PO, hPO⟩ : ∃ PO : Ending → World → Prop, PO = fun en w' => RdAns rb w (progD e 32 true l 0) en w' := ⟨_, rfl⟩
 rw [← hPO]
 have HPO := hide hPO
 clear hPO
 cases hq : progD e 32 true l 0 with
 | bad why at1 l4 =>
  rw [hq] at hpr HPO
  clear hq
  go_enter_defers Tryz.func12, Tryz.ntmps12
  go_wp2_with fail
  rw [← Qa HW2]
  refine hpr.mono ?_
  clear hpr HW2
  rintro en w3 ⟨rfl, k3⟩
  obtain ⟨k2, p2, f2, s2⟩ := Qa K2
  have p3 := k3.keep p2 (by omega)
  have f3 := k3.keep f2 (by omega)
  have k03 := k2.trans k3
  have hca := Qme why at1 [] p3 f3 (by omega)
  have HK := hide k03
  clear k2 p2 f2 s2 p3 f3 k03 k3 K2
  go_wp2_with fail
  refine leaves_cons (f := 24) (args := #[.pointer (some ⟨w.heap.size, 0, none⟩), .pointer (some ⟨w.heap.size + 1, 0, none⟩)]) (by simp) (by simp [go_sem]) ?_
  refine hca.mono ?_
  rintro e u' w4 ⟨rfl, rfl, p4, f4, s4, o1, o2, o3, hot⟩
  obtain ⟨x0, x1, x2, x3, x4, xf⟩ := cl5 p4
  obtain ⟨y0, y1, yf⟩ := cl2 f4
  have hk4 : Kp rb w w4 := ⟨o1.trans (Qa HK).os, o2.trans (Qa HK).tape, o3.trans (Qa HK).output, Nat.le_trans (Qa HK).size s4, fun k hk hn => (hot k (by have := (Qa HK).size; omega) (by omega) (by omega)).trans ((Qa HK).block k hk hn)⟩
  have hfin : PO (.returned (.tuple #[.agg #[.slice none 0 0, .slice none 0 0, .slice none 0 0, .slice none 0 0, .slice none 0 0], .agg #[.int .i64 why, .int .i64 at1]])) w4 := by rw [Qa HPO]; exact ⟨rfl, hk4⟩
  clear hk4 hot
  simp [Leaves, settle, results, Tryz.results12, go_sem, x0, x1, x2, x3, x4, y0, y1]
  exact hfin
 | ok p l4 i4 =>
  rw [hq] at hpr HPO
  clear hq
  go_enter_defers Tryz.func12, Tryz.ntmps12
  go_wp2_with fail
  rw [← Qa HW2]
  refine hpr.mono ?_
  clear hpr HW2
  rintro en w3 ⟨_, rfl, ⟨a0, m0, q0, a1, m1, q1, a2, m2, q2, a3, m3, q3, a4, m4, q4, rfl, hP⟩, -, k3⟩
  obtain ⟨k2, p2, f2, s2⟩ := Qa K2
  have p3 := k3.keep p2 (by omega)
  have f3 := k3.keep f2 (by omega)
  have k03 := k2.trans k3
  obtain ⟨x0, x1, x2, x3, x4, xf⟩ := cl5 p3
  obtain ⟨w5, hw5⟩ : ∃ w5, w5 = (((((w3.setCell ⟨w.heap.size, 0, none⟩ (.slice a0 m0 q0)).setCell ⟨w.heap.size, 1, none⟩ (.slice a1 m1 q1)).setCell ⟨w.heap.size, 2, none⟩ (.slice a2 m2 q2)).setCell ⟨w.heap.size, 3, none⟩ (.slice a3 m3 q3)).setCell ⟨w.heap.size, 4, none⟩ (.slice a4 m4 q4)) := ⟨_, rfl⟩
  have ho5 : ∀ k, k ≠ w.heap.size → w5.heap[k]? = w3.heap[k]? := fun k hk => by rw [hw5, hpS hk, hpS hk, hpS hk, hpS hk, hpS hk]
  have p5 : w5.heap[w.heap.size]? = some (.cells #[.slice a0 m0 q0, .slice a1 m1 q1, .slice a2 m2 q2, .slice a3 m3 q3, .slice a4 m4 q4] 28 (0, 0)) := by rw [hw5]; exact (Qac (Qac (Qac (Qac (Qac p3 0 _) 1 _) 2 _) 3 _) 4 _).trans rfl
  have f5 := (ho5 (w.heap.size + 1) (by omega)).trans f3
  obtain ⟨y0, y1, yf⟩ := cl2 f5
  obtain ⟨w7, hw7⟩ : ∃ w7, w7 = (w5.setCell ⟨w.heap.size + 1, 0, none⟩ (.int .i64 0)).setCell ⟨w.heap.size + 1, 1, none⟩ (.int .i64 0) := ⟨_, rfl⟩
  have ho7 : ∀ k, k ≠ w.heap.size + 1 → w7.heap[k]? = w5.heap[k]? := fun k hk => by rw [hw7, hpS hk, hpS hk]
  have f7 : w7.heap[w.heap.size + 1]? = some (.cells #[.int .i64 0, .int .i64 0] 31 (0, 0)) := by rw [hw7]; exact (Qac (Qac f5 0 _) 1 _).trans rfl
  have p7 := (ho7 w.heap.size (by omega)).trans p5
  have hs : w3.heap.size ≤ w7.heap.size := by rw [hw7, hw5]; simp [World.setCell]
  have k7 : Kp rb w w7 := by rw [hw7, hw5]; exact ((((((k03.set2 (by omega)).set2 (by omega)).set2 (by omega)).set2 (by omega)).set2 (by omega)).set2 (by omega)).set2 (by omega)
  have hP7 : VPg (fun b => w.heap.size ≤ b) w7 (.agg #[.slice a0 m0 q0, .slice a1 m1 q1, .slice a2 m2 q2, .slice a3 m3 q3, .slice a4 m4 q4]) p := ⟨_, _, _, _, _, _, _, _, _, _, _, _, _, _, _, rfl, Qat.mono _ _ _ _ _ (Qat.same _ _ w7 _ _ hP hs (fun b hb _ => by have hb' : w2.heap.size ≤ b := hb; exact (ho7 b (by omega)).trans (ho5 b (by omega)))) (fun b _ hb => by have hb' : w2.heap.size ≤ b := hb; omega)⟩
  have hfin : PO (.returned (.tuple #[.agg #[.slice a0 m0 q0, .slice a1 m1 q1, .slice a2 m2 q2, .slice a3 m3 q3, .slice a4 m4 q4], .agg #[.int .i64 0, .int .i64 0]])) w7 := by rw [Qa HPO]; exact ⟨_, rfl, hP7, k7⟩
  have HW7 := hide hw7
  have HU := hide (Ya p7 (Ya f7 hfin))
  clear hP k2 p2 f2 s2 p3 f3 k03 k3 K2 ho5 p5 f5 hw7 ho7 f7 p7 hs k7 hP7 hfin
  subst hw5
  go_wp2_with fail
  rw [← Qa HW7]
  obtain ⟨p7, f7, hfin⟩ := Qa HU
  obtain ⟨u0, u1, u2, u3, u4, uf⟩ := cl5 p7
  obtain ⟨t0, t1, tf⟩ := cl2 f7
  clear p7 f7 HU HW7
  refine leaves_cons (f := 24) (args := #[.pointer (some ⟨w.heap.size, 0, none⟩), .pointer (some ⟨w.heap.size + 1, 0, none⟩)]) (by simp) (by simp [go_sem]) ?_
  refine (Qmd w.heap.size (w.heap.size + 1) w7).mono ?_
  rintro e u' w'' ⟨rfl, rfl, rfl⟩
  simp [Leaves, settle, results, Tryz.results12, go_sem, u0, u1, u2, u3, u4, t0, t1]
  exact hfin
theorem Qsw {rb e : Nat} {w : World} {l : List Tok} (h : Rd rb e w l 0 0) :
  Calls Tryz.prog 12 #[.pointer (some ⟨rb, 0, none⟩)] w fun en w' => RdAns rb w (progD e 32 true l 0) en w' := read_of h (fun _ b => Qkd (h.later b))
end
section
open Go.ChangeShapes Go.WideShapes Go.ChangeAt Go.WideMaps Go.WideElems Go.RowKit
section
variable {H : Type} {enc : TypeId × Value → H}
theorem Qtp {a : Assume} {C : Checked} {os : Os} {f : FuncId} {fn : Func} {s : ChangeSpec} {conds : List PathCond} {apart fresh handsOn again : Bool} {X : World → Array Value → Prop}
  (hX : ∀ (w w' : World) (args : Array Value), w.heap = w'.heap → X w args → X w' args)
  (own : ownKnob C.prog.godebug = none) (started : os.Started) (noInit : C.prog.inits.idxOf? f = none) (hfn : C.prog.funcs[f]? = some fn)
  (witness : ∃ (w : World) (tape : Tape) (i : Input), w.os = os ∧ (w.forCall tape i).Shaped C.prog ∧ i.vars = [] ∧ Input.okWide C.prog (w.forCall tape i) .any w.heap.size f i ∧
   ((s.pre enc C.prog fn conds apart (w.forCall tape i).memory i.args ∧ X (w.forCall tape i).memory i.args) ∧ sizedMet enc C.prog fn (OpenSpec.ofChange s) apart (w.forCall tape i).memory i.args) ∧ a.holds C.prog (lone (Frame.enter C.prog f i.args .normal) [] (w.forCall tape i)))
  (walk : ∀ (W : World) (base : Nat) (args : Array Value) (ds gs : List (DataW H)) (before : List MemPlace),
   (∀ (j : Nat) t v, fn.params[j]? = some t → args[j]? = some v → Value.okWide C.prog W .any base t v) →
   DataW.Whole enc C.prog fn.params.toList s.vars apart W args.toList ds gs before →
   (DataW.weightsEach C.prog (fn.params.toList ++ s.plain.varTypes C.prog) (ds ++ gs)).all (· ≤ reachBytes) = true → X W args → W.ShapedOpen C.prog →
   Calls C.prog f args W fun e W' => ∃ v, e = .returned v ∧ s.post enc C.prog fn apart fresh handsOn again W args v W') :
  ReturnsInHanded a C os f .any (fun w args => (s.pre enc C.prog fn conds apart w args ∧ X w args) ∧ sizedMet enc C.prog fn (OpenSpec.ofChange s) apart w args) (s.post enc C.prog fn apart fresh handsOn again) := by
 refine returnsInHanded_of_calls own started noInit witness ?_
 intro w tape i _ hsh _ hok hpre _
 obtain ⟨_, _, _, fn', hfn', _, _, _, _, hval⟩ := hok
 have e : fn' = fn := Option.some.inj (hfn'.symm.trans hfn)
 subst e
 obtain ⟨⟨⟨ds, gs, before, hw, _⟩, hx⟩, hz⟩ := hpre
 have hw' := DataW.Whole.of_heap (w' := w.forCall tape i) (by rfl) hw
 refine (walk (w.forCall tape i) w.heap.size i.args ds gs before hval hw' (hz.weights hw) (hX _ _ _ (by rfl) hx) hsh).mono fun e W' ⟨v, he, hp⟩ => ?_
 subst he
 exact ChangeSpec.post_blind hp
end

theorem own : ownKnob Tryz.prog.godebug = none := by kernel_rfl

theorem Qhe {H : Type} {enc : TypeId × Value → H} {P : Program} {w : World} {base : Nat} {sp : Nat → Bool} {held : Bool} {fuel : Nat} {t e : TypeId} {n : Nat} {cs : List Value} {zs : List Txt} {p : List MemPlace}
  (ht : P.underlying t = some (.array n e)) (he : P.underlying e = some .string) (hce : P.cellsOf e = 1) (hct : P.cellsOf t = n)
  (h : DataW.trod enc P w base sp held fuel t cs = some (.agg (zs.map fun z => .lit (.string z)), p)) : cs = zs.map str := by
 cases fuel with
 | zero => simp [DataW.trod] at h
 | succ fuel =>
  simp only [DataW.trod, ht, hce, hct, Nat.mul_one] at h
  split at h
  ·
   rename_i hl
   obtain ⟨xs, hm, hx⟩ := Option.map_eq_some_iff.1 h
   have hxs : xs.map (·.1) = zs.map fun z => (DataW.lit (.string z) : DataW H) := by
    have := congrArg Prod.fst hx
    simpa using this
   have hxl : xs.length = n := by simpa using Lib.mapM_length hm
   have hzl : zs.length = n := by
    have := congrArg List.length hxs
    simp at this
    omega
   apply List.ext_getElem?
   intro i
   by_cases hi : i < n
   ·
    obtain ⟨b, hb, hf⟩ := Lib.mapM_at hm i i (by simp [hi])
    obtain ⟨z, hc, rfl, _⟩ := DataW.trod_string he hf
    have h1 : cs[i]? = some (.string z) := by
     have := congrArg (·[0]?) hc
     simpa [List.getElem?_take, List.getElem?_drop] using this
    have h2 : (xs.map (·.1))[i]? = some (DataW.lit (.string z.data.toList) : DataW H) := by simp [hb]
    rw [hxs] at h2
    simp only [List.getElem?_map, Option.map_eq_some_iff, DataW.lit.injEq, Lit.string.injEq] at h2
    obtain ⟨z', hz', e⟩ := h2
    rw [h1, List.getElem?_map, hz', e]
    simp [str]
   · rw [List.getElem?_eq_none (by omega), List.getElem?_eq_none (by simp; omega)]
  · cases h
end
end Go.Proofs.YtccehgfecaamoaaGreatDoor
