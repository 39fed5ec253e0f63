/- syn's reader: what it holds; the tokens ahead of it. syn's reader: signs, names, words, depth. The library's contract on slices.Contains, laid at this program. syn's reader: words, calls, depth, choices. syn's reader: what stands behind a name; one of some signs. -/
import Derived.Test.YtccehgfecaamoaaGreatDoorQa05
import Derived.WalkLawsBesides
import Derived.Shelf.Slices.Turned
import Derived.Test.YtccehgfecaamoaaGreatDoorProg
import Derived.Test.YtccehgfecaamoaaGreatDoorQa02
set_option maxRecDepth 100000
set_option maxHeartbeats 32000000
namespace Go.Proofs.YtccehgfecaamoaaGreatDoor
section
open Go.RowKit
structure Kp (rb : Nat) (w w' : World) : Prop where
 os : w'.os = w.os
 tape : w'.tape = w.tape
 output : w'.output = w.output
 size : w.heap.size ≤ w'.heap.size
 block : ∀ k, k < w.heap.size → k ≠ rb → w'.heap[k]? = w.heap[k]?
theorem Kp.refl (rb : Nat) (w : World) : Kp rb w w := ⟨rfl, rfl, rfl, Nat.le_refl _, fun _ _ _ => rfl⟩
theorem Kp.trans {rb : Nat} {a b c : World} (h : Kp rb a b) (k : Kp rb b c) : Kp rb a c := ⟨k.os.trans h.os, k.tape.trans h.tape, k.output.trans h.output, Nat.le_trans h.size k.size, fun i hi hn => (k.block i (by have := h.size; omega) hn).trans (h.block i hi hn)⟩
theorem Kp.of_below {rb : Nat} {w w' : World} (h : Below w.heap.size w w') : Kp rb w w' := ⟨h.os, h.tape, h.output, h.size, fun k hk _ => h.block k hk⟩
theorem Kp.below {rb B : Nat} {w w' : World} (h : Kp rb w w') (hB : B ≤ w.heap.size) (hr : B ≤ rb) : Below B w w' := ⟨h.os, h.tape, h.output, h.size, fun k hk => h.block k (by omega) (by omega)⟩
theorem Qaf {w : World} {k : Nat} {o : Obj} (h : w.heap[k]? = some o) : k < w.heap.size := (Array.getElem?_eq_some_iff.1 h).1
theorem Qaa {w : World} {b : Nat} {cs : Array Value} {t : TypeId} {f : Nat × Nat} (h : w.heap[b]? = some (.cells cs t f)) (i : Nat) : w.cell? ⟨b, i, none⟩ = cs[i]? := by simp [World.cell?, h]

structure TokAt (w : World) (b o : Nat) (t : Tok) : Prop where
 c0 : w.cell? ⟨b, o, none⟩ = some (.int .i64 t.kind)
 c1 : w.cell? ⟨b, o + 1, none⟩ = some (str t.text)
 c2 : w.cell? ⟨b, o + 2, none⟩ = some (.int .i64 t.num)
 c3 : w.cell? ⟨b, o + 3, none⟩ = some (.int .i64 (t.at_ : Int))
theorem TokAt.same {w w' : World} {b o : Nat} {t : Tok} (h : TokAt w b o t) (hb : w'.heap[b]? = w.heap[b]?) : TokAt w' b o t := by
 obtain ⟨c0, c1, c2, c3⟩ := h
 simp only [World.cell?] at c0 c1 c2 c3
 constructor <;> simp only [World.cell?] <;> rw [hb] <;> assumption
theorem TokAt.lt {w : World} {b o : Nat} {t : Tok} (h : TokAt w b o t) : b < w.heap.size := World.block_lt_of_cell? w _ h.c0
def TokSl (rb : Nat) (w : World) (v : Value) (l : List Tok) : Prop := ∃ a cap, v = .slice a l.length cap ∧ l.length ≤ cap ∧ cap ≤ maxLen ∧ ∀ j t, l[j]? = some t → ∃ b o, a = some ⟨b, o, none⟩ ∧ b < rb ∧ TokAt w b (o + j * 4) t
theorem TokSl.kp {rb : Nat} {w w' : World} {v : Value} {l : List Tok} (h : TokSl rb w v l) (k : Kp rb w w') : TokSl rb w' v l := by
 obtain ⟨a, cap, h1, h2, h3, h4⟩ := h
 refine ⟨a, cap, h1, h2, h3, fun j t hj => ?_⟩
 obtain ⟨b, o, e1, e2, e3⟩ := h4 j t hj
 exact ⟨b, o, e1, e2, e3.same (k.block b e3.lt (by omega))⟩
structure Rd (rb e : Nat) (w : World) (l : List Tok) (it dp : Nat) : Prop where
 box : ∃ v, w.heap[rb]? = some (.cells #[v, .int .i64 (e : Int), .int .i64 (it : Int), .int .i64 (dp : Int)] 49 (0, 0)) ∧ TokSl rb w v l
 num : ∀ t ∈ l, 0 ≤ t.kind ∧ t.kind ≤ 4 ∧ 0 ≤ t.num ∧ t.num ≤ 9223372036854775807 ∧ t.at_ ≤ 65536
 len : l.length ≤ 65536
 end_ : e ≤ 65536
theorem Rd.lt {rb e : Nat} {w : World} {l : List Tok} {it dp : Nat} (h : Rd rb e w l it dp) : rb < w.heap.size := by
 obtain ⟨v, h1, _⟩ := h.box
 exact Qaf h1
theorem Rd.later {rb e : Nat} {w w' : World} {l : List Tok} {it dp : Nat} (h : Rd rb e w l it dp) (b : Below w.heap.size w w') : Rd rb e w' l it dp := by
 obtain ⟨v, h1, h2⟩ := h.box
 exact ⟨⟨v, (b.block _ (Qaf h1)).trans h1, h2.kp (Kp.of_below b)⟩, h.num, h.len, h.end_⟩
abbrev tokV (t : Tok) : Value := .agg #[.int .i64 t.kind, str t.text, .int .i64 t.num, .int .i64 (t.at_ : Int)]
def noTok (e : Nat) : Tok := ⟨0, [], 0, e⟩
theorem Qrv {e n : Nat} {l : List Tok} {t : Tok} (h : l[n]? = some t) : ahd e n l = t := by simp [ahd, List.getD_eq_getElem?_getD, h]
theorem Qru {e n : Nat} {l : List Tok} (h : l.length ≤ n) : ahd e n l = noTok e := by simp [ahd, List.getD_eq_getElem?_getD, List.getElem?_eq_none h, noTok]

theorem Qak {rb e : Nat} {w : World} {l : List Tok} {it dp : Nat} (h : Rd rb e w l it dp) (n : Nat) :
  Calls Tryz.prog 60 #[.pointer (some ⟨rb, 0, none⟩), .int .i64 (n : Int)] w fun en w' => en = .returned (tokV (ahd e n l)) ∧ Below w.heap.size w w' := by
 obtain ⟨v, hbx, a, cap, rfl, hc1, hc2, ht⟩ := h.box
 have c0 : w.cell? ⟨rb, 0, none⟩ = some (.slice a l.length cap) := by rw [Qaa hbx]; rfl
 have c1 : w.cell? ⟨rb, 1, none⟩ = some (.int .i64 (e : Int)) := by rw [Qaa hbx]; rfl
 have hrb : rb < w.heap.size := Qaf hbx
 have z0 : (w.alloc (.cells #[.int .i64 0, .string ⟨#[]⟩, .int .i64 0, .int .i64 0] 83)).cell? ⟨rb, 0, none⟩ = some (.slice a l.length cap) := (World.cell?_alloc_lt w _ _ hrb).trans c0
 have z1 : (w.alloc (.cells #[.int .i64 0, .string ⟨#[]⟩, .int .i64 0, .int .i64 0] 83)).cell? ⟨rb, 1, none⟩ = some (.int .i64 (e : Int)) := (World.cell?_alloc_lt w _ _ hrb).trans c1
 have hl := h.len
 by_cases hn : n < l.length
 ·
  obtain ⟨b, o, rfl, hb, hT⟩ := ht n _ (List.getElem?_eq_getElem hn)
  have hbl := hT.lt
  have hT' : TokAt (w.alloc (.cells #[.int .i64 0, .string ⟨#[]⟩, .int .i64 0, .int .i64 0] 83)) b (o + n * 4) l[n] := hT.same (Below.heap_alloc w _ _ hbl)
  have k0 := hT'.c0
  have k1 := hT'.c1
  have k2 := hT'.c2
  have k3 := hT'.c3
  have hA := hide (Qrv (e := e) (List.getElem?_eq_getElem hn))
  generalize l[n] = t at k0 k1 k2 k3 hA
  have hg : ¬ ((l.length : Int) ≤ (n : Int)) := by omega
  clear hT hT' hbx ht c0 c1 h
  go_enter Tryz.func60, Tryz.ntmps60
  go_wp2_with fail
  refine bodyPost_ret (v := tokV t) (by simp [results, Tryz.results60, go_sem]) rfl ?_
  exact ⟨by rw [Qa hA], (Below.refl _ w).alloc (Nat.le_refl _) _⟩
 have hA := hide (Qru (e := e) (l := l) (n := n) (by omega))
 have hg : (l.length : Int) ≤ (n : Int) := by omega
 clear hbx ht c0 c1 h
 go_enter Tryz.func60, Tryz.ntmps60
 go_wp2_with fail
 refine bodyPost_ret (v := tokV (noTok e)) (by simp [results, Tryz.results60, go_sem, noTok]) rfl ?_
 exact ⟨by rw [Qa hA], (Below.refl _ w).alloc (Nat.le_refl _) _⟩

theorem Rd.cells {rb e : Nat} {w : World} {l : List Tok} {it dp : Nat} (h : Rd rb e w l it dp) : ∃ a cap, w.cell? ⟨rb, 0, none⟩ = some (.slice a l.length cap) ∧ w.cell? ⟨rb, 1, none⟩ = some (.int .i64 (e : Int)) ∧ w.cell? ⟨rb, 2, none⟩ = some (.int .i64 (it : Int)) ∧ w.cell? ⟨rb, 3, none⟩ = some (.int .i64 (dp : Int)) ∧ ∀ o, w.frozen? ⟨rb, o, none⟩ = false := by
 obtain ⟨v, hbx, a, cap, rfl, _⟩ := h.box
 refine ⟨a, cap, by rw [Qaa hbx]; rfl, by rw [Qaa hbx]; rfl, by rw [Qaa hbx]; rfl, by rw [Qaa hbx]; rfl, fun o => by simp [World.frozen?, hbx]⟩
theorem Qac {w : World} {b : Nat} {cur : Array Value} {t : TypeId} {f : Nat × Nat} (h : w.heap[b]? = some (.cells cur t f)) (i : Nat) (v : Value) : (w.setCell ⟨b, i, none⟩ v).heap[b]? = some (.cells (cur.setIfInBounds i v) t f) := by
 obtain ⟨hlt, hk⟩ := Array.getElem?_eq_some_iff.1 h
 show (w.heap.modify b _)[b]? = _
 rw [Array.getElem?_eq_getElem (by rw [Array.size_modify]; exact hlt), Array.getElem_modify_self, hk]
 rfl
theorem hpS {w : World} {p : Addr} {v : Value} {k : Nat} (h : k ≠ p.block) : (w.setCell p v).heap[k]? = w.heap[k]? := Below.heap_setCell _ _ _ _ h
theorem Kp.set (rb : Nat) (w : World) (i : Nat) (v : Value) : Kp rb w (w.setCell ⟨rb, i, none⟩ v) := by
 have h := (Below.refl 0 w).setCell (p := ⟨rb, i, none⟩) (Nat.zero_le _) v
 exact ⟨h.os, h.tape, h.output, h.size, fun k _ hn => hpS hn⟩

theorem Qay {rb e : Nat} {w : World} {t : Tok} {l : List Tok} {it dp : Nat} (h : Rd rb e w (t :: l) it dp) :
  Calls Tryz.prog 110 #[.pointer (some ⟨rb, 0, none⟩)] w fun en w' => en = .returned (tokV t) ∧ Rd rb e w' l it dp ∧ Kp rb w w' := by
 obtain ⟨w1, hw1⟩ : ∃ w1, w1 = w.alloc (.cells #[.int .i64 0, .string ⟨#[]⟩, .int .i64 0, .int .i64 0] 83) := ⟨_, rfl⟩
 have b1 : Below w.heap.size w w1 := by rw [hw1]; exact (Below.refl _ w).alloc (Nat.le_refl _) _
 have h1 := h.later b1
 have ha := Qak h1 0
 have hw1' := hide hw1
 have q1 : w1.heap[w.heap.size]? = some (.cells #[.int .i64 0, .string ⟨#[]⟩, .int .i64 0, .int .i64 0] 83 (0, 0)) := by rw [hw1]; exact heap_alloc_new w _
 have HH := hide (Ya h1 (Ya b1 q1))
 have e0 : ahd e 0 (t :: l) = t := rfl
 rw [e0] at ha
 clear h h1 b1 hw1 q1 e0
 go_enter Tryz.func110, Tryz.ntmps110
 go_wp2_with fail
 rw [← Qa hw1']
 refine ha.mono ?_
 clear ha
 rintro en w2 ⟨rfl, b2⟩
 obtain ⟨w3, hw3⟩ : ∃ w3, w3 = w2.alloc (.cells #[.int .i64 t.kind, str t.text, .int .i64 t.num, .int .i64 (t.at_ : Int)] 83) := ⟨_, rfl⟩
 have b3 : Below w2.heap.size w2 w3 := by rw [hw3]; exact (Below.refl _ w2).alloc (Nat.le_refl _) _
 have n3 : w3.heap[w2.heap.size]? = some (.cells #[.int .i64 t.kind, str t.text, .int .i64 t.num, .int .i64 (t.at_ : Int)] 83 (0, 0)) := by rw [hw3]; exact heap_alloc_new w2 _
 have b13 : Below w1.heap.size w1 w3 := b2.trans (b3.mono b2.size)
 have h3 := (Qa HH).1.later b13
 obtain ⟨v, hbx, a, cap, rfl, hc1, hc2, ht⟩ := h3.box
 obtain ⟨b, o, rfl, hb, hT⟩ := ht 0 t rfl
 have c0 : w3.cell? ⟨rb, 0, none⟩ = some (.slice (some ⟨b, o, none⟩) (t :: l).length cap) := by rw [Qaa hbx]; rfl
 have f0 : w3.frozen? ⟨rb, 0, none⟩ = false := by simp [World.frozen?, hbx]
 rw [List.length_cons] at c0 hc1
 have hsz2 : w.heap.size < w2.heap.size := by have := b2.size; have := Qaf (Qa HH).2.2; omega
 have hrw : rb < w.heap.size := by
  have h0 := (Qa HH).1.lt
  have e : w1.heap.size = w.heap.size + 1 := by rw [Qa hw1']; simp
  have := Qaf hbx
  have hne : rb ≠ w.heap.size := fun e2 => by
   obtain ⟨v', hv', _⟩ := (Qa HH).1.box
   rw [e2, (Qa HH).2.2] at hv'
   simp at hv'
  omega
 have X0 : ∀ v, (w3.setCell ⟨rb, 0, none⟩ v).heap[w2.heap.size]? = some (.cells #[.int .i64 t.kind, str t.text, .int .i64 t.num, .int .i64 (t.at_ : Int)] 83 (0, 0)) := fun v => by rw [hpS (by show w2.heap.size ≠ rb; omega)]; exact n3
 have X1 : ∀ v, (w3.setCell ⟨rb, 0, none⟩ v).heap[w.heap.size]? = some (.cells #[.int .i64 0, .string ⟨#[]⟩, .int .i64 0, .int .i64 0] 83 (0, 0)) := fun v => by
  rw [hpS (by show w.heap.size ≠ rb; omega), b13.block _ (Qaf (Qa HH).2.2)]
  exact (Qa HH).2.2
 have FIN : Hid (∀ v q0 q1 q2 q3, TokSl rb w3 v l → Rd rb e (((((w3.setCell ⟨rb, 0, none⟩ v).setCell ⟨w.heap.size, 0, none⟩ q0).setCell ⟨w.heap.size, 1, none⟩ q1).setCell ⟨w.heap.size, 2, none⟩ q2).setCell ⟨w.heap.size, 3, none⟩ q3) l it dp ∧ Kp rb w (((((w3.setCell ⟨rb, 0, none⟩ v).setCell ⟨w.heap.size, 0, none⟩ q0).setCell ⟨w.heap.size, 1, none⟩ q1).setCell ⟨w.heap.size, 2, none⟩ q2).setCell ⟨w.heap.size, 3, none⟩ q3)) := fun v q0 q1 q2 q3 hv => by
  have hs : ∀ k, k ≠ w.heap.size → (((((w3.setCell ⟨rb, 0, none⟩ v).setCell ⟨w.heap.size, 0, none⟩ q0).setCell ⟨w.heap.size, 1, none⟩ q1).setCell ⟨w.heap.size, 2, none⟩ q2).setCell ⟨w.heap.size, 3, none⟩ q3).heap[k]? = (w3.setCell ⟨rb, 0, none⟩ v).heap[k]? := fun k hk => by
   rw [hpS hk, hpS hk, hpS hk, hpS hk]
  have bb : Below w.heap.size w w3 := (Qa HH).2.1.trans (b13.mono (Qa HH).2.1.size)
  have kk := (((((Below.refl 0 w3).setCell (p := ⟨rb, 0, none⟩) (Nat.zero_le _) v).setCell (p := ⟨w.heap.size, 0, none⟩) (Nat.zero_le _) q0).setCell (p := ⟨w.heap.size, 1, none⟩) (Nat.zero_le _) q1).setCell (p := ⟨w.heap.size, 2, none⟩) (Nat.zero_le _) q2).setCell (p := ⟨w.heap.size, 3, none⟩) (Nat.zero_le _) q3
  have K : Kp rb w (((((w3.setCell ⟨rb, 0, none⟩ v).setCell ⟨w.heap.size, 0, none⟩ q0).setCell ⟨w.heap.size, 1, none⟩ q1).setCell ⟨w.heap.size, 2, none⟩ q2).setCell ⟨w.heap.size, 3, none⟩ q3) :=
   ⟨kk.os.trans bb.os, kk.tape.trans bb.tape, kk.output.trans bb.output, Nat.le_trans bb.size kk.size, fun k hk hn => by rw [hs k (by omega), hpS hn]; exact bb.block k hk⟩
  refine ⟨⟨⟨v, ?_, ?_⟩, fun x hx => h3.num x (List.mem_cons_of_mem _ hx), by have := h3.len; rw [List.length_cons] at this; omega, h3.end_⟩, K⟩
  · rw [hs rb (by omega)]; exact (Qac hbx 0 v).trans rfl
  obtain ⟨a, cp, e1, e2, e3, e4⟩ := hv
  refine ⟨a, cp, e1, e2, e3, fun j x hx => ?_⟩
  obtain ⟨b', o', g1, g2, g3⟩ := e4 j x hx
  refine ⟨b', o', g1, g2, g3.same ?_⟩
  rw [hs b' (by omega), hpS (by show b' ≠ rb; omega)]
 have SL : Hid (∀ (cp : Nat) (sa : Option Addr), l.length ≤ cp → cp ≤ maxLen → (0 < l.length → sa = some ⟨b, o + 4, none⟩) → TokSl rb w3 (.slice sa l.length cp) l) := fun cp sa g1 g2 g3 => by
  refine ⟨sa, cp, rfl, g1, g2, fun j x hx => ?_⟩
  have hj : j < l.length := (List.getElem?_eq_some_iff.1 hx).1
  obtain ⟨b', o', g1', g2', g3'⟩ := ht (j + 1) x (by simpa using hx)
  simp only [Option.some.injEq, Addr.mk.injEq] at g1'
  obtain ⟨rfl, rfl, _⟩ := g1'
  exact ⟨b, o + 4, g3 (by omega), hb, by rw [show o + 4 + j * 4 = o + (j + 1) * 4 by omega]; exact g3'⟩
 have HX := hide (Ya X0 X1)
 have hl : l.length ≤ 65536 := by have := h3.len; rw [List.length_cons] at this; omega
 subst hw3
 clear b2 b3 n3 b13 h3 hbx ht hT X0 X1
 by_cases hcap : 1 < cap
 case pos =>
  have k1 : ¬ (cap - 1 = 0) := by omega
  have k2 : ¬ (cap = 1) := by omega
  have k3 : 1 ≤ cap := by omega
  have Y := (Qa HX).2 (.slice (some ⟨b, o + 4, none⟩) l.length (cap - 1))
  have y0 := (Qaa Y 0).trans (show _ = some (.int .i64 0) from rfl)
  have y1 := (Qaa Y 1).trans (show _ = some (.string ⟨#[]⟩) from rfl)
  have y2 := (Qaa Y 2).trans (show _ = some (.int .i64 0) from rfl)
  have y3 := (Qaa Y 3).trans (show _ = some (.int .i64 0) from rfl)
  have yf : ∀ o', ((w2.alloc (.cells #[.int .i64 t.kind, str t.text, .int .i64 t.num, .int .i64 (t.at_ : Int)] 83)).setCell ⟨rb, 0, none⟩ (.slice (some ⟨b, o + 4, none⟩) l.length (cap - 1))).frozen? ⟨w.heap.size, o', none⟩ = false := fun o' => by simp [World.frozen?, Y]
  clear Y
  go_wp2_with fail
  refine bodyPost_ret (v := tokV t) (by simp [results, Tryz.results110, go_sem, y0, y1, y2, y3]) rfl ?_
  exact ⟨rfl, Qa FIN _ _ _ _ _ (Qa SL (cap - 1) _ (by omega) (by omega) (fun _ => rfl))⟩
 obtain rfl : l = [] := List.length_eq_zero_iff.1 (by omega)
 obtain rfl : cap = 1 := by simp at hc1; omega
 have Y := (Qa HX).2 (.slice (some ⟨b, o, none⟩) 0 0)
 have y0 := (Qaa Y 0).trans (show _ = some (.int .i64 0) from rfl)
 have y1 := (Qaa Y 1).trans (show _ = some (.string ⟨#[]⟩) from rfl)
 have y2 := (Qaa Y 2).trans (show _ = some (.int .i64 0) from rfl)
 have y3 := (Qaa Y 3).trans (show _ = some (.int .i64 0) from rfl)
 have yf : ∀ o', ((w2.alloc (.cells #[.int .i64 t.kind, str t.text, .int .i64 t.num, .int .i64 (t.at_ : Int)] 83)).setCell ⟨rb, 0, none⟩ (.slice (some ⟨b, o, none⟩) 0 0)).frozen? ⟨w.heap.size, o', none⟩ = false := fun o' => by simp [World.frozen?, Y]
 clear Y
 go_wp2_with fail
 refine bodyPost_ret (v := tokV t) (by simp [results, Tryz.results110, go_sem, y0, y1, y2, y3]) rfl ?_
 exact ⟨rfl, Qa FIN _ _ _ _ _ (Qa SL 0 _ (Nat.le_refl _) (Nat.zero_le _) (fun h => absurd h (Nat.lt_irrefl 0)))⟩
abbrev stopV (why at_ : Int) : Value := .iface 87 (.agg #[.int .i64 why, .int .i64 at_])
def Ans {α : Type} (rb e dp : Nat) (w : World) (VA : World → Value → α → Prop) (r : Rs α) (en : Ending) (w' : World) : Prop := match r with
 | .bad why at_ _ => en = .panicked [{ v := stopV why at_, recovered := false }] ∧ Kp rb w w'
 | .ok x l i => ∃ v, en = .returned v ∧ VA w' v x ∧ Rd rb e w' l i dp ∧ Kp rb w w'

theorem Qaw {rb e : Nat} {w : World} {l : List Tok} {it dp : Nat} (h : Rd rb e w l it dp) (why : Int) :
  Calls Tryz.prog 91 #[.pointer (some ⟨rb, 0, none⟩), .int .i64 why] w fun en w' => en = .panicked [{ v := stopV why (ahd e 0 l).at_, recovered := false }] ∧ Below w.heap.size w w' := by
 have ha := Qak h 0
 clear h
 generalize ahd e 0 l = t at ha
 unfold tokV at ha
 go_enter Tryz.func91, Tryz.ntmps91
 go_wp2_with fail
 refine ha.mono ?_
 clear ha
 rintro en w2 ⟨rfl, b2⟩
 have B2 := hide b2
 clear b2
 go_wp2_with fail
 rename_i hK
 refine hK _ _ ?_
 go_wp2_with fail
 exact ⟨rfl, rfl, Qa B2⟩

theorem Qco {rb e : Nat} {w : World} {l : List Tok} {it dp : Nat} (h : Rd rb e w l it dp) :
  Calls Tryz.prog 92 #[.pointer (some ⟨rb, 0, none⟩)] w fun en w' => en = .returned (str (sgn e l)) ∧ Below w.heap.size w w' := by
 have ha := Qak h 0
 have hS := hide (show sgn e l = if (ahd e 0 l).kind = 4 then (ahd e 0 l).text else [] from rfl)
 clear h
 generalize ahd e 0 l = t at ha hS
 by_cases hk : t.kind = 4
 ·
  have hk2 : (t.kind == 4) = true := by simpa using hk
  have HK := hide hk
  clear hk
  go_enter Tryz.func92, Tryz.ntmps92
  go_wp2_with fail
  refine ha.mono ?_
  clear ha
  rintro en w2 ⟨rfl, b2⟩
  have B2 := hide b2
  clear b2
  go_wp2_with fail
  go_ret
  exact ⟨by rw [Qa hS, if_pos (Qa HK)]; rfl, (Qa B2).alloc (Qa B2).size _⟩
 have hk2 : (t.kind == 4) = false := by simpa using hk
 have HK := hide hk
 clear hk
 go_enter Tryz.func92, Tryz.ntmps92
 go_wp2_with fail
 refine ha.mono ?_
 clear ha
 rintro en w2 ⟨rfl, b2⟩
 have B2 := hide b2
 clear b2
 go_wp2_with fail
 go_ret
 exact ⟨by rw [Qa hS, if_neg (Qa HK)]; rfl, (Qa B2).alloc (Qa B2).size _⟩
end
section
open Go.RowKit
theorem Qry {a b : Txt} : ((⟨a.toArray⟩ : ByteArray) = ⟨b.toArray⟩) ↔ a = b := ⟨fun h => by have := congrArg (fun x => x.data.toList) h; simpa using this, fun h => by rw [h]⟩
theorem Qbp {e : Nat} {l : List Tok} {s : Txt} (h : sgn e l = s) (hs : s ≠ []) : ∃ t l', l = t :: l' ∧ t.kind = 4 ∧ t.text = s := by
 cases l with
 | nil =>
  simp [sgn, ahd] at h
  exact absurd h.symm (fun e => hs (by simpa using e))
 | cons t l' =>
  refine ⟨t, l', rfl, ?_⟩
  unfold sgn at h
  split at h
  · next hk => exact ⟨hk, h⟩
  · exact absurd h.symm hs
theorem Qcv {e : Nat} {l : List Tok} {k : Int} (h : (ahd e 0 l).kind = k) (hk : k ≠ 0) : ∃ t l', l = t :: l' ∧ t.kind = k := by
 cases l with
 | nil => exact absurd h (fun e => hk (by simpa [ahd] using e.symm))
 | cons t l' => exact ⟨t, l', rfl, h⟩

theorem Qbc {rb e : Nat} {w : World} {l : List Tok} {it dp : Nat} (h : Rd rb e w l it dp) (s : Txt) (hs : s ≠ []) :
  Calls Tryz.prog 120 #[.pointer (some ⟨rb, 0, none⟩), str s] w fun en w' => en = .returned (.bool (decide (sgn e l = s))) ∧ Rd rb e w' (if sgn e l = s then l.drop 1 else l) it dp ∧ Kp rb w w' := by
 have hg := Qco h
 by_cases hS : sgn e l = s
 ·
  obtain ⟨t, l', rfl, _⟩ := Qbp hS hs
  have HT : Hid (∀ v, Below w.heap.size w v → Calls Tryz.prog 110 #[.pointer (some ⟨rb, 0, none⟩)] v fun en w' => en = .returned (tokV t) ∧ Rd rb e w' l' it dp ∧ Kp rb v w') := fun v hv => Qay (h.later hv)
  rw [hS] at hg
  rw [if_pos hS, decide_eq_true hS]
  clear h hS
  go_enter Tryz.func120, Tryz.ntmps120
  go_wp2_with fail
  refine hg.mono ?_
  clear hg
  rintro en w2 ⟨rfl, b2⟩
  have ht := Qa HT w2 b2
  have B2 := hide b2
  clear b2 HT
  go_wp2_with fail
  refine ht.mono ?_
  clear ht
  rintro en w3 ⟨rfl, hR3, k3⟩
  have H3 := hide (Ya hR3 ((Kp.of_below (Qa B2)).trans k3))
  clear hR3 k3
  go_wp2_with fail
  go_ret
  exact ⟨rfl, Qa H3⟩
 rw [if_neg hS, decide_eq_false hS]
 have hne : (sgn e l == s) = false := by simpa using hS
 have HH := hide h
 generalize sgn e l = g at hg hne
 clear h hS
 go_enter Tryz.func120, Tryz.ntmps120
 go_wp2_with fail
 refine hg.mono ?_
 clear hg
 rintro en w2 ⟨rfl, b2⟩
 have B2 := hide b2
 clear b2
 go_wp2_with fail
 go_ret
 exact ⟨rfl, (Qa HH).later (Qa B2), Kp.of_below (Qa B2)⟩

theorem Qbm {rb e : Nat} {w : World} {l : List Tok} {it dp : Nat} (h : Rd rb e w l it dp) (s : Txt) (hs : s ≠ []) :
  Calls Tryz.prog 122 #[.pointer (some ⟨rb, 0, none⟩), str s] w fun en w' => Ans rb e dp w (fun _ v _ => v = .tuple #[]) (want e s l it) en w' := by
 have hk := Qbc h s hs
 by_cases hS : sgn e l = s
 ·
  have E : want e s l it = .ok () (l.drop 1) it := if_pos hS
  rw [E]
  rw [if_pos hS, decide_eq_true hS] at hk
  clear h hS E
  go_enter Tryz.func122, Tryz.ntmps122
  go_wp2_with fail
  refine hk.mono ?_
  clear hk
  rintro en w2 ⟨rfl, hR, k2⟩
  have H2 := hide (Ya hR k2)
  clear hR k2
  go_wp2_with fail
  go_end0
  exact ⟨_, rfl, rfl, Qa H2⟩
 have E : want e s l it = .bad 10 (ahd e 0 l).at_ l := if_neg hS
 rw [E]
 rw [if_neg hS, decide_eq_false hS] at hk
 clear h hS E
 go_enter Tryz.func122, Tryz.ntmps122
 go_wp2_with fail
 refine hk.mono ?_
 clear hk
 rintro en w2 ⟨rfl, hR, k2⟩
 have hr := Qaw hR 10
 have H2 := hide k2
 clear hR k2
 go_wp2_with fail
 refine hr.mono ?_
 clear hr
 rintro en w3 ⟨rfl, b3⟩
 have H3 := hide ((Qa H2).trans (Kp.of_below b3))
 clear b3
 go_wp2_with fail
 exact ⟨rfl, rfl, Qa H3⟩

theorem Qdy {rb e : Nat} {w : World} {l : List Tok} {it dp : Nat} (h : Rd rb e w l it dp) :
  Calls Tryz.prog 113 #[.pointer (some ⟨rb, 0, none⟩)] w fun en w' => Ans rb e dp w (fun _ v x => v = str x) (nmQ e l it) en w' := by
 have ha := Qak h 0
 unfold tokV at ha
 by_cases hS : (ahd e 0 l).kind = 1
 ·
  have E : nmQ e l it = .ok (ahd e 0 l).text (l.drop 1) it := if_pos hS
  rw [E]
  obtain ⟨t, l', rfl, hk⟩ := Qcv hS (by decide)
  have HT : Hid (∀ v, Below w.heap.size w v → Calls Tryz.prog 110 #[.pointer (some ⟨rb, 0, none⟩)] v fun en w' => en = .returned (.agg #[.int .i64 t.kind, str t.text, .int .i64 t.num, .int .i64 (t.at_ : Int)]) ∧ Rd rb e w' l' it dp ∧ Kp rb v w') := fun v hv => Qay (h.later hv)
  have e0 : ahd e 0 (t :: l') = t := rfl
  rw [e0] at ha
  have hk2 : (t.kind != 1) = false := by simpa using hk
  rw [e0]
  clear h hS E hk e0
  go_enter Tryz.func113, Tryz.ntmps113
  go_wp2_with fail
  refine ha.mono ?_
  clear ha
  rintro en w2 ⟨rfl, b2⟩
  have ht := Qa HT w2 b2
  have B2 := hide b2
  clear b2 HT
  go_wp2_with fail
  rename_i hK
  refine hK _ _ ?_
  clear hK
  go_wp2_with fail
  refine ht.mono ?_
  clear ht
  rintro en w3 ⟨rfl, hR3, k3⟩
  have H3 := hide (Ya hR3 ((Kp.of_below (Qa B2)).trans k3))
  clear hR3 k3
  go_wp2_with fail
  rename_i hK
  refine hK _ _ ?_
  clear hK
  go_wp2_with fail
  go_ret
  exact ⟨_, rfl, rfl, Qa H3⟩
 have E : nmQ e l it = .bad 10 (ahd e 0 l).at_ l := if_neg hS
 rw [E]
 have HR : Hid (∀ v, Below w.heap.size w v → Calls Tryz.prog 91 #[.pointer (some ⟨rb, 0, none⟩), .int .i64 10] v fun en w' => en = .panicked [{ v := stopV 10 (ahd e 0 l).at_, recovered := false }] ∧ Below v.heap.size v w') := fun v hv => Qaw (h.later hv) 10
 generalize ahd e 0 l = t at ha hS HR
 have hk2 : (t.kind != 1) = true := by simpa using hS
 clear h hS E
 go_enter Tryz.func113, Tryz.ntmps113
 go_wp2_with fail
 refine ha.mono ?_
 clear ha
 rintro en w2 ⟨rfl, b2⟩
 have hr := Qa HR w2 b2
 have B2 := hide b2
 clear b2 HR
 go_wp2_with fail
 rename_i hK
 refine hK _ _ ?_
 clear hK
 go_wp2_with fail
 refine hr.mono ?_
 clear hr
 rintro en w3 ⟨rfl, b3⟩
 have H3 := hide ((Qa B2).trans (b3.mono (Qa B2).size))
 clear b3
 go_wp2_with fail
 exact ⟨rfl, rfl, Kp.of_below (Qa H3)⟩
end
end Go.Proofs.YtccehgfecaamoaaGreatDoor
namespace Go.Proofs
open Go.Shelf
def Tryz.lays110_ren : Go.Shelf.Ren := ⟨fun | 110 => 141 | 109 => 158 | n => n, fun | 31 => 70 | 9 => 9 | 4 => 4 | 3 => 3 | 0 => 0 | n => n, fun | n => n⟩
theorem Tryz.lays110 : Go.Proofs.Lays.n110 Tryz.prog Tryz.lays110_ren := {
  mixed := by kernel_rfl
  f109 := Tryz.func158.trans (congrArg some (by kernel_rfl))
  f110 := Tryz.func141.trans (congrArg some (by kernel_rfl))
  t0 := Tryz.underlying0
  a0 := Tryz.isAgg0
  z0 := Tryz.sizeOf0
  v0 := Tryz.zeroValue0
  t3 := Tryz.underlying3
  a3 := Tryz.isAgg3
  z3 := Tryz.sizeOf3
  v3 := Tryz.zeroValue3
  t4 := Tryz.underlying4
  a4 := Tryz.isAgg4
  z4 := Tryz.sizeOf4
  v4 := Tryz.zeroValue4
  t9 := Tryz.underlying9
  a9 := Tryz.isAgg9
  z9 := Tryz.sizeOf9
  v9 := Tryz.zeroValue9
  t31 := Tryz.underlying70
  a31 := Tryz.isAgg70
  z31 := Tryz.sizeOf70
  v31 := Tryz.zeroValue70 }
open Go.Lib in
theorem Tryz.slices_Contains_string (b off n c : Nat) (zs : List ByteArray) (x : ByteArray) (w : World) (hz : n ≤ zs.length) (hbig : n ≤ 9223372036854775807) (hc : ∀ j, j < zs.length → w.cell? ⟨b, off + j, none⟩ = some (.string (zs.getD j ByteArray.empty))) :
    Calls Tryz.prog 141 #[.slice (some ⟨b, off, none⟩) n c, .string x] w fun e w' => e = .returned (.bool (Lib.containsS (zs.take n) x)) ∧ w' = w := Any.slices_Contains_string Tryz.lays110 b off n c zs x w hz hbig hc
end Go.Proofs
namespace Go.Proofs.YtccehgfecaamoaaGreatDoor
section
open Go.RowKit
theorem Qpk : ∀ (l : Txt) (c : UInt8), decide (0 ≤ Lib.indexByte l c) = l.contains c
 | [], c => by simp [Lib.indexByte]
 | b :: l, c => by
  have ih := Qpk l c
  unfold Lib.indexByte
  by_cases e : b = c
  · subst e; simp
  have e1 : (b == c) = false := by simpa using e
  have e2 : (c == b) = false := by simpa using (fun h => e h.symm)
  rw [e1, List.contains_cons, e2, Bool.false_or, ← ih]
  simp only [Bool.false_eq_true, if_false]
  have hm := Lib.indexByte_ge l c
  by_cases h1 : Lib.indexByte l c = -1
  · rw [h1]; simp
  have : (Lib.indexByte l c == -1) = false := by simpa using h1
  rw [this]
  simp only [Bool.false_eq_true, if_false]
  rw [Bool.eq_iff_iff]; simp; omega

theorem Qmn (t : Tok) (w : World) :
  Calls Tryz.prog 140 #[.agg #[.int .i64 t.kind, str t.text, .int .i64 t.num, .int .i64 (t.at_ : Int)]] w fun en w' => en = .returned (.bool (isW1 t)) ∧ Below w.heap.size w w' := by
 have hc : ∀ v, Calls Tryz.prog 157 #[.string ⟨t.text.toArray⟩, .string ⟨#[46]⟩] v fun e w' => e = .returned (.bool (t.text.contains 46)) ∧ w' = v := fun v => by
  rw [← Qpk]
  exact Tryz.strings_Contains_one ⟨t.text.toArray⟩ 46 v
 have HC := hide hc
 have hA := hide (show isW1 t = (decide (t.kind = 1) && decide (t.text ≠ [95]) && !t.text.contains 46) from rfl)
 clear hc
 by_cases h1 : t.kind = 1
 ·
  have k1 : (t.kind == 1) = true := by simpa using h1
  by_cases h2 : t.text = [95]
  ·
   have k2 : (t.text == [95]) = true := by simpa using h2
   have HK := hide (Ya h1 h2)
   clear h1 h2 HC
   go_enter Tryz.func140, Tryz.ntmps140
   go_wp2_with fail
   go_ret
   exact ⟨by rw [Qa hA, decide_eq_true (Qa HK).1, (Qa HK).2]; rfl, (Below.refl _ w).alloc (Nat.le_refl _) _⟩
  have k2 : (t.text == [95]) = false := by simpa using h2
  have HK := hide (Ya h1 h2)
  have hc := Qa HC (w.alloc (.cells #[.int .i64 t.kind, str t.text, .int .i64 t.num, .int .i64 (t.at_ : Int)] 83))
  clear h1 h2 HC
  generalize hq : t.text.contains 46 = q at hc
  have HQ := hide hq
  clear hq
  go_enter Tryz.func140, Tryz.ntmps140
  go_wp2_with fail
  refine hc.mono ?_
  clear hc
  rintro en w2 ⟨rfl, hw2⟩
  subst hw2
  go_wp2_with fail
  go_ret
  exact ⟨by rw [Qa hA, decide_eq_true (Qa HK).1, decide_eq_true (Qa HK).2, Qa HQ]; rfl, (Below.refl _ w).alloc (Nat.le_refl _) _⟩
 have k1 : (t.kind == 1) = false := by simpa using h1
 have HK := hide h1
 clear h1 HC
 go_enter Tryz.func140, Tryz.ntmps140
 go_wp2_with fail
 go_ret
 exact ⟨by rw [Qa hA, decide_eq_false (Qa HK)]; rfl, (Below.refl _ w).alloc (Nat.le_refl _) _⟩

theorem Qbu {rb e : Nat} {w : World} {l : List Tok} {it dp : Nat} (h : Rd rb e w l it dp) :
  Calls Tryz.prog 111 #[.pointer (some ⟨rb, 0, none⟩)] w fun en w' => Ans rb e dp w (fun _ v x => v = str x) (wordQ e l it) en w' := by
 have ha := Qak h 0
 unfold tokV at ha
 have HW := hide (fun v => Qmn (ahd e 0 l) v)
 cases hS : isW1 (ahd e 0 l) with
 | true =>
  have E : wordQ e l it = .ok (ahd e 0 l).text (l.drop 1) it := if_pos hS
  rw [E]
  have hk1 : (ahd e 0 l).kind = 1 := by
   unfold isW1 at hS
   simp only [Bool.and_eq_true, decide_eq_true_eq] at hS
   exact hS.1.1
  obtain ⟨t, l', rfl, hk⟩ := Qcv hk1 (by decide)
  have HT : Hid (∀ v, Below w.heap.size w v → Calls Tryz.prog 110 #[.pointer (some ⟨rb, 0, none⟩)] v fun en w' => en = .returned (.agg #[.int .i64 t.kind, str t.text, .int .i64 t.num, .int .i64 (t.at_ : Int)]) ∧ Rd rb e w' l' it dp ∧ Kp rb v w') := fun v hv => Qay (h.later hv)
  have e0 : ahd e 0 (t :: l') = t := rfl
  rw [e0] at ha HW hS
  rw [e0]
  clear h E hk e0 hk1
  go_enter Tryz.func111, Tryz.ntmps111
  go_wp2_with fail
  refine ha.mono ?_
  clear ha
  rintro en w2 ⟨rfl, b2⟩
  have hw := Qa HW w2
  rw [hS] at hw
  have B2 := hide b2
  clear b2 HW
  go_wp2_with fail
  refine hw.mono ?_
  clear hw
  rintro en w3 ⟨rfl, b3⟩
  have b3' := (Qa B2).trans (b3.mono (Qa B2).size)
  have ht := Qa HT w3 b3'
  have B3 := hide b3'
  clear b3 b3' HT
  go_wp2_with fail
  refine ht.mono ?_
  clear ht
  rintro en w4 ⟨rfl, hR4, k4⟩
  have H4 := hide (Ya hR4 ((Kp.of_below (Qa B3)).trans k4))
  clear hR4 k4
  go_wp2_with fail
  rename_i hK
  refine hK _ _ ?_
  clear hK
  go_wp2_with fail
  go_ret
  exact ⟨_, rfl, rfl, Qa H4⟩
 | false =>
  have E : wordQ e l it = .bad 10 (ahd e 0 l).at_ l := if_neg (by rw [hS]; simp)
  rw [E]
  have HR : Hid (∀ v, Below w.heap.size w v → Calls Tryz.prog 91 #[.pointer (some ⟨rb, 0, none⟩), .int .i64 10] v fun en w' => en = .panicked [{ v := stopV 10 (ahd e 0 l).at_, recovered := false }] ∧ Below v.heap.size v w') := fun v hv => Qaw (h.later hv) 10
  generalize ahd e 0 l = t at ha hS HR HW
  clear h E
  go_enter Tryz.func111, Tryz.ntmps111
  go_wp2_with fail
  refine ha.mono ?_
  clear ha
  rintro en w2 ⟨rfl, b2⟩
  have hw := Qa HW w2
  rw [hS] at hw
  have B2 := hide b2
  clear b2 HW
  go_wp2_with fail
  refine hw.mono ?_
  clear hw
  rintro en w3 ⟨rfl, b3⟩
  have b3' := (Qa B2).trans (b3.mono (Qa B2).size)
  have hr := Qa HR w3 b3'
  have B3 := hide b3'
  clear b3 b3' HR
  go_wp2_with fail
  refine hr.mono ?_
  clear hr
  rintro en w4 ⟨rfl, b4⟩
  have H4 := hide ((Qa B3).trans (b4.mono (Qa B3).size))
  clear b4
  go_wp2_with fail
  exact ⟨rfl, rfl, Kp.of_below (Qa H4)⟩

theorem Qdt {rb e : Nat} {w : World} {l : List Tok} {it dp : Nat} (h : Rd rb e w l it dp) (hd : dp < 32) :
  Calls Tryz.prog 119 #[.pointer (some ⟨rb, 0, none⟩)] w fun en w' => en = .returned (.tuple #[]) ∧ Rd rb e w' l it (dp + 1) ∧ Kp rb w w' := by
 obtain ⟨v, hbx, hT⟩ := h.box
 have c3 : w.cell? ⟨rb, 3, none⟩ = some (.int .i64 (dp : Int)) := by rw [Qaa hbx]; rfl
 have f3 : w.frozen? ⟨rb, 3, none⟩ = false := by simp [World.frozen?, hbx]
 have hz : ((dp : Int) == 32) = false := by simp; omega
 have HF : Hid (Rd rb e (w.setCell ⟨rb, 3, none⟩ (.int .i64 ((dp : Int) + 1))) l it (dp + 1)) := ⟨⟨v, by have := Qac hbx 3 (.int .i64 ((dp : Int) + 1)); exact this.trans (by rw [Int.natCast_add]; rfl), hT.kp (Kp.set rb w 3 _)⟩, h.num, h.len, h.end_⟩
 clear h hbx hT
 go_enter Tryz.func119, Tryz.ntmps119
 go_wp2_with fail
 go_end0
 exact ⟨rfl, Qa HF, Kp.set rb w 3 _⟩
theorem Qhh {rb e : Nat} {w : World} {l : List Tok} {it : Nat} (h : Rd rb e w l it 32) :
  Calls Tryz.prog 119 #[.pointer (some ⟨rb, 0, none⟩)] w fun en w' => en = .panicked [{ v := stopV 4 (ahd e 0 l).at_, recovered := false }] ∧ Below w.heap.size w w' := by
 obtain ⟨v, hbx, hT⟩ := h.box
 have c3 : w.cell? ⟨rb, 3, none⟩ = some (.int .i64 32) := by rw [Qaa hbx]; rfl
 have hr := Qaw h 4
 clear h hbx hT
 go_enter Tryz.func119, Tryz.ntmps119
 go_wp2_with fail
 refine hr.mono ?_
 clear hr
 rintro en w4 ⟨rfl, b4⟩
 have H4 := hide b4
 clear b4
 go_wp2_with fail
 exact ⟨rfl, rfl, Qa H4⟩
theorem Qci {rb e : Nat} {w : World} {l : List Tok} {it dp : Nat} (h : Rd rb e w l it (dp + 1)) (hd : dp < 32) :
  Calls Tryz.prog 123 #[.pointer (some ⟨rb, 0, none⟩)] w fun en w' => en = .returned (.tuple #[]) ∧ Rd rb e w' l it dp ∧ Kp rb w w' := by
 obtain ⟨v, hbx, hT⟩ := h.box
 have c3 : w.cell? ⟨rb, 3, none⟩ = some (.int .i64 ((dp : Int) + 1)) := by rw [Qaa hbx, Int.natCast_add]; rfl
 have f3 : w.frozen? ⟨rb, 3, none⟩ = false := by simp [World.frozen?, hbx]
 have HF : Hid (Rd rb e (w.setCell ⟨rb, 3, none⟩ (.int .i64 (dp : Int))) l it dp) := ⟨⟨v, Qac hbx 3 (.int .i64 (dp : Int)), hT.kp (Kp.set rb w 3 _)⟩, h.num, h.len, h.end_⟩
 clear h hbx hT
 go_enter Tryz.func123, Tryz.ntmps123
 go_wp2_with fail
 go_end0
 exact ⟨rfl, by simpa using Qa HF, Kp.set rb w 3 _⟩
end
section
open Go.RowKit
def SgAt (rb : Nat) (w : World) (v : Value) (ss : List Txt) : Prop := ∃ b off c, v = .slice (some ⟨b, off, none⟩) ss.length c ∧ b ≠ rb ∧ b < w.heap.size ∧ ∀ j x, ss[j]? = some x → w.cell? ⟨b, off + j, none⟩ = some (str x)
theorem SgAt.kp {rb : Nat} {w w' : World} {v : Value} {ss : List Txt} (h : SgAt rb w v ss) (k : Kp rb w w') : SgAt rb w' v ss := by
 obtain ⟨b, off, c, h1, h2, h3, h4⟩ := h
 refine ⟨b, off, c, h1, h2, by have := k.size; omega, fun j x hx => ?_⟩
 have := h4 j x hx
 simp only [World.cell?] at this ⊢
 rw [k.block b h3 h2]; exact this
theorem Qep {rb : Nat} {w : World} {v : Value} {ss : List Txt} (h : SgAt rb w v ss) (hl : ss.length ≤ 100) (g : Txt) :
  Calls Tryz.prog 141 #[v, str g] w fun en w' => en = .returned (.bool (decide (g ∈ ss))) ∧ w' = w := by
 obtain ⟨b, off, c, rfl, h2, h3, h4⟩ := h
 have := Tryz.slices_Contains_string b off ss.length c (ss.map fun x => (⟨x.toArray⟩ : ByteArray)) ⟨g.toArray⟩ w (by simp) (by omega) (fun j hj => by
  have hj' : j < ss.length := by simpa using hj
  rw [List.getD_eq_getElem?_getD, List.getElem?_map, List.getElem?_eq_getElem hj']
  exact h4 j _ (List.getElem?_eq_getElem hj'))
 refine this.mono ?_
 rintro en w' ⟨rfl, rfl⟩
 refine ⟨?_, rfl⟩
 congr 2
 rw [Bool.eq_iff_iff, Lib.containsS_iff, decide_eq_true_eq, List.take_of_length_le (by simp), List.mem_map]
 constructor
 · rintro ⟨x, hx, e⟩; rw [Qry.1 e] at hx; exact hx
 · exact fun hx => ⟨g, hx, rfl⟩

theorem Qeh {rb e : Nat} {w : World} {l : List Tok} {it dp : Nat} (h : Rd rb e w l it dp) (v : Value) (ss : List Txt) (hs : SgAt rb w v ss) (hl : ss.length ≤ 100) (hne : [] ∉ ss) :
  Calls Tryz.prog 112 #[.pointer (some ⟨rb, 0, none⟩), v] w fun en w' => Ans rb e dp w (fun _ v x => v = str x) (choose e ss l it) en w' := by
 have hg := Qco h
 have HC : Hid (∀ u, Below w.heap.size w u → Calls Tryz.prog 141 #[v, str (sgn e l)] u fun en w' => en = .returned (.bool (decide (sgn e l ∈ ss))) ∧ w' = u) := fun u hu => Qep (hs.kp (Kp.of_below hu)) hl _
 obtain ⟨b, off, c, ev, _⟩ := id hs
 subst ev
 by_cases hS : sgn e l ∈ ss
 ·
  have E : choose e ss l it = .ok (ahd e 0 l).text (l.drop 1) it := if_pos hS
  rw [E]
  obtain ⟨t, l', rfl, hq⟩ := Qbp (s := sgn e l) rfl (fun e => hne (e ▸ hS))
  clear hq
  have HT : Hid (∀ v, Below w.heap.size w v → Calls Tryz.prog 110 #[.pointer (some ⟨rb, 0, none⟩)] v fun en w' => en = .returned (.agg #[.int .i64 t.kind, str t.text, .int .i64 t.num, .int .i64 (t.at_ : Int)]) ∧ Rd rb e w' l' it dp ∧ Kp rb v w') := fun v hv => Qay (h.later hv)
  have e0 : ahd e 0 (t :: l') = t := rfl
  rw [e0]
  rw [decide_eq_true hS] at HC
  generalize sgn e (t :: l') = g at hg HC
  clear h E e0 hS hs
  go_enter Tryz.func112, Tryz.ntmps112
  go_wp2_with fail
  refine hg.mono ?_
  clear hg
  rintro en w2 ⟨rfl, b2⟩
  have hc := Qa HC w2 b2
  have ht := Qa HT w2 b2
  have B2 := hide b2
  clear b2 HC HT
  go_wp2_with fail
  refine hc.mono ?_
  clear hc
  rintro en w3 ⟨rfl, hw3⟩
  subst hw3
  go_wp2_with fail
  refine ht.mono ?_
  clear ht
  rintro en w4 ⟨rfl, hR4, k4⟩
  have H4 := hide (Ya hR4 ((Kp.of_below (Qa B2)).trans k4))
  clear hR4 k4
  go_wp2_with fail
  rename_i hK
  refine hK _ _ ?_
  clear hK
  go_wp2_with fail
  go_ret
  exact ⟨_, rfl, rfl, Qa H4⟩
 have E : choose e ss l it = .bad 10 (ahd e 0 l).at_ l := if_neg hS
 rw [E]
 have HR : Hid (∀ v, Below w.heap.size w v → Calls Tryz.prog 91 #[.pointer (some ⟨rb, 0, none⟩), .int .i64 10] v fun en w' => en = .panicked [{ v := stopV 10 (ahd e 0 l).at_, recovered := false }] ∧ Below v.heap.size v w') := fun v hv => Qaw (h.later hv) 10
 rw [decide_eq_false hS] at HC
 generalize (ahd e 0 l).at_ = at0 at HR
 generalize sgn e l = g at hg HC
 clear h E hS hs
 go_enter Tryz.func112, Tryz.ntmps112
 go_wp2_with fail
 refine hg.mono ?_
 clear hg
 rintro en w2 ⟨rfl, b2⟩
 have hc := Qa HC w2 b2
 have hr := Qa HR w2 b2
 have B2 := hide b2
 clear b2 HC HR
 go_wp2_with fail
 refine hc.mono ?_
 clear hc
 rintro en w3 ⟨rfl, hw3⟩
 subst hw3
 go_wp2_with fail
 refine hr.mono ?_
 clear hr
 rintro en w4 ⟨rfl, b4⟩
 have H4 := hide ((Qa B2).trans (b4.mono (Qa B2).size))
 clear b4
 go_wp2_with fail
 exact ⟨rfl, rfl, Kp.of_below (Qa H4)⟩

theorem Qde {rb e : Nat} {w : World} {l : List Tok} {it dp : Nat} (h : Rd rb e w l it dp) :
  Calls Tryz.prog 118 #[.pointer (some ⟨rb, 0, none⟩)] w fun en w' => en = .returned (.bool (callN e l)) ∧ Below w.heap.size w w' := by
 have h1 := Qak h 1
 unfold tokV at h1
 have H0 : Hid (∀ v, Below w.heap.size w v → Calls Tryz.prog 60 #[.pointer (some ⟨rb, 0, none⟩), .int .i64 0] v fun en w' => en = .returned (.agg #[.int .i64 (ahd e 0 l).kind, str (ahd e 0 l).text, .int .i64 (ahd e 0 l).num, .int .i64 ((ahd e 0 l).at_ : Int)]) ∧ Below v.heap.size v w') := fun v hv => Qak (h.later hv) 0
 have hA := hide (show callN e l = (decide ((ahd e 0 l).kind = 1) && decide ((ahd e 1 l).kind = 4) && decide ((ahd e 1 l).text = [40])) from rfl)
 clear h
 generalize ahd e 0 l = s at H0 hA
 generalize ahd e 1 l = t at h1 hA
 have k1 : (s.kind == 1) = decide (s.kind = 1) := rfl
 have k2 : (t.kind == 4) = decide (t.kind = 4) := rfl
 go_enter Tryz.func118, Tryz.ntmps118
 go_wp2_with fail
 refine h1.mono ?_
 clear h1
 rintro en w2 ⟨rfl, b2⟩
 obtain ⟨w3, hw3⟩ : ∃ w3, w3 = w2.alloc (.cells #[.int .i64 t.kind, str t.text, .int .i64 t.num, .int .i64 (t.at_ : Int)] 83) := ⟨_, rfl⟩
 have b3 : Below w.heap.size w w3 := by rw [hw3]; exact b2.alloc b2.size _
 have n3 : w3.heap[w2.heap.size]? = some (.cells #[.int .i64 t.kind, str t.text, .int .i64 t.num, .int .i64 (t.at_ : Int)] 83 (0, 0)) := by rw [hw3]; exact heap_alloc_new w2 _
 have h0 := Qa H0 w3 b3
 have N3 := hide (Ya b3 n3)
 have HW3 := hide hw3
 clear b2 b3 n3 H0 hw3
 go_wp2_with fail
 rw [← Qa HW3]
 refine h0.mono ?_
 clear h0
 rintro en w4 ⟨rfl, b4⟩
 have n4 : w4.heap[w2.heap.size]? = some (.cells #[.int .i64 t.kind, str t.text, .int .i64 t.num, .int .i64 (t.at_ : Int)] 83 (0, 0)) := (b4.block _ (Qaf (Qa N3).2)).trans (Qa N3).2
 have c0 := (Qaa n4 0).trans (show _ = some (.int .i64 t.kind) from rfl)
 have c1 := (Qaa n4 1).trans (show _ = some (str t.text) from rfl)
 have B4 := hide ((Qa N3).1.trans (b4.mono (Qa N3).1.size))
 clear b4 n4
 go_wp2_with fail
 rename_i hK
 refine hK _ _ ?_
 clear hK
 by_cases e1 : s.kind = 1
 ·
  have q1 : (s.kind == 1) = true := by simpa using e1
  by_cases e2 : t.kind = 4
  ·
   have q2 : (t.kind == 4) = true := by simpa using e2
   have HK := hide (Ya e1 e2)
   clear e1 e2 k1 k2
   go_wp2_with fail
   go_ret
   refine ⟨?_, Qa B4⟩
   rw [Qa hA, decide_eq_true (Qa HK).1, decide_eq_true (Qa HK).2, Bool.true_and, Bool.true_and]
   show Ending.returned (.bool (t.text == [40])) = _
   congr 2
   rw [Bool.eq_iff_iff]; simp
  have q2 : (t.kind == 4) = false := by simpa using e2
  have HK := hide (Ya e1 e2)
  clear e1 e2 k1 k2
  go_wp2_with fail
  go_ret
  exact ⟨by rw [Qa hA, decide_eq_true (Qa HK).1, decide_eq_false (Qa HK).2]; rfl, Qa B4⟩
 have q1 : (s.kind == 1) = false := by simpa using e1
 have HK := hide e1
 clear e1 k1 k2
 go_wp2_with fail
 go_ret
 exact ⟨by rw [Qa hA, decide_eq_false (Qa HK)]; rfl, Qa B4⟩
end
end Go.Proofs.YtccehgfecaamoaaGreatDoor
