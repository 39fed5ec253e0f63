/- The document's kind: a type by its name. The document's Has, over a row of texts of one's own. The document's row of a type, purely: names by their numbers. The document's row: the types that a type is below, itself first. The document's Base and Below. -/
import Derived.Test.YtfmbpaoapjmdnaaQb25
import Derived.Test.YtfmbpaoapjmdnaaQb31
import Derived.Test.YtfmbpaoapjmdnaaQb04
set_option maxRecDepth 100000
set_option maxHeartbeats 32000000
namespace Go.Proofs.Ytfmbpaoapjmdnaa
section
open Go.RowKit Go.Maps
def kdP (p : Pg) (t : Txt) : Option Typ := p.types.find? fun x => x.name == t
def KdA (o : Option Typ) (en : Ending) : Prop := match o with
 | some x => ∃ xa xc, en = .returned (.tuple #[.agg #[str x.name, str x.sub, .slice xa x.ctors.length xc, .int .i64 x.at_], .bool true])
 | none => en = .returned (.tuple #[.agg #[.string ⟨#[]⟩, .string ⟨#[]⟩, .slice none 0 0, .int .i64 0], .bool false])
theorem Qmr {α : Type} {f : α → Bool} {xs : List α} {i : Nat} {x : α} (h : xs[i]? = some x) : (xs.drop i).find? f = if f x = true then some x else (xs.drop (i + 1)).find? f := by
 rw [Qhl h, List.find?_cons]
 cases f x <;> rfl
section
variable {S : Nat → Prop} {p : Pg} {w : World} {a0 a1 a2 a3 a4 : Option Addr} {k0 k1 k2 k3 k4 c0 c1 c2 c3 c4 : Nat}
theorem Qlg (hP : PgS S w [.slice a0 k0 c0, .slice a1 k1 c1, .slice a2 k2 c2, .slice a3 k3 c3, .slice a4 k4 c4] p) (t : Txt) :
  Calls Try.prog 79 #[.agg #[.slice a0 k0 c0, .slice a1 k1 c1, .slice a2 k2 c2, .slice a3 k3 c3, .slice a4 k4 c4], str t] w fun en w' => KdA (kdP p t) en ∧ Below w.heap.size w w' := by
 obtain ⟨vt, vd, vc, vi, vl, ev, qt, qd, qc, qi, ql⟩ := hP.cells
 simp only [List.cons.injEq, and_true] at ev
 rw [← ev.1] at qt
 have hk0 : k0 = p.types.length := by obtain ⟨_, _, e⟩ := qt.sl; cases e; rfl
 have hcap := qt.cap rfl
 obtain ⟨w1, hw1⟩ : ∃ w1, w1 = w.alloc (.cells #[.slice a0 k0 c0, .slice a1 k1 c1, .slice a2 k2 c2, .slice a3 k3 c3, .slice a4 k4 c4] 28) := ⟨_, rfl⟩
 obtain ⟨w2, hw2⟩ : ∃ w2, w2 = w1.alloc (.cells #[.string ⟨#[]⟩, .string ⟨#[]⟩, .slice none 0 0, .int .i64 0] 68) := ⟨_, rfl⟩
 have b1 := bnw hw1
 have b2 := bnw hw2
 have s1 : w1.heap.size = w.heap.size + 1 := by rw [hw1]; simp
 have np := (b2.block _ (Qab (nnw hw1))).trans (nnw hw1)
 have nr := nnw hw2
 have b02 := b1.trans (b2.mono b1.size)
 rw [s1] at nr
 obtain ⟨pb, hpb⟩ : ∃ pb, w.heap.size = pb := ⟨_, rfl⟩
 rw [hpb] at np nr
 have HW2 := hide (Ya hw2 (Ya hw1 hpb))
 have H0 := hide (Ya qt hk0)
 have H2 := hide (Ya b02 (Ya np nr))
 obtain ⟨x_0, x_1, x_2, x_3, x_4, xf⟩ := cl5 np
 clear hP ev qt qd qc qi ql hk0 hw1 hw2 b1 b2 s1 np nr b02 hpb
 go_enter Try.func79, Try.ntmps79
 go_upto_region 1 with fail
 have e2 := (Qa HW2).1
 rw [(Qa HW2).2.1] at e2
 rw [← e2, (Qa HW2).2.2]
 clear e2
 go_wp2_with fail
 go_loopw [6] (fun v wr => ∃ i : Nat, v = .int .i64 (i : Int) ∧ i ≤ k0 ∧ wr = w2 ∧ Hid (kdP p t = (p.types.drop i).find? fun x => x.name == t)) (fun v _ => k0 - (intOf v).toNat)
 case atStart => exact ⟨0, rfl, Nat.zero_le _, rfl, hide rfl⟩
 obtain ⟨i, rfl, hi, rfl, HI⟩ := hrel
 by_cases hlt : i < k0
 ·
  obtain ⟨qt, hk0⟩ := Qa H0
  obtain ⟨b02, np, nr⟩ := Qa H2
  obtain ⟨⟨nm, sb, cts, at0⟩, hd⟩ : ∃ d, p.types[i]? = some d := ⟨p.types[i]'(by omega), List.getElem?_eq_getElem _⟩
  have hfd := Qa HI
  rw [Qmr hd] at hfd
  obtain ⟨gb, cap, cs, e1, hgb, hS, _, hcs, hc⟩ := (qt.later Qbn b02).elem hd
  obtain ⟨ya, yn, yc, rfl, hY⟩ := hcs
  have hyn : yn = cts.length := by obtain ⟨_, _, e⟩ := hY.sl; cases e; rfl
  simp only [Value.slice.injEq] at e1
  obtain ⟨rfl, -, -⟩ := e1
  have y0 : wr.cell? ⟨gb, i * 4, none⟩ = some (str nm) := hc 0 _ rfl
  have y1 : wr.cell? ⟨gb, i * 4 + 1, none⟩ = some (str sb) := hc 1 _ rfl
  have y2 : wr.cell? ⟨gb, i * 4 + 2, none⟩ = some (.slice ya yn yc) := hc 2 _ rfl
  have y3 : wr.cell? ⟨gb, i * 4 + 3, none⟩ = some (.int .i64 at0) := hc 3 _ rfl
  by_cases hz : (nm == t) = true
  ·
   rw [if_pos hz] at hfd
   obtain ⟨W, hW, sc⟩ := sc4 nr (str nm) (str sb) (.slice ya yn yc) (.int .i64 at0)
   obtain ⟨u_0, u_1, u_2, u_3, uf⟩ := cl4 nr
   have HE := hide (Ya (sc.below b02 (by have := (Qa HW2).2.2; omega)) (Ya sc.box (Ya hfd hyn)))
   have HWW := hide hW
   clear qt hk0 b02 np nr hd hfd hgb hS hc hY hyn hW sc
   go_wp2_with fail
   rw [← Qa HWW]
   obtain ⟨v_0, v_1, v_2, v_3, vf⟩ := cl4 (Qa HE).2.1
   refine bodyPost_ret (v := .tuple #[.agg #[str nm, str sb, .slice ya yn yc, .int .i64 at0], .bool true]) (by simp [results, Try.results79, go_sem, v_0, v_1, v_2, v_3]) rfl ?_
   refine ⟨?_, (Qa HE).1⟩
   rw [(Qa HE).2.2.1, (Qa HE).2.2.2]
   exact ⟨ya, yc, rfl⟩
  have hz' : (nm == t) = false := by simpa using hz
  rw [if_neg hz] at hfd
  have H5 := hide hfd
  clear qt hk0 b02 np nr hd hfd hgb hS hc hY hyn hz
  go_wp2_with fail
  go_roundw
  case rel => exact ⟨i + 1, by congr 1, by omega, trivial, H5⟩
  case measure => simp [intOf]; omega
 have hix : i = k0 := by omega
 subst hix
 obtain ⟨b02, np, nr⟩ := Qa H2
 have hfd := Qa HI
 rw [(Qa H0).2, List.drop_length] at hfd
 obtain ⟨W, hW, sc⟩ := sc4 nr (.string ⟨#[]⟩) (.string ⟨#[]⟩) (.slice none 0 0) (.int .i64 0)
 obtain ⟨u_0, u_1, u_2, u_3, uf⟩ := cl4 nr
 have HE := hide (Ya (sc.below b02 (by have := (Qa HW2).2.2; omega)) (Ya sc.box hfd))
 have HWW := hide hW
 clear b02 np nr hfd hW sc
 go_wp2_with fail
 rw [← Qa HWW]
 obtain ⟨v_0, v_1, v_2, v_3, vf⟩ := cl4 (Qa HE).2.1
 refine bodyPost_ret (v := .tuple #[.agg #[.string ⟨#[]⟩, .string ⟨#[]⟩, .slice none 0 0, .int .i64 0], .bool false]) (by simp [results, Try.results79, go_sem, v_0, v_1, v_2, v_3]) rfl ?_
 refine ⟨?_, (Qa HE).1⟩
 rw [(Qa HE).2.2]
 rfl
end
end
section
open Go.RowKit Go.Maps
abbrev TxR (w : World) (b : Nat) (sl : Value) (xs : List Txt) : Prop := w.ownsRow b 9 1 sl xs.length (xs.map str)
section
variable {w : World} {b : Nat} {sl : Value} {xs : List Txt}
theorem TxR.at (h : TxR w b sl xs) : ∃ a cap, sl = .slice a xs.length cap ∧ xs.length ≤ cap ∧ cap ≤ 9223372036854775807 ∧ ∀ i s, xs[i]? = some s → ∃ g, a = some ⟨g, 0, none⟩ ∧ w.cell? ⟨g, i, none⟩ = some (str s) := by
 rcases h.2 with ⟨e1, e2⟩ | ⟨g, cap, cur, e1, e2, e3, e4, e5, e6, e7⟩
 ·
  refine ⟨none, 0, by rw [e1, e2], by omega, by decide, fun i s hs => ?_⟩
  have := (List.getElem?_eq_some_iff.1 hs).1
  omega
 refine ⟨some ⟨g, 0, none⟩, cap, e1, e4, by unfold maxLen at e5; exact e5, fun i s hs => ⟨g, rfl, ?_⟩⟩
 rw [Qaf e3]
 have hi := (List.getElem?_eq_some_iff.1 hs).1
 have h1 : (xs.map str)[i]? = some (str s) := by rw [List.getElem?_map, hs]; rfl
 rw [← e7, List.getElem?_take_of_lt (by omega)] at h1
 simpa using h1
theorem Qin (h : TxR w b sl xs) (t : Txt) :
  Calls Try.prog 40 #[sl, str t] w fun en w' => en = .returned (.bool (xs.any (· == t))) ∧ w' = w := by
 obtain ⟨a, cap, rfl, h1, h2, hat⟩ := h.at
 obtain ⟨n, hn⟩ : ∃ n, xs.length = n := ⟨_, rfl⟩
 rw [hn] at h1 ⊢
 have H0 := hide (Ya hat hn)
 clear h hat hn
 go_enter Try.func40, Try.ntmps40
 go_wp2_with fail
 go_loopw [5] (fun v wr => ∃ i : Nat, v = .int .i64 (i : Int) ∧ i ≤ n ∧ wr = w ∧ Hid ((xs.take i).any (· == t) = false)) (fun v _ => n - (intOf v).toNat)
 case atStart => exact ⟨0, rfl, Nat.zero_le _, rfl, hide rfl⟩
 obtain ⟨i, rfl, hi, rfl, HI⟩ := hrel
 by_cases hlt : i < n
 ·
  obtain ⟨hat, hn⟩ := Qa H0
  obtain ⟨s, hs⟩ : ∃ s, xs[i]? = some s := ⟨xs[i]'(by omega), List.getElem?_eq_getElem _⟩
  obtain ⟨g, rfl, y0⟩ := hat i s hs
  have hnx := Qf hs (Qa HI)
  by_cases hz : (s == t) = true
  ·
   have HE := hide (show xs.any (· == t) = true from List.any_eq_true.2 ⟨s, List.mem_of_getElem? hs, hz⟩)
   clear hat hn hs hnx
   go_wp2_with fail
   go_ret
   refine ⟨?_, rfl⟩
   rw [Qa HE]
   rfl
  have hz' : (s == t) = false := by simpa using hz
  have H5 := hide (hnx.trans hz')
  clear hat hn hs hnx hz
  go_wp2_with fail
  go_roundw
  case rel => exact ⟨i + 1, by congr 1, by omega, trivial, H5⟩
  case measure => simp [intOf]; omega
 have hix : i = n := by omega
 subst hix
 go_wp2_with fail
 go_ret
 refine ⟨?_, rfl⟩
 have hany := Qa HI
 rw [← (Qa H0).2, List.take_length] at hany
 rw [hany]
 rfl
end
end
section
open Go.RowKit Go.Maps
theorem Qcq {α : Type} (n : Txt) (v : α) (l : List (Txt × α)) (t : Txt) : asc ((n, v) :: l) t = if n = t then some v else asc l t := by
 unfold asc
 rw [List.find?_cons]
 by_cases h : n = t <;> simp [h]
theorem Qfi : ∀ (ts : List Typ) (o : Nat) (t : Txt),
  (ts.find? (fun x => x.name == t) = none → asc ((ts.zipIdx o).map fun q => (q.1.name, 3 + q.2)) t = none) ∧
  (∀ x, ts.find? (fun x => x.name == t) = some x → ∃ j, ts[j]? = some x ∧ x.name = t ∧ asc ((ts.zipIdx o).map fun q => (q.1.name, 3 + q.2)) t = some (3 + (o + j)))
 | [], o, t => ⟨fun _ => rfl, fun x h => by cases h⟩
 | y :: ts, o, t => by
  have ih := Qfi ts (o + 1) t
  rw [List.find?_cons, List.zipIdx_cons, List.map_cons, Qcq]
  by_cases h : y.name = t
  ·
   have hb : (y.name == t) = true := by simpa using h
   rw [hb, if_pos h]
   exact ⟨fun e => (by cases e), fun x e => (by cases e; exact ⟨0, rfl, h, rfl⟩)⟩
  have hb : (y.name == t) = false := by simpa using h
  rw [hb, if_neg h]
  refine ⟨fun e => ih.1 e, fun x e => ?_⟩
  obtain ⟨j, h1, h2, h3⟩ := ih.2 x e
  exact ⟨j + 1, by simpa using h1, h2, by rw [h3]; congr 1; omega⟩
theorem Qrd (p : Pg) : tyNo p tNum = 1 := by
 unfold tyNo tyRow
 rw [Qcq, if_pos rfl]
 rfl
theorem Qre (p : Pg) : tyNo p tSym = 2 := by
 unfold tyNo tyRow
 rw [Qcq, if_neg (by decide), Qcq, if_pos rfl]
 rfl
theorem Qnq {p : Pg} {t : Txt} (h1 : t ≠ tNum) (h2 : t ≠ tSym) (h : kdP p t = none) : tyNo p t = 0 := by
 unfold tyNo tyRow
 rw [Qcq, if_neg (fun e => h1 e.symm), Qcq, if_neg (fun e => h2 e.symm), (Qfi p.types 0 t).1 h]
 rfl
theorem Qjo {p : Pg} {t : Txt} {x : Typ} (h1 : t ≠ tNum) (h2 : t ≠ tSym) (h : kdP p t = some x) : ∃ j, p.types[j]? = some x ∧ x.name = t ∧ tyNo p t = 3 + j := by
 obtain ⟨j, e1, e2, e3⟩ := (Qfi p.types 0 t).2 x h
 refine ⟨j, e1, e2, ?_⟩
 unfold tyNo tyRow
 rw [Qcq, if_neg (fun e => h1 e.symm), Qcq, if_neg (fun e => h2 e.symm), e3]
 simp
theorem Qfu {p : Pg} {t : Txt} (h : tyNo p t ≠ 0) : kName p (tyNo p t) = t := by
 by_cases h1 : t = tNum
 · rw [h1, Qrd]; rfl
 by_cases h2 : t = tSym
 · rw [h2, Qre]; rfl
 cases hk : kdP p t with
 | none => exact absurd (Qnq h1 h2 hk) h
 | some x =>
  obtain ⟨j, e1, e2, e3⟩ := Qjo h1 h2 hk
  rw [e3, (Qmz e1).1, e2]
theorem Qft {p : Pg} {k : Nat} : ∀ i, (∀ j, j < i → kInit p (far p j k) = -1) → kBase p k = kBase p (far p i k)
 | 0, _ => rfl
 | i + 1, h => by
  rw [Qft i (fun j hj => h j (by omega)), Qer (h i (by omega)), Qdm]
structure Rwy (p : Pg) (k0 i : Nat) (l : List Txt) (t : Txt) : Prop where
 no : tyNo p t = far p i k0
 own : ∀ j, j < i → kInit p (far p j k0) = -1
 nam : l = (List.range i).map fun j => kName p (far p j k0)
 ims : ∀ j, j < i → tyNo p (kName p (far p j k0)) = far p j k0
 apart : ∀ a b, a < b → b < i → far p a k0 ≠ far p b k0
section
variable {p : Pg} {k0 i : Nat} {l : List Txt} {t : Txt}
theorem Rwy.start (p : Pg) (t : Txt) : Rwy p (tyNo p t) 0 [] t := ⟨rfl, fun j h => absurd h (Nat.not_lt_zero j), rfl, fun j h => absurd h (Nat.not_lt_zero j), fun _ b _ h => absurd h (Nat.not_lt_zero b)⟩
theorem Rwy.ring (h : Rwy p k0 i l t) (ha : l.any (· == t) = true) : kBase p k0 = -2 := by
 rw [h.nam, List.any_eq_true] at ha
 obtain ⟨s, hs, e⟩ := ha
 obtain ⟨j, hj, rfl⟩ := List.mem_map.1 hs
 have hj' : j < i := List.mem_range.1 hj
 have e' : kName p (far p j k0) = t := by simpa using e
 have hn := h.ims j hj'
 rw [e', h.no] at hn
 rw [Qft j (fun q hq => h.own q (by omega))]
 refine Qgv (m := i - j) (by omega) (fun q hq => ?_) ?_
 · rw [← Qeq]; exact h.own _ (by omega)
 · rw [← Qeq, show j + (i - j) = i by omega, hn]
theorem Rwy.len (h : Rwy p k0 i l t) : i ≤ p.types.length := by
 by_cases hi : i ≤ p.types.length
 · exact hi
 obtain ⟨a, b, h1, h2, h3⟩ := pigeon p.types.length (fun j => far p j k0 - 3) (fun j hj => (Qcx (h.own j (by omega))).2)
 have ea := Qcx (h.own a (by omega))
 have eb := Qcx (h.own b (by omega))
 have h4 : far p a k0 - 3 = far p b k0 - 3 := h3
 exact absurd (by omega) (h.apart a b h1 (by omega))
theorem Rwy.size (h : Rwy p k0 i l t) : l.length = i := by rw [h.nam]; simp
theorem Rwy.snoc (h : Rwy p k0 i l t) (hz : tyNo p t ≠ 0) : l ++ [t] = (List.range (i + 1)).map fun j => kName p (far p j k0) := by
 rw [List.range_succ, List.map_append, ← h.nam]
 show l ++ [t] = l ++ [kName p (far p i k0)]
 rw [← h.no, Qfu hz]
theorem Rwy.next (h : Rwy p k0 i l t) (ha : l.any (· == t) = false) (h1 : t ≠ tNum) (h2 : t ≠ tSym) {x : Typ} (hk : kdP p t = some x) (hc : x.ctors = []) (hw : WfT p) : Rwy p k0 (i + 1) (l ++ [t]) x.sub := by
 obtain ⟨j, e1, e2, e3⟩ := Qjo h1 h2 hk
 have hs : x.sub ≠ [] := fun e => (hw x (List.mem_of_getElem? e1)).1 e hc
 obtain ⟨o1, o2, o3⟩ := Qmz e1
 rw [if_neg hs, ← e3, h.no] at o3
 have hz : tyNo p t ≠ 0 := by omega
 refine ⟨?_, ?_, h.snoc hz, ?_, ?_⟩
 · rw [Qdm, ← h.no, e3, o2]
 ·
  intro q hq
  by_cases hqi : q = i
  · rw [hqi]; exact o3
  · exact h.own q (by omega)
 ·
  intro q hq
  by_cases hqi : q = i
  · rw [hqi, ← h.no, Qfu hz]
  · exact h.ims q (by omega)
 intro a b hab hb
 by_cases hbi : b = i
 ·
  subst hbi
  intro e
  have hm : l.any (· == t) = true := by
   rw [h.nam, List.any_eq_true]
   refine ⟨t, List.mem_map.2 ⟨a, List.mem_range.2 hab, ?_⟩, by simp⟩
   rw [e, ← h.no, Qfu hz]
  rw [hm] at ha
  cases ha
 · exact h.apart a b hab (by omega)
structure RwyE (p : Pg) (k0 i : Nat) (l : List Txt) : Prop where
 nam : l = (List.range (i + 1)).map fun j => kName p (far p j k0)
 own : ∀ j, j < i → kInit p (far p j k0) = -1
 last : kInit p (far p i k0) = (far p i k0 : Int)
 nz : far p i k0 ≠ 0
 ims : ∀ j, j ≤ i → tyNo p (kName p (far p j k0)) = far p j k0
 cnt : i ≤ p.types.length
theorem Rwy.fin (h : Rwy p k0 i l t) (hi : kInit p (tyNo p t) = (tyNo p t : Int)) (hz : tyNo p t ≠ 0) : RwyE p k0 i (l ++ [t]) := by
 refine ⟨h.snoc hz, h.own, by rw [← h.no]; exact hi, by rw [← h.no]; exact hz, ?_, h.len⟩
 intro j hj
 by_cases hji : j = i
 · rw [hji, ← h.no, Qfu hz]
 · exact h.ims j (by omega)
theorem Rwy.num (h : Rwy p k0 i l t) (e : t = tNum ∨ t = tSym) : RwyE p k0 i (l ++ [t]) := by
 rcases e with e | e
 ·
  refine h.fin ?_ ?_ <;> rw [e, Qrd]
  · rfl
  · decide
 refine h.fin ?_ ?_ <;> rw [e, Qre]
 · rfl
 · decide
theorem Rwy.sum (h : Rwy p k0 i l t) (h1 : t ≠ tNum) (h2 : t ≠ tSym) {x : Typ} (hk : kdP p t = some x) (hc : x.ctors ≠ []) (hw : WfT p) : RwyE p k0 i (l ++ [t]) := by
 obtain ⟨j, e1, e2, e3⟩ := Qjo h1 h2 hk
 obtain ⟨o1, o2, o3⟩ := Qmz e1
 rw [if_pos ((hw x (List.mem_of_getElem? e1)).2 hc), ← e3] at o3
 exact h.fin o3 (by omega)
theorem Rwy.none (h : Rwy p k0 i l t) (h1 : t ≠ tNum) (h2 : t ≠ tSym) (hk : kdP p t = none) : kBase p k0 = 0 := by
 have e := Qnq h1 h2 hk
 rw [Qft i h.own, ← h.no, e]
 exact Qgu (by show ((0 : Nat) : Int) ≠ -1; decide)
theorem RwyE.base (h : RwyE p k0 i l) : kBase p k0 = (far p i k0 : Int) := by
 rw [Qhp p i k0 h.own (by rw [h.last]; omega), h.last]
theorem RwyE.has (h : RwyE p k0 i l) : hasB (kBase p k0) = true := by
 have := h.nz
 rw [h.base]
 unfold hasB
 rw [decide_eq_false (by omega), decide_eq_false (by omega)]
 rfl
theorem RwyE.size (h : RwyE p k0 i l) : l.length = i + 1 := by rw [h.nam]; simp
theorem RwyE.lastN (h : RwyE p k0 i l) : l[i]? = some (kName p (kBase p k0).toNat) := by
 rw [h.nam, h.base]
 simp
theorem Qkx (h : RwyE p k0 i l) (to0 : Nat) : ∀ f j, j ≤ i → i - j ≤ f → upTo p to0 (far p i k0 : Int) f (far p j k0) = (List.range' j (i + 1 - j)).any fun q => decide (far p q k0 = to0)
 | 0, j, h1, h2 => by
  have e : j = i := by omega
  subst e
  rw [show j + 1 - j = 1 by omega]
  simp [upTo]
 | f + 1, j, h1, h2 => by
  rw [show i + 1 - j = (i - j) + 1 by omega, List.range'_succ, List.any_cons]
  unfold upTo
  by_cases h3 : far p j k0 = to0
  · rw [if_pos h3, decide_eq_true h3]; rfl
  rw [if_neg h3, decide_eq_false h3, Bool.false_or]
  by_cases h4 : j = i
  ·
   subst h4
   rw [if_pos rfl, Nat.sub_self]
   rfl
  have h5 : ¬ ((far p j k0 : Int) = (far p i k0 : Int)) := fun e => by
   have e' : far p j k0 = far p i k0 := by omega
   have q := h.own j (by omega)
   rw [e', h.last] at q
   omega
  rw [if_neg h5, ← Qdm, Qkx h to0 f (j + 1) (by omega) (by omega), show i + 1 - (j + 1) = i - j by omega]
theorem RwyE.below (h : RwyE p k0 i l) (b : Txt) : upTo p (tyNo p b) (kBase p k0) (p.types.length + 1) k0 = l.any (· == b) := by
 rw [h.base]
 have e := Qkx h (tyNo p b) (p.types.length + 1) 0 (Nat.zero_le _) (by have := h.cnt; omega)
 rw [show far p 0 k0 = k0 from rfl] at e
 rw [e, h.nam, List.any_map, Nat.sub_zero, List.range_eq_range']
 refine Bool.eq_iff_iff.2 ?_
 rw [List.any_eq_true, List.any_eq_true]
 constructor
 ·
  rintro ⟨q, hq, e1⟩
  refine ⟨q, hq, ?_⟩
  have hq' : q < i + 1 := by simpa using hq
  have e2 : far p q k0 = tyNo p b := of_decide_eq_true e1
  have hz : tyNo p b ≠ 0 := fun e0 => by
   rw [e0] at e2
   by_cases hqi : q = i
   · rw [hqi] at e2; exact h.nz e2
   have := h.own q (by omega)
   rw [e2] at this
   cases this
  have : kName p (far p q k0) = b := by rw [e2, Qfu hz]
  simpa using this
 rintro ⟨q, hq, e1⟩
 refine ⟨q, hq, ?_⟩
 have hq' : q < i + 1 := by simpa using hq
 have e2 : kName p (far p q k0) = b := by simpa using e1
 have := h.ims q (by omega)
 rw [e2] at this
 exact decide_eq_true this.symm
end
end
section
open Go.RowKit Go.Maps
def slN : Value → Nat
  | .slice _ n _ => n
  | _ => 0
section
variable {w : World} {b : Nat} {sl : Value} {xs : List Txt}
theorem TxR.nil0 (w : World) (b : Nat) : TxR w b (.slice none 0 0) [] := World.ownsRow_nil _ _ _ _
theorem TxR.keep {w' : World} (h : TxR w b sl xs) (k : Below w.heap.size w w') : TxR w' b sl xs := by
  refine ⟨h.1, ?_⟩
  rcases h.2 with e | ⟨g, cap, cur, e1, e2, e3, e4⟩
  · exact .inl e
  · exact .inr ⟨g, cap, cur, e1, e2, (k.block _ (Qab e3)).trans e3, e4⟩
theorem TxR.more (h : TxR w b sl xs) (hb : b ≤ w.heap.size) (hl : xs.length ≤ 1000000000) (t : Txt) :
    ∃ a c w3, (Builtin.append_ #[38, 38] 38 #[sl, .slice (some ⟨w.heap.size, 0, none⟩) 1 1]).run Try.prog (w.alloc (.cells #[str t] 9)) = .ok (.slice a (xs.length + 1) c) w3 ∧ TxR w3 b (.slice a (xs.length + 1) c) (xs ++ [t]) ∧ Below b w w3 := by
  obtain ⟨i0, hi, hz, hsz, hby⟩ := infoS
  obtain ⟨r, w3, hrun, o3, g3, _, _⟩ := run_append_own_at (P := Try.prog) (w.alloc (.cells #[str t] 9)) b 38 38 9 i0 _ 1 16 (by kernel_rfl) hi hz hsz hby rfl (by decide) sl xs.length (xs.map str) (World.ownsRow.alloc h _) ⟨w.heap.size, 0, none⟩ 1 1 [str t] rfl (fun j u hj => by
    have e1 : (⟨w.heap.size, 0, none⟩ : Addr).add j = ⟨w.heap.size, j, none⟩ := by cases j <;> simp [Addr.add]
    rw [e1, Qaf (heap_alloc_new w _)]
    simpa using hj) (fun c hc => by simp only [List.mem_cons, List.not_mem_nil, or_false] at hc; rw [hc]; rfl) (by unfold maxLen; omega) (by omega) (by simp; omega)
  have hx : xs.map str ++ [str t] = (xs ++ [t]).map str := by simp
  rw [hx] at o3
  have hlen : (xs ++ [t]).length = xs.length + 1 := by simp
  have ba := (Below.refl w.heap.size w).alloc (Nat.le_refl _) (.cells #[str t] 9)
  have hsa : (w.alloc (.cells #[str t] 9)).heap.size = w.heap.size + 1 := by simp
  rcases id o3.2 with ⟨_, e⟩ | ⟨g, cap, cur, e1, _⟩
  · omega
  · subst e1
    refine ⟨_, _, w3, hrun, ?_, ?_⟩
    · show w3.ownsRow b _ 1 _ (xs ++ [t]).length _
      rw [hlen]
      exact o3
    · refine ⟨g3.os.trans ba.os, g3.tape.trans ba.tape, g3.output.trans ba.output, by have := g3.size; omega, fun q hq => ?_⟩
      rw [g3.block q (by omega) (fun e => by have := (World.ownsRow.lt h q e.symm).1; omega), ba.block q (by omega)]
end
def RwyA (w : World) (p : Pg) (t : Txt) (en : Ending) (w' : World) : Prop := Below w.heap.size w w' ∧
  ((∃ i l a n c b, en = .returned (.tuple #[.slice a n c, .int .i64 0]) ∧ n = l.length ∧ RwyE p (tyNo p t) i l ∧ TxR w' b (.slice a n c) l) ∨
   (∃ e : Int, e ≠ 0 ∧ en = .returned (.tuple #[.slice none 0 0, .int .i64 e]) ∧ hasB (kBase p (tyNo p t)) = false))
section
variable {S : Nat → Prop} {p : Pg} {w : World} {a0 a1 a2 a3 a4 : Option Addr} {k0 k1 k2 k3 k4 c0 c1 c2 c3 c4 : Nat}
theorem Qiu (hP : PgS S w [.slice a0 k0 c0, .slice a1 k1 c1, .slice a2 k2 c2, .slice a3 k3 c3, .slice a4 k4 c4] p) (hwf : WfT p) (hts : p.types.length ≤ 1000000) (t : Txt) :
    Calls Try.prog 38 #[.agg #[.slice a0 k0 c0, .slice a1 k1 c1, .slice a2 k2 c2, .slice a3 k3 c3, .slice a4 k4 c4], str t] w fun en w' => RwyA w p t en w' := by
  obtain ⟨w1, hw1⟩ : ∃ w1, w1 = w.alloc (.cells #[.slice a0 k0 c0, .slice a1 k1 c1, .slice a2 k2 c2, .slice a3 k3 c3, .slice a4 k4 c4] 28) := ⟨_, rfl⟩
  have b1 := bnw hw1
  have np := nnw hw1
  have s1 : w1.heap.size = w.heap.size + 1 := by rw [hw1]; simp
  have hkd : ∀ W, Below w1.heap.size w1 W → ∀ s, Calls Try.prog 79 #[.agg #[.slice a0 k0 c0, .slice a1 k1 c1, .slice a2 k2 c2, .slice a3 k3 c3, .slice a4 k4 c4], str s] W fun en w' => KdA (kdP p s) en ∧ Below W.heap.size W w' := fun W bW s => Qlg (Qar.same _ _ _ _ _ hP (by have := b1.size; have := bW.size; omega) (fun q _ hl => (bW.block q (by omega)).trans (b1.block q hl))) s
  obtain ⟨pb, hpb⟩ : ∃ pb, w.heap.size = pb := ⟨_, rfl⟩
  rw [hpb] at np
  have H0 := hide (Ya b1 (Ya np (Ya s1 (Ya hkd (Ya hwf (Ya hts hpb))))))
  have HW1 := hide (Ya hw1 hpb)
  clear hP hwf hts hw1 b1 np s1 hkd hpb
  go_enter Try.func38, Try.ntmps38
  go_upto_region 1 with fail
  rw [← (Qa HW1).1, (Qa HW1).2]
  go_wp2_with fail
  go_loopw [1, 6] (fun vt vl wr => ∃ (i : Nat) (l : List Txt) (s : Txt) (la : Option Addr) (n lc : Nat), vt = str s ∧ vl = .slice la n lc ∧ Hid (n = l.length ∧ Rwy p (tyNo p t) i l s ∧ TxR wr w1.heap.size (.slice la n lc) l ∧ Below w1.heap.size w1 wr)) (fun _ vl _ => p.types.length + 1 - slN vl)
  case atStart => exact ⟨0, [], t, none, 0, 0, rfl, rfl, hide ⟨rfl, Rwy.start p t, TxR.nil0 _ _, Below.refl _ _⟩⟩
  obtain ⟨i, l, s, la, n, lc, rfl, rfl, HI⟩ := hrel
  have hhas := Qin (Qa HI).2.2.1 s
  obtain ⟨hb, hhb⟩ : ∃ hb, l.any (· == s) = hb := ⟨_, rfl⟩
  rw [hhb] at hhas
  have HHB := hide hhb
  clear hhb
  go_wp2_with fail
  refine hhas.mono ?_
  clear hhas
  rintro en wq ⟨rfl, rfl⟩
  cases hb
  ·
   obtain ⟨hn, hI, hR, hB⟩ := Qa HI
   obtain ⟨ra, rc, w3, hrun, hR3, b3⟩ := hR.more hB.size (by have h1 := hI.len; have h2 := hI.size; have h3 := (Qa H0).2.2.2.2.2.1; omega) s
   rw [← hn] at hrun hR3
   have B3 := hB.trans b3
   have HRUN := hide hrun
   have H3 := hide (Ya hn (Ya hI (Ya hR3 (Ya B3 (Qa HHB)))))
   clear hn hI hR hB hrun hR3 b3 B3 HI HHB
   by_cases hn1 : s = [110, 117, 109, 98, 101, 114]
   · subst hn1
     go_wp2_with (at_builtin; refine Qaj _ rfl _ _ 38 rfl _ _ rfl rfl _ _ (Qa HRUN) ?_; clear HRUN)
     refine bodyPost_ret (v := .tuple #[.slice ra (n + 1) rc, .int .i64 0]) (by simp [results, Try.results38, go_sem]) rfl ?_
     obtain ⟨b1, np, s1, hkd, hwf, hts, hpb⟩ := Qa H0
     obtain ⟨hn, hI, hR, hB, _⟩ := Qa H3
     exact ⟨b1.trans (hB.mono (by omega)), .inl ⟨_, _, _, _, _, _, rfl, by rw [hn]; simp, hI.num (.inl rfl), hR⟩⟩
   by_cases hn2 : s = [115, 121, 109, 98, 111, 108]
   · subst hn2
     clear hn1
     go_wp2_with (at_builtin; refine Qaj _ rfl _ _ 38 rfl _ _ rfl rfl _ _ (Qa HRUN) ?_; clear HRUN)
     refine bodyPost_ret (v := .tuple #[.slice ra (n + 1) rc, .int .i64 0]) (by simp [results, Try.results38, go_sem]) rfl ?_
     obtain ⟨b1, np, s1, hkd, hwf, hts, hpb⟩ := Qa H0
     obtain ⟨hn, hI, hR, hB, _⟩ := Qa H3
     exact ⟨b1.trans (hB.mono (by omega)), .inl ⟨_, _, _, _, _, _, rfl, by rw [hn]; simp, hI.num (.inr rfl), hR⟩⟩
   have g1 : (s == [110, 117, 109, 98, 101, 114]) = false := beq_eq_false_iff_ne.2 hn1
   have g2 : (s == [115, 121, 109, 98, 111, 108]) = false := beq_eq_false_iff_ne.2 hn2
   have HN := hide (Ya (show s ≠ tNum from hn1) (show s ≠ tSym from hn2))
   have hk := (Qa H0).2.2.2.1 w3 (Qa H3).2.2.2.1 s
   have np3 := ((Qa H3).2.2.2.1.block pb (by have := (Qa H0).2.2.1; have := (Qa H0).2.2.2.2.2.2; omega)).trans (Qa H0).2.1
   obtain ⟨x_0, x_1, x_2, x_3, x_4, xf⟩ := cl5 np3
   clear np3
   go_wp2_with (at_builtin; refine Qaj _ rfl _ _ 38 rfl _ _ rfl rfl _ _ (Qa HRUN) ?_; clear HRUN)
   refine hk.mono ?_
   clear hk x_0 x_1 x_2 x_3 x_4 xf g1 g2 hn1 hn2
   rintro en w4 ⟨hka, b4⟩
   cases hq : kdP p s with
   | none =>
     rw [hq] at hka
     have hka' : en = _ := hka
     subst hka'
     have HQ := hide (Ya hq b4)
     clear hq b4 hka
     go_wp2_with fail
     refine bodyPost_ret (v := .tuple #[.slice none 0 0, .int .i64 6]) (by simp [results, Try.results38, go_sem]) rfl ?_
     obtain ⟨b1, np, s1, hkd, hwf, hts, hpb⟩ := Qa H0
     obtain ⟨hn, hI, hR, hB, _⟩ := Qa H3
     obtain ⟨hq, b4⟩ := Qa HQ
     have B4 := b1.trans ((hB.trans (b4.mono hB.size)).mono (by omega))
     refine ⟨B4.alloc B4.size _, .inr ⟨6, by decide, rfl, ?_⟩⟩
     rw [hI.none (Qa HN).1 (Qa HN).2 hq]
     rfl
   | some x =>
     rw [hq] at hka
     obtain ⟨xa, xc, rfl⟩ := hka
     obtain ⟨m, hm⟩ : ∃ m, x.ctors.length = m := ⟨_, rfl⟩
     rw [hm]
     obtain ⟨w5, hw5⟩ : ∃ w5, w5 = w4.alloc (.cells #[str x.name, str x.sub, .slice xa m xc, .int .i64 x.at_] 68) := ⟨_, rfl⟩
     have b5 := bnw hw5
     have n5 := nnw hw5
     obtain ⟨kb, hkb⟩ : ∃ kb, w4.heap.size = kb := ⟨_, rfl⟩
     rw [hkb] at n5
     obtain ⟨y_0, y_1, y_2, y_3, yf⟩ := cl4 n5
     have HQ := hide (Ya hq (Ya (b4.trans (b5.mono b4.size)) hm))
     have HW5 := hide (Ya hw5 hkb)
     clear hq b4 hw5 b5 n5 hkb hm
     by_cases hm0 : 0 < m
     · have hm1 : (0 : Int) < (m : Int) := by omega
       go_upto_region 8 with fail
       rw [← (Qa HW5).1, (Qa HW5).2]
       go_wp2_with fail
       refine bodyPost_ret (v := .tuple #[.slice ra (n + 1) rc, .int .i64 0]) (by simp [results, Try.results38, go_sem]) rfl ?_
       obtain ⟨b1, np, s1, hkd, hwf, hts, hpb⟩ := Qa H0
       obtain ⟨hn, hI, hR, hB, _⟩ := Qa H3
       obtain ⟨hq, b5, hm⟩ := Qa HQ
       exact ⟨b1.trans ((hB.trans (b5.mono hB.size)).mono (by omega)), .inl ⟨_, _, _, _, _, _, rfl, by rw [hn]; simp, hI.sum (Qa HN).1 (Qa HN).2 hq (fun e => by rw [e] at hm; simp at hm; omega) hwf, hR.keep b5⟩⟩
     · have hm1 : ¬ ((0 : Int) < (m : Int)) := by omega
       go_upto_region 8 with fail
       rw [← (Qa HW5).1, (Qa HW5).2]
       go_wp2_with fail
       go_roundw
       case rel =>
         obtain ⟨b1, np, s1, hkd, hwf, hts, hpb⟩ := Qa H0
         obtain ⟨hn, hI, hR, hB, ha⟩ := Qa H3
         obtain ⟨hq, b5, hm⟩ := Qa HQ
         exact ⟨i + 1, l ++ [s], x.sub, ra, n + 1, rc, rfl, rfl, hide ⟨by rw [hn]; simp, hI.next ha (Qa HN).1 (Qa HN).2 hq (List.eq_nil_of_length_eq_zero (by omega)) hwf, hR.keep b5, hB.trans (b5.mono hB.size)⟩⟩
       obtain ⟨b1, np, s1, hkd, hwf, hts, hpb⟩ := Qa H0
       obtain ⟨hn, hI, hR, hB, ha⟩ := Qa H3
       obtain ⟨hq, b5, hm⟩ := Qa HQ
       have h1 := (hI.next ha (Qa HN).1 (Qa HN).2 hq (List.eq_nil_of_length_eq_zero (by omega)) hwf).len
       have h2 := hI.size
       simp only [slN]
       omega
  go_wp2_with fail
  refine bodyPost_ret (v := .tuple #[.slice none 0 0, .int .i64 12]) (by simp [results, Try.results38, go_sem]) rfl ?_
  obtain ⟨b1, np, s1, hkd, hwf, hts, hpb⟩ := Qa H0
  obtain ⟨hn, hI, hR, hB⟩ := Qa HI
  refine ⟨b1.trans (hB.mono (by omega)), .inr ⟨12, by decide, rfl, ?_⟩⟩
  rw [hI.ring (Qa HHB)]
  rfl
end
end
section
open Go.RowKit Go.Maps
section
variable {S : Nat → Prop} {p : Pg} {w : World} {a0 a1 a2 a3 a4 : Option Addr} {k0 k1 k2 k3 k4 c0 c1 c2 c3 c4 : Nat}
theorem Qoa (hP : PgS S w [.slice a0 k0 c0, .slice a1 k1 c1, .slice a2 k2 c2, .slice a3 k3 c3, .slice a4 k4 c4] p) (hwf : WfT p) (hts : p.types.length ≤ 1000000) (t : Txt) :
  Calls Try.prog 11 #[.agg #[.slice a0 k0 c0, .slice a1 k1 c1, .slice a2 k2 c2, .slice a3 k3 c3, .slice a4 k4 c4], str t] w fun en w' => en = .returned (bsV (baseP p t)) ∧ Below w.heap.size w w' := by
 obtain ⟨w1, hw1⟩ : ∃ w1, w1 = w.alloc (.cells #[.slice a0 k0 c0, .slice a1 k1 c1, .slice a2 k2 c2, .slice a3 k3 c3, .slice a4 k4 c4] 28) := ⟨_, rfl⟩
 have b1 := bnw hw1
 have nx := nnw hw1
 have hrw := Qiu (Qar.same _ _ _ _ _ hP b1.size (fun q _ hl => b1.block q hl)) hwf hts t
 obtain ⟨x_0, x_1, x_2, x_3, x_4, xf⟩ := cl5 nx
 have HW1 := hide hw1
 have HB := hide b1
 obtain ⟨bv, hbv⟩ : ∃ bv, bsV (baseP p t) = bv := ⟨_, rfl⟩
 rw [hbv]
 have HBV := hide hbv
 clear hw1 b1 nx hP hwf hts hbv
 go_enter Try.func11, Try.ntmps11
 go_upto_region 1 with fail
 rw [← Qa HW1]
 go_wp2_with fail
 refine hrw.mono ?_
 clear hrw x_0 x_1 x_2 x_3 x_4 xf
 rintro en w2 ⟨b2, ⟨i, l, a, n, c, rb, rfl, hn, hE, hT⟩ | ⟨e, he, rfl, hno⟩⟩
 ·
  have hs := hE.size
  rw [hs] at hn
  subst hn
  obtain ⟨a', cap, e1, h1, h2, hat⟩ := hT.at
  rw [hs] at h1 e1
  cases e1
  obtain ⟨g, rfl, y0⟩ := hat i _ hE.lastN
  have hres : bsV (baseP p t) = .tuple #[str (kName p (kBase p (tyNo p t)).toNat), .bool true] := by unfold baseP; rw [if_pos hE.has]; rfl
  obtain ⟨sv, hsv⟩ : ∃ sv, kName p (kBase p (tyNo p t)).toNat = sv := ⟨_, rfl⟩
  rw [hsv] at y0 hres
  rw [Qa HBV] at hres
  have HE := hide (Ya ((Qa HB).trans (b2.mono (Qa HB).size)) hres)
  have hi1 : ((i + 1 : Nat) : Int) - 1 = (i : Int) := by omega
  clear hE hT hs hat b2 hres hsv
  go_wp2_with fail
  refine bodyPost_ret (v := .tuple #[str sv, .bool true]) (by simp [results, Try.results11, go_sem]) rfl ?_
  exact ⟨by rw [(Qa HE).2], (Qa HE).1⟩
 have hres : bsV (baseP p t) = .tuple #[.string ⟨#[]⟩, .bool false] := by unfold baseP; rw [if_neg (by rw [hno]; decide)]; rfl
 rw [Qa HBV] at hres
 have HE := hide (Ya ((Qa HB).trans (b2.mono (Qa HB).size)) hres)
 have g0 : (e == 0) = false := beq_eq_false_iff_ne.2 he
 clear b2 hres hno
 go_wp2_with fail
 refine bodyPost_ret (v := .tuple #[.string ⟨#[]⟩, .bool false]) (by simp [results, Try.results11, go_sem]) rfl ?_
 exact ⟨by rw [(Qa HE).2], (Qa HE).1⟩
theorem Qlm (hP : PgS S w [.slice a0 k0 c0, .slice a1 k1 c1, .slice a2 k2 c2, .slice a3 k3 c3, .slice a4 k4 c4] p) (hwf : WfT p) (hts : p.types.length ≤ 1000000) (s t : Txt) :
  Calls Try.prog 13 #[.agg #[.slice a0 k0 c0, .slice a1 k1 c1, .slice a2 k2 c2, .slice a3 k3 c3, .slice a4 k4 c4], str s, str t] w fun en w' => en = .returned (.bool (belowP p s t)) ∧ Below w.heap.size w w' := by
 obtain ⟨w1, hw1⟩ : ∃ w1, w1 = w.alloc (.cells #[.slice a0 k0 c0, .slice a1 k1 c1, .slice a2 k2 c2, .slice a3 k3 c3, .slice a4 k4 c4] 28) := ⟨_, rfl⟩
 have b1 := bnw hw1
 have nx := nnw hw1
 have hrw := Qiu (Qar.same _ _ _ _ _ hP b1.size (fun q _ hl => b1.block q hl)) hwf hts s
 obtain ⟨x_0, x_1, x_2, x_3, x_4, xf⟩ := cl5 nx
 have HW1 := hide hw1
 have HB := hide b1
 obtain ⟨bv, hbv⟩ : ∃ bv, belowP p s t = bv := ⟨_, rfl⟩
 rw [hbv]
 have HBV := hide hbv
 clear hw1 b1 nx hP hwf hts hbv
 go_enter Try.func13, Try.ntmps13
 go_upto_region 1 with fail
 rw [← Qa HW1]
 go_wp2_with fail
 refine hrw.mono ?_
 clear hrw x_0 x_1 x_2 x_3 x_4 xf
 rintro en w2 ⟨b2, ⟨i, l, a, n, c, rb, rfl, hn, hE, hT⟩ | ⟨e, he, rfl, hno⟩⟩
 ·
  have hhas := Qin hT t
  have hres : belowP p s t = l.any (· == t) := by unfold belowP; rw [hE.has, hE.below, Bool.true_and]
  rw [Qa HBV] at hres
  rw [← hres] at hhas
  have HE := hide ((Qa HB).trans (b2.mono (Qa HB).size))
  clear hE hT b2 hres hn
  go_wp2_with fail
  refine hhas.mono ?_
  clear hhas
  rintro en w3 ⟨rfl, rfl⟩
  go_wp2_with fail
  go_ret
  exact ⟨rfl, Qa HE⟩
 have hres : belowP p s t = false := by unfold belowP; rw [hno, Bool.false_and]
 rw [Qa HBV] at hres
 have HE := hide (Ya ((Qa HB).trans (b2.mono (Qa HB).size)) hres)
 have g0 : (e == 0) = false := beq_eq_false_iff_ne.2 he
 clear b2 hres hno
 go_wp2_with fail
 go_ret
 exact ⟨by rw [(Qa HE).2]; rfl, (Qa HE).1⟩
end
end
end Go.Proofs.Ytfmbpaoapjmdnaa
