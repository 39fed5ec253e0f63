/- types: put, based, narrow. types: based, narrow. types: narrow. types: narrow, of a variable that has a type. types: each. types: value, fitting, likened, pattern, of a variable. -/
import Derived.Test.YtfmbpaoapjmdnaaQb16
import Derived.Test.YtfmbpaoapjmdnaaQb04
import Derived.Test.YtfmbpaoapjmdnaaQb08
import Derived.Deep.Cut
import Derived.Deep.CutRange
set_option maxRecDepth 100000
set_option maxHeartbeats 32000000
namespace Go.Proofs.Ytfmbpaoapjmdnaa
section
open Go.RowKit Go.Maps
theorem Qil (vs : List Fld) (v : Fld) : fdCells (vs ++ [v]) = fdCells vs ++ [str v.name, str v.type] := by
 unfold fdCells
 rw [List.flatMap_append]
 rfl
theorem Qfn : ∀ (vs : List Fld) (i : Nat) (v : Fld), vs[i]? = some v → (fdCells vs)[i * 2]? = some (str v.name) ∧ (fdCells vs)[i * 2 + 1]? = some (str v.type)
 | [], i, v, h => by simp at h
 | u :: vs, 0, v, h => by cases h; exact ⟨rfl, rfl⟩
 | u :: vs, i + 1, v, h => by
  have := Qfn vs i v (by simpa using h)
  unfold fdCells at this ⊢
  rw [List.flatMap_cons, show (i + 1) * 2 = i * 2 + 2 by omega]
  simpa using this
theorem Qfo : ∀ (vs : List Fld) (i : Nat) (v : Fld) (t : Txt), vs[i]? = some v → (fdCells vs).set (i * 2 + 1) (str t) = fdCells (vs.set i ⟨v.name, t⟩)
 | [], i, v, t, h => by simp at h
 | u :: vs, 0, v, t, h => by cases h; rfl
 | u :: vs, i + 1, v, t, h => by
  have := Qfo vs i v t (by simpa using h)
  unfold fdCells at this ⊢
  rw [List.flatMap_cons, show (i + 1) * 2 + 1 = i * 2 + 1 + 2 by omega]
  simp only [List.set_cons_succ, List.flatMap_cons, List.cons_append, List.nil_append]
  rw [this]
theorem Qos (vs : List Fld) (v : Fld) : vRow (vs ++ [v]) = vRow vs ++ [(v.name, vs.length)] := by
 unfold vRow
 rw [List.zipIdx_append, List.map_append]
 simp
theorem Qor {vs : List Fld} {s : Txt} (h : typV vs s = none) : s ∉ vs.map (·.name) := by
 unfold typV at h
 simp only [Option.map_eq_none_iff, List.find?_eq_none, decide_eq_true_eq] at h
 intro hm
 obtain ⟨v, hv, e⟩ := List.mem_map.1 hm
 exact h v hv e
section
variable {n0 n1 : Nat} {p : Pg} {c : CatP} {wb mb : Nat} {sl : Value} {vs : List Fld} {w : World}
theorem put_any (h : Wk n0 n1 p c wb mb sl vs w) (hl : vs.length ≤ 1000000000) (s t : Txt) (hn : typV vs s = none) :
  Calls Try.prog 154 #[.pointer (some ⟨wb, 0, none⟩), str s, str t] w fun en w' => en = .returned (.tuple #[]) ∧ ∃ sl', Wk n0 n1 p c wb mb sl' (vs ++ [⟨s, t⟩]) w' ∧ Kw wb mb sl sl' w w' := by
 have hb0 : Below w.heap.size w w.drew := (Below.refl _ w).drew
 have h0 := h.later hb0
 obtain ⟨ms, hm1, hm2⟩ := h0.map
 have hasn : asc ms s = none := by
  rw [hm2 s]
  have := Qe vs s
  rw [hn] at this
  cases hq : asc (vRow vs) s with
  | none => rfl
  | some _ => rw [hq] at this; cases this
 obtain ⟨w1, hr1, hm3, hs1, ho1, ht1, hu1, hbl1⟩ := Qoi uS mI w.drew mb ms s (.int .i64 (vs.length : Int)) hm1 hasn
 have hwm : wb ≠ mb := fun e => by
  obtain ⟨es, ck, hh, _⟩ := hm1
  have := h0.box
  rw [e, hh] at this
  cases this
 have box1 : w1.heap[wb]? = some (.cells #[fnV 37 c.cb, fnV 39 c.cb, fnV 107 c.cb, fnV 108 c.cb, sl, .map (some mb)] 183 (0, 0)) := (hbl1 wb hwm).trans h0.box
 have slm : some mb ≠ sl.ownBlock := fun e => by
  rcases h0.row.2 with ⟨e2, _⟩ | ⟨g, cap, cur, e2, _, e3, _⟩
  · rw [e2] at e; cases e
  rw [e2] at e
  cases e
  obtain ⟨es, ck, hh, _⟩ := hm1
  rw [hh] at e3
  cases e3
 have slw : some wb ≠ sl.ownBlock := fun e => by
  rcases h0.row.2 with ⟨e2, _⟩ | ⟨g, cap, cur, e2, _, e3, _⟩
  · rw [e2] at e; cases e
  rw [e2] at e
  cases e
  have := h0.box
  rw [e3] at this
  simp at this
 obtain ⟨w2, hw2⟩ : ∃ w2, w2 = w1.alloc (.cells #[str s, str t] 103) := ⟨_, rfl⟩
 have row1 : w1.ownsRow n1 103 2 sl vs.length (fdCells vs) := by
  refine ⟨h0.row.1, ?_⟩
  rcases h0.row.2 with e | ⟨g, cap, cur, e1, e2, e3, e4⟩
  · exact .inl e
  · exact .inr ⟨g, cap, cur, e1, e2, (hbl1 g (fun e => slm (by rw [e1, ← e]; rfl))).trans e3, e4⟩
 obtain ⟨i0, hi, hz, hsz, hby⟩ := infoF
 have hn1w : n1 ≤ w2.heap.size := by
  have h1 := h.lo
  have h2 := Qab h.box
  rw [hw2]
  have : w1.heap.size = w.heap.size := hs1
  simp
  omega
 obtain ⟨r, w3, hrun, o3, g3, _, a3⟩ := run_append_own_at (P := Try.prog) w2 n1 41 41 103 i0 _ 2 32 (by kernel_rfl) hi hz hsz hby rfl (by decide) sl vs.length (fdCells vs) (by rw [hw2]; exact World.ownsRow.alloc row1 _) ⟨w1.heap.size, 0, none⟩ 1 1 [str s, str t] rfl (fun j u hj => by
  have e1 : (⟨w1.heap.size, 0, none⟩ : Addr).add j = ⟨w1.heap.size, j, none⟩ := by cases j <;> simp [Addr.add]
  rw [e1, hw2, Qaf (heap_alloc_new w1 _)]
  simpa using hj) (fun c hc => by simp only [List.mem_cons, List.not_mem_nil, or_false] at hc; rcases hc with rfl | rfl <;> rfl) (by unfold maxLen; omega) (by omega) hn1w
 have rsl : ∃ ra rn rc, r = .slice ra rn rc := by
  rcases o3.2 with ⟨e, _⟩ | ⟨g, cap, cur, e, _⟩
  · exact ⟨_, _, _, e⟩
  · exact ⟨_, _, _, e⟩
 obtain ⟨ssa, ssn, ssc, hsl⟩ : ∃ a n c, sl = .slice a n c := by
  rcases h.row.2 with ⟨e, _⟩ | ⟨g, cap, cur, e, _⟩
  · exact ⟨_, _, _, e⟩
  · exact ⟨_, _, _, e⟩
 have hssn : ssn = vs.length := by
  rcases h.row.2 with ⟨e, e2⟩ | ⟨g, cap, cur, e, _⟩
  · rw [hsl] at e; cases e; omega
  · rw [hsl] at e; cases e; rfl
 obtain ⟨ra, rn, rc, rfl⟩ := rsl
 have s2 : w2.heap.size = w1.heap.size + 1 := by rw [hw2]; simp
 have s1' : w1.heap.size = w.heap.size := hs1
 have hbw2 : w2.heap[wb]? = w1.heap[wb]? := by rw [hw2]; exact Below.heap_alloc _ _ _ (Qab box1)
 have box3 : w3.heap[wb]? = some (.cells #[fnV 37 c.cb, fnV 39 c.cb, fnV 107 c.cb, fnV 108 c.cb, sl, .map (some mb)] 183 (0, 0)) := (g3.block wb (by have := Qab box1; omega) slw).trans (hbw2.trans box1)
 obtain ⟨w4, hw4⟩ : ∃ w4, w4 = w3.setCell ⟨wb, 4, none⟩ (.slice ra rn rc) := ⟨_, rfl⟩
 have o4 : ∀ q, q ≠ wb → w4.heap[q]? = w3.heap[q]? := fun q hq => by rw [hw4]; exact hpS hq
 have same : ∀ b, b < w.heap.size → b ≠ wb → b ≠ mb → some b ≠ sl.ownBlock → w4.heap[b]? = w.heap[b]? := fun b hb h1 h2 h3 => by
  rw [o4 b h1, g3.block b (by omega) h3, hw2, Below.heap_alloc _ _ _ (by omega), hbl1 b h2]
  rfl
 have rown : (Value.slice ra rn rc).ownBlock = sl.ownBlock ∨ ∃ g, (Value.slice ra rn rc).ownBlock = some g ∧ w.heap.size ≤ g := by
  rcases a3 with e | e
  · exact .inl e
  · exact .inr ⟨_, e, by omega⟩
 have rne : ∀ b, some b = (Value.slice ra rn rc).ownBlock → b ≠ wb := fun b e e2 => by
  subst e2
  rcases rown with e3 | ⟨g, e3, hg⟩
  · exact slw (e.trans e3)
  rw [e3] at e
  cases e
  have := Qab h.box
  omega
 have K : Kw wb mb sl (.slice ra rn rc) w w4 := by
  refine ⟨?_, ?_, ?_, ?_, same, rown⟩
  · rw [hw4]; exact (g3.os.trans (by rw [hw2]; rfl)).trans ho1
  · rw [hw4]; exact (g3.tape.trans (by rw [hw2]; rfl)).trans ht1
  · rw [hw4]; exact (g3.output.trans (by rw [hw2]; rfl)).trans hu1
  have := g3.size
  rw [hw4]; simp; omega
 have WK : Wk n0 n1 p c wb mb (.slice ra rn rc) (vs ++ [⟨s, t⟩]) w4 := by
  have lo := h.lo
  have lowB : ∀ b, b < n1 → w4.heap[b]? = w.heap[b]? := fun b hb => by
   have hbw : b < w.heap.size := by have := Qab h.box; omega
   exact same b hbw (by omega) (by omega) (fun e => by have := (World.ownsRow.lt h.row b e.symm).1; omega)
  refine ⟨?_, ?_, ?_, ?_, lo, ?_⟩
  ·
   have hc := h.cat
   exact ⟨(lowB _ lo.2.1).trans hc.box, Qar.same _ _ _ _ _ hc.prg K.size (fun q hq _ => lowB q (by have hq' : q < n0 := hq; omega)), hc.row.keep (lowB _ lo.2.2.1), hc.mt.keep (lowB _ lo.2.2.2.1), hc.md.keep (lowB _ lo.2.2.2.2.1), hc.mc.keep (lowB _ lo.2.2.2.2.2.1), hc.l0⟩
  · rw [hw4]; exact (Qah box3 4 _).trans rfl
  ·
   have o5 : w3.ownsRow n1 103 2 (.slice ra rn rc) (vs.length + 1) (fdCells vs ++ [str s, str t]) := o3
   rw [Qil, List.length_append]
   refine ⟨o5.1, ?_⟩
   rcases o5.2 with e | ⟨g, cap, cur, e1, e2, e3, e4⟩
   · exact .inl e
   · exact .inr ⟨g, cap, cur, e1, e2, (o4 g (rne g (by rw [e1]; rfl))).trans e3, e4⟩
  ·
   refine ⟨ms ++ [(s, .int .i64 (vs.length : Int))], ?_, fun t' => ?_⟩
   ·
    refine hm3.keep ?_
    rw [o4 mb (Ne.symm hwm), g3.block mb (by have := hm3.lt; omega) slm, hw2]
    exact Below.heap_alloc _ _ _ hm3.lt
   rw [Qos, Qcl, Qcl, hm2 t', Qep, Qep]
   cases asc (vRow vs) t' with
   | some _ => rfl
   | none =>
    by_cases e : s = t'
    · simp [e, nOf]
    · simp [e]
  rw [List.map_append, List.nodup_append]
  refine ⟨h.nd, by simp, fun a ha b hb e => ?_⟩
  simp only [List.map_cons, List.map_nil, List.mem_singleton] at hb
  rw [e, hb] at ha
  exact Qor hn ha
 obtain ⟨x_0, x_1, x_2, x_3, x_4, x_5, xf⟩ := cl6 h.box
 obtain ⟨y_0, y_1, y_2, y_3, y_4, y_5, yf⟩ := cl6 box1
 obtain ⟨z_0, z_1, z_2, z_3, z_4, z_5, zf⟩ := cl6 box3
 rw [hsl, hssn] at x_4 y_4 z_4 hrun
 have hr1' : (Instr.mapUpdate 61 (.map (some mb)) (str s) (.int .i64 (vs.length : Int))).run Try.prog w.drew = .ok () w1 := hr1
 obtain ⟨vn, hvn⟩ : ∃ vn, vs.length = vn := ⟨_, rfl⟩
 rw [hvn] at x_4 y_4 z_4 hrun hr1' hl
 have HE := hide (Ya WK K)
 have HW2 := hide hw2
 have HW4 := hide hw4
 have HRUN := hide hrun
 clear h h0 hb0 hm1 hm2 hasn hr1 hm3 hs1 ho1 ht1 hu1 hbl1 hwm box1 slm slw hw2 row1 hi hz hsz hby hn1w hrun o3 g3 a3 hsl hssn s2 s1' hbw2 box3 hw4 o4 same rown rne K WK hvn hn x_0 x_1 x_2 x_3 y_0 y_1 y_2 y_3 y_5 z_0 z_1 z_2 z_3 z_5
 go_enter Try.func154, Try.ntmps154
 go_wp2_with fail
 go_region
 clear x_4 x_5 xf hr1'
 go_wp2_with (at_builtin; rw [← Qa HW2]; refine Qaj _ rfl _ _ 41 rfl _ _ rfl rfl _ _ (Qa HRUN) ?_; clear HRUN)
 rw [← Qa HW4]
 go_end0
 exact ⟨rfl, _, Qa HE⟩
end
end
section
open Go.RowKit Go.Maps
theorem Qbo (w : World) (cs : Array Value) (T : TypeId) : ∃ w2, w2 = (w.alloc (.cells cs T)).alloc (.cells #[.int .i64 0, .int .i64 0] 31) ∧ Below w.heap.size w w2 ∧ w2.heap[w.heap.size]? = some (.cells cs T (0, 0)) ∧ w2.heap[w.heap.size + 1]? = some (.cells #[.int .i64 0, .int .i64 0] 31 (0, 0)) ∧ w2.heap.size = w.heap.size + 2 := by
 refine ⟨_, rfl, ((Below.refl _ w).alloc (Nat.le_refl _) _).alloc (by simp) _, ?_, ?_, by simp⟩
 · rw [Below.heap_alloc _ _ _ (by simp)]; exact heap_alloc_new w _
 have := heap_alloc_new (w.alloc (.cells cs T)) (.cells #[.int .i64 0, .int .i64 0] 31)
 simpa using this
section
variable {n0 n1 : Nat} {p : Pg} {c : CatP} {wb mb : Nat} {sl : Value} {vs : List Fld} {w : World}
end
end
section
open Go.RowKit Go.Maps
theorem Qhc : ∀ (vs : List Fld) (k : Nat) (s : Txt) (i : Nat), asc (vs.zipIdx k |>.map fun q => (q.1.name, q.2)) s = some i → ∃ v, k ≤ i ∧ vs[i - k]? = some v ∧ v.name = s ∧ typV vs s = some v.type
 | [], _, _, _, h => by cases h
 | u :: vs, k, s, i, h => by
  unfold asc at h
  simp only [List.zipIdx_cons, List.map_cons, List.find?_cons] at h
  by_cases e : u.name = s
  ·
   simp only [e, decide_true, Option.map_some, Option.some.injEq] at h
   subst h
   exact ⟨u, Nat.le_refl _, by simp, e, by unfold typV; simp [e]⟩
  simp only [e, decide_false] at h
  obtain ⟨v, h1, h2, h3, h4⟩ := Qhc vs (k + 1) s i h
  refine ⟨v, by omega, ?_, h3, ?_⟩
  · rw [show i - k = (i - (k + 1)) + 1 by omega]; simpa using h2
  unfold typV at h4 ⊢
  simpa [e] using h4
theorem Qj {vs : List Fld} {s own : Txt} (h : typV vs s = some own) : ∃ i v, asc (vRow vs) s = some i ∧ vs[i]? = some v ∧ v.name = s ∧ v.type = own := by
 have h1 := Qe vs s
 rw [h] at h1
 cases hq : asc (vRow vs) s with
 | none => rw [hq] at h1; cases h1
 | some i =>
  obtain ⟨v, _, h2, h3, h4⟩ := Qhc vs 0 s i hq
  rw [h] at h4
  exact ⟨i, v, rfl, by simpa using h2, h3, by simpa using h4.symm⟩
theorem Qko : ∀ (vs : List Fld) (i : Nat) (v : Fld) (t : Txt), (vs.map (·.name)).Nodup → vs[i]? = some v → putT vs v.name t = vs.set i ⟨v.name, t⟩
 | [], i, v, t, _, h => by simp at h
 | u :: vs, 0, v, t, hn, h => by
  cases h
  simp only [List.map_cons, List.nodup_cons] at hn
  unfold putT
  simp only [List.map_cons, if_true, List.set_cons_zero, List.cons.injEq, true_and]
  refine (List.map_congr_left (g := id) fun a ha => ?_).trans (List.map_id vs)
  by_cases e : a.name = u.name
  · exact absurd (List.mem_map.2 ⟨a, ha, e⟩) hn.1
  · rw [if_neg e]; rfl
 | u :: vs, i + 1, v, t, hn, h => by
  simp only [List.map_cons, List.nodup_cons] at hn
  have ih := Qko vs i v t hn.2 (by simpa using h)
  unfold putT at ih ⊢
  have hm : v ∈ vs := List.mem_of_getElem? (show vs[i]? = some v by simpa using h)
  have e : ¬ u.name = v.name := fun e => hn.1 (List.mem_map.2 ⟨v, hm, e.symm⟩)
  rw [List.map_cons, if_neg e, ih]
  rfl
theorem Qgx (vs : List Fld) (s t : Txt) : (putT vs s t).map (·.name) = vs.map (·.name) := by
 unfold putT
 rw [List.map_map]
 refine List.map_congr_left fun a _ => ?_
 simp only [Function.comp]
 split <;> rfl
theorem Qhd : ∀ (vs us : List Fld) (k : Nat), vs.map (·.name) = us.map (·.name) → (vs.zipIdx k).map (fun q => (q.1.name, q.2)) = (us.zipIdx k).map (fun q => (q.1.name, q.2))
 | [], [], _, _ => rfl
 | [], _ :: _, _, h => by simp at h
 | _ :: _, [], _, h => by simp at h
 | v :: vs, u :: us, k, h => by
  simp only [List.map_cons, List.cons.injEq] at h
  simp only [List.zipIdx_cons, List.map_cons, h.1, Qhd vs us (k + 1) h.2]
section
variable {n0 n1 : Nat} {p : Pg} {c : CatP} {wb mb : Nat} {sl : Value} {vs : List Fld} {w : World}
theorem Wk.turn (h : Wk n0 n1 p c wb mb sl vs w) {i : Nat} {v : Fld} (hi : vs[i]? = some v) (t : Txt) : ∃ g cap, sl = .slice (some ⟨g, 0, none⟩) vs.length cap ∧ vs.length ≤ cap ∧ cap ≤ 9223372036854775807 ∧ w.cell? ⟨g, i * 2 + 1, none⟩ = some (str v.type) ∧ (∀ o, w.frozen? ⟨g, o, none⟩ = false) ∧ n1 ≤ g ∧ Wk n0 n1 p c wb mb sl (putT vs v.name t) (w.setCell ⟨g, i * 2 + 1, none⟩ (str t)) ∧ Kw wb mb sl sl w (w.setCell ⟨g, i * 2 + 1, none⟩ (str t)) := by
 have hil := (List.getElem?_eq_some_iff.1 hi).1
 rcases h.row.2 with ⟨_, e⟩ | ⟨g, cap, cur, e1, e2, e3, e4, e5, e6, e7⟩
 · omega
 unfold maxLen at e5
 have hrow := h.row
 have hslw : some wb ≠ sl.ownBlock := fun e => by
  rw [e1] at e
  cases e
  have := h.box
  rw [e3] at this
  simp at this
 have hslm : some mb ≠ sl.ownBlock := fun e => by
  rw [e1] at e
  cases e
  obtain ⟨ms, ⟨es, ck, hh, _⟩, _⟩ := h.map
  rw [hh] at e3
  cases e3
 rw [e1] at hrow hslw hslm
 have hgw : wb ≠ g := fun e => hslw (by rw [e]; rfl)
 have hgm : mb ≠ g := fun e => hslm (by rw [e]; rfl)
 have o : ∀ q, q ≠ g → (w.setCell ⟨g, i * 2 + 1, none⟩ (str t)).heap[q]? = w.heap[q]? := fun q hq => hpS hq
 have lo := h.lo
 refine ⟨g, cap, e1, e4, e5, ?_, fun q => by simp [World.frozen?, e3], e2, ⟨?_, (o _ hgw).trans h.box, ?_, ?_, lo, ?_⟩, ?_⟩
 ·
  rw [World.ownsRow.cellAt hrow (i * 2 + 1) (by omega)]
  exact (Qfn vs i v hi).2
 ·
  have hc := h.cat
  exact ⟨(o _ (by omega)).trans hc.box, Qar.same _ _ _ _ _ hc.prg (by simp) (fun q hq _ => o q (by have hq' : q < n0 := hq; omega)), hc.row.keep (o _ (by omega)), hc.mt.keep (o _ (by omega)), hc.md.keep (o _ (by omega)), hc.mc.keep (o _ (by omega)), hc.l0⟩
 ·
  rw [Qko vs i v t h.nd hi, List.length_set, ← Qfo vs i v t hi, e1]
  exact (World.ownsRow.stored hrow (i * 2 + 1) (str t)).1
 ·
  have e : vRow (putT vs v.name t) = vRow vs := Qhd _ _ 0 (Qgx vs _ t)
  rw [e]
  exact h.map.keep (o _ hgm)
 · rw [Qgx]; exact h.nd
 · exact ⟨rfl, rfl, rfl, by simp, fun b _ _ _ hb => o b (fun e => hb (by rw [e1, e]; rfl)), .inl rfl⟩
def LkA (n0 n1 : Nat) (p : Pg) (c : CatP) (wb mb : Nat) (sl : Value) (w : World) (R : Except Flt (List Fld)) (en : Ending) (w' : World) : Prop :=
 ∃ sl' vs', Wk n0 n1 p c wb mb sl' vs' w' ∧ Kw wb mb sl sl' w w' ∧ match R with | .ok v => en = .returned (ftV (0, 0)) ∧ vs' = v | .error f => en = .returned (ftV f) ∧ f.1 ≠ 0
theorem Wk.sc (h : Wk n0 n1 p c wb mb sl vs w) {b : Nat} {T : TypeId} {cs : Array Value} {W : World} (hs : Sc b T cs w W) (hb : n1 ≤ b) (hn : b ≠ wb ∧ b ≠ mb ∧ some b ≠ sl.ownBlock) : Wk n0 n1 p c wb mb sl vs W := by
 have lo := h.lo
 have hc := h.cat
 refine ⟨⟨(hs.oth _ (by omega)).trans hc.box, Qar.same _ _ _ _ _ hc.prg (by rw [hs.size]; exact Nat.le_refl _) (fun q hq _ => hs.oth q (by have hq' : q < n0 := hq; omega)), hc.row.keep (hs.oth _ (by omega)), hc.mt.keep (hs.oth _ (by omega)), hc.md.keep (hs.oth _ (by omega)), hc.mc.keep (hs.oth _ (by omega)), hc.l0⟩, (hs.oth _ (Ne.symm hn.1)).trans h.box, ?_, h.map.keep (hs.oth _ (Ne.symm hn.2.1)), lo, h.nd⟩
 refine ⟨h.row.1, ?_⟩
 rcases h.row.2 with e | ⟨g, cap, cur, e1, e2, e3, e4⟩
 · exact .inl e
 · exact .inr ⟨g, cap, cur, e1, e2, (hs.oth g (fun e => hn.2.2 (by rw [e1, e]; rfl))).trans e3, e4⟩
theorem Kw.sc {sl' : Value} {w' W : World} (h : Kw wb mb sl sl' w w') {b : Nat} {T : TypeId} {cs : Array Value} (hs : Sc b T cs w' W) (hb : w.heap.size ≤ b) : Kw wb mb sl sl' w W :=
 ⟨hs.os.trans h.os, hs.tape.trans h.tape, hs.output.trans h.output, by rw [hs.size]; exact h.size, fun q hq h1 h2 h3 => (hs.oth q (by omega)).trans (h.block q hq h1 h2 h3), h.own⟩
theorem Wk.n1le (h : Wk n0 n1 p c wb mb sl vs w) : n1 ≤ w.heap.size := by have := h.lo; have := Qab h.box; omega
theorem Qlj (h : Wk n0 n1 p c wb mb sl vs w) (hl : vs.length ≤ 1000000000) (x : Ex) (hk : x.kind = 1) (xv : Value) (hv : ∃ a n c, xv = .slice a n c) (t : Txt) (hty : typV vs x.txt = none) :
  Calls Try.prog 140 #[.pointer (some ⟨wb, 0, none⟩), .agg #[.int .i64 x.kind, .int .i64 x.num, str x.txt, xv, .int .i64 x.at_], str t] w fun en w' => LkA n0 n1 p c wb mb sl w (narP p vs x t) en w' := by
 obtain ⟨va, vn, vc, rfl⟩ := hv
 obtain ⟨w2, hw2, b2, nx, nf, s2⟩ := Qbo w #[.int .i64 x.kind, .int .i64 x.num, str x.txt, .slice va vn vc, .int .i64 x.at_] 126
 have h2 := h.later b2
 have hop := Qfc h2 x (.slice va vn vc) ⟨_, _, _, rfl⟩
 have HW := hide hw2
 have HH := hide (Ya b2 (Ya nx (Ya nf (Ya s2 h))))
 have hn1 := h.n1le
 obtain ⟨R, hR⟩ : ∃ R, narP p vs x t = R := ⟨_, rfl⟩
 rw [hR]
 unfold narP at hR
 have ho : openP vs x = (typV vs x.txt).isNone := by unfold openP; rw [hk]; rfl
 rw [ho] at hop
 obtain ⟨x_0, x_1, x_2, x_3, x_4, xf⟩ := cl5 nx
 rw [hty] at hR hop
 simp only [Option.isNone_none] at hop
 have HR := hide (Ya hR hty)
 clear hw2 b2 nx nf s2 h h2 ho hR hty hk
 go_enter Try.func140, Try.ntmps140
 go_upto_region 1 with fail
 rw [← Qa HW]
 go_wp2_with fail
 refine hop.mono ?_
 clear hop x_0 x_1 x_2 x_3 x_4 xf
 rintro en w3 ⟨rfl, b3⟩
 obtain ⟨b2, nx, nf, s2, h⟩ := Qa HH
 have nx3 := (b3.block _ (by omega)).trans nx
 have nf3 := (b3.block _ (by omega)).trans nf
 have b03 := b2.trans (b3.mono b2.size)
 have h3 := h.later b03
 have hpt := put_any h3 hl x.txt t (Qa HR).2
 obtain ⟨x_0, x_1, x_2, x_3, x_4, xf⟩ := cl5 nx3
 have H3 := hide (Ya b03 (Ya nf3 (Ya h3 s2)))
 clear b2 nx nf s2 h b3 nx3 nf3 b03 h3
 go_wp2_with fail
 refine hpt.mono ?_
 clear hpt x_0 x_1 x_2 x_3 x_4 xf
 rintro en w4 ⟨rfl, sl', h4, k4⟩
 obtain ⟨b03, nf3, h3, s2⟩ := Qa H3
 have s3 := b03.size
 have off : w.heap.size + 1 ≠ wb ∧ w.heap.size + 1 ≠ mb ∧ some (w.heap.size + 1) ≠ sl.ownBlock := (Qa HH).2.2.2.2.new (by omega)
 have nf4 := k4.keep nf3 off
 obtain ⟨W, hW, sc⟩ := sc2 nf4 (.int .i64 0) (.int .i64 0)
 obtain ⟨y_0, y_1, yf⟩ := cl2 nf4
 have off4 : w.heap.size + 1 ≠ wb ∧ w.heap.size + 1 ≠ mb ∧ some (w.heap.size + 1) ≠ sl'.ownBlock := ⟨off.1, off.2.1, fun e => by
  rcases k4.own with e2 | ⟨g, e2, hg⟩
  · exact off.2.2 (e.trans e2)
  rw [e2] at e
  cases e
  have := Qab nf3
  omega⟩
 have HE := hide (Ya (h4.sc sc (by omega) off4) (Ya (((Kw.of_below b03).trans k4).sc sc (by omega)) sc.box))
 have HWW := hide hW
 clear h4 k4 b03 nf3 h3 s2 s3 off nf4 hW sc off4
 go_wp2_with fail
 rw [← Qa HWW]
 obtain ⟨z_0, z_1, zf⟩ := cl2 (Qa HE).2.2
 refine bodyPost_ret (v := ftV (0, 0)) (by simp [results, Try.results140, go_sem, z_0, z_1, ftV]) rfl ?_
 refine ⟨_, _, (Qa HE).1, (Qa HE).2.1, ?_⟩
 rw [← (Qa HR).1]
 exact ⟨rfl, rfl⟩
end
end
section
open Go.RowKit Go.Maps
section
variable {n0 n1 : Nat} {p : Pg} {c : CatP} {wb mb : Nat} {sl : Value} {vs : List Fld} {w : World}
theorem Qlk (h : Wk n0 n1 p c wb mb sl vs w) (x : Ex) (hk : x.kind = 1) (xv : Value) (hv : ∃ a n c, xv = .slice a n c) (t : Txt) {own : Txt} (hty : typV vs x.txt = some own) :
  Calls Try.prog 140 #[.pointer (some ⟨wb, 0, none⟩), .agg #[.int .i64 x.kind, .int .i64 x.num, str x.txt, xv, .int .i64 x.at_], str t] w fun en w' => LkA n0 n1 p c wb mb sl w (narP p vs x t) en w' := by
 obtain ⟨va, vn, vc, rfl⟩ := hv
 obtain ⟨w2, hw2, b2, nx, nf, s2⟩ := Qbo w #[.int .i64 x.kind, .int .i64 x.num, str x.txt, .slice va vn vc, .int .i64 x.at_] 126
 have h2 := h.later b2
 have hop := Qfc h2 x (.slice va vn vc) ⟨_, _, _, rfl⟩
 have HW := hide hw2
 have HH := hide (Ya b2 (Ya nx (Ya nf (Ya s2 h))))
 have hn1 := h.n1le
 obtain ⟨R, hR⟩ : ∃ R, narP p vs x t = R := ⟨_, rfl⟩
 rw [hR]
 unfold narP at hR
 have ho : openP vs x = (typV vs x.txt).isNone := by unfold openP; rw [hk]; rfl
 rw [ho, hty] at hop
 simp only [Option.isNone_some] at hop
 rw [hty] at hR
 obtain ⟨i, v, hai, hvi, hvn, hvt⟩ := Qj hty
 obtain ⟨x_0, x_1, x_2, x_3, x_4, xf⟩ := cl5 nx
 have HR := hide (Ya hR (Ya hvi (Ya hvn (Ya hvt hai))))
 clear hw2 b2 nx nf s2 h h2 ho hR hty hk hai hvi hvn hvt
 go_enter Try.func140, Try.ntmps140
 go_upto_region 1 with fail
 rw [← Qa HW]
 go_wp2_with fail
 refine hop.mono ?_
 clear hop x_0 x_1 x_2 x_3 x_4 xf
 rintro en w3 ⟨rfl, b3⟩
 obtain ⟨b2, nx, nf, s2, h⟩ := Qa HH
 have nx3 := (b3.block _ (by omega)).trans nx
 have nf3 := (b3.block _ (by omega)).trans nf
 have b03 := b2.trans (b3.mono b2.size)
 have h3 := h.later b03
 obtain ⟨g, cap, esl, hc1, hc2, hcell, hfz, hg1, hTurn⟩ := h3.turn (Qa HR).2.1 t
 have hl0 := h3.lookV x.txt false
 have hl1 := (h3.later (Below.refl _ w3).drew).lookV x.txt false
 rw [if_neg (by simp), (Qa HR).2.2.2.2] at hl0 hl1
 simp only [Option.getD_some] at hl0 hl1
 obtain ⟨x_0, x_1, x_2, x_3, x_4, xf⟩ := cl5 nx3
 obtain ⟨q_0, q_1, q_2, q_3, q_4, q_5, qf⟩ := cl6 h3.box
 rw [esl] at q_4
 have hil : i < vs.length := (List.getElem?_eq_some_iff.1 (Qa HR).2.1).1
 obtain ⟨vl, hvl⟩ : ∃ vl, vs.length = vl := ⟨_, rfl⟩
 rw [hvl] at q_4 hil hc1
 have hbel := Qea (Ct.later h3.cat ((Below.refl _ w3).drew.drew)) own t
 have HC := hide (show ∀ w', Below w3.heap.size w3 w' → w'.cell? ⟨wb, 1, none⟩ = some (.func (.func 39) #[.pointer (some ⟨c.cb, 0, none⟩)] #[]) ∧ w'.cell? ⟨g, i * 2 + 1, none⟩ = some (str own) from fun w' bw => ⟨(cl6 (h3.later bw).box).2.1, by
  have hgl : g < w3.heap.size := (World.ownsRow.lt h3.row g (by rw [esl]; rfl)).2
  rw [bw.cell (p := ⟨g, i * 2 + 1, none⟩) hgl, hcell, (Qa HR).2.2.2.1]⟩)
 have H3 := hide (Ya b03 (Ya nf3 (Ya nx3 (Ya h3 (Ya s2 (Ya hvl esl))))))
 clear b2 nx nf s2 h b3 nx3 nf3 b03 h3 esl hcell hfz hg1 hTurn hvl q_0 q_1 q_2 q_3
 go_wp2_with fail
 go_region
 clear hl0 hl1 x_0 x_1 x_3 x_4 q_4 q_5
 go_wp2_with fail
 refine Qav (md := [(0, true), (1, true), (2, true), (3, true), (4, true), (5, true), (6, true), (7, true), (8, false)]) (fun w' => w'.cell? ⟨wb, 1, none⟩ = some (.func (.func 39) #[.pointer (some ⟨c.cb, 0, none⟩)] #[]) ∧ w'.cell? ⟨g, i * 2 + 1, none⟩ = some (str own)) mixedO (by kernel_rfl) rfl (by kernel_rfl) (fun PP hPP => ?_)
 iterate 8 refine Qac rfl (by kernel_rfl) (fun w' hw => by obtain ⟨k_0, k_1⟩ := hw; go_simp <;> rfl) ?_
 refine Qal rfl (Qa HC _ (Below.refl _ w3).drew.drew) (fun K hK => ?_)
 go_simp
 refine hbel.mono ?_
 clear hbel
 rintro en w4 ⟨rfl, b4⟩
 show K _ _
 refine hK _ _ ?_
 clear hK K
 have b34 : Below w3.heap.size w3 w4 := (Below.refl _ w3).drew.drew.trans b4
 refine Qaw (Qa HC _ b34) (hPP _ _ ?_)
 clear hPP PP
 have B34 := hide b34
 clear b4 b34
 cases hb1 : belowP p own t with
 | true =>
  obtain ⟨b03, nf3, nx3, h3, s2, _⟩ := Qa H3
  have hs3 := b03.size
  have h4 := h3.later (Qa B34)
  have nf4 := ((Qa B34).block _ (Qab nf3)).trans nf3
  have k4 := Kw.of_below (wb := wb) (mb := mb) (sl := sl) (b03.trans ((Qa B34).mono hs3))
  obtain ⟨W, hW, sc⟩ := sc2 nf4 (.int .i64 0) (.int .i64 0)
  obtain ⟨y_0, y_1, yf⟩ := cl2 nf4
  have HE := hide (Ya (Wk.sc h4 sc (by omega) ((Qa HH).2.2.2.2.new (by omega))) (Ya (Kw.sc k4 sc (by omega)) sc.box))
  have HWW := hide hW
  have HB1 := hide hb1
  clear b03 nf3 nx3 h3 s2 hs3 h4 nf4 k4 hW sc hb1
  go_wp2_with fail
  rw [← Qa HWW]
  obtain ⟨z_0, z_1, zf⟩ := cl2 (Qa HE).2.2
  refine bodyPost_ret (v := ftV (0, 0)) (by simp [results, Try.results140, go_sem, z_0, z_1, ftV]) rfl ?_
  refine ⟨_, _, (Qa HE).1, (Qa HE).2.1, ?_⟩
  rw [← (Qa HR).1, Qa HB1]
  exact ⟨rfl, rfl⟩
 | false =>
  obtain ⟨b03, nf3, nx3, h3, s2, hvl', esl⟩ := Qa H3
  have hs3 := b03.size
  have h4 := h3.later (Qa B34)
  have hbel := Qea (Ct.later h4.cat (Below.refl _ w4).drew) t own
  have HB1 := hide hb1
  clear b03 nf3 nx3 h3 s2 hs3 h4 hb1 hvl' esl
  go_wp2_with fail
  refine Qav (md := [(0, true), (1, true), (2, true), (3, true), (4, true), (5, true), (6, true), (7, true), (8, false), (9, true)]) (fun w' => w'.cell? ⟨wb, 1, none⟩ = some (.func (.func 39) #[.pointer (some ⟨c.cb, 0, none⟩)] #[]) ∧ w'.cell? ⟨g, i * 2 + 1, none⟩ = some (str own)) mixedO (by kernel_rfl) rfl (by kernel_rfl) (fun PP hPP => ?_)
  iterate 8 refine Qac rfl (by kernel_rfl) (fun w' hw => by obtain ⟨k_0, k_1⟩ := hw; go_simp <;> rfl) ?_
  refine Qal rfl (Qa HC _ ((Qa B34).drew)) (fun K hK => ?_)
  go_simp
  refine hbel.mono ?_
  clear hbel
  rintro en w5 ⟨rfl, b5⟩
  show K _ _
  refine hK _ _ ?_
  clear hK K
  have b35 : Below w3.heap.size w3 w5 := (Qa B34).drew.trans (b5.mono (Qa B34).size)
  refine Qac rfl (by kernel_rfl) (fun _ _ => by go_simp <;> rfl) ?_
  refine Qaw (Qa HC _ b35) (hPP _ _ ?_)
  clear hPP PP
  have B35 := hide b35
  clear b5 b35
  cases hb2 : belowP p t own with
  | true =>
   obtain ⟨b03, nf3, nx3, h3, s2, hvl', esl⟩ := Qa H3
   have hs3 := b03.size
   have h5 := h3.later (Qa B35)
   obtain ⟨g', cap', esl', _, _, hcell', hfz', hg1', hwk', hkw'⟩ := h5.turn (Qa HR).2.1 t
   rw [esl] at esl'
   simp only [Value.slice.injEq, Option.some.injEq, Addr.mk.injEq] at esl'
   obtain ⟨⟨rfl, _⟩, _⟩ := esl'
   rw [(Qa HR).2.2.2.1] at hcell'
   obtain ⟨w6, hw6⟩ : ∃ w6, w6 = w5.setCell ⟨g, i * 2 + 1, none⟩ (str t) := ⟨_, rfl⟩
   rw [← hw6] at hwk' hkw'
   have b05 := b03.trans ((Qa B35).mono hs3)
   have k6 := (Kw.of_below (wb := wb) (mb := mb) (sl := sl) b05).trans hkw'
   have nf5 := ((Qa B35).block _ (Qab nf3)).trans nf3
   have hs5 := (Qa B35).size
   have nf6 := hkw'.keep nf5 ((Qa HH).2.2.2.2.new (by omega))
   rw [(Qa HR).2.2.1] at hwk'
   obtain ⟨W, hW, sc⟩ := sc2 nf6 (.int .i64 0) (.int .i64 0)
   obtain ⟨y_0, y_1, yf⟩ := cl2 nf6
   have HE := hide (Ya (Wk.sc hwk' sc (by omega) ((Qa HH).2.2.2.2.new (by omega))) (Ya (Kw.sc k6 sc (by omega)) sc.box))
   have HWW := hide hW
   have HB2 := hide hb2
   clear b03 nf3 nx3 h3 s2 hs3 h5 hg1' hwk' hkw' b05 k6 nf5 hs5 nf6 hW sc hb2 hvl' esl
   subst hw6
   go_wp2_with fail
   rw [← Qa HWW]
   obtain ⟨z_0, z_1, zf⟩ := cl2 (Qa HE).2.2
   refine bodyPost_ret (v := ftV (0, 0)) (by simp [results, Try.results140, go_sem, z_0, z_1, ftV]) rfl ?_
   refine ⟨_, _, (Qa HE).1, (Qa HE).2.1, ?_⟩
   rw [← (Qa HR).1, Qa HB1, Qa HB2]
   exact ⟨rfl, rfl⟩
  | false =>
   obtain ⟨b03, nf3, nx3, h3, s2, hvl', esl⟩ := Qa H3
   have hs3 := b03.size
   have nx5 := ((Qa B35).block _ (Qab nx3)).trans nx3
   have hwr := Qgf w5 13 x.kind x.num x.txt (.slice va vn vc) ⟨_, _, _, rfl⟩ x.at_
   obtain ⟨x_0, x_1, x_2, x_3, x_4, xf⟩ := cl5 nx5
   have HB2 := hide hb2
   clear b03 nf3 nx3 h3 s2 hs3 nx5 hb2 hvl' esl
   go_wp2_with fail
   refine hwr.mono ?_
   clear hwr x_0 x_1 x_2 x_3 x_4 xf
   rintro en w6 ⟨rfl, b6⟩
   obtain ⟨b03, nf3, nx3, h3, s2, hvl', esl⟩ := Qa H3
   have hs3 := b03.size
   have b36 := (Qa B35).trans (b6.mono (Qa B35).size)
   have h6 := h3.later b36
   have nf6 := (b36.block _ (Qab nf3)).trans nf3
   have k6 := Kw.of_below (wb := wb) (mb := mb) (sl := sl) (b03.trans (b36.mono hs3))
   obtain ⟨W, hW, sc⟩ := sc2 nf6 (.int .i64 13) (.int .i64 x.at_)
   obtain ⟨y_0, y_1, yf⟩ := cl2 nf6
   have HE := hide (Ya (Wk.sc h6 sc (by omega) ((Qa HH).2.2.2.2.new (by omega))) (Ya (Kw.sc k6 sc (by omega)) sc.box))
   have HWW := hide hW
   clear b03 nf3 nx3 h3 s2 hs3 b36 h6 nf6 k6 b6 hW sc hvl' esl
   go_wp2_with fail
   rw [← Qa HWW]
   obtain ⟨z_0, z_1, zf⟩ := cl2 (Qa HE).2.2
   refine bodyPost_ret (v := ftV (13, x.at_)) (by simp [results, Try.results140, go_sem, z_0, z_1, ftV]) rfl ?_
   refine ⟨_, _, (Qa HE).1, (Qa HE).2.1, ?_⟩
   rw [← (Qa HR).1, Qa HB1, Qa HB2]
   exact ⟨rfl, by simp⟩
theorem Qli (h : Wk n0 n1 p c wb mb sl vs w) (hl : vs.length ≤ 1000000000) (x : Ex) (hk : x.kind = 1) (xv : Value) (hv : ∃ a n c, xv = .slice a n c) (t : Txt) :
  Calls Try.prog 140 #[.pointer (some ⟨wb, 0, none⟩), .agg #[.int .i64 x.kind, .int .i64 x.num, str x.txt, xv, .int .i64 x.at_], str t] w fun en w' => LkA n0 n1 p c wb mb sl w (narP p vs x t) en w' := by
 cases hty : typV vs x.txt with
 | none => exact Qlj h hl x hk xv hv t hty
 | some own => exact Qlk h x hk xv hv t hty
end
end
section
open Go.RowKit Go.Maps
def eachP (step : Ex → Txt → List Fld → Except Flt (List Fld)) : List Ex → List Fld → List Fld → Except Flt (List Fld)
 | x :: xs, f :: fs, vs => match step x f.type vs with
  | .error e => .error e
  | .ok vs' => eachP step xs fs vs'
 | _, _, vs => .ok vs
def szL (sz : Ex → Nat) : List Ex → Nat
 | [] => 0
 | x :: xs => sz x + szL sz xs
theorem Qei (sz : Ex → Nat) : ∀ (xs : List Ex) (j : Nat) (x : Ex), xs[j]? = some x → szL sz (xs.drop j) = sz x + szL sz (xs.drop (j + 1))
 | [], j, x, h => by simp at h
 | y :: xs, 0, x, h => by cases h; rfl
 | y :: xs, j + 1, x, h => by simpa using Qei sz xs j x (by simpa using h)
theorem Qgr (step : Ex → Txt → List Fld → Except Flt (List Fld)) {xs : List Ex} {fs : List Fld} {j : Nat} {x : Ex} {f : Fld} (hx : xs[j]? = some x) (hf : fs[j]? = some f) (vs : List Fld) :
  eachP step (xs.drop j) (fs.drop j) vs = match step x f.type vs with | .error e => .error e | .ok vs' => eachP step (xs.drop (j + 1)) (fs.drop (j + 1)) vs' := by
 rw [List.drop_eq_getElem_cons (List.getElem?_eq_some_iff.1 hx).1, List.drop_eq_getElem_cons (List.getElem?_eq_some_iff.1 hf).1, (List.getElem?_eq_some_iff.1 hx).2, (List.getElem?_eq_some_iff.1 hf).2]
 rfl
structure LkF (F : Nat) (n0 n1 : Nat) (p : Pg) (c : CatP) (wb mb : Nat) (N : Nat) (sz : Ex → Nat) (step : Ex → Txt → List Fld → Except Flt (List Fld)) (xs : List Ex) : Prop where
 call : ∀ x ∈ xs, ∀ (w : World) (sl : Value) (vs : List Fld) (a : Option Addr) (n k : Nat) (t : Txt), Wk n0 n1 p c wb mb sl vs w → ExS (fun b => b < n0) w [.int .i64 x.kind, .int .i64 x.num, str x.txt, .slice a n k, .int .i64 x.at_] x → vs.length + sz x ≤ N →
  Calls Try.prog F #[.pointer (some ⟨wb, 0, none⟩), .agg #[.int .i64 x.kind, .int .i64 x.num, str x.txt, .slice a n k, .int .i64 x.at_], str t] w fun en w' => LkA n0 n1 p c wb mb sl w (step x t vs) en w'
 grow : ∀ x t vs vs', step x t vs = .ok vs' → vs'.length ≤ vs.length + sz x
theorem Wk.offT {n0 n1 : Nat} {p : Pg} {c : CatP} {wb mb : Nat} {sl : Value} {vs : List Fld} {w : World} (h : Wk n0 n1 p c wb mb sl vs w) {b : Nat} {cs : Array Value} {T : TypeId} {fz : Nat × Nat} (hb : w.heap[b]? = some (.cells cs T fz)) (h1 : T ≠ 183) (h2 : T ≠ 103) : b ≠ wb ∧ b ≠ mb ∧ some b ≠ sl.ownBlock := by
 refine ⟨fun e => ?_, fun e => ?_, fun e => ?_⟩
 ·
  rw [e, h.box] at hb
  simp only [Option.some.injEq, Obj.cells.injEq] at hb
  exact h1 hb.2.1.symm
 ·
  obtain ⟨ms, ⟨es, ck, hh, _⟩, _⟩ := h.map
  rw [e, hh] at hb
  cases hb
 rcases h.row.2 with ⟨e2, _⟩ | ⟨g, cap, cur, e2, _, e3, _⟩
 · rw [e2] at e; cases e
 rw [e2] at e
 cases e
 rw [e3] at hb
 simp only [Option.some.injEq, Obj.cells.injEq] at hb
 exact h2 hb.2.1.symm
structure EaI (n0 n1 : Nat) (p : Pg) (c : CatP) (wb mb : Nat) (sl : Value) (w : World) (fb : Nat) (f : Flt) (R : Except Flt (List Fld)) (W : World) : Prop where
 ex : ∃ sl' vs', Wk n0 n1 p c wb mb sl' vs' W ∧ Kw wb mb sl sl' w W ∧ match R with | .ok v => f = (0, 0) ∧ vs' = v | .error e => f = e ∧ f.1 ≠ 0
 box : W.heap[fb]? = some (.cells #[.int .i64 f.1, .int .i64 f.2] 31 (0, 0))
end
section
open Go.RowKit Go.Maps
section
variable {n0 n1 : Nat} {p : Pg} {c : CatP} {wb mb : Nat} {sl : Value} {vs : List Fld} {w : World}
theorem Qot (h : Wk n0 n1 p c wb mb sl vs w) (x : Ex) (hk : x.kind = 1) (xa : Option Addr) (xn xc : Nat) {own : Txt} (hty : typV vs x.txt = some own) :
  Calls Try.prog 135 #[.pointer (some ⟨wb, 0, none⟩), .agg #[.int .i64 x.kind, .int .i64 x.num, str x.txt, .slice xa xn xc, .int .i64 x.at_]] w fun en w' => en = .returned (.tuple #[str own, ftV (0, 0)]) ∧ Below w.heap.size w w' := by
 obtain ⟨w2, hw2, b2, nx, nf, s2⟩ := Qbo w #[.int .i64 x.kind, .int .i64 x.num, str x.txt, .slice xa xn xc, .int .i64 x.at_] 126
 have h2 := h.later b2
 have hop := Qfc h2 x (.slice xa xn xc) ⟨_, _, _, rfl⟩
 have ho : openP vs x = false := by unfold openP; rw [hk, hty]; rfl
 rw [ho] at hop
 obtain ⟨i, v, hai, hvi, hvn, hvt⟩ := Qj hty
 obtain ⟨x_0, x_1, x_2, x_3, x_4, xf⟩ := cl5 nx
 have g1 : (x.kind == 1) = true := beq_iff_eq.2 hk
 have HW := hide hw2
 have HH := hide (Ya b2 (Ya nx (Ya nf (Ya s2 (Ya h (Ya hai (Ya hvi hvt)))))))
 clear hw2 b2 nx nf s2 h h2 ho hty hk hai hvi hvn hvt
 go_enter Try.func135, Try.ntmps135
 go_upto_region 1 with fail
 rw [← Qa HW]
 go_wp2_with fail
 refine hop.mono ?_
 clear hop x_0 x_1 x_2 x_3 x_4 xf
 rintro en w3 ⟨rfl, b3⟩
 obtain ⟨b2, nx, nf, s2, h, hai, hvi, hvt⟩ := Qa HH
 have nx3 := (b3.block _ (by omega)).trans nx
 have nf3 := (b3.block _ (by omega)).trans nf
 have b03 := b2.trans (b3.mono b2.size)
 have h3 := h.later b03
 obtain ⟨g, cap, esl, hc1, hc2, hcell, hfz, hg1, _⟩ := h3.turn hvi []
 rw [hvt] at hcell
 have hil : i < vs.length := (List.getElem?_eq_some_iff.1 hvi).1
 obtain ⟨vl, hvl⟩ : ∃ vl, vs.length = vl := ⟨_, rfl⟩
 have hgl : g < w3.heap.size := (World.ownsRow.lt h3.row g (by rw [esl]; rfl)).2
 have offF := h3.offT nf3 (by decide) (by decide)
 have hgf : g ≠ w.heap.size + 1 := fun e => offF.2.2 (by rw [esl, ← e]; rfl)
 have hl0 := h3.lookV x.txt false
 have hl1 := (h3.later (Below.refl _ w3).drew).lookV x.txt false
 rw [if_neg (by simp), hai] at hl0 hl1
 simp only [Option.getD_some] at hl0 hl1
 obtain ⟨x_0, x_1, x_2, x_3, x_4, xf⟩ := cl5 nx3
 obtain ⟨q_0, q_1, q_2, q_3, q_4, q_5, qf⟩ := cl6 h3.box
 rw [esl, hvl] at q_4
 obtain ⟨W7, hW7, sc⟩ := sc2 nf3 (.int .i64 0) (.int .i64 0)
 obtain ⟨y_0, y_1, yf⟩ := cl2 nf3
 have HE := hide (Ya (sc.below b03 (by omega)) sc.box)
 have HWW := hide hW7
 rw [hvl] at hil hc1
 clear b2 nx nf s2 h hai hvi hvt b3 nx3 nf3 b03 h3 esl hfz hg1 hvl hgl offF hgf hW7 sc HH
 go_wp2_with fail
 go_region
 rw [← Qa HWW]
 obtain ⟨z_0, z_1, zf⟩ := cl2 (Qa HE).2
 go_wp2_with fail
 refine bodyPost_ret (v := .tuple #[str own, ftV (0, 0)]) (by simp [results, Try.results135, go_sem, z_0, z_1, ftV]) rfl ?_
 exact ⟨rfl, (Qa HE).1.drew⟩
end
end
end Go.Proofs.Ytfmbpaoapjmdnaa
