/- types: a catalog in memory; settle. types: a catalog's readers. types: below. A struct's cells written one by one. types: decl, ctor of a catalog. types: a walk in memory; its small readers. -/
import Derived.Test.YtfmbpaoapjmdnaaQb15
import Derived.Test.YtfmbpaoapjmdnaaQb08
set_option maxRecDepth 100000
set_option maxHeartbeats 32000000
namespace Go.Proofs.Ytfmbpaoapjmdnaa
section
open Go.RowKit Go.Maps
theorem cl9 {w : World} {b : Nat} {T : TypeId} {v0 v1 v2 v3 v4 v5 v6 v7 v8 : Value} (h : w.heap[b]? = some (.cells #[v0, v1, v2, v3, v4, v5, v6, v7, v8] T (0, 0))) :
  w.cell? ⟨b, 0, none⟩ = some v0 ∧ w.cell? ⟨b, 1, none⟩ = some v1 ∧ w.cell? ⟨b, 2, none⟩ = some v2 ∧ w.cell? ⟨b, 3, none⟩ = some v3 ∧ w.cell? ⟨b, 4, none⟩ = some v4 ∧ w.cell? ⟨b, 5, none⟩ = some v5 ∧ w.cell? ⟨b, 6, none⟩ = some v6 ∧ w.cell? ⟨b, 7, none⟩ = some v7 ∧ w.cell? ⟨b, 8, none⟩ = some v8 ∧ ∀ o, w.frozen? ⟨b, o, none⟩ = false :=
 ⟨(Qaf h 0).trans rfl, (Qaf h 1).trans rfl, (Qaf h 2).trans rfl, (Qaf h 3).trans rfl, (Qaf h 4).trans rfl, (Qaf h 5).trans rfl, (Qaf h 6).trans rfl, (Qaf h 7).trans rfl, (Qaf h 8).trans rfl, fun o => by simp [World.frozen?, h]⟩
structure KRow (w : World) (kb n cap : Nat) (nm : Nat → Txt) (sb : Nat → Nat) (bs : Nat → Int) : Prop where
 le : n ≤ cap
 cm : cap ≤ maxLen
 ex : ∃ cur : Array Value, w.heap[kb]? = some (.cells cur 151 (0, 0)) ∧ ∀ j, j < n → cur[j * 3]? = some (str (nm j)) ∧ cur[j * 3 + 1]? = some (.int .i64 (sb j : Int)) ∧ cur[j * 3 + 2]? = some (.int .i64 (bs j))
section
variable {w w' : World} {kb n cap : Nat} {nm : Nat → Txt} {sb : Nat → Nat} {bs : Nat → Int}
theorem KRow.keep (h : KRow w kb n cap nm sb bs) (e : w'.heap[kb]? = w.heap[kb]?) : KRow w' kb n cap nm sb bs := by
 obtain ⟨cur, h1, h2⟩ := h.ex
 exact ⟨h.le, h.cm, cur, e.trans h1, h2⟩
theorem KRow.lt (h : KRow w kb n cap nm sb bs) : kb < w.heap.size := by
 obtain ⟨_, h1, _⟩ := h.ex
 exact Qab h1
theorem KRow.cells (h : KRow w kb n cap nm sb bs) {j : Nat} (hj : j < n) : w.cell? ⟨kb, j * 3, none⟩ = some (str (nm j)) ∧ w.cell? ⟨kb, j * 3 + 1, none⟩ = some (.int .i64 (sb j : Int)) ∧ w.cell? ⟨kb, j * 3 + 2, none⟩ = some (.int .i64 (bs j)) ∧ ∀ o, w.frozen? ⟨kb, o, none⟩ = false := by
 obtain ⟨cur, h1, h2⟩ := h.ex
 obtain ⟨a, b, c⟩ := h2 j hj
 exact ⟨(Qaf h1 _).trans a, (Qaf h1 _).trans b, (Qaf h1 _).trans c, fun o => by simp [World.frozen?, h1]⟩
def updB (bs : Nat → Int) (i : Nat) (v : Int) : Nat → Int := fun k => if k = i then v else bs k
theorem KRow.set (h : KRow w kb n cap nm sb bs) {i : Nat} (hi : i < n) (v : Int) : KRow (w.setCell ⟨kb, i * 3 + 2, none⟩ (.int .i64 v)) kb n cap nm sb (updB bs i v) := by
 obtain ⟨cur, h1, h2⟩ := h.ex
 refine ⟨h.le, h.cm, _, Qah h1 (i * 3 + 2) _, fun j hj => ?_⟩
 obtain ⟨a, b, c⟩ := h2 j hj
 have hl : i * 3 + 2 < cur.size := by
  have := (Array.getElem?_eq_some_iff.1 (h2 i hi).2.2).1
  omega
 refine ⟨?_, ?_, ?_⟩
 · rw [Array.getElem?_setIfInBounds_ne (by omega)]; exact a
 · rw [Array.getElem?_setIfInBounds_ne (by omega)]; exact b
 unfold updB
 by_cases e : j = i
 ·
  subst e
  rw [if_pos rfl, Array.getElem?_setIfInBounds_self_of_lt hl]
 · rw [if_neg e, Array.getElem?_setIfInBounds_ne (by omega)]; exact c
end
structure CatP where
 cb : Nat
 kb : Nat
 kc : Nat
 mt : Nat
 md : Nat
 mc : Nat
 v0 : Value
 v1 : Value
 v2 : Value
 v3 : Value
 v4 : Value
def nOf (k : Nat) : Value := .int .i64 (k : Int)
def pOf (q : Nat × Nat) : Value := .agg #[.int .i64 (q.1 : Int), .int .i64 (q.2 : Int)]
def MpF {α : Type} (f : α → Value) (w : World) (mb : Nat) (row : List (Txt × α)) : Prop := ∃ ms, MpS w mb ms ∧ ∀ t, asc ms t = (asc row t).map f
theorem MpF.keep {α : Type} {f : α → Value} {w w' : World} {mb : Nat} {row : List (Txt × α)} (h : MpF f w mb row) (e : w'.heap[mb]? = w.heap[mb]?) : MpF f w' mb row := by
 obtain ⟨ms, h1, h2⟩ := h
 exact ⟨ms, h1.keep e, h2⟩
theorem MpF.lt {α : Type} {f : α → Value} {w : World} {mb : Nat} {row : List (Txt × α)} (h : MpF f w mb row) : mb < w.heap.size := by
 obtain ⟨ms, h1, _⟩ := h
 exact h1.lt
structure Ct (n0 : Nat) (p : Pg) (c : CatP) (bs : Nat → Int) (w : World) : Prop where
 box : w.heap[c.cb]? = some (.cells #[c.v0, c.v1, c.v2, c.v3, c.v4, .slice (some ⟨c.kb, 0, none⟩) (p.types.length + 3) c.kc, .map (some c.mt), .map (some c.md), .map (some c.mc)] 145 (0, 0))
 prg : PgS (fun b => b < n0) w [c.v0, c.v1, c.v2, c.v3, c.v4] p
 row : KRow w c.kb (p.types.length + 3) c.kc (kName p) (kSub p) bs
 mt : MpF nOf w c.mt (tyRow p.types)
 md : MpF nOf w c.md (dcRow p.decls)
 mc : MpF pOf w c.mc (ctRow p.types)
 l0 : n0 ≤ c.cb ∧ n0 ≤ c.kb ∧ n0 ≤ c.mt ∧ n0 ≤ c.md ∧ n0 ≤ c.mc
theorem Ct.ne {n0 : Nat} {p : Pg} {c : CatP} {bs : Nat → Int} {w : World} (h : Ct n0 p c bs w) : c.cb ≠ c.kb ∧ c.mt ≠ c.kb ∧ c.md ≠ c.kb ∧ c.mc ≠ c.kb := by
 obtain ⟨cur, hk, _⟩ := h.row.ex
 refine ⟨fun e => ?_, fun e => ?_, fun e => ?_, fun e => ?_⟩
 ·
  have := h.box
  rw [e, hk] at this
  simp at this
 ·
  obtain ⟨ms, ⟨es, cl, h1, _⟩, _⟩ := h.mt
  rw [e, hk] at h1
  cases h1
 ·
  obtain ⟨ms, ⟨es, cl, h1, _⟩, _⟩ := h.md
  rw [e, hk] at h1
  cases h1
 obtain ⟨ms, ⟨es, cl, h1, _⟩, _⟩ := h.mc
 rw [e, hk] at h1
 cases h1
theorem Ct.later {n0 : Nat} {p : Pg} {c : CatP} {bs : Nat → Int} {w w' : World} (h : Ct n0 p c bs w) (b : Below w.heap.size w w') : Ct n0 p c bs w' :=
 ⟨(b.block _ (Qab h.box)).trans h.box, Qar.same _ _ _ _ _ h.prg b.size (fun q _ hl => b.block q hl), h.row.keep (b.block _ h.row.lt), h.mt.keep (b.block _ h.mt.lt), h.md.keep (b.block _ h.md.lt), h.mc.keep (b.block _ h.mc.lt), h.l0⟩
theorem Ct.kset {n0 : Nat} {p : Pg} {c : CatP} {bs : Nat → Int} {w : World} (h : Ct n0 p c bs w) {i : Nat} (hi : i < p.types.length + 3) (v : Int) : Ct n0 p c (updB bs i v) (w.setCell ⟨c.kb, i * 3 + 2, none⟩ (.int .i64 v)) := by
 obtain ⟨e1, e2, e3, e4⟩ := h.ne
 have o : ∀ q, q ≠ c.kb → (w.setCell ⟨c.kb, i * 3 + 2, none⟩ (.int .i64 v)).heap[q]? = w.heap[q]? := fun q hq => hpS hq
 exact ⟨(o _ e1).trans h.box, Qar.same _ _ _ _ _ h.prg (by simp) (fun q hq _ => o q (by have := h.l0.2.1; have hq' : q < n0 := hq; omega)), h.row.set hi v, h.mt.keep (o _ e2), h.md.keep (o _ e3), h.mc.keep (o _ e4), h.l0⟩
def StB (p : Pg) (V : List Nat) (bs : Nat → Int) : Prop := ∀ k, k < p.types.length + 3 → bs k = kBase p k ∨ (bs k = -1 ∧ kInit p k = -1 ∧ k ∉ V) ∨ (bs k = -2 ∧ k ∈ V)
def LeadV (p : Pg) (V : List Nat) (i : Nat) : Prop := ∀ v ∈ V, ∃ m, 0 < m ∧ (∀ j, j < m → kInit p (far p j v) = -1) ∧ far p m v = i
theorem Qhq (p : Pg) (k : Nat) : kSub p k < p.types.length + 3 := by
 unfold kSub
 split
 · omega
 cases p.types[k - 3]? with
 | none => simp
 | some t =>
  simp only [Option.map_some, Option.getD_some]
  unfold tyNo
  cases h : asc (tyRow p.types) t.sub with
  | none => simp
  | some n =>
   simp only [Option.getD_some]
   unfold asc at h
   rw [Option.map_eq_some_iff] at h
   obtain ⟨q, hq, rfl⟩ := h
   have hm := List.mem_of_find?_eq_some hq
   unfold tyRow at hm
   simp only [List.mem_cons, List.mem_map] at hm
   rcases hm with rfl | rfl | ⟨⟨x, j⟩, hx, rfl⟩
   · simp
   · simp
   have := List.snd_lt_of_mem_zipIdx hx
   simp only
   omega
theorem Qfz {n0 : Nat} {p : Pg} {c : CatP} {V : List Nat} {bs : Nat → Int} {w : World} {i : Nat} (hC : Ct n0 p c bs w) (hS : StB p V bs) (hL : LeadV p V i) (hi : i < p.types.length + 3) (hne : bs i ≠ -1) :
  Calls Try.prog 106 #[.pointer (some ⟨c.cb, 0, none⟩), .int .i64 (i : Int)] w fun en w' => en = .returned (.int .i64 (kBase p i)) ∧ Kp c.kb w w' ∧ ∃ bs', Ct n0 p c bs' w' ∧ StB p V bs' ∧ bs' i = kBase p i ∧ ∀ k, bs' k = -1 → bs k = -1 := by
 have hv : bs i = kBase p i := by
  rcases hS i hi with e | ⟨e, _⟩ | ⟨e, hm⟩
  · exact e
  · exact absurd e hne
  obtain ⟨m, h1, h2, h3⟩ := hL i hm
  rw [e, Qgv h1 h2 h3]
 obtain ⟨x_0, x_1, x_2, x_3, x_4, x_5, x_6, x_7, x_8, xf⟩ := cl9 hC.box
 obtain ⟨r0, r1, r2, rf⟩ := hC.row.cells hi
 rw [hv] at r2
 have hle := hC.row.le
 have hcm := hC.row.cm
 unfold maxLen at hcm
 obtain ⟨n, hn⟩ : ∃ n, p.types.length + 3 = n := ⟨_, rfl⟩
 have HE := hide (show Kp c.kb w w ∧ ∃ bs', Ct n0 p c bs' w ∧ StB p V bs' ∧ bs' i = kBase p i ∧ ∀ k, bs' k = -1 → bs k = -1 from ⟨Kp.refl _ _, bs, hC, hS, hv, fun _ h => h⟩)
 rw [hn] at x_5 hi hle
 obtain ⟨kv, hkv⟩ : ∃ kv, kBase p i = kv := ⟨_, rfl⟩
 rw [hkv] at r2 HE ⊢
 have g1 : (kv == -1) = false := beq_eq_false_iff_ne.2 (by rw [← hkv]; exact Qfb p i)
 clear hC hS hL hne hv hn hkv x_0 x_1 x_2 x_3 x_4 x_6 x_7 x_8
 go_enter Try.func106, Try.ntmps106
 go_wp2_with fail
 go_ret
 exact ⟨rfl, Qa HE⟩
theorem Qlp {n0 : Nat} {p : Pg} {c : CatP} : ∀ (N : Nat) (U V : List Nat) (bs : Nat → Int) (w : World) (i : Nat), U.length ≤ N → (∀ k, k < p.types.length + 3 → bs k = -1 → k ∈ U) → Ct n0 p c bs w → StB p V bs → LeadV p V i → i < p.types.length + 3 →
  Calls Try.prog 106 #[.pointer (some ⟨c.cb, 0, none⟩), .int .i64 (i : Int)] w fun en w' => en = .returned (.int .i64 (kBase p i)) ∧ Kp c.kb w w' ∧ ∃ bs', Ct n0 p c bs' w' ∧ StB p V bs' ∧ bs' i = kBase p i ∧ ∀ k, bs' k = -1 → bs k = -1 := by
 intro N
 induction N with
 | zero =>
  intro U V bs w i hN hU hC hS hL hi
  have hne : bs i ≠ -1 := fun e => by
   have := hU i hi e
   rw [List.length_eq_zero_iff.1 (Nat.le_zero.1 hN)] at this
   cases this
  exact Qfz hC hS hL hi hne
 | succ N ih =>
  intro U V bs w i hN hU hC hS hL hi
  by_cases hne : bs i = -1
  ·
   have hin : kInit p i = -1 ∧ i ∉ V := by
    rcases hS i hi with e | ⟨_, h1, h2⟩ | ⟨e, _⟩
    · exact absurd (e.symm.trans hne) (Qfb p i)
    · exact ⟨h1, h2⟩
    · omega
   obtain ⟨w1, hw1⟩ : ∃ w1, w1 = w.setCell ⟨c.kb, i * 3 + 2, none⟩ (.int .i64 (-2)) := ⟨_, rfl⟩
   have hC1 : Ct n0 p c (updB bs i (-2)) w1 := by rw [hw1]; exact hC.kset hi (-2)
   have k1 : Kp c.kb w w1 := by rw [hw1]; exact Kp.set _ _ _ _
   have hS1 : StB p (i :: V) (updB bs i (-2)) := fun k hk => by
    unfold updB
    by_cases e : k = i
    · subst e; rw [if_pos rfl]; exact .inr (.inr ⟨rfl, List.mem_cons_self ..⟩)
    rw [if_neg e]
    rcases hS k hk with h1 | ⟨h1, h2, h3⟩ | ⟨h1, h2⟩
    · exact .inl h1
    · exact .inr (.inl ⟨h1, h2, fun hm => (List.mem_cons.1 hm).elim e h3⟩)
    · exact .inr (.inr ⟨h1, List.mem_cons_of_mem _ h2⟩)
   have hL1 : LeadV p (i :: V) (kSub p i) := fun v hv => by
    rcases List.mem_cons.1 hv with rfl | hv
    · exact ⟨1, by omega, fun j hj => by rw [show j = 0 by omega]; exact hin.1, rfl⟩
    obtain ⟨m, h1, h2, h3⟩ := hL v hv
    refine ⟨m + 1, by omega, fun j hj => ?_, by rw [Qdm, h3]⟩
    by_cases e : j < m
    · exact h2 j e
    · rw [show j = m by omega, h3]; exact hin.1
   have hi1 := Qhq p i
   have hcl := ih (U.filter (fun k => decide (k ≠ i))) (i :: V) (updB bs i (-2)) w1 (kSub p i) (by
    have hm := hU i hi hne
    have : (U.filter (fun k => decide (k ≠ i))).length < U.length := by
     refine List.length_filter_lt_length_iff_exists.2 ⟨i, hm, by simp⟩
    omega) (fun k hk e => by
    unfold updB at e
    by_cases e2 : k = i
    · rw [if_pos e2] at e; omega
    rw [if_neg e2] at e
    exact List.mem_filter.2 ⟨hU k hk e, by simpa using e2⟩) hC1 hS1 hL1 hi1
   rw [← Qer hin.1] at hcl
   obtain ⟨x_0, x_1, x_2, x_3, x_4, x_5, x_6, x_7, x_8, xf⟩ := cl9 hC.box
   obtain ⟨r0, r1, r2, rf⟩ := hC.row.cells hi
   obtain ⟨q_0, q_1, q_2, q_3, q_4, q_5, q_6, q_7, q_8, qf⟩ := cl9 hC1.box
   obtain ⟨t0, t1, t2, tf⟩ := hC1.row.cells hi
   rw [hne] at r2
   have hle := hC.row.le
   have hcm := hC.row.cm
   unfold maxLen at hcm
   obtain ⟨n, hn⟩ : ∃ n, p.types.length + 3 = n := ⟨_, rfl⟩
   rw [hn] at x_5 q_5 hi hle
   have HH := hide (Ya hS (Ya hi (Ya k1 (Ya hin.2 hn))))
   have HW1 := hide hw1
   clear ih hN hU hC hS hL hne hin hw1 hC1 k1 hS1 hL1 hi1 hn x_0 x_1 x_2 x_3 x_4 x_6 x_7 x_8 q_0 q_1 q_2 q_3 q_4 q_6 q_7 q_8 t0
   go_enter Try.func106, Try.ntmps106
   go_upto_region 4 with fail
   rw [← Qa HW1]
   clear x_5 xf r0 r1 r2 rf
   go_wp2_with fail
   refine hcl.mono ?_
   clear hcl q_5 qf t1 t2 tf
   rintro en w2 ⟨rfl, k2, bs2, hC2, hS2, hb2, hm2⟩
   obtain ⟨hS, hi', k1, hnV, hn⟩ := Qa HH
   obtain ⟨r0, r1, r2, rf⟩ := hC2.row.cells (j := i) (by rw [hn]; exact hi')
   have hC3 := hC2.kset (i := i) (by rw [hn]; exact hi') (kBase p i)
   obtain ⟨w3, hw3⟩ : ∃ w3, w3 = w2.setCell ⟨c.kb, i * 3 + 2, none⟩ (.int .i64 (kBase p i)) := ⟨_, rfl⟩
   rw [← hw3] at hC3
   have k3 : Kp c.kb w2 w3 := by rw [hw3]; exact Kp.set _ _ _ _
   obtain ⟨t0, t1, t2, tf⟩ := hC3.row.cells (j := i) (by rw [hn]; exact hi')
   have e2 : updB bs2 i (kBase p i) i = kBase p i := if_pos rfl
   rw [e2] at t2
   have HE := hide (show Kp c.kb w w3 ∧ ∃ bs', Ct n0 p c bs' w3 ∧ StB p V bs' ∧ bs' i = kBase p i ∧ ∀ k, bs' k = -1 → bs k = -1 from ⟨(k1.trans k2).trans k3, _, hC3, fun k hk => by
    unfold updB
    by_cases e : k = i
    · rw [if_pos e, e]; exact .inl rfl
    ·
     rw [if_neg e]
     rcases hS2 k hk with h1 | ⟨h1, h2, h3⟩ | ⟨h1, h2⟩
     · exact .inl h1
     · exact .inr (.inl ⟨h1, h2, fun hm => h3 (List.mem_cons_of_mem _ hm)⟩)
     · exact .inr (.inr ⟨h1, (List.mem_cons.1 h2).resolve_left e⟩), e2, fun k hk => by
    unfold updB at hk
    by_cases e : k = i
    · rw [if_pos e] at hk; exact absurd hk (Qfb p i)
    rw [if_neg e] at hk
    have := hm2 k hk
    unfold updB at this
    rw [if_neg e] at this
    exact this⟩)
   have HW3 := hide hw3
   clear k2 hC2 hS2 hb2 hm2 hS hi' k1 hnV hn hC3 hw3 k3 e2 HH
   go_upto_region 5 with fail
   rw [← Qa HW3]
   clear r0 r1 r2 rf
   go_wp2_with fail
   go_ret
   exact ⟨rfl, Qa HE⟩
  · exact Qfz hC hS hL hi hne
end
section
open Go.RowKit Go.Maps
abbrev Cs (n0 : Nat) (p : Pg) (c : CatP) (w : World) : Prop := Ct n0 p c (kBase p) w
section
variable {n0 : Nat} {p : Pg} {c : CatP} {w : World}
theorem Cs.ty (h : Cs n0 p c w) (t : Txt) : (Instr.lookup 61 (.map (some c.mt)) (str t) false).run Try.prog w = .ok (.int .i64 (tyNo p t : Int)) w := by
 obtain ⟨ms, h1, h2⟩ := h.mt
 rw [Qef uS mI zI w c.mt ms t h1 false, h2 t]
 unfold tyNo
 cases asc (tyRow p.types) t <;> rfl
theorem Cs.dc (h : Cs n0 p c w) (t : Txt) : (Instr.lookup 61 (.map (some c.md)) (str t) true).run Try.prog w = .ok (.tuple #[.int .i64 (((asc (dcRow p.decls) t).getD 0 : Nat) : Int), .bool (asc (dcRow p.decls) t).isSome]) w := by
 obtain ⟨ms, h1, h2⟩ := h.md
 rw [Qef uS mI zI w c.md ms t h1 true, h2 t]
 cases asc (dcRow p.decls) t <;> rfl
theorem Qoq (p : Pg) (t : Txt) : tyNo p t < p.types.length + 3 := by
 have := Qhq (.mk (p.types ++ [⟨[], t, [], 0⟩]) [] [] [] []) (p.types.length + 3)
 unfold tyNo
 cases h : asc (tyRow p.types) t with
 | none => simp
 | some n =>
  simp only [Option.getD_some]
  unfold asc at h
  rw [Option.map_eq_some_iff] at h
  obtain ⟨q, hq, rfl⟩ := h
  have hm := List.mem_of_find?_eq_some hq
  unfold tyRow at hm
  simp only [List.mem_cons, List.mem_map] at hm
  rcases hm with rfl | rfl | ⟨⟨x, j⟩, hx, rfl⟩
  · simp
  · simp
  have := List.snd_lt_of_mem_zipIdx hx
  simp only
  omega
theorem Qiy (h : Cs n0 p c w) (t : Txt) :
  Calls Try.prog 111 #[.pointer (some ⟨c.cb, 0, none⟩), str t] w fun en w' => en = .returned (.bool (decide (tyNo p t ≠ 0))) ∧ w' = w := by
 have hl := h.ty t
 obtain ⟨x_0, x_1, x_2, x_3, x_4, x_5, x_6, x_7, x_8, xf⟩ := cl9 h.box
 clear h x_0 x_1 x_2 x_3 x_4 x_5 x_7 x_8
 go_enter Try.func111, Try.ntmps111
 go_wp2_with fail
 go_ret
 refine ⟨?_, rfl⟩
 by_cases e : tyNo p t = 0 <;> simp [e]
theorem Qpr (p : Pg) (k : Nat) (h : kInit p k ≠ -1) : ∃ m : Nat, kInit p k = (m : Int) ∧ m < p.types.length + 3 := by
 unfold kInit at h ⊢
 split at h
 ·
  rename_i hk
  rw [if_pos hk]
  exact ⟨k, rfl, by omega⟩
 rename_i hk
 rw [if_neg hk]
 split at h
 ·
  rename_i t ht
  split at h
  ·
   rename_i hs
   have := (List.getElem?_eq_some_iff.1 ht).1
   exact ⟨k, by simp [hs], by omega⟩
  · exact absurd rfl h
 · exact ⟨0, rfl, by omega⟩
theorem Qmy (p : Pg) (k : Nat) (h : kBase p k ≠ -2) : ∃ m : Nat, kBase p k = (m : Int) ∧ m < p.types.length + 3 := by
 obtain ⟨i, _, _, h3, h4⟩ := Qfx p _ _ _ rfl h
 obtain ⟨m, e, hm⟩ := Qpr p (far p i k) (by rw [h3]; exact h4)
 exact ⟨m, h3.symm.trans e, hm⟩
def bsV (o : Option Txt) : Value := .tuple #[str (o.getD []), .bool o.isSome]
theorem Qpg (h : Cs n0 p c w) (t : Txt) :
  Calls Try.prog 37 #[.pointer (some ⟨c.cb, 0, none⟩), str t] w fun en w' => en = .returned (bsV (baseP p t)) ∧ Below w.heap.size w w' := by
 have hl : ∀ w', Below w.heap.size w w' → (Instr.lookup 61 (.map (some c.mt)) (str t) false).run Try.prog w' = .ok (.int .i64 (tyNo p t : Int)) w' := fun w' b => Cs.ty (Ct.later h b) t
 obtain ⟨x_0, x_1, x_2, x_3, x_4, x_5, x_6, x_7, x_8, xf⟩ := cl9 h.box
 have hi := Qoq p t
 obtain ⟨r0, r1, r2, rf⟩ := h.row.cells hi
 have hle := h.row.le
 have hcm := h.row.cm
 unfold maxLen at hcm
 obtain ⟨o, ho⟩ : ∃ o, baseP p t = o := ⟨_, rfl⟩
 rw [ho]
 unfold baseP at ho
 obtain ⟨n, hn⟩ : ∃ n, p.types.length + 3 = n := ⟨_, rfl⟩
 obtain ⟨i, hii⟩ : ∃ i, tyNo p t = i := ⟨_, rfl⟩
 rw [hn] at x_5 hi hle
 rw [hii] at hi r0 r1 r2 ho
 have HO := hide ho
 clear ho
 simp only [hii] at hl
 have hl0 := hl w (Below.refl _ _)
 have hl1 := hl w.drew (Below.refl _ w).drew
 clear hl x_0 x_1 x_2 x_3 x_4 x_7 x_8
 go_enter Try.func37, Try.ntmps37
 go_wp2_with fail
 go_region
 obtain ⟨kv, hkv⟩ : ∃ kv, kBase p i = kv := ⟨_, rfl⟩
 rw [hkv]
 have HKV := hide hkv
 clear hkv
 by_cases e0 : kv = 0
 ·
  subst e0
  clear r0 r1 r2 rf hi
  go_wp2_with fail
  refine bodyPost_ret (v := .tuple #[.string ⟨#[]⟩, .bool false]) (by simp [results, Try.results37, go_sem]) rfl ?_
  exact ⟨by rw [← Qa HO, Qa HKV]; rfl, (Below.refl _ w).drew⟩
 have g0 : (kv == 0) = false := beq_eq_false_iff_ne.2 e0
 by_cases e2 : kv = -2
 ·
  subst e2
  clear r0 r1 r2 rf hi e0
  go_wp2_with fail
  refine bodyPost_ret (v := .tuple #[.string ⟨#[]⟩, .bool false]) (by simp [results, Try.results37, go_sem]) rfl ?_
  exact ⟨by rw [← Qa HO, Qa HKV]; rfl, (Below.refl _ w).drew⟩
 have g2 : (kv == -2) = false := beq_eq_false_iff_ne.2 e2
 have GB := hide (show hasB kv = true by simp [hasB, e0, e2])
 obtain ⟨m, hm, hml⟩ := Qmy p i (by rw [Qa HKV]; exact e2)
 rw [Qa HKV] at hm
 subst hm
 obtain ⟨r0, r1, r2, rf⟩ := h.row.cells hml
 rw [hn] at hml
 clear hn h r1 r2 hi e0 e2 hii
 go_wp2_with fail
 refine bodyPost_ret (v := .tuple #[str (kName p m), .bool true]) (by simp [results, Try.results37, go_sem]) rfl ?_
 exact ⟨by rw [← Qa HO, Qa HKV, Qa GB]; rfl, (Below.refl _ w).drew⟩
end
end
section
open Go.RowKit Go.Maps
theorem Qlf {p : Pg} {k : Nat} (hk : k < p.types.length + 3) (h : kInit p k ≠ -1) : kInit p k = (k : Int) := by
 unfold kInit at h ⊢
 split
 · rfl
 rename_i h3
 rw [if_neg h3] at h
 have hl : k - 3 < p.types.length := by omega
 rw [List.getElem?_eq_getElem hl] at h ⊢
 simp only at h ⊢
 split
 · rfl
 rename_i hs
 rw [if_neg hs] at h
 exact absurd rfl h
theorem Qqv (p : Pg) : ∀ m k, k < p.types.length + 3 → far p m k < p.types.length + 3
 | 0, _, h => h
 | m + 1, k, _ => Qqv p m (kSub p k) (Qhq p k)
def hgt (p : Pg) : Nat → Nat → Nat
 | 0, _ => 0
 | f + 1, k => if kInit p k = -1 then hgt p f (kSub p k) + 1 else 0
theorem Qki (p : Pg) : ∀ f k, root p f k ≠ -2 → hgt p (f + 1) k = hgt p f k
 | 0, _, h => absurd rfl h
 | f + 1, k, h => by
  unfold root at h
  unfold hgt
  by_cases e : kInit p k = -1
  ·
   rw [if_pos e] at h
   rw [if_pos e, if_pos e, Qki p f _ h]
  · rw [if_neg e, if_neg e]
theorem hgt_lt {p : Pg} {k : Nat} (h : kInit p k = -1) (hb : kBase p k ≠ -2) : hgt p (p.types.length + 1) (kSub p k) < hgt p (p.types.length + 1) k := by
 have h2 : root p p.types.length (kSub p k) ≠ -2 := by
  unfold kBase root at hb
  rw [if_pos h] at hb
  exact hb
 rw [Qki p _ _ h2]
 rw [show hgt p (p.types.length + 1) k = if kInit p k = -1 then hgt p p.types.length (kSub p k) + 1 else 0 from rfl, if_pos h]
 omega
def hgtV (p : Pg) : Value → Nat
 | .int _ x => hgt p (p.types.length + 1) x.toNat
 | _ => 0
section
variable {n0 : Nat} {p : Pg} {c : CatP} {w : World}
theorem Qea (h : Cs n0 p c w) (a b : Txt) :
  Calls Try.prog 39 #[.pointer (some ⟨c.cb, 0, none⟩), str a, str b] w fun en w' => en = .returned (.bool (belowP p a b)) ∧ Below w.heap.size w w' := by
 have hl0 := Cs.ty h a
 have hl1 := Cs.ty h b
 have hl2 := Cs.ty (Ct.later h (Below.refl _ w).drew) a
 have hl3 := Cs.ty (Ct.later h (Below.refl _ w).drew) b
 have HR := hide (show ∀ k, k < p.types.length + 3 → w.drew.cell? ⟨c.kb, k * 3 + 1, none⟩ = some (.int .i64 (kSub p k : Int)) ∧ w.drew.cell? ⟨c.kb, k * 3 + 2, none⟩ = some (.int .i64 (kBase p k)) from fun k hk => ⟨(h.row.cells hk).2.1, (h.row.cells hk).2.2.1⟩)
 obtain ⟨x_0, x_1, x_2, x_3, x_4, x_5, x_6, x_7, x_8, xf⟩ := cl9 h.box
 have hi := Qoq p a
 have hle := h.row.le
 have hcm := h.row.cm
 unfold maxLen at hcm
 obtain ⟨o, ho⟩ : ∃ o, belowP p a b = o := ⟨_, rfl⟩
 rw [ho]
 unfold belowP at ho
 obtain ⟨n, hn⟩ : ∃ n, p.types.length + 3 = n := ⟨_, rfl⟩
 obtain ⟨i, hii⟩ : ∃ i, tyNo p a = i := ⟨_, rfl⟩
 obtain ⟨tb, hto⟩ : ∃ tb, tyNo p b = tb := ⟨_, rfl⟩
 rw [hii] at hl0 hl2 ho hi
 rw [hto] at hl1 hl3 ho
 obtain ⟨r1, r2⟩ := Qa HR i hi
 rw [hn] at x_5 hi hle
 obtain ⟨kv, hkv⟩ : ∃ kv, kBase p i = kv := ⟨_, rfl⟩
 rw [hkv] at r2 ho
 have HO := hide (Ya ho (Ya hkv hn))
 clear ho hkv hii hto x_0 x_1 x_2 x_3 x_4 x_7 x_8
 have hn' := hide hn
 clear hn
 go_enter Try.func39, Try.ntmps39
 go_wp2_with fail
 go_region
 clear hl0 hl1 hl2 hl3 x_6
 by_cases e0 : kv = 0
 ·
  subst e0
  go_wp2_with fail
  go_ret
  exact ⟨by rw [← (Qa HO).1]; rfl, (Below.refl _ w).drew⟩
 have g0 : (kv == 0) = false := beq_eq_false_iff_ne.2 e0
 by_cases e2 : kv = -2
 ·
  subst e2
  clear e0
  go_wp2_with fail
  go_ret
  exact ⟨by rw [← (Qa HO).1]; rfl, (Below.refl _ w).drew⟩
 have g2 : (kv == -2) = false := beq_eq_false_iff_ne.2 e2
 obtain ⟨I, hI, hj, hk, hm1⟩ := Qfx p _ _ _ (Qa HO).2.1 e2
 have hfl : far p I i < p.types.length + 3 := Qqv p I i (by rw [Qa hn']; exact hi)
 have ekv : kv = (far p I i : Int) := hk.symm.trans (Qlf hfl (by rw [hk]; exact hm1))
 obtain ⟨bn, hbn⟩ : ∃ bn, far p I i = bn := ⟨_, rfl⟩
 rw [hbn] at ekv
 subst ekv
 have e0' : ¬ bn = 0 := by omega
 have HB := hide (Ya (show hasB (bn : Int) = true by simp [hasB, e0', e2]) (Ya hbn (Ya hI (Ya hj (show kBase p i ≠ -2 by rw [(Qa HO).2.1]; omega)))))
 clear e0 e0' e2 hI hj hk hm1 hfl hbn
 go_wp2_with fail
 go_loopw [7] (fun v wr => ∃ (k m : Nat), v = .int .i64 (k : Int) ∧ wr = w.drew ∧ k < n ∧ Hid (m ≤ I ∧ far p m i = k ∧ o = upTo p tb bn (p.types.length + 1 - m) k ∧ kBase p k ≠ -2)) (fun v _ => hgtV p v)
 case atStart => exact ⟨i, 0, rfl, rfl, hi, hide ⟨Nat.zero_le _, rfl, by rw [← (Qa HO).1, (Qa HB).1]; rfl, (Qa HB).2.2.2.2⟩⟩
 obtain ⟨k, m, rfl, rfl, hkn, HK⟩ := hrel
 obtain ⟨r3, r4⟩ := Qa HR k (by rw [Qa hn']; exact hkn)
 by_cases ht : k = tb
 ·
  subst ht
  go_wp2_with fail
  go_ret
  refine ⟨?_, (Below.refl _ w).drew⟩
  obtain ⟨h1, _, h3, _⟩ := Qa HK
  rw [h3, show p.types.length + 1 - m = p.types.length - m + 1 by have := (Qa HB).2.2.1; omega]
  simp [upTo]
 have g1 : ((k : Int) == (tb : Int)) = false := beq_eq_false_iff_ne.2 (by omega)
 have g1' : ((k : Int) != (tb : Int)) = true := by simp; omega
 by_cases hb : k = bn
 ·
  subst hb
  go_wp2_with fail
  go_ret
  refine ⟨?_, (Below.refl _ w).drew⟩
  obtain ⟨h1, _, h3, _⟩ := Qa HK
  rw [h3, show p.types.length + 1 - m = p.types.length - m + 1 by have := (Qa HB).2.2.1; omega]
  simp [upTo, ht]
 have g3 : ((k : Int) != (bn : Int)) = true := by simp; omega
 have hsl := Qhq p k
 rw [Qa hn'] at hsl
 obtain ⟨ks, hks⟩ : ∃ ks, kSub p k = ks := ⟨_, rfl⟩
 rw [hks] at r3 hsl
 have HKS := hide hks
 have HTB := hide (Ya ht hb)
 clear hks ht hb g1
 go_wp2_with fail
 have hmI : m < I := by
  obtain ⟨h1, h2, _⟩ := Qa HK
  have h4 := (Qa HB).2.1
  by_cases e : m = I
  ·
   rw [e, h4] at h2
   exact absurd h2.symm (Qa HTB).2
  · omega
 have hik : kInit p k = -1 := by rw [← (Qa HK).2.1]; exact (Qa HB).2.2.2.1 m hmI
 go_roundw
 case rel =>
  obtain ⟨h1, h2, h3, h4⟩ := Qa HK
  refine ⟨ks, m + 1, rfl, trivial, hsl, hide ⟨hmI, by rw [Qdm, h2, Qa HKS], ?_, by rw [← Qa HKS, ← Qer hik]; exact h4⟩⟩
  have h5 := (Qa HB).2.2.1
  rw [h3, show p.types.length + 1 - m = p.types.length - m + 1 by omega, show p.types.length + 1 - (m + 1) = p.types.length - m by omega]
  have h6 : ¬ ((k : Int) = (bn : Int)) := by have := (Qa HTB).2; omega
  simp [upTo, (Qa HTB).1, h6, Qa HKS]
 have := hgt_lt hik (Qa HK).2.2.2
 rw [Qa HKS] at this
 simpa [hgtV] using this
end
end
section
open Go.RowKit Go.Maps
structure Sc (b : Nat) (T : TypeId) (cs : Array Value) (w W : World) : Prop where
 box : W.heap[b]? = some (.cells cs T (0, 0))
 size : W.heap.size = w.heap.size
 oth : ∀ q, q ≠ b → W.heap[q]? = w.heap[q]?
 os : W.os = w.os
 tape : W.tape = w.tape
 output : W.output = w.output
theorem Sc.below {b : Nat} {T : TypeId} {cs : Array Value} {w W w0 : World} {B : Nat} (h : Sc b T cs w W) (hB : Below B w0 w) (hb : B ≤ b) : Below B w0 W :=
 ⟨h.os.trans hB.os, h.tape.trans hB.tape, h.output.trans hB.output, by rw [h.size]; exact hB.size, fun q hq => (h.oth q (by omega)).trans (hB.block q hq)⟩
theorem sc2 {w : World} {b : Nat} {T : TypeId} {u0 u1 : Value} (n : w.heap[b]? = some (.cells #[u0, u1] T (0, 0))) (v0 v1 : Value) : ∃ W, W = ((w.setCell ⟨b, 0, none⟩ v0).setCell ⟨b, 1, none⟩ v1) ∧ Sc b T #[v0, v1] w W :=
 ⟨_, rfl, (Qah (Qah n 0 _) 1 _).trans (by simp), by simp, fun q hq => by rw [hpS hq, hpS hq], rfl, rfl, rfl⟩
theorem sc4 {w : World} {b : Nat} {T : TypeId} {u0 u1 u2 u3 : Value} (n : w.heap[b]? = some (.cells #[u0, u1, u2, u3] T (0, 0))) (v0 v1 v2 v3 : Value) : ∃ W, W = ((((w.setCell ⟨b, 0, none⟩ v0).setCell ⟨b, 1, none⟩ v1).setCell ⟨b, 2, none⟩ v2).setCell ⟨b, 3, none⟩ v3) ∧ Sc b T #[v0, v1, v2, v3] w W :=
 ⟨_, rfl, (Qah (Qah (Qah (Qah n 0 _) 1 _) 2 _) 3 _).trans (by simp), by simp, fun q hq => by rw [hpS hq, hpS hq, hpS hq, hpS hq], rfl, rfl, rfl⟩
theorem sc5 {w : World} {b : Nat} {T : TypeId} {u0 u1 u2 u3 u4 : Value} (n : w.heap[b]? = some (.cells #[u0, u1, u2, u3, u4] T (0, 0))) (v0 v1 v2 v3 v4 : Value) : ∃ W, W = (((((w.setCell ⟨b, 0, none⟩ v0).setCell ⟨b, 1, none⟩ v1).setCell ⟨b, 2, none⟩ v2).setCell ⟨b, 3, none⟩ v3).setCell ⟨b, 4, none⟩ v4) ∧ Sc b T #[v0, v1, v2, v3, v4] w W :=
 ⟨_, rfl, (Qah (Qah (Qah (Qah (Qah n 0 _) 1 _) 2 _) 3 _) 4 _).trans (by simp), by simp, fun q hq => by rw [hpS hq, hpS hq, hpS hq, hpS hq, hpS hq], rfl, rfl, rfl⟩
end
section
open Go.RowKit Go.Maps
theorem asc_mem {α : Type} {l : List (Txt × α)} {t : Txt} {v : α} (h : asc l t = some v) : (t, v) ∈ l := by
 unfold asc at h
 rw [Option.map_eq_some_iff] at h
 obtain ⟨q, hq, rfl⟩ := h
 have h1 := List.mem_of_find?_eq_some hq
 have h2 := List.find?_some hq
 simp only [decide_eq_true_eq] at h2
 rw [← h2]
 exact h1
theorem asc_dc {ds : List Dcl} {t : Txt} {i : Nat} (h : asc (dcRow ds) t = some i) : ∃ d, ds[i]? = some d ∧ d.name = t := by
 have := asc_mem h
 unfold dcRow at this
 obtain ⟨⟨x, j⟩, hx, e⟩ := List.mem_map.1 this
 simp only [Prod.mk.injEq] at e
 obtain ⟨e1, e2⟩ := e
 subst e2
 have h2 := List.mem_zipIdx hx
 exact ⟨x, by rw [List.getElem?_eq_getElem (by omega)]; simp [h2.2.2], e1⟩
theorem LsAt.cap {α : Type} {p : PS α} {k : Nat} {S : Nat → Prop} {w : World} {v : Value} {xs : List α} (h : LsAt p k S w v xs) {a : Option Addr} {n c : Nat} (e : v = .slice a n c) : n ≤ c ∧ c ≤ 9223372036854775807 := by
 obtain ⟨a', c', css, rfl, h1, h2, _⟩ := h
 cases e
 unfold maxLen at h2
 exact ⟨h1, h2⟩
def DcA (S : Nat → Prop) (w : World) (o : Option Dcl) (v : Value) : Prop := match o with
 | none => v = .tuple #[.agg #[.string ⟨#[]⟩, .slice none 0 0, .bool false, .bool false, .int .i64 0], .bool false]
 | some d => ∃ xa xc, v = .tuple #[.agg #[str d.name, .slice xa d.cols.length xc, .bool d.input, .bool d.output, .int .i64 d.at_], .bool true] ∧ LsAt PF 2 S w (.slice xa d.cols.length xc) d.cols
section
variable {n0 : Nat} {p : Pg} {c : CatP} {w : World}
theorem Qfk (h : Cs n0 p c w) (t : Txt) :
  Calls Try.prog 107 #[.pointer (some ⟨c.cb, 0, none⟩), str t] w fun en w' => ∃ v, en = .returned v ∧ DcA (fun b => b < n0) w' (declP2 p t) v ∧ Below w.heap.size w w' := by
 obtain ⟨w1, hw1⟩ : ∃ w1, w1 = w.alloc (.cells #[.string ⟨#[]⟩, .slice none 0 0, .bool false, .bool false, .int .i64 0] 43) := ⟨_, rfl⟩
 have b1 := bnw hw1
 have n1 := nnw hw1
 have s1 : w1.heap.size = w.heap.size + 1 := by rw [hw1]; simp
 have h1 := Ct.later h b1
 have hl := Cs.dc h1 t
 obtain ⟨x_0, x_1, x_2, x_3, x_4, x_5, x_6, x_7, x_8, xf⟩ := cl9 h1.box
 obtain ⟨vt, vd, vc, vi, vl, ev, _, hD, _⟩ := PgS.cells h1.prg
 obtain ⟨_, e1, _⟩ := list5 ev
 subst e1
 obtain ⟨y_0, y_1, y_2, y_3, y_4, yf⟩ := cl5 n1
 have HW1 := hide hw1
 obtain ⟨o, ho⟩ : ∃ o, declP2 p t = o := ⟨_, rfl⟩
 rw [ho]
 unfold declP2 at ho
 cases hq : asc (dcRow p.decls) t with
 | none =>
  rw [hq] at hl ho
  simp only [Option.getD_none, Option.isSome_none] at hl
  obtain ⟨W, hW, sc⟩ := sc5 n1 (.string ⟨#[]⟩) (.slice none 0 0) (.bool false) (.bool false) (.int .i64 0)
  have HB := hide (Ya (sc.below b1 (Nat.le_refl _)) (Ya sc.box ho))
  have HW := hide hW
  clear hw1 b1 n1 s1 h h1 ev hD hq ho hW sc x_0 x_1 x_2 x_3 x_4 x_5 x_6 x_8
  go_enter Try.func107, Try.ntmps107
  go_upto_region 1 with fail
  rw [← Qa HW1]
  go_wp2_with fail
  rw [← Qa HW]
  obtain ⟨u_0, u_1, u_2, u_3, u_4, uf⟩ := cl5 (Qa HB).2.1
  refine bodyPost_ret (v := .tuple #[.agg #[.string ⟨#[]⟩, .slice none 0 0, .bool false, .bool false, .int .i64 0], .bool false]) (by simp [results, Try.results107, go_sem, u_0, u_1, u_2, u_3, u_4]) rfl ?_
  exact ⟨_, rfl, by rw [← (Qa HB).2.2]; rfl, (Qa HB).1⟩
 | some i =>
  rw [hq] at hl ho
  simp only [Option.getD_some, Option.isSome_some] at hl
  obtain ⟨d, hd, hdn⟩ := asc_dc hq
  clear hdn
  have ho2 : o = some d := by rw [← ho]; exact hd
  obtain ⟨b, cap, cs, ec, hbl, hbS, hcl, ⟨xa, xn, xc, rfl, hcols⟩, hce⟩ := hD.elem hd
  obtain ⟨ca, cc, ecs⟩ := hcols.sl
  cases ecs
  obtain ⟨z_0, z_1, z_2, z_3, z_4⟩ := cs5 hce
  have hid := (List.getElem?_eq_some_iff.1 hd).1
  have hcap := hD.cap ec
  rw [ec] at x_1
  obtain ⟨W, hW, sc⟩ := sc5 n1 (str d.name) (.slice xa d.cols.length xc) (.bool d.input) (.bool d.output) (.int .i64 d.at_)
  have hc2 := hcols.same Qaz (w' := W) (by rw [sc.size]; exact Nat.le_refl _) (fun q hq _ => sc.oth q (by have hq' : q < n0 := hq; have := h.l0.1; have := Qab h.box; omega))
  have HB := hide (Ya (sc.below b1 (Nat.le_refl _)) (Ya sc.box (Ya ho2 hc2)))
  have HW := hide hW
  obtain ⟨nd, hnd⟩ : ∃ nd, p.decls.length = nd := ⟨_, rfl⟩
  rw [hnd] at x_1 hid hcap
  clear hw1 b1 n1 s1 h h1 ev hD hq ho hd ho2 hbl hbS hcl hcols hce hc2 ec hnd hW sc x_0 x_2 x_3 x_4 x_5 x_6 x_8
  go_enter Try.func107, Try.ntmps107
  go_upto_region 1 with fail
  rw [← Qa HW1]
  go_wp2_with fail
  rw [← Qa HW]
  obtain ⟨u_0, u_1, u_2, u_3, u_4, uf⟩ := cl5 (Qa HB).2.1
  refine bodyPost_ret (v := .tuple #[.agg #[str d.name, .slice xa d.cols.length xc, .bool d.input, .bool d.output, .int .i64 d.at_], .bool true]) (by simp [results, Try.results107, go_sem, u_0, u_1, u_2, u_3, u_4]) rfl ?_
  exact ⟨_, rfl, by rw [(Qa HB).2.2.1]; exact ⟨xa, xc, rfl, (Qa HB).2.2.2⟩, (Qa HB).1⟩
end
end
section
open Go.RowKit Go.Maps
def fnV (f : Nat) (cb : Nat) : Value := .func (.func f) #[.pointer (some ⟨cb, 0, none⟩)] #[]
def fdCells (vs : List Fld) : List Value := vs.flatMap fun v => [str v.name, str v.type]
def vRow (vs : List Fld) : List (Txt × Nat) := vs.zipIdx.map fun q => (q.1.name, q.2)
structure Wk (n0 n1 : Nat) (p : Pg) (c : CatP) (wb mb : Nat) (sl : Value) (vs : List Fld) (w : World) : Prop where
 cat : Cs n0 p c w
 box : w.heap[wb]? = some (.cells #[fnV 37 c.cb, fnV 39 c.cb, fnV 107 c.cb, fnV 108 c.cb, sl, .map (some mb)] 183 (0, 0))
 row : w.ownsRow n1 103 2 sl vs.length (fdCells vs)
 map : MpF nOf w mb (vRow vs)
 lo : n0 ≤ n1 ∧ c.cb < n1 ∧ c.kb < n1 ∧ c.mt < n1 ∧ c.md < n1 ∧ c.mc < n1 ∧ n1 ≤ wb ∧ n1 ≤ mb
 nd : (vs.map (·.name)).Nodup
structure Kw (wb mb : Nat) (sl sl' : Value) (w w' : World) : Prop where
 os : w'.os = w.os
 tape : w'.tape = w.tape
 output : w'.output = w.output
 size : w.heap.size ≤ w'.heap.size
 block : ∀ b, b < w.heap.size → b ≠ wb → b ≠ mb → some b ≠ sl.ownBlock → w'.heap[b]? = w.heap[b]?
 own : sl'.ownBlock = sl.ownBlock ∨ ∃ g, sl'.ownBlock = some g ∧ w.heap.size ≤ g
theorem Kw.of_below {wb mb : Nat} {sl : Value} {w w' : World} (h : Below w.heap.size w w') : Kw wb mb sl sl w w' := ⟨h.os, h.tape, h.output, h.size, fun b hb _ _ _ => h.block b hb, .inl rfl⟩
theorem Kw.trans {wb mb : Nat} {s1 s2 s3 : Value} {a b c : World} (h : Kw wb mb s1 s2 a b) (k : Kw wb mb s2 s3 b c) : Kw wb mb s1 s3 a c :=
 ⟨k.os.trans h.os, k.tape.trans h.tape, k.output.trans h.output, Nat.le_trans h.size k.size, fun q hq h1 h2 h3 => by
  rw [k.block q (by have := h.size; omega) h1 h2 (fun e => by
   rcases h.own with e2 | ⟨g, e2, e3⟩
   · exact h3 (e.trans e2)
   · rw [e2] at e; cases e; omega), h.block q hq h1 h2 h3], by
  rcases k.own with e | ⟨g, e, hg⟩
  · rw [e]; exact h.own
  · exact .inr ⟨g, e, by have := h.size; omega⟩⟩
section
variable {n0 n1 : Nat} {p : Pg} {c : CatP} {wb mb : Nat} {sl sl' : Value} {vs : List Fld} {w w' : World}
theorem Wk.later (h : Wk n0 n1 p c wb mb sl vs w) (b : Below w.heap.size w w') : Wk n0 n1 p c wb mb sl vs w' :=
 ⟨Ct.later h.cat b, (b.block _ (Qab h.box)).trans h.box, by
  refine ⟨h.row.1, ?_⟩
  rcases h.row.2 with e | ⟨g, cap, cur, e1, e2, e3, e4⟩
  · exact .inl e
  · exact .inr ⟨g, cap, cur, e1, e2, (b.block _ (Qab e3)).trans e3, e4⟩, h.map.keep (b.block _ h.map.lt), h.lo, h.nd⟩
def Wk.off (_ : Wk n0 n1 p c wb mb sl vs w) (b : Nat) : Prop := b ≠ wb ∧ b ≠ mb ∧ some b ≠ sl.ownBlock
theorem Wk.new (h : Wk n0 n1 p c wb mb sl vs w) {b : Nat} (hb : w.heap.size ≤ b) : b ≠ wb ∧ b ≠ mb ∧ some b ≠ sl.ownBlock :=
 ⟨by have := Qab h.box; omega, by have := h.map.lt; omega, fun e => by have := (World.ownsRow.lt h.row b e.symm).2; omega⟩
theorem Wk.low (h : Wk n0 n1 p c wb mb sl vs w) {b : Nat} (hb : b < n0) : b ≠ wb ∧ b ≠ mb ∧ some b ≠ sl.ownBlock :=
 ⟨by have := h.lo; omega, by have := h.lo; omega, fun e => by have := (World.ownsRow.lt h.row b e.symm).1; have := h.lo; omega⟩
theorem Kw.keep (k : Kw wb mb sl sl' w w') {b : Nat} {o : Obj} (hb : w.heap[b]? = some o) (hn : b ≠ wb ∧ b ≠ mb ∧ some b ≠ sl.ownBlock) : w'.heap[b]? = some o := (k.block b (Qab hb) hn.1 hn.2.1 hn.2.2).trans hb
theorem Wk.lookV (h : Wk n0 n1 p c wb mb sl vs w) (t : Txt) (b : Bool) : (Instr.lookup 61 (.map (some mb)) (str t) b).run Try.prog w = .ok (if b then .tuple #[.int .i64 (((asc (vRow vs) t).getD 0 : Nat) : Int), .bool (asc (vRow vs) t).isSome] else .int .i64 (((asc (vRow vs) t).getD 0 : Nat) : Int)) w := by
 obtain ⟨ms, h1, h2⟩ := h.map
 rw [Qef uS mI zI w mb ms t h1 b, h2 t]
 cases asc (vRow vs) t <;> rfl
end
theorem Qky : ∀ (vs : List Fld) (k : Nat) (t : Txt), (asc (vs.zipIdx k |>.map fun q => (q.1.name, q.2)) t).isSome = (typV vs t).isSome
 | [], _, _ => rfl
 | v :: vs, k, t => by
  have ih := Qky vs (k + 1) t
  unfold asc typV at ih ⊢
  simp only [List.zipIdx_cons, List.map_cons, List.find?_cons]
  by_cases e : v.name = t
  · simp [e]
  · simpa [e] using ih
theorem Qe (vs : List Fld) (t : Txt) : (asc (vRow vs) t).isSome = (typV vs t).isSome := Qky vs 0 t
def ftV (f : Flt) : Value := .agg #[.int .i64 f.1, .int .i64 f.2]
theorem Qgf (w : World) (y : Int) (k n : Int) (s : Txt) (v : Value) (hv : ∃ a n c, v = .slice a n c) (at_ : Int) :
  Calls Try.prog 137 #[.int .i64 y, .agg #[.int .i64 k, .int .i64 n, str s, v, .int .i64 at_]] w fun en w' => en = .returned (.agg #[.int .i64 y, .int .i64 at_]) ∧ Below w.heap.size w w' := by
 obtain ⟨va, vn, vc, rfl⟩ := hv
 obtain ⟨w2, hw2⟩ : ∃ w2, w2 = (w.alloc (.cells #[.int .i64 k, .int .i64 n, str s, .slice va vn vc, .int .i64 at_] 126)).alloc (.cells #[.int .i64 y, .int .i64 at_] 31) := ⟨_, rfl⟩
 have n2 : w2.heap[w.heap.size + 1]? = some (.cells #[.int .i64 y, .int .i64 at_] 31 (0, 0)) := by
  rw [hw2]
  have := heap_alloc_new (w.alloc (.cells #[.int .i64 k, .int .i64 n, str s, .slice va vn vc, .int .i64 at_] 126)) (.cells #[.int .i64 y, .int .i64 at_] 31)
  simpa using this
 have b2 : Below w.heap.size w w2 := by rw [hw2]; exact ((Below.refl _ w).alloc (Nat.le_refl _) _).alloc (by simp) _
 obtain ⟨x_0, x_1, xf⟩ := cl2 n2
 have HW := hide hw2
 clear hw2 n2
 go_enter Try.func137, Try.ntmps137
 go_wp2_with fail
 rw [← Qa HW]
 refine bodyPost_ret (v := .agg #[.int .i64 y, .int .i64 at_]) (by simp [results, Try.results137, go_sem, x_0, x_1]) rfl ?_
 exact ⟨rfl, b2⟩
section
variable {n0 n1 : Nat} {p : Pg} {c : CatP} {wb mb : Nat} {sl : Value} {vs : List Fld} {w : World}
theorem Qfc (h : Wk n0 n1 p c wb mb sl vs w) (x : Ex) (xv : Value) (hv : ∃ a n c, xv = .slice a n c) :
  Calls Try.prog 145 #[.pointer (some ⟨wb, 0, none⟩), .agg #[.int .i64 x.kind, .int .i64 x.num, str x.txt, xv, .int .i64 x.at_]] w fun en w' => en = .returned (.bool (openP vs x)) ∧ Below w.heap.size w w' := by
 obtain ⟨va, vn, vc, rfl⟩ := hv
 obtain ⟨w1, hw1⟩ : ∃ w1, w1 = w.alloc (.cells #[.int .i64 x.kind, .int .i64 x.num, str x.txt, .slice va vn vc, .int .i64 x.at_] 126) := ⟨_, rfl⟩
 have b1 := bnw hw1
 have n1' := nnw hw1
 have h1 := h.later b1
 have hl0 := h1.lookV x.txt true
 have hl1 := (h1.later (Below.refl _ w1).drew).lookV x.txt true
 rw [if_pos rfl, Qe] at hl0 hl1
 obtain ⟨x_0, x_1, x_2, x_3, x_4, x_5, xf⟩ := cl6 h1.box
 obtain ⟨y_0, y_1, y_2, y_3, y_4, yf⟩ := cl5 n1'
 obtain ⟨r, hr⟩ : ∃ r, openP vs x = r := ⟨_, rfl⟩
 rw [hr]
 unfold openP at hr
 obtain ⟨iS, hi⟩ : ∃ u, (typV vs x.txt).isSome = u := ⟨_, rfl⟩
 rw [hi] at hl0 hl1
 have HR := hide (Ya hr hi)
 have HW := hide hw1
 have HB := hide b1
 clear h h1 hw1 b1 n1' hr hi x_0 x_1 x_2 x_3 x_4
 go_enter Try.func145, Try.ntmps145
 go_upto_region 1 with fail
 rw [← Qa HW]
 go_region
 by_cases e : x.kind = 1
 ·
  have g1 : (x.kind == 1) = true := beq_iff_eq.2 e
  have E := hide e
  clear e
  go_wp2_with fail
  go_ret
  refine ⟨?_, (Qa HB).drew⟩
  obtain ⟨h1, h2⟩ := Qa HR
  rw [← h1, ← h2, Qa E]
  cases typV vs x.txt <;> rfl
 have g1 : (x.kind == 1) = false := beq_eq_false_iff_ne.2 e
 have E := hide e
 clear e
 go_wp2_with fail
 go_ret
 refine ⟨?_, (Qa HB).drew⟩
 obtain ⟨h1, h2⟩ := Qa HR
 rw [← h1, decide_eq_false (Qa E)]
 rfl
end
end
end Go.Proofs.Ytfmbpaoapjmdnaa
