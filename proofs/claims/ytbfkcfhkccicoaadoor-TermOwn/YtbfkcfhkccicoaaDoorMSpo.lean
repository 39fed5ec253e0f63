/- The law's spoil: values that are written over. The law's copied: a value made anew. -/
import Derived.Test.YtbfkcfhkccicoaaDoorMBack
import Derived.Test.YtbfkcfhkccicoaaDoorMix
namespace Go.Proofs.YtbfkcfhkccicoaaDoor
open Go.RowKit Go.Maps

/-- What is written over a value. -/
def gone : V := .mk 77 0 ⟨#[]⟩ .none 0 0 fun _ => .none
/-- Args that may be gone over and written, d deep, in blocks of P. -/
def Sf (P : Nat → Prop) (w : World) : Nat → Option Addr → Nat → Prop
  | 0, _, n => n = 0
  | d + 1, a, n => n = 0 ∨ ∃ b cur, a = some ⟨b, 0, none⟩ ∧ P b ∧ w.heap[b]? = some (.cells cur 32 (0, 0)) ∧ ∀ i, i < n → ∃ u : V, CellsAt w b (i * 4) u ∧ Sf P w d u.addr u.len ∧ u.len ≤ 9223372036854775807
theorem Sf.zero {P : Nat → Prop} {w : World} : ∀ (d : Nat) (a : Option Addr), Sf P w d a 0
  | 0, _ => rfl
  | _ + 1, _ => .inl rfl
theorem Sf.deeper {P : Nat → Prop} {w : World} : ∀ (d e : Nat) (a : Option Addr) (n : Nat), d ≤ e → Sf P w d a n → Sf P w e a n
  | 0, e, a, n, _, h => by
    have h' : n = 0 := h
    rw [h']; exact Sf.zero e a
  | d + 1, 0, _, _, h, _ => by omega
  | d + 1, e + 1, a, n, hde, h => by
    rcases h with h | ⟨b, cur, h1, h2, h3, h4⟩
    · exact .inl h
    · refine .inr ⟨b, cur, h1, h2, h3, fun i hi => ?_⟩
      obtain ⟨u, g1, g2, g3⟩ := h4 i hi
      exact ⟨u, g1, Sf.deeper d e _ _ (by omega) g2, g3⟩
/-- Nothing has turned but values, of blocks of P, that are gone. -/
structure Zr (P : Nat → Prop) (w w' : World) : Prop where
  turn : Turn P w w'
  quad : ∀ b cur, P b → w.heap[b]? = some (.cells cur 32 (0, 0)) → (∃ cur', w'.heap[b]? = some (.cells cur' 32 (0, 0))) ∧ ∀ i u, CellsAt w b (i * 4) u → CellsAt w' b (i * 4) u ∨ CellsAt w' b (i * 4) gone
theorem Zr.below {P : Nat → Prop} {w w' : World} (h : Below w.heap.size w w') : Zr P w w' := ⟨Turn.of_below h, fun b cur _ hb => by
  have hl := (Array.getElem?_eq_some_iff.1 hb).1
  exact ⟨⟨cur, (h.block b hl).trans hb⟩, fun i u hu => .inl (hu.below h hl)⟩⟩
theorem Zr.refl (P : Nat → Prop) (w : World) : Zr P w w := Zr.below (Below.refl _ w)
theorem Zr.trans {P : Nat → Prop} {a b c : World} (h : Zr P a b) (k : Zr P b c) : Zr P a c := ⟨h.turn.trans k.turn (fun _ _ e => e), fun x cur hx hb => by
  obtain ⟨⟨cur1, g1⟩, g2⟩ := h.quad x cur hx hb
  obtain ⟨g3, g4⟩ := k.quad x cur1 hx g1
  refine ⟨g3, fun i u hu => ?_⟩
  rcases g2 i u hu with e | e
  · exact g4 i u e
  · rcases g4 i _ e with e | e
    · exact .inr e
    · exact .inr e⟩
theorem Sf.zr {P : Nat → Prop} {w w' : World} (hz : Zr P w w') : ∀ (d : Nat) (a : Option Addr) (n : Nat), Sf P w d a n → Sf P w' d a n
  | 0, _, _, h => h
  | d + 1, a, n, h => by
    rcases h with h | ⟨b, cur, h1, h2, h3, h4⟩
    · exact .inl h
    · obtain ⟨⟨cur', g1⟩, g2⟩ := hz.quad b cur h2 h3
      refine .inr ⟨b, cur', h1, h2, g1, fun i hi => ?_⟩
      obtain ⟨u, e1, e2, e3⟩ := h4 i hi
      rcases g2 i u e1 with e | e
      · exact ⟨u, e, Sf.zr hz d _ _ e2, e3⟩
      · exact ⟨gone, e, Sf.zero d _, by decide⟩
/-- A value of one's own may be gone over. -/
theorem sf_of {P : Nat → Prop} {B : Nat} {w : World} : ∀ v : V, v.At B w → v.Pl w → (∀ k, v.uses k → P k) → ∃ d, Sf P w d v.addr v.len := by
  refine V.ind fun v ih h hp hu => ?_
  by_cases h0 : v.len = 0
  · exact ⟨0, h0⟩
  obtain ⟨b, cur, e, hb⟩ := hp.row (by omega)
  have hk : ∀ n, n ≤ v.len → ∃ d, ∀ i, i < n → Sf P w d (v.kid i).addr (v.kid i).len := by
    intro n
    induction n with
    | zero => exact fun _ => ⟨0, fun i hi => by omega⟩
    | succ n ihn =>
      intro hn
      obtain ⟨d1, g1⟩ := ihn (by omega)
      obtain ⟨d2, g2⟩ := ih n (by omega) (h.kid n (by omega)) (hp.kid n (by omega)) (fun k hk => hu k ((V.uses_eq _ _).2 (.inr ⟨n, by omega, hk⟩)))
      refine ⟨max d1 d2, fun i hi => ?_⟩
      by_cases ei : i = n
      · subst ei; exact Sf.deeper d2 _ _ _ (Nat.le_max_right _ _) g2
      · exact Sf.deeper d1 _ _ _ (Nat.le_max_left _ _) (g1 i (by omega))
  obtain ⟨d, hd⟩ := hk v.len (Nat.le_refl _)
  refine ⟨d + 1, .inr ⟨b, cur, e, hu b ((V.uses_eq _ _).2 (.inl ⟨by omega, by rw [e]; rfl⟩)), hb, fun i hi => ?_⟩⟩
  obtain ⟨b', o, e', _, hc⟩ := h.flat.at_ i hi
  rw [e] at e'
  simp only [Option.some.injEq, Addr.mk.injEq] at e'
  obtain ⟨rfl, rfl, _⟩ := e'
  rw [Nat.zero_add] at hc
  exact ⟨v.kid i, hc, hd i hi, (h.kid i hi).flat.l⟩
theorem cell_set {w : World} {b : Nat} {cur : Array Value} {t : TypeId} {f : Nat × Nat} (h : w.heap[b]? = some (.cells cur t f)) (i : Nat) (v : Value) : (w.setCell ⟨b, i, none⟩ v).heap[b]? = some (.cells (cur.setIfInBounds i v) t f) := by
  obtain ⟨hlt, hk⟩ := Array.getElem?_eq_some_iff.1 h
  show (w.heap.modify b _)[b]? = _
  rw [Array.getElem?_eq_getElem (by rw [Array.size_modify]; exact hlt), Array.getElem_modify_self, hk]
  rfl
theorem Sf.opens {P : Nat → Prop} {w : World} {d n : Nat} {a : Option Addr} (h : Sf P w d a n) (hn : 0 < n) : ∃ d' b cur, d' < d ∧ a = some ⟨b, 0, none⟩ ∧ P b ∧ w.heap[b]? = some (.cells cur 32 (0, 0)) ∧ ∀ i, i < n → ∃ u : V, CellsAt w b (i * 4) u ∧ Sf P w d' u.addr u.len ∧ u.len ≤ 9223372036854775807 := by
  cases d with
  | zero => have h' : n = 0 := h; omega
  | succ d =>
    rcases h with h | ⟨b, cur, h⟩
    · omega
    · exact ⟨d, b, cur, by omega, h⟩
def SpR (P : Nat → Prop) (W1 : World) (n : Nat) (i : Value) (wr : World) : Prop := ∃ j : Nat, j ≤ n ∧ i = .int .i64 (j : Int) ∧ Zr P W1 wr
/-- One value is written over. -/
theorem zr_four {P : Nat → Prop} {w : World} {b j : Nat} {cur : Array Value} (hP : P b) (hb : w.heap[b]? = some (.cells cur 32 (0, 0))) (hc : ∃ u : V, CellsAt w b (j * 4) u) :
    Zr P w ((((w.setCell ⟨b, j * 4, none⟩ (.int .i64 77)).setCell ⟨b, j * 4 + 1, none⟩ (.int .i64 0)).setCell ⟨b, j * 4 + 2, none⟩ (.string ⟨#[]⟩)).setCell ⟨b, j * 4 + 3, none⟩ (.slice none 0 0)) := by
  have t : Turn P w ((((w.setCell ⟨b, j * 4, none⟩ (.int .i64 77)).setCell ⟨b, j * 4 + 1, none⟩ (.int .i64 0)).setCell ⟨b, j * 4 + 2, none⟩ (.string ⟨#[]⟩)).setCell ⟨b, j * 4 + 3, none⟩ (.slice none 0 0)) :=
    (((Turn.setCell w ⟨b, j * 4, none⟩ _ hP).trans (Turn.setCell _ ⟨b, j * 4 + 1, none⟩ _ hP) (fun _ _ e => e)).trans (Turn.setCell _ ⟨b, j * 4 + 2, none⟩ _ hP) (fun _ _ e => e)).trans (Turn.setCell _ ⟨b, j * 4 + 3, none⟩ _ hP) (fun _ _ e => e)
  refine ⟨t, fun x cx hx hxb => ?_⟩
  by_cases e : x = b
  · subst e
    rw [hb] at hxb
    cases hxb
    have h1 := cell_set hb (j * 4) (.int .i64 77)
    have h2 := cell_set h1 (j * 4 + 1) (.int .i64 0)
    have h3 := cell_set h2 (j * 4 + 2) (.string ⟨#[]⟩)
    have h4 := cell_set h3 (j * 4 + 3) (.slice none 0 0)
    obtain ⟨u0, hu0⟩ := hc
    have hsz : j * 4 + 3 < cur.size := by
      have := hu0.c3
      simp only [World.cell?, hb] at this
      exact (Array.getElem?_eq_some_iff.1 this).1
    refine ⟨⟨_, h4⟩, fun i u hu => ?_⟩
    by_cases ei : i = j
    · subst ei
      right
      constructor <;> simp only [World.cell?, h4, gone, V.kind, V.num, V.str, V.addr, V.len, V.cap] <;> simp [Array.getElem?_setIfInBounds] <;> omega
    · left
      obtain ⟨c0, c1, c2, c3⟩ := hu
      simp only [World.cell?, hb] at c0 c1 c2 c3
      constructor
      · simp only [World.cell?, h4]; rw [Array.getElem?_setIfInBounds_ne (by omega), Array.getElem?_setIfInBounds_ne (by omega), Array.getElem?_setIfInBounds_ne (by omega), Array.getElem?_setIfInBounds_ne (by omega)]; exact c0
      · simp only [World.cell?, h4]; rw [Array.getElem?_setIfInBounds_ne (by omega), Array.getElem?_setIfInBounds_ne (by omega), Array.getElem?_setIfInBounds_ne (by omega), Array.getElem?_setIfInBounds_ne (by omega)]; exact c1
      · simp only [World.cell?, h4]; rw [Array.getElem?_setIfInBounds_ne (by omega), Array.getElem?_setIfInBounds_ne (by omega), Array.getElem?_setIfInBounds_ne (by omega), Array.getElem?_setIfInBounds_ne (by omega)]; exact c2
      · simp only [World.cell?, h4]; rw [Array.getElem?_setIfInBounds_ne (by omega), Array.getElem?_setIfInBounds_ne (by omega), Array.getElem?_setIfInBounds_ne (by omega), Array.getElem?_setIfInBounds_ne (by omega)]; exact c3
  · have hsame : ((((w.setCell ⟨b, j * 4, none⟩ (.int .i64 77)).setCell ⟨b, j * 4 + 1, none⟩ (.int .i64 0)).setCell ⟨b, j * 4 + 2, none⟩ (.string ⟨#[]⟩)).setCell ⟨b, j * 4 + 3, none⟩ (.slice none 0 0)).heap[x]? = w.heap[x]? := by
      rw [Below.heap_setCell _ _ _ _ e, Below.heap_setCell _ _ _ _ e, Below.heap_setCell _ _ _ _ e, Below.heap_setCell _ _ _ _ e]
    refine ⟨⟨cx, hsame.trans hxb⟩, fun i u hu => .inl (hu.stays fun p y hp hy => ?_)⟩
    simp only [World.cell?] at hy ⊢
    rw [hp] at hy ⊢
    rw [hsame]; exact hy

def SpC (P : Nat → Prop) (d : Nat) : Prop := ∀ (k n : Int) (s : ByteArray) (va : Option Addr) (vl vc : Nat) (W : World), Sf P W d va vl → vl ≤ 9223372036854775807 → (∀ b, P b → b < W.heap.size) →
  Calls Tryd.prog 10 #[.agg #[.int .i64 k, .int .i64 n, .string s, .slice va vl vc]] W fun e w' => e = .returned (.tuple #[]) ∧ Zr P W w'

set_option maxRecDepth 100000 in
set_option maxHeartbeats 4000000 in
theorem spoil_step (P : Nat → Prop) (d : Nat) (ih : ∀ e, e < d → SpC P e) : SpC P d := by
  intro k n s va vl vc W hsf hlen hP
  obtain ⟨W1, hW1⟩ : ∃ W1, W1 = W.alloc (.cells #[.int .i64 k, .int .i64 n, .string s, .slice va vl vc] 32) := ⟨_, rfl⟩
  have b1 : Below W.heap.size W W1 := by rw [hW1]; exact below_box W _
  have hbx : CellsAt W1 W.heap.size 0 (.mk k n s va vl vc fun _ => .none) := by rw [hW1]; exact boxed W (.mk k n s va vl vc fun _ => .none)
  have hs1 : W1.heap.size = W.heap.size + 1 := by rw [hW1]; simp
  have z1 : Zr P W W1 := Zr.below b1
  have hsf1 := Sf.zr z1 d _ _ hsf
  have BOX : Hid (∀ w', Zr P W1 w' → w'.cell? ⟨W.heap.size, 3, none⟩ = some (.slice va vl vc)) := fun w' hz => by
    have e : w'.heap[W.heap.size]? = W1.heap[W.heap.size]? := hz.turn.block _ (by omega) (fun h => by have := hP _ h; omega)
    have := hbx.z.2.2.2
    simp only [World.cell?] at this ⊢
    rw [e]; exact this
  have HI := hide (And.intro hsf1 (And.intro z1 (And.intro hP (And.intro hs1 ih))))
  have HW := hide hW1
  have x3 := unhide BOX W1 (Zr.refl P W1)
  clear hsf1 z1 hP hs1 ih hbx b1 hW1 hsf
  go_enter Tryd.func10, Tryd.ntmps10
  go_wp2_with fail
  rw [← unhide HW]
  go_loopw [6] (fun i wr => SpR P W1 vl i wr) (fun i _ => vl - (intOf i).toNat)
  case atStart => exact ⟨0, Nat.zero_le _, rfl, Zr.refl P W1⟩
  case round =>
    obtain ⟨j, hj, rfl, hz⟩ := hrel
    by_cases hlt : j < vl
    · obtain ⟨hsf1, z1, hP, hs1, ih⟩ := unhide HI
      obtain ⟨d', b, cur, hd, e1, hPb, hb, hq⟩ := (Sf.zr hz d _ _ hsf1).opens (by omega)
      obtain ⟨u, hc, hsu, hul⟩ := hq j hlt
      have hcall := ih d' hd u.kind u.num u.str u.addr u.len u.cap wr hsu hul (fun q hq => by have := hP q hq; have := hz.turn.size; omega)
      have x4 := unhide BOX wr hz
      have c0 := hc.c0
      have c1 := hc.c1
      have c2 := hc.c2
      have c3 := hc.c3
      subst e1
      have HZ := hide (And.intro hz (And.intro hPb (And.intro hb hc)))
      clear hsf1 z1 hP hs1 ih hz hPb hb hq hc hsu hul hd x3
      go_wp2_with fail
      refine hcall.mono ?_
      clear hcall
      rintro e w2 ⟨rfl, hz2⟩
      obtain ⟨hz, hPb, hb, hc⟩ := unhide HZ
      have x5 := unhide BOX w2 (hz.trans hz2)
      obtain ⟨⟨cur2, hb2⟩, hq2⟩ := hz2.quad b cur hPb hb
      obtain ⟨u2, hu2⟩ : ∃ u2 : V, CellsAt w2 b (j * 4) u2 := (hq2 j u hc).elim (fun e => ⟨_, e⟩) (fun e => ⟨_, e⟩)
      have f0 : ∀ o, w2.frozen? ⟨b, o, none⟩ = false := fun o => by simp [World.frozen?, hb2]
      have d0 := hu2.c0
      have d1 := hu2.c1
      have d2 := hu2.c2
      have d3 := hu2.c3
      have HZ2 := hide ((hz.trans hz2).trans (zr_four hPb hb2 ⟨u2, hu2⟩))
      clear hz hPb hb hc hz2 hq2 hb2 hu2 c0 c1 c2 c3 x4 HZ
      go_wp2_with fail
      go_roundw
      case rel => exact ⟨j + 1, by omega, by go_num, unhide HZ2⟩
      case measure => simp [intOf]; omega
    · have hnj : ¬ ((j : Int) < (vl : Int)) := by omega
      have HZ := hide ((unhide HI).2.1.trans hz)
      clear hz x3
      go_wp2_with fail
      go_end0
      exact ⟨rfl, unhide HZ⟩
end Go.Proofs.YtbfkcfhkccicoaaDoor

namespace Go.Proofs.YtbfkcfhkccicoaaDoor
open Go.RowKit Go.Maps

/-- One that was copied. -/
structure Mad (wr w3 : World) (u x : V) : Prop where
  below : Below wr.heap.size wr w3
  at_ : u.At w3.heap.size w3
  like : u.ord x = 0
  far : ∀ q, u.uses q → wr.heap.size ≤ q
  pl : u.Pl w3
/-- What has been copied of the first k. -/
structure CL (W wr : World) (o1 o2 : Obj) (x0 x1 x2 : Value) (f : Nat → V) (k : Nat) (us : Nat → V) : Prop where
  bw : Below W.heap.size W wr
  res : wr.heap[W.heap.size]? = some o1
  nod : wr.heap[W.heap.size + 1]? = some o2
  box : ∃ sl, wr.heap[W.heap.size + 1 + 1]? = some (.cells #[x0, x1, x2, sl] 32 (0, 0)) ∧ wr.ownsRow (W.heap.size + 3) 32 4 sl k (cellsTo us k) ∧ ∀ i, i < k → ∀ q, (us i).uses q → W.heap.size + 3 ≤ q ∧ sl.ownBlock ≠ some q
  sz : W.heap.size + 3 ≤ wr.heap.size
  at_ : ∀ i, i < k → (us i).At wr.heap.size wr
  like : ∀ i, i < k → (us i).ord (f i) = 0
  pl : ∀ i, i < k → (us i).Pl wr
/-- Behind the append, ahead of the store. -/
theorem cl_mid {W wr wc w5 : World} {x0 x1 x2 sl : Value} {ob : Obj} {k : Nat} {us : Nat → V} (hsz : W.heap.size + 3 ≤ wr.heap.size) (hbx : wr.heap[W.heap.size + 1 + 1]? = some (.cells #[x0, x1, x2, sl] 32 (0, 0)))
    (hrow : wr.ownsRow (W.heap.size + 3) 32 4 sl k (cellsTo us k)) (hM : Below wr.heap.size wr wc) (g5 : (wc.alloc ob).grownBy w5 sl.ownBlock) :
    w5.heap[W.heap.size + 1 + 1]? = some (.cells #[x0, x1, x2, sl] 32 (0, 0)) := by
  have b1 : Below wr.heap.size wr (wc.alloc ob) := hM.alloc hM.size _
  have hs := b1.size
  rw [g5.block _ (by omega) (fun e => by have := (World.ownsRow.lt hrow _ e.symm).1; omega), b1.block _ (by omega)]
  exact hbx

theorem cl_next {W wr wc w5 : World} {u : V} {o1 o2 : Obj} {x0 x1 x2 : Value} {f : Nat → V} {k : Nat} {us : Nat → V} {sl v' : Value} {ob : Obj} (hb : CL W wr o1 o2 x0 x1 x2 f k us) (hbx : wr.heap[W.heap.size + 1 + 1]? = some (.cells #[x0, x1, x2, sl] 32 (0, 0)))
    (hrow : wr.ownsRow (W.heap.size + 3) 32 4 sl k (cellsTo us k)) (hsep : ∀ i, i < k → ∀ q, (us i).uses q → W.heap.size + 3 ≤ q ∧ sl.ownBlock ≠ some q) (hM : Mad wr wc u (f k))
    (o5 : w5.ownsRow (W.heap.size + 3) 32 4 v' (k + 1) (cellsTo us k ++ u.row)) (g5 : (wc.alloc ob).grownBy w5 sl.ownBlock) (a5 : v'.ownBlock = sl.ownBlock ∨ v'.ownBlock = some (wc.alloc ob).heap.size) :
    CL W (w5.setCell ⟨W.heap.size + 1 + 1, 3, none⟩ v') o1 o2 x0 x1 x2 f (k + 1) (fun i => if i = k then u else us i) := by
  have hsz := hb.sz
  have b1 : Below wr.heap.size wr (wc.alloc ob) := hM.below.alloc hM.below.size _
  have hs1 := b1.size
  have hs5 := g5.size
  have hrl : ∀ q, sl.ownBlock = some q → W.heap.size + 3 ≤ q ∧ q < wr.heap.size := fun q e => World.ownsRow.lt hrow q e
  have h5 := cl_mid hsz hbx hrow hM.below g5
  have hoth : ∀ q, q < wr.heap.size → sl.ownBlock ≠ some q → q ≠ W.heap.size + 1 + 1 → (w5.setCell ⟨W.heap.size + 1 + 1, 3, none⟩ v').heap[q]? = wr.heap[q]? := fun q h1 h2 h3 => by
    rw [Below.heap_setCell _ _ _ _ h3, g5.block _ (by omega) (fun e => h2 e.symm), b1.block _ h1]
  have tt : Turn (fun q => sl.ownBlock = some q ∨ q = W.heap.size + 1 + 1) (wc.alloc ob) (w5.setCell ⟨W.heap.size + 1 + 1, 3, none⟩ v') :=
    (Turn.of_grownBy g5 (fun q e => .inl e)).trans (Turn.setCell w5 ⟨W.heap.size + 1 + 1, 3, none⟩ v' (.inr rfl)) (fun _ _ e => e)
  have hsize : (w5.setCell ⟨W.heap.size + 1 + 1, 3, none⟩ v').heap.size = w5.heap.size := by simp [World.setCell]
  have hwc : wc.heap.size ≤ (wc.alloc ob).heap.size := by simp
  have hcs : wc.heap.size + 1 = (wc.alloc ob).heap.size := by simp
  have hmb := hM.below.size
  have b5 : Below W.heap.size W (w5.setCell ⟨W.heap.size + 1 + 1, 3, none⟩ v') := by
    have c1 : Below W.heap.size W (wc.alloc ob) := hb.bw.trans (b1.mono hb.bw.size)
    have c2 : Below W.heap.size W w5 := c1.grown g5 c1.size (fun q e => by have := (hrl q e).1; omega)
    exact c2.setCell (by show _ ≤ W.heap.size + 1 + 1; omega) _
  refine ⟨b5, ?_, ?_, ⟨v', ?_, ?_, ?_⟩, by omega, ?_, ?_, ?_⟩
  · rw [hoth _ (by omega) (fun e => by have := (hrl _ e).1; omega) (by omega)]; exact hb.res
  · have hN : wr.heap[W.heap.size + 1]? = _ := hb.nod
    exact (hoth _ (by omega) (fun e => by have := (hrl _ e).1; omega) (by omega)).trans hN
  · rw [setCell_eq_setRow w5 (W.heap.size + 1 + 1) 3 _ _ _ v' h5]
    exact setRow_heap w5 _ _ _ _ _ h5
  · have e1 : cellsTo (fun i => if i = k then u else us i) (k + 1) = cellsTo us k ++ u.row := by
      simp only [cellsTo, if_true]
      rw [cellsTo_congr (vs := us) k (fun i hi => if_neg (by omega))]
      rfl
    rw [e1]
    exact ownsRow_setCell_below o5 (a := ⟨W.heap.size + 1 + 1, 3, none⟩) (by show W.heap.size + 1 + 1 < _; omega) _
  · intro i hi q hq
    by_cases e : i = k
    · simp only [if_pos e] at hq
      have h1 := hM.far q hq
      have h2 := V.uses_lt u hM.at_ q hq
      refine ⟨by omega, fun e2 => ?_⟩
      rcases a5 with a5 | a5
      · rw [a5] at e2; have := (hrl q e2).2; omega
      · rw [a5] at e2; simp only [Option.some.injEq] at e2; omega
    · simp only [if_neg e] at hq
      obtain ⟨h1, h2⟩ := hsep i (by omega) q hq
      have h3 := V.uses_lt (us i) (hb.at_ i (by omega)) q hq
      refine ⟨h1, fun e2 => ?_⟩
      rcases a5 with a5 | a5
      · rw [a5] at e2; exact h2 e2
      · rw [a5] at e2; simp only [Option.some.injEq] at e2; omega
  · intro i hi
    by_cases e : i = k
    · simp only [if_pos e]
      have h1 : u.At wc.heap.size (wc.alloc ob) := hM.at_.below (below_box wc ob)
      refine (V.At.turn' tt u h1 (fun q hq e2 => ?_)).more (by omega) _
      have := hM.far q hq
      rcases e2 with e2 | e2
      · have := (hrl q e2).2; omega
      · omega
    · simp only [if_neg e]
      have h1 : (us i).At wr.heap.size (wc.alloc ob) := (hb.at_ i (by omega)).below b1
      refine (V.At.turn' tt _ h1 (fun q hq e2 => ?_)).more (by omega) _
      obtain ⟨h2, h3⟩ := hsep i (by omega) q hq
      rcases e2 with e2 | e2
      · exact h3 e2
      · omega
  · intro i hi
    by_cases e : i = k
    · simp only [if_pos e]; rw [e]; exact hM.like
    · simp only [if_neg e]; exact hb.like i (by omega)
  · intro i hi
    by_cases e : i = k
    · simp only [if_pos e]
      refine V.Pl.turn tt u (hM.pl.below (below_box wc ob)) (fun q hq e2 => ?_)
      have := hM.far q hq
      rcases e2 with e2 | e2
      · have := (hrl q e2).2; omega
      · omega
    · simp only [if_neg e]
      refine V.Pl.turn tt _ ((hb.pl i (by omega)).below b1) (fun q hq e2 => ?_)
      obtain ⟨h2, h3⟩ := hsep i (by omega) q hq
      rcases e2 with e2 | e2
      · exact h3 e2
      · omega
theorem cl_end {W wr : World} {v : V} {B : Nat} {o1 o2 : Obj} {us : Nat → V} {x0 x1 x2 sl : Value} (hb : CL W wr o1 o2 x0 x1 x2 v.kid v.len us) (hf : Flat B W v) (h8 : v.len ≤ 8)
    (hrow : wr.ownsRow (W.heap.size + 3) 32 4 sl v.len (cellsTo us v.len)) (hsep : ∀ i, i < v.len → ∀ q, (us i).uses q → W.heap.size + 3 ≤ q ∧ sl.ownBlock ≠ some q) :
    ∃ a cap, sl = .slice a v.len cap ∧ ∀ q0 q1 q2 q3, Got W ((((wr.setCell ⟨W.heap.size + 1, 0, none⟩ q0).setCell ⟨W.heap.size + 1, 1, none⟩ q1).setCell ⟨W.heap.size + 1, 2, none⟩ q2).setCell ⟨W.heap.size + 1, 3, none⟩ q3) v (.agg #[.int .i64 v.kind, .int .i64 v.num, .string v.str, .slice a v.len cap]) := by
  obtain ⟨a, cap, rfl, hgood⟩ : ∃ a cap, sl = .slice a v.len cap ∧ (0 < v.len → ∃ g, a = some ⟨g, 0, none⟩ ∧ W.heap.size + 3 ≤ g ∧ g < wr.heap.size ∧ (∃ cur, wr.heap[g]? = some (.cells cur 32 (0, 0))) ∧ ∀ i, i < v.len → CellsAt wr g (0 + i * 4) (us i)) := by
    rcases hrow.2 with ⟨rfl, h0⟩ | ⟨g, cap, cur, rfl, hg, hh, _, _, _, _⟩
    · exact ⟨none, 0, by rw [h0], fun h => by omega⟩
    · refine ⟨some ⟨g, 0, none⟩, cap, rfl, fun _ => ⟨g, rfl, hg, (Array.getElem?_eq_some_iff.1 hh).1, ⟨cur, hh⟩, fun i hi => ?_⟩⟩
      have hc : ∀ q, q < 4 → wr.cell? ⟨g, i * 4 + q, none⟩ = (us i).row[q]? := fun q hq => by
        rw [World.ownsRow.cellAt hrow (i * 4 + q) (by omega)]
        exact cellsTo_at us v.len i hi q hq
      rw [Nat.zero_add]
      exact ⟨hc 0 (by omega), hc 1 (by omega), hc 2 (by omega), hc 3 (by omega)⟩
  refine ⟨a, cap, rfl, fun q0 q1 q2 q3 => ?_⟩
  have t := turn_four wr (W.heap.size + 1) q0 q1 q2 q3
  refine ⟨.mk v.kind v.num v.str a v.len cap us, rfl, V.At.of ⟨hf.k0, hf.k1, hf.n0, hf.n1, hf.s, by show v.len ≤ _; omega, fun i hi => ?_⟩ (fun i hi => ?_), ?_, fun q hq => ?_, V.Pl.of (fun h0 => ?_) (fun i hi => ?_)⟩
  · have hi' : i < v.len := hi
    obtain ⟨g, e, h3, hlt, _, hc⟩ := hgood (by omega)
    refine ⟨g, 0, e, Nat.lt_of_lt_of_le hlt t.size, (hc i hi').stays fun p u hp hu => ?_⟩
    have : (((((wr.setCell ⟨W.heap.size + 1, 0, none⟩ q0).setCell ⟨W.heap.size + 1, 1, none⟩ q1).setCell ⟨W.heap.size + 1, 2, none⟩ q2).setCell ⟨W.heap.size + 1, 3, none⟩ q3)).cell? p = wr.cell? p := by
      simp only [World.cell?]
      rw [t.block _ (by omega) (by omega)]
    exact this.trans hu
  · have hi' : i < v.len := hi
    refine (V.At.turn' t (us i) (hb.at_ i hi') (fun q hq e => ?_)).more t.size _
    have := (hsep i hi' q hq).1
    omega
  · rw [ord_zero]
    exact ⟨rfl, rfl, rfl, rfl, fun i hi => hb.like i hi⟩
  · rcases (V.uses_eq _ _).1 hq with ⟨h1, h2⟩ | ⟨i, hi, h2⟩
    · have h1' : 0 < v.len := h1
      obtain ⟨g, e, h3, _, _, _⟩ := hgood h1'
      have h2' : a.map Addr.block = some q := h2
      rw [e] at h2'
      simp at h2'
      omega
    · have := (hsep i hi q h2).1
      omega
  · have h0' : 0 < v.len := h0
    obtain ⟨g, e, h3, hlt, ⟨cur, hg⟩, _⟩ := hgood h0'
    exact ⟨g, cur, e, (t.block g hlt (by omega)).trans hg⟩
  · have hi' : i < v.len := hi
    exact V.Pl.turn t (us i) (hb.pl i hi') (fun q hq e => by have := (hsep i hi' q hq).1; omega)

def CopC (v : V) : Prop := ∀ (B : Nat) (W : World) (d : Nat), v.At B W → B ≤ W.heap.size → v.may d = true →
  Calls Tryd.prog 7 #[v.val] W fun e w' => ∃ r, e = .returned r ∧ Got W w' v r ∧ Below W.heap.size W w'

theorem may_eight {v : V} {d : Nat} (hm : v.may d = true) : v.len ≤ 8 := by
  rcases kinds_of hm with hk | hk | hk
  · have := (may_num0 hm hk).2; omega
  · have := (may_sym0 hm hk).2; omega
  · exact (may_con_num hm hk).2
theorem may_kid {v : V} {d : Nat} (hm : v.may d = true) : ∀ i, i < v.len → (v.kid i).may (d - 1) = true := by
  rcases kinds_of hm with hk | hk | hk
  · have := (may_num0 hm hk).2; exact fun i hi => by omega
  · have := (may_sym0 hm hk).2; exact fun i hi => by omega
  · exact may_kids hm hk

theorem CellsAt.turn1 {w : World} {b g i : Nat} {x : V} {y : Value} (h : CellsAt w b 0 x) (hne : b ≠ g) : CellsAt (w.setCell ⟨g, i, none⟩ y) b 0 x :=
  h.stays (fun p z hp hz => by
    simp only [World.cell?] at hz ⊢
    rw [hp] at hz ⊢
    rw [Below.heap_setCell _ _ _ _ hne]; exact hz)
theorem appV_run (w : World) (base : Nat) (v : Value) (n : Nat) (xs : List Value) (hown : w.ownsRow base 32 4 v n xs) (ad : Addr) (c : Nat) (u : V)
    (hc : ∀ j y, u.row[j]? = some y → w.cell? (ad.add j) = some y) (hbytes : (n + 1) * 56 ≤ 140737488355328) (hbase : base ≤ w.heap.size) :
    ∃ v' w', (Builtin.append_ #[22, 22] 22 #[v, .slice (some ad) 1 c]).run Tryd.prog w = .ok v' w' ∧ w'.ownsRow base 32 4 v' (n + 1) (xs ++ u.row) ∧ w.grownBy w' v.ownBlock ∧ (v'.ownBlock = v.ownBlock ∨ v'.ownBlock = some w.heap.size) := by
  obtain ⟨i0, hi, hz0, hz1, hz2⟩ := info_parts infoVal
  obtain ⟨v', w', hr, h2, h3, _, h5⟩ := run_append_own_at (P := Tryd.prog) w base 22 22 32 i0 _ 4 56 Tryd.underlying22 hi hz0 hz1 hz2 rfl (by decide) v n _ hown ad 1 c u.row rfl hc
    (fun y hy => by
      simp only [V.row, List.mem_cons, List.not_mem_nil, or_false] at hy
      rcases hy with rfl | rfl | rfl | rfl <;> rfl) (by unfold maxLen; omega) hbytes hbase
  exact ⟨v', w', hr, h2, h3, h5⟩
theorem row_at (w : World) (u : V) : ∀ j y, u.row[j]? = some y → (w.alloc (.cells #[.int .i64 u.kind, .int .i64 u.num, .string u.str, .slice u.addr u.len u.cap] 32)).cell? ((⟨w.heap.size, 0, none⟩ : Addr).add j) = some y := row_new w u
theorem cl_start (W : World) (v : V) : CL W (((W.alloc v.obj).alloc (.cells #[.int .i64 0, .int .i64 0, .string ⟨#[]⟩, .slice none 0 0] 32)).alloc (.cells #[.int .i64 v.kind, .int .i64 v.num, .string v.str, .slice none 0 0] 32)) v.obj (.cells #[.int .i64 0, .int .i64 0, .string ⟨#[]⟩, .slice none 0 0] 32) (.int .i64 v.kind) (.int .i64 v.num) (.string v.str) v.kid 0 (fun _ => .none) := by
  have b1 := below_box W v.obj
  have b2 := below_box (W.alloc v.obj) (.cells #[.int .i64 0, .int .i64 0, .string ⟨#[]⟩, .slice none 0 0] 32)
  have b3 := below_box ((W.alloc v.obj).alloc (.cells #[.int .i64 0, .int .i64 0, .string ⟨#[]⟩, .slice none 0 0] 32)) (.cells #[.int .i64 v.kind, .int .i64 v.num, .string v.str, .slice none 0 0] 32)
  have s1 : (W.alloc v.obj).heap.size = W.heap.size + 1 := by simp
  have s2 : ((W.alloc v.obj).alloc (.cells #[.int .i64 0, .int .i64 0, .string ⟨#[]⟩, .slice none 0 0] 32)).heap.size = W.heap.size + 1 + 1 := by simp
  have n1 := World.alloc_heap_new W v.obj
  have n2 := World.alloc_heap_new (W.alloc v.obj) (.cells #[.int .i64 0, .int .i64 0, .string ⟨#[]⟩, .slice none 0 0] 32)
  have n3 := World.alloc_heap_new ((W.alloc v.obj).alloc (.cells #[.int .i64 0, .int .i64 0, .string ⟨#[]⟩, .slice none 0 0] 32)) (.cells #[.int .i64 v.kind, .int .i64 v.num, .string v.str, .slice none 0 0] 32)
  rw [s1] at n2
  rw [s2] at n3
  refine ⟨(b1.trans (b2.mono (by omega))).trans (b3.mono (by omega)), ?_, ?_, ⟨.slice none 0 0, n3, World.ownsRow_nil _ _ _ _, fun i hi => absurd hi (Nat.not_lt_zero i)⟩, by simp, fun i hi => absurd hi (Nat.not_lt_zero i), fun i hi => absurd hi (Nat.not_lt_zero i), fun i hi => absurd hi (Nat.not_lt_zero i)⟩
  · rw [b3.block _ (by omega), b2.block _ (by omega)]; exact n1
  · rw [b3.block _ (by omega)]; exact n2

set_option maxRecDepth 100000 in
set_option maxHeartbeats 4000000 in
theorem copied_step (v : V) (ih : ∀ i, i < v.len → CopC (v.kid i)) : CopC v := by
  intro B W d hat hB hm
  have mixed : Tryd.prog.follows .mixedOrders = true := by kernel_rfl
  have h8 := may_eight hm
  show Calls Tryd.prog 7 #[.agg #[.int .i64 v.kind, .int .i64 v.num, .string v.str, .slice v.addr v.len v.cap]] W _
  obtain ⟨W3, hW3⟩ : ∃ W3, W3 = (((W.alloc v.obj).alloc (.cells #[.int .i64 0, .int .i64 0, .string ⟨#[]⟩, .slice none 0 0] 32)).alloc (.cells #[.int .i64 v.kind, .int .i64 v.num, .string v.str, .slice none 0 0] 32)) := ⟨_, rfl⟩
  have hst := cl_start W v
  rw [← hW3] at hst
  have HST := hide hst
  have HI := hide (And.intro hat (And.intro hB (And.intro hm ih)))
  have HW3 := hide hW3
  clear hst hat hB hm ih hW3
  generalize hla : v.addr = la
  have HLA := hide hla
  have HW3' : Hid (W3 = (((W.alloc (.cells #[.int .i64 v.kind, .int .i64 v.num, .string v.str, .slice la v.len v.cap] 32)).alloc (.cells #[.int .i64 0, .int .i64 0, .string ⟨#[]⟩, .slice none 0 0] 32)).alloc (.cells #[.int .i64 v.kind, .int .i64 v.num, .string v.str, .slice none 0 0] 32))) := by
    have := unhide HW3
    unfold V.obj at this
    rw [hla] at this
    exact this
  clear hla
  go_enter Tryd.func7, Tryd.ntmps7
  go_wp2_with fail
  rw [← unhide HW3']
  go_loopw [11] (fun i wr => ∃ k : Nat, k ≤ v.len ∧ i = .int .i64 k ∧ Hid (∃ us, CL W wr v.obj (.cells #[.int .i64 0, .int .i64 0, .string ⟨#[]⟩, .slice none 0 0] 32) (.int .i64 v.kind) (.int .i64 v.num) (.string v.str) v.kid k us)) (fun i _ => v.len - (intOf i).toNat)
  case atStart => exact ⟨0, Nat.zero_le _, rfl, ⟨_, unhide HST⟩⟩
  case round =>
    obtain ⟨k, hk, rfl, hR⟩ := hrel
    obtain ⟨us, hb⟩ := unhide hR
    clear hR
    by_cases hlt : k < v.len
    · obtain ⟨hat, hB, hm, ih⟩ := unhide HI
      obtain ⟨b, o, ha, hbB, hc⟩ := (hat.below (hb.bw.mono hB)).flat.at_ k hlt
      rw [unhide HLA] at ha
      subst ha
      have c0 := hc.c0
      have c1 := hc.c1
      have c2 := hc.c2
      have c3 := hc.c3
      obtain ⟨sl, hbx, hrow, hsep⟩ := hb.box
      have HCALL : Hid (∀ w', Below W.heap.size W w' → Calls Tryd.prog 7 #[(v.kid k).val] w' fun e w2 => ∃ r, e = .returned r ∧ Got w' w2 (v.kid k) r ∧ Below w'.heap.size w' w2) := fun w' hw => ih k hlt B w' (d - 1) ((hat.kid k hlt).below (hw.mono hB)) (Nat.le_trans hB hw.size) (may_kid hm k hlt)
      obtain ⟨x, hx⟩ : ∃ x, x = v.kid k := ⟨_, rfl⟩
      have HX := hide hx
      rw [← hx] at c0 c1 c2 c3 HCALL
      obtain ⟨wx, hwx⟩ : ∃ wx, wx = wr.alloc x.obj := ⟨_, rfl⟩
      have bx : Below wr.heap.size wr wx := by rw [hwx]; exact below_box wr _
      have sx : wx.heap.size = wr.heap.size + 1 := by rw [hwx]; simp
      have hxb : CellsAt wx wr.heap.size 0 x := by rw [hwx]; exact boxed wr x
      have hsz := hb.sz
      obtain ⟨sa, sn, sc, esl⟩ := own_shape hrow
      have HBL := hide (And.intro hb (And.intro hbx (And.intro hrow (And.intro hsep (And.intro bx (And.intro sx hxb))))))
      have HWX := hide hwx
      subst esl
      have SLOT : Hid (∀ w', Below wx.heap.size wx w' → w'.cell? ⟨W.heap.size + 1 + 1, 3, none⟩ = some (.slice sa sn sc) ∧ CellsAt w' wr.heap.size 0 x) := fun w' hw => by
        refine ⟨?_, hxb.below hw (by omega)⟩
        have e : w'.heap[W.heap.size + 1 + 1]? = wr.heap[W.heap.size + 1 + 1]? := (hw.block _ (by omega)).trans (bx.block _ (by omega))
        simp only [World.cell?]
        rw [e, hbx]; rfl
      have hcall := unhide HCALL wx.drew ((hb.bw.trans (bx.mono hb.bw.size)).drew)
      have hg : (k : Int) < (v.len : Int) := by omega
      clear hat hB hm ih hc hb hbx hrow hsep hx bx hxb hwx
      go_wp2_with fail
      rw [show (.cells #[.int .i64 x.kind, .int .i64 x.num, .string x.str, .slice x.addr x.len x.cap] 32 : Obj) = x.obj from rfl, ← unhide HWX]
      refine region_mixG (m := 7) (ml := [(0, 1), (1, 2), (2, 1), (3, 0), (4, 0), (5, 0), (6, 1), (7, 0)]) (fun f w' => (f = false → w'.cell? ⟨W.heap.size + 1 + 1, 3, none⟩ = some (.slice sa sn sc)) ∧ CellsAt w' wr.heap.size 0 x) mixed (by kernel_rfl) rfl (by rfl) (by kernel_rfl) (fun PP hPP => ?_)
      refine wpMixF_take (v := ?_) rfl (by kernel_rfl) (fun f w' hw => ?_) ?_
      rotate_left
      · (go_simp; try with_reducible rfl)
      refine wpMixF_till (v := ?_) rfl (by kernel_rfl) (fun w' hw => ?_) ?_
      rotate_left
      · (have q0 := hw.1 rfl; go_simp; try with_reducible rfl)
      refine wpMixF_take (v := ?_) rfl (by kernel_rfl) (fun f w' hw => ?_) ?_
      rotate_left
      · (obtain ⟨q0, q1, q2, q3⟩ := hw.2.z; go_simp; try with_reducible rfl)
      have hd0 := unhide SLOT wx.drew ((Below.refl _ wx).drew)
      refine wpMixF_force rfl ⟨fun _ => hd0.1, hd0.2⟩ (fun K hK => ?_)
      go_simp
      refine hcall.mono ?_
      clear hcall hd0
      rintro e w6 ⟨_, rfl, ⟨u, rfl, hu, hul, huf, hup⟩, b6'⟩
      have b6 : Below wx.heap.size wx w6 := ((Below.refl _ wx).drew).trans b6'
      have X6 : ∃ r w8, (Builtin.append_ #[22, 22] 22 #[.slice sa sn sc, .slice (some ⟨w6.heap.size, 0, none⟩) 1 1]).run Tryd.prog (w6.alloc u.obj) = .ok r w8 ∧ (∃ ra rn rc, r = .slice ra rn rc) ∧ w8.cell? ⟨W.heap.size + 1 + 1, 3, none⟩ = some (.slice sa sn sc) ∧ w8.frozen? ⟨W.heap.size + 1 + 1, 3, none⟩ = false ∧ CellsAt w8 wr.heap.size 0 x ∧ CellsAt (w8.setCell ⟨W.heap.size + 1 + 1, 3, none⟩ r) wr.heap.size 0 x ∧ ∃ us', CL W (w8.setCell ⟨W.heap.size + 1 + 1, 3, none⟩ r) v.obj (.cells #[.int .i64 0, .int .i64 0, .string ⟨#[]⟩, .slice none 0 0] 32) (.int .i64 v.kind) (.int .i64 v.num) (.string v.str) v.kid (k + 1) us' := by
        obtain ⟨hb, hbx, hrow, hsep, bx, sx, hxb⟩ := unhide HBL
        have br6 : Below wr.heap.size wr w6 := bx.trans (b6.mono (by omega))
        have hs6 := br6.size
        have hb6 := b6.size
        have hm : Mad wr w6 u (v.kid k) := ⟨br6, hu, by rw [← unhide HX]; exact hul, fun q hq => by have := huf q hq; have e : wx.drew.heap.size = wx.heap.size := rfl; omega, hup⟩
        obtain ⟨r, w8, hrun, o5, g5, a5⟩ := appV_run (w6.alloc u.obj) (W.heap.size + 3) (.slice sa sn sc) k (cellsTo us k) (World.ownsRow.alloc (ownsRow_below hrow br6) _) ⟨w6.heap.size, 0, none⟩ 1 u (row_new w6 u) (by omega) (by simp; omega)
        have hmid := cl_mid hsz hbx hrow br6 g5
        obtain ⟨ra, rn, rc, er⟩ := own_shape o5
        have hx8 : w8.heap[wr.heap.size]? = wx.heap[wr.heap.size]? := by
          rw [g5.block _ (by simp; omega) (fun e => by have := (World.ownsRow.lt hrow _ e.symm).2; omega), (below_box w6 u.obj).block _ (by omega), b6.block _ (by omega)]
        have hx9 : CellsAt w8 wr.heap.size 0 x := hxb.stays (fun p y hp hy => by simp only [World.cell?] at hy ⊢; rw [hp] at hy ⊢; rw [hx8]; exact hy)
        refine ⟨r, w8, hrun, ⟨ra, rn, rc, er⟩, cell_mid hmid, frozen_mid hmid, hx9, hx9.turn1 (by omega), _, cl_next hb hbx hrow hsep hm o5 g5 a5⟩
      obtain ⟨r8, w8, hrun, ⟨ra, rn, rc, er⟩, hc8, hf8, hx8, hx9, hCL⟩ := X6
      subst er
      have HCL := hide hCL
      have B6 := hide (unhide SLOT w6 b6)
      have B7 := hide (unhide SLOT (w6.alloc u.obj) (b6.trans ((below_box w6 u.obj).mono b6.size)))
      have HX8 := hide (And.intro hx8 hx9)
      clear b6 b6' hu hul huf hup hCL hx8 hx9
      go_wp2_with fail
      refine wpMixF_force rfl ⟨fun _ => (unhide B6).1, (unhide B6).2⟩ (fun K hK => ?_)
      go_simp
      refine hK _ _ ?_
      clear hK K
      refine wpMixF_force rfl ⟨fun _ => (unhide B7).1, (unhide B7).2⟩ (fun K hK => ?_)
      refine append_drawn rfl _ _ 22 rfl _ _ rfl rfl hrun (hK _ _ ?_)
      clear hK K
      refine wpMixF_take (v := ?_) rfl (by kernel_rfl) (fun f w' hw => ?_) ?_
      rotate_left
      · (go_simp; try with_reducible rfl)
      refine wpMixF_force rfl ⟨fun _ => hc8, (unhide HX8).1⟩ (fun K hK => ?_)
      go_simp
      refine hK _ _ ?_
      clear hK K
      refine wpMixF_nil ⟨fun h => (by cases h), (unhide HX8).2⟩ (hPP _ _ ?_)
      clear hPP
      go_wp2_with fail
      go_roundw
      case rel => exact ⟨k + 1, by omega, by go_num, unhide HCL⟩
      case measure => simp [intOf]; omega
    · have hk2 : k = v.len := by omega
      subst hk2
      obtain ⟨hat, hB, hm, ih⟩ := unhide HI
      obtain ⟨sl, hbx, hrow, hsep⟩ := hb.box
      obtain ⟨a, cap, rfl, hgot⟩ := cl_end hb hat.flat h8 hrow hsep
      have HG := hide hgot
      have hnod := hb.nod
      have r0 : ∀ o, wr.frozen? ⟨W.heap.size + 1, o, none⟩ = false := fun o => by simp [World.frozen?, hnod]
      have e0 : wr.cell? ⟨W.heap.size + 1, 0, none⟩ = some (.int .i64 0) := by simp [World.cell?, hnod]
      have e1 : wr.cell? ⟨W.heap.size + 1, 1, none⟩ = some (.int .i64 0) := by simp [World.cell?, hnod]
      have e2 : wr.cell? ⟨W.heap.size + 1, 2, none⟩ = some (.string ⟨#[]⟩) := by simp [World.cell?, hnod]
      have e3 : wr.cell? ⟨W.heap.size + 1, 3, none⟩ = some (.slice none 0 0) := by simp [World.cell?, hnod]
      have z0 : wr.cell? ⟨W.heap.size + 1 + 1, 0, none⟩ = some (.int .i64 v.kind) := by simp [World.cell?, hbx]
      have z1 : wr.cell? ⟨W.heap.size + 1 + 1, 1, none⟩ = some (.int .i64 v.num) := by simp [World.cell?, hbx]
      have z2 : wr.cell? ⟨W.heap.size + 1 + 1, 2, none⟩ = some (.string v.str) := by simp [World.cell?, hbx]
      have z3 : wr.cell? ⟨W.heap.size + 1 + 1, 3, none⟩ = some (.slice a v.len cap) := by simp [World.cell?, hbx]
      have HBW := hide hb.bw
      have hg : ¬ ((v.len : Int) < (v.len : Int)) := by omega
      clear hb hbx hrow hsep hgot hat hB hm ih hnod
      go_wp2_with fail
      refine bodyPost_ret (v := .agg #[.int .i64 v.kind, .int .i64 v.num, .string v.str, .slice a v.len cap]) (by simp [results, Tryd.results7, go_sem, e0, e1, e2, e3]) rfl ?_
      exact ⟨_, rfl, unhide HG _ _ _ _, ((((unhide HBW).setCell (by show _ ≤ W.heap.size + 1; omega) _).setCell (by show _ ≤ W.heap.size + 1; omega) _).setCell (by show _ ≤ W.heap.size + 1; omega) _).setCell (by show _ ≤ W.heap.size + 1; omega) _⟩
end Go.Proofs.YtbfkcfhkccicoaaDoor
