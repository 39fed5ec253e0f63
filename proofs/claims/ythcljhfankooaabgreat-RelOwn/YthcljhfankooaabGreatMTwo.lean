/- Two relations side by side. Going over pairs whose rounds write what they are handed. Find's iterator, whose rounds write what they are handed. RelMade: the searches one behind the other. -/
import Derived.Test.YthcljhfankooaabGreatMSrch
import Derived.Test.YthcljhfankooaabGreatMFinds
import Derived.Deep.Upon
namespace Go.Proofs.YthcljhfankooaabGreat
open Go.RowKit Go.Shelf

section
variable {w w' : World} {rb hb mb wd : Nat} {sh : List (Nat × Nat)} {os : List (List Int)} {ns : List Nrow}
/-- What lies apart is written. -/
theorem HAt.off [Xt] {O : Nat → Prop} (h : HAt w hb mb sh wd os ns) (hk : Keeps O w w') (hO : ∀ b, O b → Xt.x b) (hD : ∀ b ∈ Dk hb mb sh, ¬ O b) : HAt w' hb mb sh wd os ns where
  nd := h.nd
  wd8 := h.wd8
  len := h.len
  pos := h.pos
  ok := h.ok
  mem := by
    obtain ⟨ov, sv, h1, h2, h3⟩ := h.mem
    have hs : Stays (Fre hb mb sh) w w' := hk.stays (fun b _ hs e => hs.2 (hO b e))
    exact ⟨ov, sv, hk.same _ _ h1 (hD _ (by simp [Dk])), h2.stays hs, h3.stays hs⟩
  sets := fun j hj => by
    obtain ⟨xs, h1, h2⟩ := h.sets j hj
    have hs : Stays (Fre hb mb sh) w w' := hk.stays (fun b _ hs e => hs.2 (hO b e))
    have hin : (sh.getD j (0, 0)).2 ∈ Dk hb mb sh := by simp only [Dk, List.mem_cons]; exact .inr (.inr (sh_in h.len hj))
    have hl := h1.lt
    refine ⟨xs, h1.stays hs ?_, h2⟩
    rw [Array.getElem?_eq_getElem hl]
    exact hk.same _ _ (Array.getElem?_eq_getElem hl) (hD _ hin)
  map := h.map.block (by
    obtain ⟨es, c, e, _⟩ := h.map
    rw [e]; exact hk.same _ _ e (hD _ (by simp [Dk])))
  keys := h.keys
  ext := fun b hx => Nat.lt_of_lt_of_le (h.ext b hx) hk.size
theorem RelAt.off [Xt] {O : Nat → Prop} (h : RelAt w rb hb mb sh wd os ns) (hk : Keeps O w w') (hO : ∀ b, O b → Xt.x b) (hD : ∀ b ∈ Dk hb mb sh, ¬ O b) : RelAt w' rb hb mb sh wd os ns :=
  ⟨h.held.off hk hO hD, hk.same _ _ h.box (fun e => h.fre.2 (hO _ e)), h.fre⟩
/-- More to keep off. -/
theorem HAt.wider {X : Xt} {X' : Nat → Prop} (h : @HAt X w hb mb sh wd os ns) (hb' : Below w.heap.size w w') (h1 : ∀ b, X' b → X.x b ∨ w.heap.size ≤ b) (h2 : ∀ b, X' b → b < w'.heap.size) : @HAt ⟨X'⟩ w' hb mb sh wd os ns :=
  have hm : ∀ b, b < w.heap.size → @Fre X hb mb sh b → @Fre ⟨X'⟩ hb mb sh b := fun b hl hs => ⟨hs.1, fun e => (h1 b e).elim hs.2 (fun e => by omega)⟩
  have h' := h.later hb'
  @HAt.mk ⟨X'⟩ w' hb mb sh wd os ns h'.nd h'.wd8 h'.len h'.pos h'.ok (by
    obtain ⟨ov, sv, g1, g2, g3⟩ := h.mem
    exact ⟨ov, sv, (hb'.block _ (lt_heap g1)).trans g1, (g2.mono hm).later hb', (g3.mono hm).later hb'⟩) (fun j hj => by
    obtain ⟨xs, g1, g2⟩ := h.sets j hj
    have hin : (sh.getD j (0, 0)).2 ∈ Dk hb mb sh := by simp only [Dk, List.mem_cons]; exact .inr (.inr (sh_in h.len hj))
    exact ⟨xs, (g1.mono hm (fun hs => hs.1 hin)).later hb', g2⟩) h'.map h'.keys h2
theorem RelAt.wider {X : Xt} {X' : Nat → Prop} (h : @RelAt X w rb hb mb sh wd os ns) (hb' : Below w.heap.size w w') (h1 : ∀ b, X' b → X.x b ∨ w.heap.size ≤ b) (h2 : ∀ b, X' b → b < w'.heap.size) : @RelAt ⟨X'⟩ w' rb hb mb sh wd os ns :=
  @RelAt.mk ⟨X'⟩ _ _ _ _ _ _ _ _ (HAt.wider h.held hb' h1 h2) ((hb'.block _ (lt_heap h.box)).trans h.box) ⟨h.fre.1, fun e => (h1 _ e).elim h.fre.2 (fun e => by have := lt_heap h.box; omega)⟩
theorem rl_later {X : Xt} (h : @RelAt X w rb hb mb sh wd os ns) (b : Below w.heap.size w w') : @RelAt X w' rb hb mb sh wd os ns := h.later b
theorem rl_off {X : Xt} {O : Nat → Prop} (h : @RelAt X w rb hb mb sh wd os ns) (hk : Keeps O w w') (hO : ∀ b, O b → X.x b) (hD : ∀ b ∈ Dk hb mb sh, ¬ O b) : @RelAt X w' rb hb mb sh wd os ns := h.off hk hO hD
theorem rl_lt {X : Xt} (h : @RelAt X w rb hb mb sh wd os ns) : ∀ b ∈ Dk hb mb sh, b < w.heap.size := h.held.lt
theorem rl_all {X : Xt} (h : @RelAt X w rb hb mb sh wd os ns) (hlen : ns.length ≤ 1024) (cols : Int) (t : List Int) (b3 b4 b7 : Nat) (hF : FindAt w b3 b4 b7 rb cols t) :
    Calls Tryz.prog 31 #[.func (.func 37) #[] #[.pointer (some ⟨b3, 0, none⟩), .pointer (some ⟨b4, 0, none⟩), .pointer (some ⟨b7, 0, none⟩)]] w fun e w' => RowsOk w (foundL wd cols t ns) e w' :=
  rows_any w 37 _ _ (fun W' hs => find1_all W' rb hb mb wd sh os ns (h.later (hs.below (Nat.le_refl _) (Nat.le_refl _))) t cols b3 b4 b7 (hF.step hs)) eg_find1 (Nat.le_trans found_len_le hlen) (nsOk_found h cols t)
end

/-- Two relations, and what was there ahead of them. -/
def TwoIW (w : World) (ra rb wd : Nat) (na nb : List Nrow) (W : World) : Prop := ∃ ha ma sa oa hb mb sb ob, @RelAt ⟨fun b => b ∈ Dk hb mb sb⟩ W ra ha ma sa wd oa na ∧ @RelAt ⟨fun b => b ∈ Dk ha ma sa⟩ W rb hb mb sb wd ob nb ∧
  (∀ b ∈ Dk ha ma sa, w.heap.size ≤ b ∧ b ∉ Dk hb mb sb) ∧ (∀ b ∈ Dk hb mb sb, w.heap.size ≤ b) ∧ Below w.heap.size w W
theorem TwoIW.below {w W : World} {ra rb wd : Nat} {na nb : List Nrow} (h : TwoIW w ra rb wd na nb W) : Below w.heap.size w W := by
  obtain ⟨_, _, _, _, _, _, _, _, _, _, _, _, h5⟩ := h
  exact h5
theorem TwoIW.later {w W W' : World} {ra rb wd : Nat} {na nb : List Nrow} (h : TwoIW w ra rb wd na nb W) (b : Below W.heap.size W W') : TwoIW w ra rb wd na nb W' := by
  obtain ⟨ha, ma, sa, oa, hb, mb, sb, ob, h1, h2, h3, h4, h5⟩ := h
  exact ⟨ha, ma, sa, oa, hb, mb, sb, ob, rl_later h1 b, rl_later h2 b, h3, h4, h5.trans (b.mono h5.size)⟩
/-- The second is made. -/
theorem new_two (w W : World) (ra wd : Nat) (hA : RelIW w ra wd [] W) (v : Value) (l : List Int) (h : Ints W.heap.size W v l) (hw : wd ≤ 8) (hl : C.lookE wd l = 0) :
    Calls Tryz.prog 5 #[.int .i64 (wd : Int), v] W fun e w' => ∃ rb, e = .returned (.tuple #[.pointer (some ⟨rb, 0, none⟩), .int .i64 0]) ∧ TwoIW w ra rb wd [] [] w' := by
  obtain ⟨ha, ma, sa, oa, g1, g2, g3⟩ := hA
  have hlt := rl_lt g1
  refine (@relnew_ok ⟨fun b => b ∈ Dk ha ma sa⟩ W wd v l h hw hl (fun b e => hlt b e)).mono ?_
  rintro e w1 ⟨rb, hb, mb, sb, ob, rfl, hR, hD, hrb, b1⟩
  have hlt2 := rl_lt hR
  have hs := g3.size
  exact ⟨rb, rfl, ha, ma, sa, oa, hb, mb, sb, ob, RelAt.wider g1 b1 (fun b e => .inr (hD b e)) (fun b e => hlt2 b e), hR, fun b e => ⟨g2 b e, fun e2 => by have := hlt b e; have := hD b e2; omega⟩, fun b e => by have := hD b e; omega, g3.trans (b1.mono hs)⟩
theorem put_two1 (w W : World) (ra rb wd : Nat) (na nb : List Nrow) (h : TwoIW w ra rb wd na nb W) (tv : Value) (t : List Int) (ht : IntsS (fun b => b < w.heap.size) w tv t) (hB : Bnd t) (x y : Nat) (hx : W64 x) (hy : W64 y) (hroom : (getN t na).isSome = true ∨ na.length < 1024) :
    Calls Tryz.prog 8 #[.pointer (some ⟨ra, 0, none⟩), .complex .f64 x y, tv] W fun e w' => e = .returned (.tuple #[.bool (rputB x y t wd na), .int .i64 (rputE x y t wd na)]) ∧ TwoIW w ra rb wd (rputTo x y t wd na) nb w' := by
  obtain ⟨ha, ma, sa, oa, hb, mb, sb, ob, h1, h2, h3, h4, h5⟩ := h
  refine (@rput_any ⟨fun b => b ∈ Dk hb mb sb⟩ _ ra ha ma wd sa oa na h1 t tv ((ht.later h5).mono (fun b _ hlt hn => by have := (h3 b hn).1; omega)) hB x y hx hy hroom).mono ?_
  rintro e w' ⟨rfl, r1, r2⟩
  exact ⟨rfl, ha, ma, sa, oa, hb, mb, sb, ob, r1, rl_off h2 r2 (fun b e => e) (fun b e e2 => (h3 b e2).2 e), h3, h4, h5.trans (r2.below h5.size (fun q hq => (h3 q hq).1))⟩
theorem put_two2 (w W : World) (ra rb wd : Nat) (na nb : List Nrow) (h : TwoIW w ra rb wd na nb W) (tv : Value) (t : List Int) (ht : IntsS (fun b => b < w.heap.size) w tv t) (hB : Bnd t) (x y : Nat) (hx : W64 x) (hy : W64 y) (hroom : (getN t nb).isSome = true ∨ nb.length < 1024) :
    Calls Tryz.prog 8 #[.pointer (some ⟨rb, 0, none⟩), .complex .f64 x y, tv] W fun e w' => e = .returned (.tuple #[.bool (rputB x y t wd nb), .int .i64 (rputE x y t wd nb)]) ∧ TwoIW w ra rb wd na (rputTo x y t wd nb) w' := by
  obtain ⟨ha, ma, sa, oa, hb, mb, sb, ob, h1, h2, h3, h4, h5⟩ := h
  refine (@rput_any ⟨fun b => b ∈ Dk ha ma sa⟩ _ rb hb mb wd sb ob nb h2 t tv ((ht.later h5).mono (fun b _ hlt hn => by have := h4 b hn; omega)) hB x y hx hy hroom).mono ?_
  rintro e w' ⟨rfl, r1, r2⟩
  exact ⟨rfl, ha, ma, sa, oa, hb, mb, sb, ob, rl_off h1 r2 (fun b e => e) (fun b e e2 => (h3 b e).2 e2), r1, h3, h4, h5.trans (r2.below h5.size (fun q hq => h4 q hq))⟩
theorem rows_two1 (w W : World) (ra rb wd : Nat) (na nb : List Nrow) (h : TwoIW w ra rb wd na nb W) (hlen : na.length ≤ 1024) (cols : Int) (t : List Int) (b3 b4 b7 : Nat) (hF : FindAt W b3 b4 b7 ra cols t) :
    Calls Tryz.prog 31 #[.func (.func 37) #[] #[.pointer (some ⟨b3, 0, none⟩), .pointer (some ⟨b4, 0, none⟩), .pointer (some ⟨b7, 0, none⟩)]] W fun e w' => RowsOk W (foundL wd cols t na) e w' := by
  obtain ⟨ha, ma, sa, oa, hb, mb, sb, ob, h1, h2, h3, h4, h5⟩ := h
  exact rl_all h1 hlen cols t b3 b4 b7 hF
theorem rows_two2 (w W : World) (ra rb wd : Nat) (na nb : List Nrow) (h : TwoIW w ra rb wd na nb W) (hlen : nb.length ≤ 1024) (cols : Int) (t : List Int) (b3 b4 b7 : Nat) (hF : FindAt W b3 b4 b7 rb cols t) :
    Calls Tryz.prog 31 #[.func (.func 37) #[] #[.pointer (some ⟨b3, 0, none⟩), .pointer (some ⟨b4, 0, none⟩), .pointer (some ⟨b7, 0, none⟩)]] W fun e w' => RowsOk W (foundL wd cols t nb) e w' := by
  obtain ⟨ha, ma, sa, oa, hb, mb, sb, ob, h1, h2, h3, h4, h5⟩ := h
  exact rl_all h2 hlen cols t b3 b4 b7 hF
end Go.Proofs.YthcljhfankooaabGreat

namespace Go.Proofs.YthcljhfankooaabGreat
open Go.RowKit Go.Shelf

/-- The blocks keep their form. -/
def Shp (H : Nat → Prop) (W W' : World) : Prop := ∀ b cur tt fz, H b → W.heap[b]? = some (.cells cur tt fz) → ∃ cur', W'.heap[b]? = some (.cells cur' tt fz) ∧ cur'.size = cur.size
theorem Shp.refl (H : Nat → Prop) (W : World) : Shp H W W := fun _ cur _ _ _ h => ⟨cur, h, rfl⟩
theorem Shp.trans {H : Nat → Prop} {A B C : World} (h : Shp H A B) (h2 : Shp H B C) : Shp H A C := fun b cur tt fz hb h0 => by
  obtain ⟨c1, g1, e1⟩ := h b cur tt fz hb h0
  obtain ⟨c2, g2, e2⟩ := h2 b c1 tt fz hb g1
  exact ⟨c2, g2, e2.trans e1⟩
theorem Shp.set {H : Nat → Prop} (W : World) (b i : Nat) (v : Value) : Shp H W (W.setCell ⟨b, i, none⟩ v) := fun c cur tt fz _ h0 => by
  by_cases e : c = b
  · subst e
    exact ⟨_, set_heap h0 i v, by simp⟩
  · exact ⟨cur, ((Keeps.refl (fun x => x = b) W).setCell ⟨b, i, none⟩ rfl v).same _ _ h0 e, rfl⟩
/-- A row that may be written over. -/
def WrT (H : Nat → Prop) (W : World) (v : Value) : Prop := ∃ a n c, v = .slice a n c ∧ n ≤ c ∧ c ≤ 9223372036854775807 ∧ (0 < n → ∃ b off cur tt fz, a = some ⟨b, off, none⟩ ∧ H b ∧ W.heap[b]? = some (.cells cur tt fz) ∧ off + n ≤ cur.size ∧ ∀ q, q < n → W.frozen? ⟨b, off + q, none⟩ = false)
theorem frz_at {w w' : World} {b i : Nat} {cur cur' : Array Value} {t t' : TypeId} {fz : Nat × Nat} (h : w.heap[b]? = some (.cells cur t fz)) (h' : w'.heap[b]? = some (.cells cur' t' fz)) : w'.frozen? ⟨b, i, none⟩ = w.frozen? ⟨b, i, none⟩ := by simp [World.frozen?, h, h']
theorem WrT.shp {H : Nat → Prop} {W W' : World} {v : Value} (h : WrT H W v) (hs : Shp H W W') : WrT H W' v := by
  obtain ⟨a, n, c, e, h1, h2, h3⟩ := h
  refine ⟨a, n, c, e, h1, h2, fun h0 => ?_⟩
  obtain ⟨b, off, cur, tt, fz, e1, e2, e3, e4, e5⟩ := h3 h0
  obtain ⟨cur', g1, g2⟩ := hs b cur tt fz e2 e3
  exact ⟨b, off, cur', tt, fz, e1, e2, g1, by omega, fun q hq => (frz_at e3 g1).trans (e5 q hq)⟩
theorem Shp.stays {H : Nat → Prop} {W W' : World} (h : Stays H W W') : Shp H W W' := fun b cur _ _ hb h0 => ⟨cur, h.same b _ h0 rfl hb, rfl⟩
theorem WrT.of {H : Nat → Prop} {W : World} {v : Value} {l : List Int} (hi : IntsS H W v l) (hf : Free W v l) : WrT H W v := by
  obtain ⟨a, cap, e, h1, h2, hc⟩ := hi
  subst e
  refine ⟨a, l.length, cap, rfl, h1, h2, fun h0 => ?_⟩
  obtain ⟨b, off, e, hb, hcell⟩ := hc (l.length - 1) (by omega)
  obtain ⟨ob, ho, hoc⟩ := cells_of_cell hcell
  cases ob with
  | cells cur tt fz =>
    refine ⟨b, off, cur, tt, fz, e, hb, ho, ?_, fun q hq => hf b off _ _ (by rw [e]) q hq⟩
    have h2 := (cell_at ho (off + (l.length - 1))).symm.trans hcell
    have := (Array.getElem?_eq_some_iff.1 h2).1
    omega
  | _ => cases hoc

def RoundsQ (base l N : Nat) (Y : Nat → (Nat → Prop) → Value × Value → World → Prop) (J : Nat → (Nat → Prop) → World → Prop) : Prop :=
  ∀ (m k : Nat) (O H : Nat → Prop) (v : Value × Value) (W : World), k < N → J k O W → (∀ b, H b → base ≤ b ∧ ¬ O b ∧ b < W.heap.size) → Y k H v W → YieldAt Fence.wide m Tryz.prog l #[v.1, v.2] W fun e W' =>
    e = .returned (.bool true) ∧ (∃ O', J (k + 1) O' W' ∧ (∀ b, O' b → (O b ∨ W.heap.size ≤ b) ∧ b < W'.heap.size)) ∧ Keeps (fun b => O b ∨ H b) W W' ∧ Shp H W W'
def GoesAtQ (g : Nat) (lb : Array Value) (N : Nat) (Y : Nat → (Nat → Prop) → Value × Value → World → Prop) (W : World) : Prop :=
  ∀ (l : Nat) (J : Nat → (Nat → Prop) → World → Prop) (O : Nat → Prop), (∀ b, O b → b < W.heap.size) →
    (∀ k O A B, J k O A → Step W.heap.size A B → J k O B) → RoundsQ W.heap.size l N Y J → J 0 O W →
    Calls Tryz.prog g (#[.func (.yield l) #[] #[]] ++ lb) W fun e W' => (∃ v, e = .returned v) ∧ ∃ O', J N O' W' ∧ (∀ b, O' b → (O b ∨ W.heap.size ≤ b) ∧ b < W'.heap.size)
def roundEndQ (I : Nat → (Nat → Prop) → World → Prop) (k : Nat) (O H : Nat → Prop) (W : World) : Exit → Act → World → Prop
  | .normal, _, W' => (∃ O', I (k + 1) O' W' ∧ (∀ b, O' b → (O b ∨ W.heap.size ≤ b) ∧ b < W'.heap.size)) ∧ Keeps (fun b => O b ∨ H b) W W' ∧ Shp H W W'
  | _, _, _ => False

theorem wp_rangeQ {n : Nat} {g : Operand} {t t2 : Tmp} {assign body : Code} {Q : Exit → Act → World → Prop} {a : Act} {w : World} {gf : Nat} {lb : Array Value}
    (hg : a.eval g = .func (.func gf) #[] lb) (eg : ∀ args w, (callFunc gf args).run Tryz.prog w = .ok (.enter gf args) w)
    {N : Nat} {Y : Nat → (Nat → Prop) → Value × Value → World → Prop} (hseq : ∀ W, Step w.heap.size w W → GoesAtQ gf lb N Y W) (hY : ∀ k H v A B, Y k H v A → Step 0 A B → Y k H v B)
    (O : Nat → Prop) (hO : ∀ b, O b → b < w.heap.size)
    (I : Nat → (Nat → Prop) → World → Prop) (hI : ∀ k O A B, I k O A → Step w.heap.size A B → I k O B) (h0 : I 0 O w)
    (a₁ : Value × Value → Act)
    (hassign : ∀ (l m : Nat) (v : Value × Value) (W : World) (K : Act → World → Prop), K (a₁ v) W → assign.wpIn (Fence.wide.inRound l) m Tryz.prog (Exit.then K (fun _ _ _ => False)) { tmps := (a.tmps.setIfInBounds t v.1).setIfInBounds t2 v.2, defers := [] } W)
    (hbody : ∀ (l m k : Nat) (O' H : Nat → Prop) (v : Value × Value) (W : World), w.heap.size ≤ W.heap.size → (∀ b, O' b → (O b ∨ w.heap.size + 2 ≤ b) ∧ b < W.heap.size) → (∀ b, H b → w.heap.size + 2 ≤ b ∧ ¬ O' b ∧ b < W.heap.size) → k < N → I k O' W → Y k H v W → body.wpIn (Fence.wide.inRound l) m Tryz.prog (roundEndQ I k O' H W) (a₁ v) W)
    (hdone : ∀ (D : Nat) (O' : Nat → Prop) (W : World), D = w.heap.size → (∀ b, O' b → (O b ∨ w.heap.size + 2 ≤ b) ∧ b < W.heap.size) → I N O' W → W.heap[D]? = some (.deferred (some [])) → Q .normal { a with defers := { target := .collected D, args := #[] } :: a.defers } W) :
    (Code.rangeFunc g #[t, t2] assign body).wpIn Fence.wide n Tryz.prog Q a w := by
  refine wpIn_rangeFunc ?_
  intro fn hfn
  have hro : Fence.wide.round = none := rfl
  rw [hro]
  obtain ⟨rec, hrec⟩ : ∃ rec : LoopState → Option Code → Loop, rec = fun st pe => { state := st, pending := pe, fn, tmps := a.tmps, params := #[t, t2], assign, body, defers := w.heap.size } := ⟨_, rfl⟩
  obtain ⟨W1, hW1⟩ : ∃ W1, (w.alloc (.deferred (some []))).alloc (.loop (rec .ready none)) = W1 := ⟨_, rfl⟩
  have hs1 : W1.heap.size = w.heap.size + 2 := by rw [← hW1]; simp
  have hL1 : W1.heap[w.heap.size + 1]? = some (.loop (rec .ready none)) := by
    rw [← hW1]; have := World.alloc_heap_new (w.alloc (.deferred (some []))) (.loop (rec .ready none)); rwa [World.size_alloc] at this
  have hD1 : W1.heap[w.heap.size]? = some (.deferred (some [])) := by
    rw [← hW1]; exact (Below.heap_alloc _ _ _ (by simp)).trans (World.alloc_heap_new w _)
  have hst : Step w.heap.size w W1 := by rw [← hW1]; exact (Step.alloc _ _ _).trans (Step.alloc _ _ _)
  refine ⟨w.heap.size + 1, [{ target := .collected w.heap.size, args := #[] }], W1, { target := .fn (.func gf) lb, args := #[.func (.yield (w.heap.size + 1)) #[] #[]] }, W1, gf,
    #[.func (.yield (w.heap.size + 1)) #[] #[]] ++ lb, W1, ?_, ?_, ?_, ?_, fun h => (by cases h), ?_⟩
  · rw [← hW1, hrec]; exact run_enterLoop_outer _ _ _ _ _
  · simp only [resolve, hg]
    simp [go_sem]
  · intro f' _; trivial
  · simp [invoke, go_sem, eg]
  refine callsIn_wide.2 ((hseq W1 hst (w.heap.size + 1)
    (fun k O' W => I k O' W ∧ (∀ b, O' b → (O b ∨ w.heap.size + 2 ≤ b) ∧ b < W.heap.size) ∧ W.heap[w.heap.size + 1]? = some (.loop (rec .ready none)) ∧ W.heap[w.heap.size]? = some (.deferred (some [])))
    O (fun b hb => by have := hO b hb; omega)
    ?_ ?_ ⟨hI _ _ _ _ h0 hst, fun b hb => ⟨.inl hb, by have := hO b hb; omega⟩, hL1, hD1⟩).mono ?_)
  · rintro k O' A B ⟨h1, h2, h3, h4⟩ hs
    rw [hs1] at hs
    exact ⟨hI _ _ _ _ h1 (hs.mono (by omega)), fun b hb => ⟨(h2 b hb).1, Nat.lt_of_lt_of_le (h2 b hb).2 hs.size⟩, hs.same _ _ h3 (.inl (by omega)), hs.same _ _ h4 (.inl (by omega))⟩
  · rintro m k O' H v W hk ⟨hi, hO', hl, hd⟩ hH hy
    rw [hs1] at hH
    have nl : ¬ (O' (w.heap.size + 1) ∨ H (w.heap.size + 1)) := fun e => by
      rcases e with e | e
      · rcases (hO' _ e).1 with e | e; (have := hO _ e; omega); omega
      · have := (hH _ e).1; omega
    have nd : ¬ (O' w.heap.size ∨ H w.heap.size) := fun e => by
      rcases e with e | e
      · rcases (hO' _ e).1 with e | e; (have := hO _ e; omega); omega
      · have := (hH _ e).1; omega
    have hlt := lt_heap hl
    have hyr := run_yield (P := Tryz.prog) (args := #[v.1, v.2]) hl (by rw [hrec]; rfl)
    rw [hrec] at hyr
    refine ⟨fn, (a.tmps.setIfInBounds t v.1).setIfInBounds t2 v.2, assign, body, (by simpa using hyr), roundIn_of_wpIn hfn ?_⟩
    refine hassign _ _ v W _ ?_
    refine ⟨_, run_beginRound hl (by rw [hrec]), ?_⟩
    clear hyr
    obtain ⟨W2, hW2⟩ : ∃ W2, W.putObj (w.heap.size + 1) (.loop { rec .ready none with state := .busy }) = W2 := ⟨_, rfl⟩
    rw [hW2]
    have hs2 : Step w.heap.size W W2 := by rw [← hW2]; exact Step.putObj hl rfl (by omega) _
    have hs0 : Step 0 W W2 := hs2.mono (Nat.zero_le _)
    have hsz2 : W2.heap.size = W.heap.size := by rw [← hW2]; simp
    have hl2 : W2.heap[w.heap.size + 1]? = some (.loop { rec .ready none with state := .busy }) := by rw [← hW2]; exact World.putObj_heap_same hlt
    have hd2 : W2.heap[w.heap.size]? = some (.deferred (some [])) := by rw [← hW2]; exact (World.putObj_heap_other (by omega)).trans hd
    refine wpIn_mono (hbody (w.heap.size + 1) m k O' H v W2 (by omega) (fun b hb => ⟨(hO' b hb).1, by have := (hO' b hb).2; omega⟩) (fun b hb => ⟨(hH b hb).1, (hH b hb).2.1, by have := (hH b hb).2.2; omega⟩) hk (hI _ _ _ _ hi hs2) (hY _ _ _ _ _ hy hs0)) ?_
    rintro e a3 W3 hp
    cases e with
    | normal =>
      obtain ⟨⟨O3, hi3, hsub⟩, h3, hq3⟩ := hp
      have hl3 := h3.same _ _ hl2 nl
      have hd3 := h3.same _ _ hd2 nd
      have hr := run_endRound (P := Tryz.prog) none hl3
      have h1 : Step w.heap.size W3 (W3.putObj (w.heap.size + 1) (.loop (rec .ready none))) := Step.putObj hl3 rfl (by omega) _
      refine ⟨_, W3.putObj (w.heap.size + 1) (.loop (rec .ready none)), (by rw [hrec] at hr ⊢; exact hr), rfl, ⟨O3, ⟨hI _ _ _ _ hi3 h1, fun b hb => ?_, World.putObj_heap_same (lt_heap hl3), (World.putObj_heap_other (by omega)).trans hd3⟩, fun b hb => ?_⟩, ?_, ?_⟩
      · refine ⟨?_, by have := (hsub b hb).2; simp; omega⟩
        rcases (hsub b hb).1 with e | e
        · exact (hO' b e).1
        · right; omega
      · refine ⟨?_, by have := (hsub b hb).2; simp; omega⟩
        rcases (hsub b hb).1 with e | e
        · exact .inl e
        · right; omega
      · exact ⟨h3.os.trans hs2.os, h3.tape.trans hs2.tape, h3.output.trans hs2.output, by have := h3.size; simp; omega, fun b o1 hb hn => by
          by_cases e : b = w.heap.size + 1
          · subst e
            rw [hl] at hb
            cases hb
            exact World.putObj_heap_same (lt_heap hl3)
          · refine (World.putObj_heap_other e).trans (h3.same b o1 ?_ hn)
            rw [← hW2]
            exact (World.putObj_heap_other e).trans hb⟩
      · intro b cur tt fz hb hb0
        have e : b ≠ w.heap.size + 1 := fun e => nl (.inr (e ▸ hb))
        obtain ⟨cur', g1, g2⟩ := hq3 b cur tt fz hb (by rw [← hW2]; exact (World.putObj_heap_other e).trans hb0)
        exact ⟨cur', (World.putObj_heap_other e).trans g1, g2⟩
    | ret => exact hp.elim
    | exit id => exact hp.elim
    | goto t => exact hp.elim
    | panic ch => exact hp.elim
    | outgrown => exact hp.elim
  · rintro e W2 ⟨⟨v, rfl⟩, O2, ⟨hi, hO2, hl, hd⟩, _⟩
    refine ⟨none, _, (by have := run_endLoop (P := Tryz.prog) hl (by rw [hrec]; simp); rw [hrec] at this; exact this), ?_⟩
    exact hdone _ O2 _ rfl (fun b hb => ⟨(hO2 b hb).1, by have := (hO2 b hb).2; simp; omega⟩) (hI _ _ _ _ hi (Step.putObj hl rfl (by omega) _)) ((World.putObj_heap_other (by omega)).trans hd)
end Go.Proofs.YthcljhfankooaabGreat

namespace Go.Proofs.YthcljhfankooaabGreat
open Go.RowKit Go.Shelf
attribute [local go_sem] store_cplx

def HandsQ (_k : Nat) (H : Nat → Prop) (v : Value × Value) (W : World) : Prop := WrT H W v.1
theorem WrT.stays {H : Nat → Prop} {W W' : World} {v : Value} (h : WrT H W v) (hs : Stays H W W') : WrT H W' v := h.shp (Shp.stays hs)
theorem HandsQ.step {k : Nat} {H : Nat → Prop} {v : Value × Value} {A B : World} (h : HandsQ k H v A) (hs : Step 0 A B) : HandsQ k H v B := WrT.stays h hs.stays
def RowsQ (B T : Nat → Prop) (w : World) (v : Value) (n : Nat) : Prop := ∃ a cap, v = .slice a n cap ∧ n ≤ cap ∧ cap ≤ 9223372036854775807 ∧ ∀ j, j < n → ∃ b u na nb, a = some ⟨b, 0, none⟩ ∧ B b ∧ ¬ T b ∧ w.cell? ⟨b, j * 2, none⟩ = some u ∧ w.cell? ⟨b, j * 2 + 1, none⟩ = some (.complex .f64 na nb) ∧ WrT T w u
theorem RowsQ.keeps {B B' T O : Nat → Prop} {w w' : World} {v : Value} {n : Nat} (h : RowsQ B T w v n) (hk : Keeps (fun b => O b ∨ T b) w w') (hq : Shp T w w') (hB : ∀ b, b < w.heap.size → B b → B' b ∧ ¬ O b) : RowsQ B' T w' v n := by
  obtain ⟨a, cap, h1, h2, h3, h4⟩ := h
  refine ⟨a, cap, h1, h2, h3, fun j hj => ?_⟩
  obtain ⟨b, u, na, nb, e1, e2, e3, e4, e5, e6⟩ := h4 j hj
  obtain ⟨ob, ho, hoc⟩ := cells_of_cell e4
  obtain ⟨g1, g2⟩ := hB b (lt_heap ho) e2
  have hsame : w'.heap[b]? = w.heap[b]? := (hk.same _ _ ho (fun e => e.elim g2 e3)).trans ho.symm
  have hc : ∀ i, w'.cell? ⟨b, i, none⟩ = w.cell? ⟨b, i, none⟩ := fun i => by unfold World.cell?; rw [hsame]
  exact ⟨b, u, na, nb, e1, g1, e3, (hc _).trans e4, (hc _).trans e5, e6.shp hq⟩
def FgQ (W : World) (n : Nat) (rv : Value) (O T : Nat → Prop) (J : Nat → (Nat → Prop) → World → Prop) (i : Value) (wr : World) : Prop := ∃ (k : Nat) (O' : Nat → Prop), k ≤ n ∧ i = .int .i64 (k : Int) ∧ J k O' wr ∧ (∀ b, O' b → (O b ∨ W.heap.size ≤ b) ∧ b < wr.heap.size) ∧ RowsQ (fun b => W.heap.size ≤ b ∧ ¬ O' b ∧ b < wr.heap.size) T wr rv n ∧ (∀ b, T b → W.heap.size ≤ b ∧ ¬ O' b ∧ b < wr.heap.size) ∧ W.heap.size ≤ wr.heap.size

set_option maxRecDepth 100000 in
set_option maxHeartbeats 4000000 in
theorem find1_goesQ {X : Xt} (W : World) (rb hb mb wd : Nat) (sh : List (Nat × Nat)) (os : List (List Int)) (ns : List Nrow) (h : @RelAt X W rb hb mb sh wd os ns) (t : List Int) (hl : t.length = wd) (cols : Nat) (hcols : cols < 2 ^ wd) (b3 b4 b7 : Nat) (hF : FindAt W b3 b4 b7 rb cols t) (R : List Nrow) (hR : IsFound cols t ns R) :
    GoesAtQ 37 #[.pointer (some ⟨b3, 0, none⟩), .pointer (some ⟨b4, 0, none⟩), .pointer (some ⟨b7, 0, none⟩)] R.length HandsQ W := by
  intro lp J O hO hJ hY h0
  obtain ⟨k3, k4, xa, xc, k7, hx⟩ := hF
  have hfd := @found_any X W rb hb mb wd sh os ns h t _ hx.ints hl cols hcols
  have c3 := k3.cell
  have c4 := k4.cell
  have c7 := k7.cell
  have HY := hide (And.intro hY (And.intro hJ (And.intro h0 (And.intro hO hR))))
  clear h hl hcols k3 k4 k7 hx hO hJ hY h0 hR
  obtain ⟨PO, hPO⟩ : ∃ PO : Ending → World → Prop, PO = fun e W' => (∃ v, e = .returned v) ∧ ∃ O', J R.length O' W' ∧ (∀ b, O' b → (O b ∨ W.heap.size ≤ b) ∧ b < W'.heap.size) := ⟨_, rfl⟩
  rw [← hPO]
  have HPO := hide hPO
  clear hPO
  go_enter Tryz.func37, Tryz.ntmps37
  go_wp2_with fail
  refine hfd.mono ?_
  clear hfd
  rintro e w1 ⟨rv, R', T, rfl, hrows, hF', b1⟩
  obtain rfl := found_one hF' (unhide HY).2.2.2.2
  obtain ⟨ra, rc, rfl, _⟩ := id hrows
  have hw1 := b1.size
  have HR := hide (And.intro hrows b1)
  clear hrows hF' b1 c3 c4 c7
  go_wp2_with fail
  go_loopw [12] (fun i wr => FgQ W R'.length (.slice ra R'.length rc) O (fun b => W.heap.size ≤ b ∧ T b ∧ b < w1.heap.size) J i wr) (fun i _ => R'.length - (intOf i).toNat)
  case atStart =>
    obtain ⟨⟨a, cap, h1, h2, h3, h4⟩, b1⟩ := unhide HR
    obtain ⟨hY, hJ, h0, hO, _⟩ := unhide HY
    refine ⟨0, O, Nat.zero_le _, rfl, hJ _ _ _ _ h0 (Step.of_below b1), fun b hb => ⟨.inl hb, by have := hO b hb; omega⟩, ⟨a, cap, h1, h2, h3, fun j hj => ?_⟩, fun b hb => ⟨hb.1, fun e => by have := hO b e; omega, hb.2.2⟩, hw1⟩
    obtain ⟨b, u, p, e1, e2, e3, e4, e5, e6, e7⟩ := h4 j hj
    obtain ⟨ob, ho, _⟩ := cells_of_cell e5
    have hl := lt_heap ho
    exact ⟨b, u, _, _, e1, ⟨e2, fun e => by have := hO b e; omega, hl⟩, fun h => e3 h.2.1, e5, e6, WrT.of (e7.ints.mono (fun b hb h => ⟨h.1, h.2, hb⟩)) e7.free⟩
  case round =>
    obtain ⟨k, O', hk, rfl, hJk, hO', hrw, hT, hsz⟩ := hrel
    by_cases hlt : k < R'.length
    · obtain ⟨a, cap, e1, e2, e3, e4⟩ := id hrw
      obtain ⟨b, u, na, nb, f1, f2, f3, f4, f5, f6⟩ := e4 k hlt
      simp only [Value.slice.injEq] at e1
      have f1' : ra = some ⟨b, 0, none⟩ := e1.1.trans f1
      subst f1'
      obtain ⟨ua, un, uc, eu, _⟩ := id f6
      obtain ⟨hY, hJ, h0, hO, hRf⟩ := unhide HY
      obtain ⟨wv, hwv⟩ : ∃ wv, wv = wr.alloc (.cells #[u, .complex .f64 na nb] 91) := ⟨_, rfl⟩
      have bv : Below wr.heap.size wr wv := by rw [hwv]; exact (Below.refl _ wr).alloc (Nat.le_refl _) _
      have gv : wv.heap[wr.heap.size]? = some (.cells #[u, .complex .f64 na nb] 91 (0, 0)) := by rw [hwv]; exact World.alloc_heap_new wr _
      have sv : wv.heap.size = wr.heap.size + 1 := by rw [hwv]; simp
      have hrnd := hY (6 - 1) k O' (fun b => W.heap.size ≤ b ∧ T b ∧ b < w1.heap.size) (u, .complex .f64 na nb) wv hlt (hJ _ _ _ _ hJk (Step.of_below bv)) (fun b hb => ⟨(hT b hb).1, (hT b hb).2.1, by have := (hT b hb).2.2; omega⟩) (f6.stays (Stays.of_below bv))
      obtain ⟨fn, tmps, assign, body, hyr, hRd⟩ := hrnd
      have g1 : wv.cell? ⟨wr.heap.size, 0, none⟩ = some u := by rw [cell_at gv]; rfl
      have g2 : wv.cell? ⟨wr.heap.size, 1, none⟩ = some (.complex .f64 na nb) := by rw [cell_at gv]; rfl
      have HI := hide (And.intro hO' (And.intro hrw (And.intro bv (And.intro sv hT))))
      subst eu
      have HW := hide hwv
      clear e1 e2 e3 e4 f1 hJk hO' hrw f2 f3 f6 hY hJ h0 hO hRf bv gv sv hwv hT
      refine (wpIn_wide (n := 6)).1 ?_
      gi_wp2
      rw [← unhide HW, hyr]
      first
        | (refine hRd.mono ?_)
        | (refine ⟨fun h => (by cases h), hRd.mono ?_⟩)
      clear hRd hyr
      rintro e W4 ⟨rfl, ⟨O3, hJ3, hsub⟩, hk4, hq4⟩
      have H4 := hide (And.intro hJ3 (And.intro hsub (And.intro hk4 hq4)))
      clear hJ3 hsub hk4 hq4
      gi_wp2
      obtain ⟨hJ3, hsub, hk4, hq4⟩ := unhide H4
      obtain ⟨hO', hrw, bv, sv, hT⟩ := unhide HI
      have s4 := hk4.size
      have hno : ∀ q, q < wr.heap.size → ¬ O' q → ¬ O3 q := fun q hq hn e => by
        rcases (hsub q e).1 with e | e
        · exact hn e
        · omega
      refine ⟨⟨k + 1, O3, hlt, by rw [Int.natCast_add]; rfl, hJ3, fun b hb => ⟨?_, (hsub b hb).2⟩, ?_, fun b hb => ⟨(hT b hb).1, hno b (hT b hb).2.2 (hT b hb).2.1, by have := (hT b hb).2.2; omega⟩, by omega⟩, by simp [intOf]; omega⟩
      · rcases (hsub b hb).1 with e | e
        · exact (hO' b e).1
        · exact .inr (by omega)
      · have r1 := hrw.keeps (O := fun _ => False) (Keeps.of_below bv) (Shp.stays (Stays.of_below bv)) (fun _ _ h => ⟨h, fun e => e⟩)
        exact r1.keeps hk4 hq4 (fun q _ hq => ⟨⟨hq.1, hno q hq.2.2 hq.2.1, by have := hq.2.2; omega⟩, hq.2.1⟩)
    · have hkR : k = R'.length := by omega
      have hg : ¬ ((k : Int) < (R'.length : Int)) := by omega
      have HI := hide (And.intro hJk hO')
      clear hJk hO' hrw hT
      go_wp2_with fail
      go_end0
      rw [unhide HPO]
      obtain ⟨hJk, hO'⟩ := unhide HI
      rw [hkR] at hJk
      exact ⟨⟨_, rfl⟩, O', hJk, hO'⟩
/-- All rows are handed, whatever is written into them. -/
theorem all_goesQ {X : Xt} (W : World) (rb hb mb wd : Nat) (sh : List (Nat × Nat)) (os : List (List Int)) (ns : List Nrow) (h : @RelAt X W rb hb mb sh wd os ns) (b3 b4 b7 : Nat) (hF : FindAt W b3 b4 b7 rb 0 (List.replicate wd 0)) :
    GoesAtQ 37 #[.pointer (some ⟨b3, 0, none⟩), .pointer (some ⟨b4, 0, none⟩), .pointer (some ⟨b7, 0, none⟩)] (foundL wd 0 (List.replicate wd 0) ns).length HandsQ W := by
  have hc : colsOk wd 0 (List.replicate wd 0) := ⟨by simp, by omega, by have := Nat.two_pow_pos wd; omega⟩
  exact find1_goesQ W rb hb mb wd sh os ns h (List.replicate wd 0) (by simp) 0 (Nat.two_pow_pos wd) b3 b4 b7 hF _ (found_is h.held.keys.1 hc)
end Go.Proofs.YthcljhfankooaabGreat

namespace Go.Proofs.YthcljhfankooaabGreat
open Go.RowKit Go.Shelf

/-- Numbers behind an own row. -/
theorem appO_run {base : Nat} (w : World) (v : Value) (l : List Int) (h : OwnI base w v l) (hb : base ≤ w.heap.size) (xv : Value) (x : List Int) (hx : Ints w.heap.size w xv x) (hn : l.length + x.length ≤ 2000) :
    ∃ r w', (Builtin.append_ #[32, 32] 32 #[v, xv]).run Tryz.prog w = .ok r w' ∧ OwnI base w' r (l ++ x) ∧ Keeps (fun b => some b = v.ownBlock) w w' := by
  obtain ⟨a, cap, rfl, hc1, hc2, hcell⟩ := hx
  obtain ⟨i, h1, h2, h3, h4⟩ := C.infoI
  have ht : Tryz.prog.underlying 32 = some (.slice 3) := by kernel_rfl
  cases a with
  | none =>
    have hx0 : x = [] := by
      cases x with
      | nil => rfl
      | cons y r =>
        obtain ⟨b, off, e, _⟩ := hcell 0 y rfl
        cases e
    subst hx0
    obtain ⟨va, vc, rfl, hle, _⟩ := h.intsS
    have hs : Src Tryz.prog i.size 32 (.slice none 0 cap) 0 [] w := ⟨.inl ⟨_, ht⟩, fun _ => rfl, by rw [h3]; rfl, by rw [h3]; rfl, by simp, fun u hu => by cases hu⟩
    exact ⟨_, w, run_append_nothing w _ _ _ _ i ht h1 _ _ _ hle _ hs, by rw [List.append_nil]; exact h, Keeps.refl _ w⟩
  | some ad =>
    obtain ⟨v', w', hr, ho, hg, _⟩ := run_append_own (P := Tryz.prog) w base 32 32 3 i (.int .i64 0) 1 8 ht h1 h2 h3 h4 rfl (by decide) v l.length (l.map (Value.int .i64)) h ad x.length cap (x.map (Value.int .i64)) (by simp) (fun j u hj => by
      rw [List.getElem?_map, Option.map_eq_some_iff] at hj
      obtain ⟨y, hy, rfl⟩ := hj
      obtain ⟨b, off, e, _, hc⟩ := hcell j y hy
      cases e
      rw [Addr.add_lit]
      exact hc) (fun u hu => by obtain ⟨y, _, rfl⟩ := List.mem_map.1 hu; rfl) (by unfold maxLen; omega) (by omega) hb
    refine ⟨v', w', hr, ?_, (Keeps.of_grown hg).mono (fun b e => e.symm)⟩
    unfold OwnI
    simpa using ho
/-- The three, one behind the other. -/
theorem app3_run (w : World) (v0 v1 : Value) (l0 l1 : List Int) (h0 : IntsS (fun b => b < w.heap.size) w v0 l0) (h1 : IntsS (fun b => b < w.heap.size) w v1 l1) (hn : l0.length ≤ 300) (hm : l1.length ≤ 300) :
    ∃ a1 c1 n1 w1 a2 c2 w2, (Builtin.append_ #[32, 32] 32 #[.slice (some ⟨w.heap.size, 0, none⟩) 1 1, v0]).run Tryz.prog (w.drew.alloc (.cells #[.int .i64 0] 3)) = .ok (.slice a1 n1 c1) w1 ∧
      (Builtin.append_ #[32, 32] 32 #[.slice a1 n1 c1, v1]).run Tryz.prog w1 = .ok (.slice a2 (0 :: (l0 ++ l1)).length c2) w2 ∧ IntsS (fun b => w.heap.size ≤ b) w2 (.slice a2 (0 :: (l0 ++ l1)).length c2) (0 :: (l0 ++ l1)) ∧ Below w.heap.size w w1 ∧ Below w.heap.size w w2 := by
  have bA : Below w.heap.size w (w.drew.alloc (.cells #[.int .i64 0] 3)) := ((Below.refl _ w).drew).alloc (Nat.le_refl _) _
  have hO : OwnI w.heap.size (w.drew.alloc (.cells #[.int .i64 0] 3)) (.slice (some ⟨w.heap.size, 0, none⟩) 1 1) [0] := by
    refine ⟨rfl, .inr ⟨w.heap.size, 1, #[.int .i64 0], rfl, Nat.le_refl _, ?_, Nat.le_refl _, by unfold maxLen; omega, rfl, rfl⟩⟩
    exact World.alloc_heap_new w.drew _
  obtain ⟨r1, w1, hr1, ho1, k1⟩ := appO_run _ _ [0] hO bA.size v0 l0 ((h0.later bA).ints) (by simp; omega)
  have b1 : Below w.heap.size w w1 := bA.trans (k1.below bA.size (fun b e => (World.ownsRow.lt hO b e.symm).1))
  obtain ⟨r2, w2, hr2, ho2, k2⟩ := appO_run w1 _ _ ho1 b1.size v1 l1 ((h1.later b1).ints) (by simp; omega)
  have b2 : Below w.heap.size w w2 := b1.trans (k2.below b1.size (fun b e => (World.ownsRow.lt ho1 b e.symm).1))
  obtain ⟨a1, c1, rfl, _⟩ := id ho1.intsS
  have hi2 := ho2.intsS
  obtain ⟨a2, c2, rfl, _⟩ := id hi2
  exact ⟨a1, c1, _, w1, a2, c2, w2, hr1, hr2, hi2, b1, b2⟩

set_option maxRecDepth 100000 in
set_option maxHeartbeats 4000000 in
theorem lnote_at (a k : Int) (ha : inN a = true) (hk : inN k = true) (w : World) : Calls Tryz.prog 9 #[.int .i64 a, .int .i64 k] w fun e w' => e = .returned (.complex .f64 (floatOfInt .f64 a) (floatOfInt .f64 k)) ∧ w' = w := by
  have h := note_any a k w
  have E : ntV a k = noteV a k := by unfold ntV; rw [ha, hk]; rfl
  rw [E] at h
  have h : Calls Tryz.prog 29 #[.int .i64 a, .int .i64 k] w fun e w' => e = .returned (.tuple #[.complex .f64 (floatOfInt .f64 a) (floatOfInt .f64 k), .int .i64 (ntE a k)]) ∧ w' = w := h
  generalize ntE a k = n at h
  clear ha hk E
  go_enter Tryz.func9, Tryz.ntmps9
  go_wp2_with fail
  refine h.mono ?_
  clear h
  rintro e w' ⟨rfl, hw'⟩
  subst hw'
  go_wp2_with fail
  go_ret
  exact ⟨rfl, rfl⟩
theorem rput_many (x y : Nat) (t : List Int) (wd : Nat) (ns : List Nrow) : (rputTo x y t wd ns).length ≤ ns.length + 1 := by
  have hs : ∀ (a k : Int) (l : List Nrow), (setN t a k l).length ≤ l.length + 1 := fun a k l => by
    induction l with
    | nil => simp [setN]
    | cons p r ih => unfold setN; split <;> simp <;> omega
  unfold rputTo
  split
  · unfold putTo
    split
    · split
      · exact hs _ _ _
      · omega
    · split <;> simp
  · omega
theorem ordE_zero {width : Int} {l : List Int} (h : C.ordE width l = 0) : ∃ wd : Nat, wd ≤ 8 ∧ width = (wd : Int) ∧ C.lookE wd l = 0 := by
  unfold C.ordE at h
  split at h
  · cases h
  · exact ⟨width.toNat, by omega, by omega, h⟩
/-- New, whatever it answers. -/
theorem new_any (w : World) (width : Int) (v : Value) (l : List Int) (h : Ints w.heap.size w v l) :
    Calls Tryz.prog 5 #[.int .i64 width, v] w fun e w' => ∃ p, e = .returned (.tuple #[.pointer p, .int .i64 (C.ordE width l)]) ∧ Below w.heap.size w w' := by
  by_cases g : C.ordE width l = 0
  · obtain ⟨wd, hw, rfl, hl⟩ := ordE_zero g
    rw [g]
    refine (new_iw w wd v l h hw hl).mono ?_
    rintro e w' ⟨rb, rfl, hI⟩
    exact ⟨_, rfl, hI.below⟩
  · refine (relnew_no w width v l h g).mono ?_
    rintro e w' ⟨rfl, rfl⟩
    exact ⟨_, rfl, Below.refl _ _⟩
end Go.Proofs.YthcljhfankooaabGreat
