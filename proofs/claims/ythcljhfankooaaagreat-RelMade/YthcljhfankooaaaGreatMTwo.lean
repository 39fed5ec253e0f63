/- Two relations side by side. RelMade: the searches one behind the other. -/
import Derived.Test.YthcljhfankooaaaGreatMSrch
import Derived.Deep.Upon
namespace Go.Proofs.YthcljhfankooaaaGreat
open Go.RowKit Go.Shelf

section
variable {w w' : World} {rb hb mb wd : Nat} {sh : List (Nat × Nat)} {os : List (List Int)} {ns : List Nrow}
/-- What lies apart is written. -/
theorem HAt.off [Xt] {O : Nat → Prop} (h : HAt w hb mb sh wd os ns) (hk : Keeps O w w') (hO : ∀ b, O b → Xt.x b) (hD : ∀ b ∈ Dk hb mb sh, ¬ O b) : HAt w' hb mb sh wd os ns where
  nd := h.nd
  wd8 := h.wd8
  len := h.len
  pos := h.pos
  ok := h.ok
  mem := by
    obtain ⟨ov, sv, h1, h2, h3⟩ := h.mem
    have hs : Stays (Fre hb mb sh) w w' := hk.stays (fun b _ hs e => hs.2 (hO b e))
    exact ⟨ov, sv, hk.same _ _ h1 (hD _ (by simp [Dk])), h2.stays hs, h3.stays hs⟩
  sets := fun j hj => by
    obtain ⟨xs, h1, h2⟩ := h.sets j hj
    have hs : Stays (Fre hb mb sh) w w' := hk.stays (fun b _ hs e => hs.2 (hO b e))
    have hin : (sh.getD j (0, 0)).2 ∈ Dk hb mb sh := by simp only [Dk, List.mem_cons]; exact .inr (.inr (sh_in h.len hj))
    have hl := h1.lt
    refine ⟨xs, h1.stays hs ?_, h2⟩
    rw [Array.getElem?_eq_getElem hl]
    exact hk.same _ _ (Array.getElem?_eq_getElem hl) (hD _ hin)
  map := h.map.block (by
    obtain ⟨es, c, e, _⟩ := h.map
    rw [e]; exact hk.same _ _ e (hD _ (by simp [Dk])))
  keys := h.keys
  ext := fun b hx => Nat.lt_of_lt_of_le (h.ext b hx) hk.size
theorem RelAt.off [Xt] {O : Nat → Prop} (h : RelAt w rb hb mb sh wd os ns) (hk : Keeps O w w') (hO : ∀ b, O b → Xt.x b) (hD : ∀ b ∈ Dk hb mb sh, ¬ O b) : RelAt w' rb hb mb sh wd os ns :=
  ⟨h.held.off hk hO hD, hk.same _ _ h.box (fun e => h.fre.2 (hO _ e)), h.fre⟩
/-- More to keep off. -/
theorem HAt.wider {X : Xt} {X' : Nat → Prop} (h : @HAt X w hb mb sh wd os ns) (hb' : Below w.heap.size w w') (h1 : ∀ b, X' b → X.x b ∨ w.heap.size ≤ b) (h2 : ∀ b, X' b → b < w'.heap.size) : @HAt ⟨X'⟩ w' hb mb sh wd os ns :=
  have hm : ∀ b, b < w.heap.size → @Fre X hb mb sh b → @Fre ⟨X'⟩ hb mb sh b := fun b hl hs => ⟨hs.1, fun e => (h1 b e).elim hs.2 (fun e => by omega)⟩
  have h' := h.later hb'
  @HAt.mk ⟨X'⟩ w' hb mb sh wd os ns h'.nd h'.wd8 h'.len h'.pos h'.ok (by
    obtain ⟨ov, sv, g1, g2, g3⟩ := h.mem
    exact ⟨ov, sv, (hb'.block _ (lt_heap g1)).trans g1, (g2.mono hm).later hb', (g3.mono hm).later hb'⟩) (fun j hj => by
    obtain ⟨xs, g1, g2⟩ := h.sets j hj
    have hin : (sh.getD j (0, 0)).2 ∈ Dk hb mb sh := by simp only [Dk, List.mem_cons]; exact .inr (.inr (sh_in h.len hj))
    exact ⟨xs, (g1.mono hm (fun hs => hs.1 hin)).later hb', g2⟩) h'.map h'.keys h2
theorem RelAt.wider {X : Xt} {X' : Nat → Prop} (h : @RelAt X w rb hb mb sh wd os ns) (hb' : Below w.heap.size w w') (h1 : ∀ b, X' b → X.x b ∨ w.heap.size ≤ b) (h2 : ∀ b, X' b → b < w'.heap.size) : @RelAt ⟨X'⟩ w' rb hb mb sh wd os ns :=
  @RelAt.mk ⟨X'⟩ _ _ _ _ _ _ _ _ (HAt.wider h.held hb' h1 h2) ((hb'.block _ (lt_heap h.box)).trans h.box) ⟨h.fre.1, fun e => (h1 _ e).elim h.fre.2 (fun e => by have := lt_heap h.box; omega)⟩
theorem rl_later {X : Xt} (h : @RelAt X w rb hb mb sh wd os ns) (b : Below w.heap.size w w') : @RelAt X w' rb hb mb sh wd os ns := h.later b
theorem rl_off {X : Xt} {O : Nat → Prop} (h : @RelAt X w rb hb mb sh wd os ns) (hk : Keeps O w w') (hO : ∀ b, O b → X.x b) (hD : ∀ b ∈ Dk hb mb sh, ¬ O b) : @RelAt X w' rb hb mb sh wd os ns := h.off hk hO hD
theorem rl_lt {X : Xt} (h : @RelAt X w rb hb mb sh wd os ns) : ∀ b ∈ Dk hb mb sh, b < w.heap.size := h.held.lt
theorem rl_all {X : Xt} (h : @RelAt X w rb hb mb sh wd os ns) (hlen : ns.length ≤ 1024) (cols : Int) (t : List Int) (b3 b4 b7 : Nat) (hF : FindAt w b3 b4 b7 rb cols t) :
    Calls Tryz.prog 24 #[.func (.func 46) #[] #[.pointer (some ⟨b3, 0, none⟩), .pointer (some ⟨b4, 0, none⟩), .pointer (some ⟨b7, 0, none⟩)]] w fun e w' => RowsOk w (foundL wd cols t ns) e w' :=
  rows_any w 46 _ _ (fun W' hs => find1_all W' rb hb mb wd sh os ns (h.later (hs.below (Nat.le_refl _) (Nat.le_refl _))) t cols b3 b4 b7 (hF.step hs)) eg_find1 (Nat.le_trans found_len_le hlen) (nsOk_found h cols t)
end

/-- Two relations, and what was there ahead of them. -/
def TwoIW (w : World) (ra rb wd : Nat) (na nb : List Nrow) (W : World) : Prop := ∃ ha ma sa oa hb mb sb ob, @RelAt ⟨fun b => b ∈ Dk hb mb sb⟩ W ra ha ma sa wd oa na ∧ @RelAt ⟨fun b => b ∈ Dk ha ma sa⟩ W rb hb mb sb wd ob nb ∧
  (∀ b ∈ Dk ha ma sa, w.heap.size ≤ b ∧ b ∉ Dk hb mb sb) ∧ (∀ b ∈ Dk hb mb sb, w.heap.size ≤ b) ∧ Below w.heap.size w W
theorem TwoIW.below {w W : World} {ra rb wd : Nat} {na nb : List Nrow} (h : TwoIW w ra rb wd na nb W) : Below w.heap.size w W := by
  obtain ⟨_, _, _, _, _, _, _, _, _, _, _, _, h5⟩ := h
  exact h5
theorem TwoIW.later {w W W' : World} {ra rb wd : Nat} {na nb : List Nrow} (h : TwoIW w ra rb wd na nb W) (b : Below W.heap.size W W') : TwoIW w ra rb wd na nb W' := by
  obtain ⟨ha, ma, sa, oa, hb, mb, sb, ob, h1, h2, h3, h4, h5⟩ := h
  exact ⟨ha, ma, sa, oa, hb, mb, sb, ob, rl_later h1 b, rl_later h2 b, h3, h4, h5.trans (b.mono h5.size)⟩
/-- The second is made. -/
theorem new_two (w W : World) (ra wd : Nat) (hA : RelIW w ra wd [] W) (v : Value) (l : List Int) (h : Ints W.heap.size W v l) (hw : wd ≤ 8) (hl : C.lookE wd l = 0) :
    Calls Tryz.prog 20 #[.int .i64 (wd : Int), v] W fun e w' => ∃ rb, e = .returned (.tuple #[.pointer (some ⟨rb, 0, none⟩), .int .i64 0]) ∧ TwoIW w ra rb wd [] [] w' := by
  obtain ⟨ha, ma, sa, oa, g1, g2, g3⟩ := hA
  have hlt := rl_lt g1
  refine (@relnew_ok ⟨fun b => b ∈ Dk ha ma sa⟩ W wd v l h hw hl (fun b e => hlt b e)).mono ?_
  rintro e w1 ⟨rb, hb, mb, sb, ob, rfl, hR, hD, hrb, b1⟩
  have hlt2 := rl_lt hR
  have hs := g3.size
  exact ⟨rb, rfl, ha, ma, sa, oa, hb, mb, sb, ob, RelAt.wider g1 b1 (fun b e => .inr (hD b e)) (fun b e => hlt2 b e), hR, fun b e => ⟨g2 b e, fun e2 => by have := hlt b e; have := hD b e2; omega⟩, fun b e => by have := hD b e; omega, g3.trans (b1.mono hs)⟩
theorem put_two1 (w W : World) (ra rb wd : Nat) (na nb : List Nrow) (h : TwoIW w ra rb wd na nb W) (tv : Value) (t : List Int) (ht : IntsS (fun b => b < w.heap.size) w tv t) (hB : Bnd t) (x y : Nat) (hx : W64 x) (hy : W64 y) (hroom : (getN t na).isSome = true ∨ na.length < 1024) :
    Calls Tryz.prog 21 #[.pointer (some ⟨ra, 0, none⟩), .complex .f64 x y, tv] W fun e w' => e = .returned (.tuple #[.bool (rputB x y t wd na), .int .i64 (rputE x y t wd na)]) ∧ TwoIW w ra rb wd (rputTo x y t wd na) nb w' := by
  obtain ⟨ha, ma, sa, oa, hb, mb, sb, ob, h1, h2, h3, h4, h5⟩ := h
  refine (@rput_any ⟨fun b => b ∈ Dk hb mb sb⟩ _ ra ha ma wd sa oa na h1 t tv ((ht.later h5).mono (fun b _ hlt => ⟨fun hn => by have := (h3 b hn).1; omega, fun hn => by have := h4 b hn; omega⟩)) hB x y hx hy hroom).mono ?_
  rintro e w' ⟨rfl, r1, r2⟩
  exact ⟨rfl, ha, ma, sa, oa, hb, mb, sb, ob, r1, rl_off h2 r2 (fun b e => e) (fun b e e2 => (h3 b e2).2 e), h3, h4, h5.trans (r2.below h5.size (fun q hq => (h3 q hq).1))⟩
theorem put_two2 (w W : World) (ra rb wd : Nat) (na nb : List Nrow) (h : TwoIW w ra rb wd na nb W) (tv : Value) (t : List Int) (ht : IntsS (fun b => b < w.heap.size) w tv t) (hB : Bnd t) (x y : Nat) (hx : W64 x) (hy : W64 y) (hroom : (getN t nb).isSome = true ∨ nb.length < 1024) :
    Calls Tryz.prog 21 #[.pointer (some ⟨rb, 0, none⟩), .complex .f64 x y, tv] W fun e w' => e = .returned (.tuple #[.bool (rputB x y t wd nb), .int .i64 (rputE x y t wd nb)]) ∧ TwoIW w ra rb wd na (rputTo x y t wd nb) w' := by
  obtain ⟨ha, ma, sa, oa, hb, mb, sb, ob, h1, h2, h3, h4, h5⟩ := h
  refine (@rput_any ⟨fun b => b ∈ Dk ha ma sa⟩ _ rb hb mb wd sb ob nb h2 t tv ((ht.later h5).mono (fun b _ hlt => ⟨fun hn => by have := h4 b hn; omega, fun hn => by have := (h3 b hn).1; omega⟩)) hB x y hx hy hroom).mono ?_
  rintro e w' ⟨rfl, r1, r2⟩
  exact ⟨rfl, ha, ma, sa, oa, hb, mb, sb, ob, rl_off h1 r2 (fun b e => e) (fun b e e2 => (h3 b e).2 e2), r1, h3, h4, h5.trans (r2.below h5.size (fun q hq => h4 q hq))⟩
theorem rows_two1 (w W : World) (ra rb wd : Nat) (na nb : List Nrow) (h : TwoIW w ra rb wd na nb W) (hlen : na.length ≤ 1024) (cols : Int) (t : List Int) (b3 b4 b7 : Nat) (hF : FindAt W b3 b4 b7 ra cols t) :
    Calls Tryz.prog 24 #[.func (.func 46) #[] #[.pointer (some ⟨b3, 0, none⟩), .pointer (some ⟨b4, 0, none⟩), .pointer (some ⟨b7, 0, none⟩)]] W fun e w' => RowsOk W (foundL wd cols t na) e w' := by
  obtain ⟨ha, ma, sa, oa, hb, mb, sb, ob, h1, h2, h3, h4, h5⟩ := h
  exact rl_all h1 hlen cols t b3 b4 b7 hF
theorem rows_two2 (w W : World) (ra rb wd : Nat) (na nb : List Nrow) (h : TwoIW w ra rb wd na nb W) (hlen : nb.length ≤ 1024) (cols : Int) (t : List Int) (b3 b4 b7 : Nat) (hF : FindAt W b3 b4 b7 rb cols t) :
    Calls Tryz.prog 24 #[.func (.func 46) #[] #[.pointer (some ⟨b3, 0, none⟩), .pointer (some ⟨b4, 0, none⟩), .pointer (some ⟨b7, 0, none⟩)]] W fun e w' => RowsOk W (foundL wd cols t nb) e w' := by
  obtain ⟨ha, ma, sa, oa, hb, mb, sb, ob, h1, h2, h3, h4, h5⟩ := h
  exact rl_all h2 hlen cols t b3 b4 b7 hF
end Go.Proofs.YthcljhfankooaaaGreat

namespace Go.Proofs.YthcljhfankooaaaGreat
open Go.RowKit Go.Shelf

/-- Numbers behind an own row. -/
theorem appO_run {base : Nat} (w : World) (v : Value) (l : List Int) (h : OwnI base w v l) (hb : base ≤ w.heap.size) (xv : Value) (x : List Int) (hx : Ints w.heap.size w xv x) (hn : l.length + x.length ≤ 2000) :
    ∃ r w', (Builtin.append_ #[23, 23] 23 #[v, xv]).run Tryz.prog w = .ok r w' ∧ OwnI base w' r (l ++ x) ∧ Keeps (fun b => some b = v.ownBlock) w w' := by
  obtain ⟨a, cap, rfl, hc1, hc2, hcell⟩ := hx
  obtain ⟨i, h1, h2, h3, h4⟩ := C.infoI
  have ht : Tryz.prog.underlying 23 = some (.slice 3) := by kernel_rfl
  cases a with
  | none =>
    have hx0 : x = [] := by
      cases x with
      | nil => rfl
      | cons y r =>
        obtain ⟨b, off, e, _⟩ := hcell 0 y rfl
        cases e
    subst hx0
    obtain ⟨va, vc, rfl, hle, _⟩ := h.intsS
    have hs : Src Tryz.prog i.size 23 (.slice none 0 cap) 0 [] w := ⟨.inl ⟨_, ht⟩, fun _ => rfl, by rw [h3]; rfl, by rw [h3]; rfl, by simp, fun u hu => by cases hu⟩
    exact ⟨_, w, run_append_nothing w _ _ _ _ i ht h1 _ _ _ hle _ hs, by rw [List.append_nil]; exact h, Keeps.refl _ w⟩
  | some ad =>
    obtain ⟨v', w', hr, ho, hg, _⟩ := run_append_own (P := Tryz.prog) w base 23 23 3 i (.int .i64 0) 1 8 ht h1 h2 h3 h4 rfl (by decide) v l.length (l.map (Value.int .i64)) h ad x.length cap (x.map (Value.int .i64)) (by simp) (fun j u hj => by
      rw [List.getElem?_map, Option.map_eq_some_iff] at hj
      obtain ⟨y, hy, rfl⟩ := hj
      obtain ⟨b, off, e, _, hc⟩ := hcell j y hy
      cases e
      rw [Addr.add_lit]
      exact hc) (fun u hu => by obtain ⟨y, _, rfl⟩ := List.mem_map.1 hu; rfl) (by unfold maxLen; omega) (by omega) hb
    refine ⟨v', w', hr, ?_, (Keeps.of_grown hg).mono (fun b e => e.symm)⟩
    unfold OwnI
    simpa using ho
/-- The three, one behind the other. -/
theorem app3_run (w : World) (v0 v1 : Value) (l0 l1 : List Int) (h0 : IntsS (fun b => b < w.heap.size) w v0 l0) (h1 : IntsS (fun b => b < w.heap.size) w v1 l1) (hn : l0.length ≤ 300) (hm : l1.length ≤ 300) :
    ∃ a1 c1 n1 w1 a2 c2 w2, (Builtin.append_ #[23, 23] 23 #[.slice (some ⟨w.heap.size, 0, none⟩) 1 1, v0]).run Tryz.prog (w.drew.alloc (.cells #[.int .i64 0] 3)) = .ok (.slice a1 n1 c1) w1 ∧
      (Builtin.append_ #[23, 23] 23 #[.slice a1 n1 c1, v1]).run Tryz.prog w1 = .ok (.slice a2 (0 :: (l0 ++ l1)).length c2) w2 ∧ IntsS (fun b => w.heap.size ≤ b) w2 (.slice a2 (0 :: (l0 ++ l1)).length c2) (0 :: (l0 ++ l1)) ∧ Below w.heap.size w w1 ∧ Below w.heap.size w w2 := by
  have bA : Below w.heap.size w (w.drew.alloc (.cells #[.int .i64 0] 3)) := ((Below.refl _ w).drew).alloc (Nat.le_refl _) _
  have hO : OwnI w.heap.size (w.drew.alloc (.cells #[.int .i64 0] 3)) (.slice (some ⟨w.heap.size, 0, none⟩) 1 1) [0] := by
    refine ⟨rfl, .inr ⟨w.heap.size, 1, #[.int .i64 0], rfl, Nat.le_refl _, ?_, Nat.le_refl _, by unfold maxLen; omega, rfl, rfl⟩⟩
    exact World.alloc_heap_new w.drew _
  obtain ⟨r1, w1, hr1, ho1, k1⟩ := appO_run _ _ [0] hO bA.size v0 l0 ((h0.later bA).ints) (by simp; omega)
  have b1 : Below w.heap.size w w1 := bA.trans (k1.below bA.size (fun b e => (World.ownsRow.lt hO b e.symm).1))
  obtain ⟨r2, w2, hr2, ho2, k2⟩ := appO_run w1 _ _ ho1 b1.size v1 l1 ((h1.later b1).ints) (by simp; omega)
  have b2 : Below w.heap.size w w2 := b1.trans (k2.below b1.size (fun b e => (World.ownsRow.lt ho1 b e.symm).1))
  obtain ⟨a1, c1, rfl, _⟩ := id ho1.intsS
  have hi2 := ho2.intsS
  obtain ⟨a2, c2, rfl, _⟩ := id hi2
  exact ⟨a1, c1, _, w1, a2, c2, w2, hr1, hr2, hi2, b1, b2⟩

set_option maxRecDepth 100000 in
set_option maxHeartbeats 4000000 in
theorem lnote_at (a k : Int) (ha : inN a = true) (hk : inN k = true) (w : World) : Calls Tryz.prog 23 #[.int .i64 a, .int .i64 k] w fun e w' => e = .returned (.complex .f64 (floatOfInt .f64 a) (floatOfInt .f64 k)) ∧ w' = w := by
  have h := note_any a k w
  have E : ntV a k = noteV a k := by unfold ntV; rw [ha, hk]; rfl
  rw [E] at h
  have h : Calls Tryz.prog 18 #[.int .i64 a, .int .i64 k] w fun e w' => e = .returned (.tuple #[.complex .f64 (floatOfInt .f64 a) (floatOfInt .f64 k), .int .i64 (ntE a k)]) ∧ w' = w := h
  generalize ntE a k = n at h
  clear ha hk E
  go_enter Tryz.func23, Tryz.ntmps23
  go_wp2_with fail
  refine h.mono ?_
  clear h
  rintro e w' ⟨rfl, hw'⟩
  subst hw'
  go_wp2_with fail
  go_ret
  exact ⟨rfl, rfl⟩
theorem rput_many (x y : Nat) (t : List Int) (wd : Nat) (ns : List Nrow) : (rputTo x y t wd ns).length ≤ ns.length + 1 := by
  have hs : ∀ (a k : Int) (l : List Nrow), (setN t a k l).length ≤ l.length + 1 := fun a k l => by
    induction l with
    | nil => simp [setN]
    | cons p r ih => unfold setN; split <;> simp <;> omega
  unfold rputTo
  split
  · unfold putTo
    split
    · split
      · exact hs _ _ _
      · omega
    · split <;> simp
  · omega
theorem ordE_zero {width : Int} {l : List Int} (h : C.ordE width l = 0) : ∃ wd : Nat, wd ≤ 8 ∧ width = (wd : Int) ∧ C.lookE wd l = 0 := by
  unfold C.ordE at h
  split at h
  · cases h
  · exact ⟨width.toNat, by omega, by omega, h⟩
/-- New, whatever it answers. -/
theorem new_any (w : World) (width : Int) (v : Value) (l : List Int) (h : Ints w.heap.size w v l) :
    Calls Tryz.prog 20 #[.int .i64 width, v] w fun e w' => ∃ p, e = .returned (.tuple #[.pointer p, .int .i64 (C.ordE width l)]) ∧ Below w.heap.size w w' := by
  by_cases g : C.ordE width l = 0
  · obtain ⟨wd, hw, rfl, hl⟩ := ordE_zero g
    rw [g]
    refine (new_iw w wd v l h hw hl).mono ?_
    rintro e w' ⟨rb, rfl, hI⟩
    exact ⟨_, rfl, hI.below⟩
  · refine (relnew_no w width v l h g).mono ?_
    rintro e w' ⟨rfl, rfl⟩
    exact ⟨_, rfl, Below.refl _ _⟩
end Go.Proofs.YthcljhfankooaaaGreat
