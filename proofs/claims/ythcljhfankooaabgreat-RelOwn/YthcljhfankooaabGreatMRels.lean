/- Relations: Len, Note, Has, Put. -/
import Derived.Test.YthcljhfankooaabGreatMHelds
namespace Go.Proofs.YthcljhfankooaabGreat
open Go.RowKit Go.Shelf

/-- A relation. -/
structure RelAt [Xt] (w : World) (rb hb mb : Nat) (sh : List (Nat × Nat)) (wd : Nat) (os : List (List Int)) (ns : List Nrow) : Prop where
  held : HAt w hb mb sh wd os ns
  box : w.heap[rb]? = some (.cells #[.pointer (some ⟨hb, 0, none⟩)] 47 (0, 0))
  fre : Fre hb mb sh rb
section
variable {w w' : World} {rb hb mb wd : Nat} {sh : List (Nat × Nat)} {os : List (List Int)} {ns ns' : List Nrow}
theorem RelAt.later [Xt] (h : RelAt w rb hb mb sh wd os ns) (hb' : Below w.heap.size w w') : RelAt w' rb hb mb sh wd os ns := ⟨h.held.later hb', (hb'.block _ (lt_heap h.box)).trans h.box, h.fre⟩
theorem RelAt.turned [Xt] (h : RelAt w rb hb mb sh wd os ns) (hk : Keeps (fun b => b ∈ Dk hb mb sh) w w') (h2 : HAt w' hb mb sh wd os ns') : RelAt w' rb hb mb sh wd os ns' := ⟨h2, hk.same _ _ h.box h.fre.1, h.fre⟩
/-- The cells that are read. -/
theorem RelAt.cells [Xt] (h : RelAt w rb hb mb sh wd os ns) : ∀ v, Below w.heap.size w v → v.cell? ⟨rb, 0, none⟩ = some (.pointer (some ⟨hb, 0, none⟩)) ∧ v.cell? ⟨hb, 0, none⟩ = some (.int .i64 wd) ∧ v.cell? ⟨hb, 3, none⟩ = some (.map (some mb)) := fun v hv => by
  have h1 := h.later hv
  obtain ⟨ov, sv, h2, _⟩ := h1.held.mem
  exact ⟨by rw [cell_at h1.box]; rfl, by rw [cell_at h2]; rfl, by rw [cell_at h2]; rfl⟩
end

set_option maxRecDepth 100000 in
set_option maxHeartbeats 4000000 in
theorem rmade_any (w : World) (rb hb : Nat) (hc : w.cell? ⟨rb, 0, none⟩ = some (.pointer (some ⟨hb, 0, none⟩))) : Calls Tryz.prog 24 #[.pointer (some ⟨rb, 0, none⟩)] w fun e w' => e = .returned (.bool true) ∧ ∃ n, w' = w.drewN n := by
  go_enter Tryz.func24, Tryz.ntmps24
  go_wp2_with fail
  go_ret
  exact ⟨rfl, 0, rfl⟩

set_option maxRecDepth 100000 in
set_option maxHeartbeats 4000000 in
theorem rfits_any (w : World) (hb wd n cap : Nat) (a : Option Addr) (hc : w.cell? ⟨hb, 0, none⟩ = some (.int .i64 wd)) : Calls Tryz.prog 25 #[.pointer (some ⟨hb, 0, none⟩), .slice a n cap] w fun e w' => e = .returned (.bool (decide (n = wd))) ∧ ∃ n, w' = w.drewN n := by
  have HE : Hid (decide (n = wd) = ((n : Int) == (wd : Int))) := by
    have : decide (n = wd) = ((n : Int) == (wd : Int)) := by rw [Bool.eq_iff_iff]; simp; omega
    exact hide this
  go_enter Tryz.func25, Tryz.ntmps25
  go_wp2_with fail
  go_ret
  exact ⟨by rw [unhide HE]; simp, 0, rfl⟩

set_option maxRecDepth 100000 in
set_option maxHeartbeats 4000000 in
theorem rlen_any [Xt] (w : World) (rb hb mb wd : Nat) (sh : List (Nat × Nat)) (os : List (List Int)) (ns : List Nrow) (h : RelAt w rb hb mb sh wd os ns) : Calls Tryz.prog 17 #[.pointer (some ⟨rb, 0, none⟩)] w fun e w' => e = .returned (.int .i64 (ns.length : Int)) ∧ ∃ n, w' = w.drewN n := by
  obtain ⟨c1, c2, c3⟩ := h.cells w (Below.refl _ w)
  have hm := rmade_any w rb hb c1
  obtain ⟨es, clock, hmap, he⟩ := h.held.map
  have hsz : es.size = ns.length := by have := congrArg List.length he; simpa [nMap] using this
  have HS := hide hsz
  clear h he hsz c2
  go_enter Tryz.func17, Tryz.ntmps17
  go_wp2_with fail
  refine hm.mono ?_
  clear hm
  rintro e w1 ⟨rfl, n, hw1⟩
  subst hw1
  have c1' : (w.drewN n).cell? ⟨rb, 0, none⟩ = some (.pointer (some ⟨hb, 0, none⟩)) := c1
  have c3' : (w.drewN n).cell? ⟨hb, 3, none⟩ = some (.map (some mb)) := c3
  have hmap' : (w.drewN n).heap[mb]? = some (.map es clock) := hmap
  have hle := run_len_map (P := Tryz.prog) (w := w.drewN n) 60 3 mb es clock map_under hmap'
  go_wp2_with fail
  go_ret
  exact ⟨by rw [← unhide HS]; rfl, n, rfl⟩

/-- What Note tells. -/
def ntcV (t : List Int) (wd : Nat) (ns : List Nrow) : Value := if t.length = wd then (match getN t ns with | some q => noteV q.1 q.2 | none => .complex .f64 0 0) else .complex .f64 0 0
def ntcB (t : List Int) (wd : Nat) (ns : List Nrow) : Bool := decide (t.length = wd) && (getN t ns).isSome
set_option maxRecDepth 100000 in
set_option maxHeartbeats 4000000 in
theorem rnote_any [Xt] (w : World) (rb hb mb wd : Nat) (sh : List (Nat × Nat)) (os : List (List Int)) (ns : List Nrow) (h : RelAt w rb hb mb sh wd os ns) (t : List Int) (tv : Value) (ht : Ints w.heap.size w tv t) : Calls Tryz.prog 13 #[.pointer (some ⟨rb, 0, none⟩), tv] w fun e w' => e = .returned (.tuple #[ntcV t wd ns, .bool (ntcB t wd ns)]) ∧ Below w.heap.size w w' := by
  have mixed : Tryz.prog.follows .mixedOrders = true := by kernel_rfl
  obtain ⟨c1, c2, c3⟩ := h.cells w (Below.refl _ w)
  have hm := rmade_any w rb hb c1
  obtain ⟨ta, tc, rfl, _⟩ := id ht
  have hf := fun n => rfits_any (w.drewN n) hb wd t.length tc ta c2
  by_cases hl : t.length = wd
  · have KEY : Hid (∀ v, Below w.heap.size w v → Calls Tryz.prog 33 #[.slice ta t.length tc] v fun e w' => e = .returned (keyV t) ∧ Below w.heap.size w w') := fun v hv => (keyOf_any v _ t ((ht.below hv (Nat.le_refl _)).mono hv.size) (by rw [hl]; exact h.held.wd8)).mono fun e w' hh => ⟨hh.1, hv.trans (hh.2.mono hv.size)⟩
    obtain ⟨hl1, hl2⟩ := h.held.look hl
    have HR : Hid (ntcV t wd ns = lookV t (nMap ns) ∧ ntcB t wd ns = lookB t (nMap ns)) := ⟨by unfold ntcV; rw [if_pos hl, hl2]; rfl, by unfold ntcB; rw [decide_eq_true hl, hl1, Bool.true_and]⟩
    have CELL : Hid (∀ v, Below w.heap.size w v → (v.cell? ⟨rb, 0, none⟩ = some (.pointer (some ⟨hb, 0, none⟩)) ∧ v.cell? ⟨hb, 3, none⟩ = some (.map (some mb))) ∧ (Instr.lookup 60 (.map (some mb)) (keyV t) true).run Tryz.prog v = .ok (.tuple #[lookV t (nMap ns), .bool (lookB t (nMap ns))]) v) := fun v hv => ⟨⟨(h.cells v hv).1, (h.cells v hv).2.2⟩, look_K v mb (nMap ns) t (h.later hv).held.map true⟩
    rw [decide_eq_true hl] at hf
    generalize lookV t (nMap ns) = V at HR CELL
    generalize lookB t (nMap ns) = B at HR CELL
    clear h ht hl hl1 hl2 c2 c3
    go_enter Tryz.func13, Tryz.ntmps13
    go_wp2_with fail
    refine hm.mono ?_
    clear hm
    rintro e w1 ⟨rfl, n, hw1⟩
    subst hw1
    have c1' : (w.drewN n).cell? ⟨rb, 0, none⟩ = some (.pointer (some ⟨hb, 0, none⟩)) := c1
    go_wp2_with fail
    refine (hf n).mono ?_
    clear hf
    rintro e w2 ⟨rfl, n2, hw2⟩
    have b2 : Below w.heap.size w w2 := by rw [hw2]; exact below_drewN (below_drewN (Below.refl _ w) n) n2
    have B2 := hide b2
    clear b2 hw2
    go_wp2_with fail
    refine region_mixN (md := [(0, true), (1, true), (2, true), (3, true), (4, true), (5, true), (6, true), (7, true), (8, false), (9, true), (10, true), (11, true), (12, true), (13, true), (14, true)]) (fun w' => Below w.heap.size w w') mixed (by kernel_rfl) rfl (by kernel_rfl) (fun PP hPP => ?_)
    iterate 8 (refine wpMix_take (v := ?_) rfl (by kernel_rfl) (fun w' hw => ?_) ?_; rotate_left; · (obtain ⟨⟨q1, q2⟩, q3⟩ := unhide CELL w' hw; go_simp; try with_reducible rfl))
    refine wpMix_force rfl ((unhide B2).drew) (fun K hK => ?_)
    go_simp
    refine (unhide KEY _ ((unhide B2).drew)).mono ?_
    rintro e w3 ⟨rfl, b3⟩
    have B3 := hide b3
    clear b3
    go_wp2_with fail
    iterate 6 (refine wpMix_take (v := ?_) rfl (by kernel_rfl) (fun w' hw => ?_) ?_; rotate_left; · (obtain ⟨⟨q1, q2⟩, q3⟩ := unhide CELL w' hw; go_simp; try with_reducible rfl))
    refine wpMix_nil (unhide B3) (hPP _ _ ?_)
    clear hPP
    go_wp2_with fail
    go_ret2
    exact ⟨by rw [(unhide HR).1, (unhide HR).2]; rfl, unhide B3⟩
  · have HR : Hid (ntcV t wd ns = .complex .f64 0 0 ∧ ntcB t wd ns = false) := ⟨by unfold ntcV; rw [if_neg hl], by unfold ntcB; rw [decide_eq_false hl, Bool.false_and]⟩
    rw [decide_eq_false hl] at hf
    clear h ht hl c2 c3
    go_enter Tryz.func13, Tryz.ntmps13
    go_wp2_with fail
    refine hm.mono ?_
    clear hm
    rintro e w1 ⟨rfl, n, hw1⟩
    subst hw1
    have c1' : (w.drewN n).cell? ⟨rb, 0, none⟩ = some (.pointer (some ⟨hb, 0, none⟩)) := c1
    go_wp2_with fail
    refine (hf n).mono ?_
    clear hf
    rintro e w2 ⟨rfl, n2, hw2⟩
    have b2 : Below w.heap.size w w2 := by rw [hw2]; exact below_drewN (below_drewN (Below.refl _ w) n) n2
    have B2 := hide b2
    clear b2 hw2
    go_wp2_with fail
    go_ret2
    exact ⟨by rw [(unhide HR).1, (unhide HR).2]; rfl, unhide B2⟩

set_option maxRecDepth 100000 in
set_option maxHeartbeats 4000000 in
theorem rhas_any [Xt] (w : World) (rb hb mb wd : Nat) (sh : List (Nat × Nat)) (os : List (List Int)) (ns : List Nrow) (h : RelAt w rb hb mb sh wd os ns) (t : List Int) (tv : Value) (ht : Ints w.heap.size w tv t) : Calls Tryz.prog 16 #[.pointer (some ⟨rb, 0, none⟩), tv] w fun e w' => e = .returned (.bool (ntcB t wd ns)) ∧ Below w.heap.size w w' := by
  have hn := rnote_any w rb hb mb wd sh os ns h t tv ht
  generalize ntcV t wd ns = V at hn
  generalize ntcB t wd ns = B at hn
  clear h ht
  go_enter Tryz.func16, Tryz.ntmps16
  go_wp2_with fail
  refine hn.mono ?_
  clear hn
  rintro e w1 ⟨rfl, b1⟩
  have B1 := hide b1
  clear b1
  go_wp2_with fail
  go_ret
  exact ⟨rfl, unhide B1⟩

theorem relput_any [Xt] (w : World) (hb mb wd : Nat) (sh : List (Nat × Nat)) (os : List (List Int)) (ns : List Nrow) (h : HAt w hb mb sh wd os ns) (t : List Int) (tv : Value) (ht : IntsS (fun b => b ∉ Dk hb mb sh) w tv t) (hl : t.length = wd) (hB : Bnd t) (a k : Int) (ha : inN a = true) (hk : inN k = true) (hroom : (getN t ns).isSome = true ∨ ns.length < 1024) :
    Calls Tryz.prog 27 #[.pointer (some ⟨hb, 0, none⟩), noteV a k, tv] w fun e w' => e = .returned (.tuple #[.bool (putB t ns), .int .i64 (putE t ns)]) ∧ HAt w' hb mb sh wd os (putTo t a k ns) ∧ Keeps (fun b => b ∈ Dk hb mb sh) w w' := by
  cases hq : getN t ns with
  | none =>
    have hr : ns.length < 1024 := by
      rcases hroom with h | h
      · rw [hq] at h; cases h
      · exact h
    refine (hput_new w hb mb wd sh os ns h t tv ht hl hB a k ha hk hq hr).mono ?_
    rintro e w' ⟨rfl, h1, h2⟩
    refine ⟨?_, ?_, h2⟩
    · unfold putB putE; rw [hq]; simp [hr]
    · unfold putTo; rw [hq]; simp only [hr, if_true]; exact h1
  | some q =>
    refine (hput_old w hb mb wd sh os ns h t tv ht.ints hl hB a k ha hk q hq).mono ?_
    rintro e w' ⟨rfl, h1, h2⟩
    refine ⟨?_, ?_, h2.mono (fun b e => by rw [e]; simp [Dk])⟩
    · unfold putB putE; rw [hq]; rfl
    · unfold putTo; rw [hq]; exact h1

/-- What Put answers, and leaves. -/
def rputB (x y : Nat) (t : List Int) (wd : Nat) (ns : List Nrow) : Bool := decide (t.length = wd) && hgtB x y && putB t ns
def rputE (x y : Nat) (t : List Int) (wd : Nat) (ns : List Nrow) : Int := if t.length = wd then (if hgtB x y = true then putE t ns else 1) else 14
def rputTo (x y : Nat) (t : List Int) (wd : Nat) (ns : List Nrow) : List Nrow := if t.length = wd ∧ hgtB x y = true then putTo t (partN x) (partN y) ns else ns
theorem inN_of {n : Int} (h : n.natAbs ≤ 1125899906842624) : inN n = true := by simp only [inN, Bool.and_eq_true, decide_eq_true_eq]; omega
set_option maxRecDepth 100000 in
set_option maxHeartbeats 4000000 in
theorem rput_any [Xt] (w : World) (rb hb mb wd : Nat) (sh : List (Nat × Nat)) (os : List (List Int)) (ns : List Nrow) (h : RelAt w rb hb mb sh wd os ns) (t : List Int) (tv : Value) (ht : IntsS (fun b => b ∉ Dk hb mb sh) w tv t) (hB : Bnd t) (x y : Nat) (hx : W64 x) (hy : W64 y) (hroom : (getN t ns).isSome = true ∨ ns.length < 1024) :
    Calls Tryz.prog 8 #[.pointer (some ⟨rb, 0, none⟩), .complex .f64 x y, tv] w fun e w' => e = .returned (.tuple #[.bool (rputB x y t wd ns), .int .i64 (rputE x y t wd ns)]) ∧ RelAt w' rb hb mb sh wd os (rputTo x y t wd ns) ∧ Keeps (fun b => b ∈ Dk hb mb sh) w w' := by
  have mixed : Tryz.prog.follows .mixedOrders = true := by kernel_rfl
  obtain ⟨c1, c2, c3⟩ := h.cells w (Below.refl _ w)
  have hm := rmade_any w rb hb c1
  obtain ⟨ta, tc, rfl, _⟩ := id ht
  have hf := fun n => rfits_any (w.drewN n) hb wd t.length tc ta c2
  by_cases hl : t.length = wd
  · rw [decide_eq_true hl] at hf
    have hh := fun v => height_any x y hx hy v
    cases hg : hgtB x y with
    | false =>
      have HR : Hid (rputB x y t wd ns = false ∧ rputE x y t wd ns = 1 ∧ rputTo x y t wd ns = ns) := ⟨by unfold rputB; simp [hg], by unfold rputE; simp [hg, hl], by unfold rputTo; simp [hg]⟩
      rw [hg] at hh
      generalize hgtN x y x = n1 at hh
      generalize hgtN x y y = n2 at hh
      have HH := hide h
      clear h ht hl c2 c3 hg hB hroom hx hy
      go_enter Tryz.func8, Tryz.ntmps8
      go_wp2_with fail
      refine hm.mono ?_
      clear hm
      rintro e w1 ⟨rfl, n, hw1⟩
      subst hw1
      have c1' : (w.drewN n).cell? ⟨rb, 0, none⟩ = some (.pointer (some ⟨hb, 0, none⟩)) := c1
      go_wp2_with fail
      refine (hf n).mono ?_
      clear hf
      rintro e w2 ⟨rfl, m, hw2⟩
      have b2 : Below w.heap.size w w2 := by rw [hw2]; exact below_drewN (below_drewN (Below.refl _ w) n) m
      clear hw2
      go_wp2_with fail
      refine (hh w2).mono ?_
      clear hh
      rintro e w3 ⟨rfl, l, hw3⟩
      have b3 : Below w.heap.size w w3 := by rw [hw3]; exact below_drewN b2 l
      have B3 := hide b3
      clear b2 b3 hw3
      go_wp2_with fail
      go_ret2
      exact ⟨by rw [(unhide HR).1, (unhide HR).2.1]; rfl, by rw [(unhide HR).2.2]; exact (unhide HH).later (unhide B3), Keeps.of_below (unhide B3)⟩
    | true =>
      obtain ⟨p1, p2⟩ : partB x = true ∧ partB y = true := by simpa [hgtB] using hg
      have i1 := inN_of (partB_isI p1).2
      have i2 := inN_of (partB_isI p2).2
      have HR : Hid (rputB x y t wd ns = putB t ns ∧ rputE x y t wd ns = putE t ns ∧ rputTo x y t wd ns = putTo t (partN x) (partN y) ns) := ⟨by unfold rputB; simp [hg, hl], by unfold rputE; simp [hg, hl], by unfold rputTo; simp [hg, hl]⟩
      have g1 : hgtN x y x = partN x := by unfold hgtN; simp [hg]
      have g2 : hgtN x y y = partN y := by unfold hgtN; simp [hg]
      rw [hg, g1, g2] at hh
      have hno := fun v => noteOf_any (partN x) (partN y) v
      have hput := fun v (hv : Below w.heap.size w v) => relput_any v hb mb wd sh os ns (h.later hv).held t _ (ht.later hv) hl hB (partN x) (partN y) i1 i2 hroom
      have HPUT := hide hput
      have CELL : Hid (∀ v, Below w.heap.size w v → v.cell? ⟨rb, 0, none⟩ = some (.pointer (some ⟨hb, 0, none⟩))) := fun v hv => (h.cells v hv).1
      generalize partN x = n1 at hh hno HPUT HR
      generalize partN y = n2 at hh hno HPUT HR
      have HH := hide h
      clear h ht hl c2 c3 hg hB hroom hx hy hput p1 p2 i1 i2 g1 g2
      go_enter Tryz.func8, Tryz.ntmps8
      go_wp2_with fail
      refine hm.mono ?_
      clear hm
      rintro e w1 ⟨rfl, n, hw1⟩
      subst hw1
      have c1' : (w.drewN n).cell? ⟨rb, 0, none⟩ = some (.pointer (some ⟨hb, 0, none⟩)) := c1
      go_wp2_with fail
      refine (hf n).mono ?_
      clear hf
      rintro e w2 ⟨rfl, m, hw2⟩
      have b2 : Below w.heap.size w w2 := by rw [hw2]; exact below_drewN (below_drewN (Below.refl _ w) n) m
      clear hw2
      go_wp2_with fail
      refine (hh w2).mono ?_
      clear hh
      rintro e w3 ⟨rfl, l, hw3⟩
      have b3 : Below w.heap.size w w3 := by rw [hw3]; exact below_drewN b2 l
      have c13 := unhide CELL w3 b3
      have B3 := hide b3
      clear b2 b3 hw3
      go_wp2_with fail
      refine region_mixN (md := [(0, true), (1, true), (2, true), (3, true), (4, true), (5, true), (7, true), (6, false), (8, false), (9, true), (10, true), (11, true), (12, true)]) (fun w' => w'.cell? ⟨rb, 0, none⟩ = some (.pointer (some ⟨hb, 0, none⟩))) mixed (by kernel_rfl) rfl (by kernel_rfl) (fun PP hPP => ?_)
      iterate 7 (refine wpMix_take (v := ?_) rfl (by kernel_rfl) (fun w' hw => ?_) ?_; rotate_left; · (go_simp; try with_reducible rfl))
      refine wpMix_force rfl c13 (fun K hK => ?_)
      go_simp
      refine (hno _).mono ?_
      clear hno
      rintro e w4 ⟨rfl, hw4⟩
      subst hw4
      go_wp2_with fail
      refine wpMix_force rfl c13 (fun K hK => ?_)
      go_simp
      refine (unhide HPUT _ ((unhide B3).drew)).mono ?_
      rintro e w5 ⟨rfl, hH, k5⟩
      have c15 : w5.cell? ⟨rb, 0, none⟩ = some (.pointer (some ⟨hb, 0, none⟩)) := k5.cell (a := ⟨rb, 0, none⟩) c13 (unhide HH).fre.1
      have H5 := hide (And.intro ((unhide B3).drew) (And.intro hH k5))
      clear hH k5
      go_wp2_with fail
      iterate 4 (refine wpMix_take (v := ?_) rfl (by kernel_rfl) (fun w' hw => ?_) ?_; rotate_left; · (go_simp; try with_reducible rfl))
      refine wpMix_nil c15 (hPP _ _ ?_)
      clear hPP
      go_wp2_with fail
      go_ret2
      obtain ⟨b5, hH, k5⟩ := unhide H5
      exact ⟨by rw [(unhide HR).1, (unhide HR).2.1]; rfl, by rw [(unhide HR).2.2]; exact (unhide HH).turned ((Keeps.of_below b5 (O := fun b => b ∈ Dk hb mb sh)).trans k5 (fun _ _ e => e)) hH, (Keeps.of_below b5 (O := fun b => b ∈ Dk hb mb sh)).trans k5 (fun _ _ e => e)⟩
  · rw [decide_eq_false hl] at hf
    have HR : Hid (rputB x y t wd ns = false ∧ rputE x y t wd ns = 14 ∧ rputTo x y t wd ns = ns) := ⟨by unfold rputB; simp [hl], by unfold rputE; simp [hl], by unfold rputTo; simp [hl]⟩
    have HH := hide h
    clear h ht hl c2 c3 hB hroom hx hy
    go_enter Tryz.func8, Tryz.ntmps8
    go_wp2_with fail
    refine hm.mono ?_
    clear hm
    rintro e w1 ⟨rfl, n, hw1⟩
    subst hw1
    have c1' : (w.drewN n).cell? ⟨rb, 0, none⟩ = some (.pointer (some ⟨hb, 0, none⟩)) := c1
    go_wp2_with fail
    refine (hf n).mono ?_
    clear hf
    rintro e w2 ⟨rfl, m, hw2⟩
    have b2 : Below w.heap.size w w2 := by rw [hw2]; exact below_drewN (below_drewN (Below.refl _ w) n) m
    have B2 := hide b2
    clear b2 hw2
    go_wp2_with fail
    go_ret2
    exact ⟨by rw [(unhide HR).1, (unhide HR).2.1]; rfl, by rw [(unhide HR).2.2]; exact (unhide HH).later (unhide B2), Keeps.of_below (unhide B2)⟩
end Go.Proofs.YthcljhfankooaabGreat
