/- Walk of the law on a relation that nobody made. The statement on RelNobody: A relation that nobody made answers as the document says, and the rest is untouched. No condition. -/
import Derived.Test.YthcljhfankooaabGreatMNil
import Derived.Test.YthcljhfankooaabGreatMAliv
import Derived.Test.YthcljhfankooaabGreatMFrame
namespace Go.Proofs.YthcljhfankooaabGreat
open Go.RowKit Go.Shelf

theorem Unmade.step {w w' : World} {rp : Option Addr} {base : Nat} (h : Unmade w rp) (hs : Step base w w') : Unmade w' rp := by
  rcases h with h | ⟨b, h1, h2⟩
  · exact .inl h
  · exact .inr ⟨b, h1, hs.cell h2⟩
/-- Every call, whenever it is made. -/
structure NbCalls (W0 : World) (rp : Option Addr) (rb : Nat) (cols : Int) (ta : Option Addr) (tn tc : Nat) (t : List Int) : Prop where
  put : ∀ v, Below W0.heap.size W0 v → Calls Tryz.prog 8 #[.pointer rp, .complex .f64 0 0, .slice ta tn tc] v fun e w' => e = .returned (.tuple #[.bool false, .int .i64 5]) ∧ Below W0.heap.size W0 w'
  note : ∀ v, Below W0.heap.size W0 v → Calls Tryz.prog 13 #[.pointer rp, .slice ta tn tc] v fun e w' => e = .returned (.tuple #[.complex .f64 0 0, .bool false]) ∧ Below W0.heap.size W0 w'
  m1 : ∀ v, Below W0.heap.size W0 v → Calls Tryz.prog 14 #[.pointer rp, .pointer (some ⟨rb, 0, none⟩)] v fun e w' => e = .returned (.tuple #[.int .i64 0, .int .i64 5]) ∧ Below W0.heap.size W0 w'
  m2 : ∀ v, Below W0.heap.size W0 v → Calls Tryz.prog 14 #[.pointer (some ⟨rb, 0, none⟩), .pointer rp] v fun e w' => e = .returned (.tuple #[.int .i64 0, .int .i64 5]) ∧ Below W0.heap.size W0 w'
  clear : ∀ v, Below W0.heap.size W0 v → Calls Tryz.prog 15 #[.pointer rp] v fun e w' => e = .returned (.tuple #[]) ∧ Below W0.heap.size W0 w'
  has : ∀ v, Below W0.heap.size W0 v → Calls Tryz.prog 16 #[.pointer rp, .slice ta tn tc] v fun e w' => e = .returned (.bool false) ∧ Below W0.heap.size W0 w'
  len : ∀ v, Below W0.heap.size W0 v → Calls Tryz.prog 17 #[.pointer rp] v fun e w' => e = .returned (.int .i64 0) ∧ Below W0.heap.size W0 w'
  width : ∀ v, Below W0.heap.size W0 v → Calls Tryz.prog 18 #[.pointer rp] v fun e w' => e = .returned (.int .i64 0) ∧ Below W0.heap.size W0 w'
  s1 : ∀ v, Below W0.heap.size W0 v → Calls Tryz.prog 19 #[.pointer rp, .pointer (some ⟨rb, 0, none⟩)] v fun e w' => e = .returned (.int .i64 5) ∧ Below W0.heap.size W0 w'
  s2 : ∀ v, Below W0.heap.size W0 v → Calls Tryz.prog 19 #[.pointer (some ⟨rb, 0, none⟩), .pointer rp] v fun e w' => e = .returned (.int .i64 5) ∧ Below W0.heap.size W0 w'
  all : ∀ v, Below W0.heap.size W0 v → Calls Tryz.prog 11 #[.pointer rp] v fun e w' => ∃ b3 b4 b7, e = .returned (.func (.func 37) #[] #[.pointer (some ⟨b3, 0, none⟩), .pointer (some ⟨b4, 0, none⟩), .pointer (some ⟨b7, 0, none⟩)]) ∧ FindAtN w' b3 b4 b7 rp 0 [] ∧ Below W0.heap.size W0 w'
  find : ∀ v, Below W0.heap.size W0 v → Calls Tryz.prog 20 #[.pointer rp, .int .i64 cols, .slice ta tn tc] v fun e w' => ∃ b3 b4 b7, e = .returned (.func (.func 37) #[] #[.pointer (some ⟨b3, 0, none⟩), .pointer (some ⟨b4, 0, none⟩), .pointer (some ⟨b7, 0, none⟩)]) ∧ FindAtN w' b3 b4 b7 rp cols t ∧ Below W0.heap.size W0 w'
  walked : ∀ (v : World) (c : Int) (l : List Int) (b3 b4 b7 : Nat), Below W0.heap.size W0 v → FindAtN v b3 b4 b7 rp c l → Calls Tryz.prog 12 #[.func (.func 37) #[] #[.pointer (some ⟨b3, 0, none⟩), .pointer (some ⟨b4, 0, none⟩), .pointer (some ⟨b7, 0, none⟩)], .slice none 0 0] v fun e w' => e = .returned (.bool true) ∧ Below W0.heap.size W0 w'
theorem nb_calls (W0 : World) (rp : Option Addr) (hu : Unmade W0 rp) (rb hb : Nat) (hc : W0.cell? ⟨rb, 0, none⟩ = some (.pointer (some ⟨hb, 0, none⟩))) (cols : Int) (ta : Option Addr) (tc : Nat) (t : List Int) (ht : Ints W0.heap.size W0 (.slice ta t.length tc) t) (hn : t.length * 8 ≤ 140737488355328) :
    NbCalls W0 rp rb cols ta t.length tc t := by
  have dn : ∀ (v : World), Below W0.heap.size W0 v → ∀ (e x : Ending) (w' : World), (e = x ∧ ∃ n, w' = v.drewN n) → e = x ∧ Below W0.heap.size W0 w' := by
    intro v hv e x w' h
    obtain ⟨h1, n, hn⟩ := h
    exact ⟨h1, by rw [hn]; exact below_drewN hv n⟩
  have bl : ∀ (v w' : World), Below W0.heap.size W0 v → Below v.heap.size v w' → Below W0.heap.size W0 w' := fun v w' hv h => hv.trans (h.mono hv.size)
  have ul : ∀ v, Below W0.heap.size W0 v → Unmade v rp := fun v hv => hu.later hv
  have cl : ∀ v, Below W0.heap.size W0 v → v.cell? ⟨rb, 0, none⟩ = some (.pointer (some ⟨hb, 0, none⟩)) := fun v hv => by
    obtain ⟨_, hz, _⟩ := cells_of_cell hc
    exact (hv.cell (p := ⟨rb, 0, none⟩) (lt_heap hz)).trans hc
  exact {
    put := fun v hv => (put_no v rp (ul v hv) 0 0 ta t.length tc).mono fun _ _ h => dn v hv _ _ _ h
    note := fun v hv => (note_no v rp (ul v hv) ta t.length tc).mono fun _ _ h => dn v hv _ _ _ h
    m1 := fun v hv => (merge_no v rp _ (fun x hx => pair_no1 x rp _ (ul x (bl v x hv hx)))).mono fun _ _ h => ⟨h.1, bl v _ hv h.2⟩
    m2 := fun v hv => (merge_no v _ rp (fun x hx => pair_no2 x rb hb rp (cl x (bl v x hv hx)) (ul x (bl v x hv hx)))).mono fun _ _ h => ⟨h.1, bl v _ hv h.2⟩
    clear := fun v hv => (clear_no v rp (ul v hv)).mono fun _ _ h => dn v hv _ _ _ h
    has := fun v hv => (has_no v rp (ul v hv) ta t.length tc).mono fun _ _ h => dn v hv _ _ _ h
    len := fun v hv => (len_no v rp (ul v hv)).mono fun _ _ h => dn v hv _ _ _ h
    width := fun v hv => (width_no v rp (ul v hv)).mono fun _ _ h => dn v hv _ _ _ h
    s1 := fun v hv => (swap_no v rp _ (pair_no1 v rp _ (ul v hv))).mono fun _ _ h => dn v hv _ _ _ h
    s2 := fun v hv => (swap_no v _ rp (pair_no2 v rb hb rp (cl v hv) (ul v hv))).mono fun _ _ h => dn v hv _ _ _ h
    all := fun v hv => (rall_nil v rp (ul v hv)).mono fun _ _ ⟨b3, b4, b7, h1, h2, h3⟩ => ⟨b3, b4, b7, h1, h2, bl v _ hv h3⟩
    find := fun v hv => (rfind_nil v rp cols t _ ((ht.below hv (Nat.le_refl _)).mono hv.size) hn).mono fun _ _ ⟨b3, b4, b7, h1, h2, h3⟩ => ⟨b3, b4, b7, h1, h2, bl v _ hv h3⟩
    walked := fun v c l b3 b4 b7 hv hF => (walked_any (fun _ => True) v 37 _ [] (.slice none 0 0) (fun W hs => find1_no W rp ((ul v hv).step hs) l c b3 b4 b7 (hF.step hs)) eg_find1 (by decide) (fun p hp => by cases hp) ⟨none, 0, rfl, Nat.le_refl _, by omega, fun j hj => absurd hj (Nat.not_lt_zero j)⟩).mono fun _ _ h => ⟨h.1, bl v _ hv h.2⟩ }

set_option maxRecDepth 100000 in
set_option maxHeartbeats 4000000 in
theorem nobody_walk (w : World) (tv : Value) (t : List Int) (ht : Ints w.heap.size w tv t) (hn : t.length * 8 ≤ 140737488355328) (cols : Int) :
    Calls Tryz.prog 4 #[tv, .int .i64 cols] w fun e w' => e = .returned (.bool true) ∧ Below w.heap.size w w' := by
  have hnew := new_iw w 1 (.slice none 0 0) [] (Ints.nil _ _) (by omega) (by decide)
  obtain ⟨ta, tc, rfl, _⟩ := id ht
  have HT := hide ht
  have HN := hide hn
  clear ht hn
  go_enter Tryz.func4, Tryz.ntmps4
  go_wp2_with fail
  refine hnew.mono ?_
  clear hnew
  rintro e w1 ⟨rb, rfl, hI⟩
  have b1 := hI.below
  obtain ⟨hb, mb, sh, os, hRA, _, _⟩ := id hI
  have HI := hide (And.intro b1 hRA.box)
  clear hI b1 hRA
  go_wp2_with fail
  obtain ⟨W0, hW0⟩ : ∃ W0, W0 = (w1.alloc (.cells #[.pointer none] 47)).alloc (.cells #[.pointer none, .pointer (some ⟨w1.heap.size, 0, none⟩)] 23) := ⟨_, rfl⟩
  rw [← hW0]
  have F : Hid (Below w.heap.size w W0 ∧ (∀ j, j < 2 → ∃ rp, W0.cell? ⟨w1.heap.size + 1, j, none⟩ = some (.pointer rp) ∧ Unmade W0 rp) ∧ W0.cell? ⟨rb, 0, none⟩ = some (.pointer (some ⟨hb, 0, none⟩))) := by
    obtain ⟨b1, hbx⟩ := unhide HI
    have n1 := World.alloc_heap_new w1 (.cells #[.pointer none] 47)
    have n2 := World.alloc_heap_new (w1.alloc (.cells #[.pointer none] 47)) (.cells #[.pointer none, .pointer (some ⟨w1.heap.size, 0, none⟩)] 23)
    rw [← hW0, World.size_alloc] at n2
    have bb : Below w1.heap.size w1 W0 := by rw [hW0]; exact ((Below.refl _ w1).alloc (Nat.le_refl _) _).alloc (by simp) _
    have hx : W0.cell? ⟨w1.heap.size, 0, none⟩ = some (.pointer none) := by
      have b2 : Below (w1.heap.size + 1) (w1.alloc (.cells #[.pointer none] 47)) W0 := by rw [hW0]; exact (Below.refl _ _).alloc (by simp) _
      rw [b2.cell (p := ⟨w1.heap.size, 0, none⟩) (by simp), cell_at n1]; rfl
    refine ⟨b1.trans (bb.mono b1.size), fun j hj => ?_, ?_⟩
    · match j, hj with
      | 0, _ => exact ⟨none, by rw [cell_at n2]; rfl, .inl rfl⟩
      | 1, _ => exact ⟨some ⟨w1.heap.size, 0, none⟩, by rw [cell_at n2]; rfl, .inr ⟨_, rfl, hx⟩⟩
      | j + 2, hj => exact absurd hj (by omega)
    · have hcx : w1.cell? ⟨rb, 0, none⟩ = some (.pointer (some ⟨hb, 0, none⟩)) := by rw [cell_at hbx]; rfl
      obtain ⟨_, hz, _⟩ := cells_of_cell hcx
      exact (bb.cell (p := ⟨rb, 0, none⟩) (lt_heap hz)).trans hcx
  clear hW0 HI
  generalize w1.heap.size + 1 = sb at F ⊢
  generalize w1.heap.size = xb
  go_loopw [25] (fun i wr => ∃ j : Nat, j ≤ 2 ∧ i = .int .i64 (j : Int) ∧ Below W0.heap.size W0 wr) (fun i _ => 2 - (intOf i).toNat)
  case atStart => exact ⟨0, by omega, rfl, Below.refl _ _⟩
  case round =>
    obtain ⟨j, hj, rfl, hbr⟩ := hrel
    by_cases hlt : j < 2
    · obtain ⟨b0, hsl, hg⟩ := unhide F
      obtain ⟨rp, hc, hu⟩ := hsl j hlt
      have NB := hide (nb_calls W0 rp hu rb hb hg cols ta tc t ((unhide HT).below b0 (Nat.le_refl _) |>.mono b0.size) (unhide HN))
      have hcr : wr.cell? ⟨sb, j, none⟩ = some (.pointer rp) := by
        obtain ⟨_, hz, _⟩ := cells_of_cell hc
        exact (hbr.cell (p := ⟨sb, j, none⟩) (lt_heap hz)).trans hc
      have hcl := (unhide NB).put wr hbr
      clear hbr hsl hg hc hu b0
      go_wp2_with fail
      refine hcl.mono ?_
      clear hcl
      rintro e v1 ⟨rfl, q1⟩
      have hcl := (unhide NB).note v1 q1
      clear q1
      go_wp2_with fail
      refine hcl.mono ?_
      clear hcl
      rintro e v2 ⟨rfl, q2⟩
      have hcl := (unhide NB).m1 v2 q2
      clear q2
      go_wp2_with fail
      refine hcl.mono ?_
      clear hcl
      rintro e v3 ⟨rfl, q3⟩
      have hcl := (unhide NB).m2 v3 q3
      clear q3
      go_wp2_with fail
      refine hcl.mono ?_
      clear hcl
      rintro e v4 ⟨rfl, q4⟩
      have hcl := (unhide NB).clear v4 q4
      clear q4
      go_wp2_with fail
      refine hcl.mono ?_
      clear hcl
      rintro e v5 ⟨rfl, q5⟩
      have hcl := (unhide NB).has v5 q5
      clear q5
      go_wp2_with fail
      refine hcl.mono ?_
      clear hcl
      rintro e v6 ⟨rfl, q6⟩
      have hcl := (unhide NB).len v6 q6
      clear q6
      go_wp2_with fail
      refine hcl.mono ?_
      clear hcl
      rintro e v7 ⟨rfl, q7⟩
      have hcl := (unhide NB).width v7 q7
      clear q7
      go_wp2_with fail
      refine hcl.mono ?_
      clear hcl
      rintro e v8 ⟨rfl, q8⟩
      have hcl := (unhide NB).s1 v8 q8
      clear q8
      go_wp2_with fail
      refine hcl.mono ?_
      clear hcl
      rintro e v9 ⟨rfl, q9⟩
      have hcl := (unhide NB).s2 v9 q9
      clear q9
      go_wp2_with fail
      refine hcl.mono ?_
      clear hcl
      rintro e v10 ⟨rfl, q10⟩
      have hcl := (unhide NB).all v10 q10
      clear q10
      go_wp2_with fail
      refine hcl.mono ?_
      clear hcl
      rintro e v11 ⟨b3, b4, b7, rfl, hF, q11⟩
      have hcl := (unhide NB).walked v11 0 [] b3 b4 b7 q11 hF
      clear hF q11
      go_wp2_with fail
      refine hcl.mono ?_
      clear hcl
      rintro e v12 ⟨rfl, q12⟩
      have hcl := (unhide NB).find v12 q12
      clear q12
      go_wp2_with fail
      refine hcl.mono ?_
      clear hcl
      rintro e v13 ⟨b3, b4, b7, rfl, hF, q13⟩
      have hcl := (unhide NB).walked v13 cols t b3 b4 b7 q13 hF
      clear hF q13
      go_wp2_with fail
      refine hcl.mono ?_
      clear hcl
      rintro e v14 ⟨rfl, q14⟩
      have Q := hide q14
      clear q14
      go_wp2_with fail
      exact ⟨⟨j + 1, by omega, by rw [Int.natCast_add]; rfl, unhide Q⟩, by simp [intOf]; omega⟩
    · obtain rfl : j = 2 := by omega
      clear hlt hj
      have hal := alive_any wr
      have HB := hide (((unhide F).1).trans (hbr.mono (unhide F).1.size))
      clear hbr
      go_wp2_with fail
      refine hal.mono ?_
      clear hal
      rintro e w2 ⟨rfl, b2⟩
      have B2 := hide ((unhide HB).trans (b2.mono (unhide HB).size))
      clear b2
      go_wp2_with fail
      go_ret
      exact ⟨rfl, unhide B2⟩
end Go.Proofs.YthcljhfankooaabGreat

namespace Go.Proofs.YthcljhfankooaabGreat
open Go.ChangeShapes Go.WideShapes Go.ChangeAt Go.RowKit

set_option maxRecDepth 100000 in
theorem relNobody_lifted (os : Os) (started : os.Started) (H : Type) (enc : TypeId × Value → H) :
    ReturnsInHanded {} Tryz.checked os 4 .any (Rows.relNobodySpec.pre6 enc Tryz.prog Tryz.f4 Rows.relNobodyRow.domain false) (Rows.relNobodySpec.post enc Tryz.prog Tryz.f4 false true false false) := by
  refine returnsInHanded_of_change_sized (C := Tryz.checked) own started (by kernel_rfl) Tryz.func4
    (ChangeSpec.witness6 (enc := enc) (C := Tryz.checked) false ⟨#[], #[.slice none 0 0, .int .i64 0], []⟩ 8 (by kernel_rfl) (by kernel_rfl) (by kernel_rfl) (by kernel_rfl)) ?_
  intro W base args ds gs before hval0 hW _ hsz0 _
  have hsz : (DataW.weightsEach Tryz.prog (Tryz.f4.params.toList ++ Rows.relNobodySpec.plain.varTypes Tryz.prog) (ds ++ gs)).all (· ≤ reachBytes) = true := hsz0
  clear hsz0
  have hval : ∀ (j : Nat) t v, Tryz.f4.params[j]? = some t → args[j]? = some v → Value.okWide Tryz.prog W .any base t v := hval0
  have hW' := hW
  obtain ⟨p, q, hA0, hV, rfl, _, _⟩ := hW
  have hA : DataW.TrodAll enc Tryz.prog W 0 (fun _ => true) true Tryz.f4.params.toList args.toList ds p := hA0
  rw [Tryz.params4] at hA hval hsz
  obtain ⟨v0, v1, d0, d1, p0, p1, rfl, rfl, rfl, h0, h1⟩ := trodAll_two hA
  obtain ⟨rfl, rfl⟩ := trodVars_none hV
  obtain ⟨a0, len0, cap0, rfl⟩ := okWide_slice Tryz.underlying32 (hval 0 32 v0 rfl rfl)
  obtain ⟨n1, rfl, rfl, rfl, wf1⟩ := open_int Tryz.underlying3 (hval 1 3 v1 rfl rfl) h1
  clear hA0 hval0
  simp only [List.append_nil] at hW'
  have lt0 : ∀ x ∈ p0, x.block < W.heap.size := fun x hx => hW'.lt x (by simp [hx])
  obtain ⟨l0, hl0, hB0, hz0⟩ := slice_of h0 rfl lt0
  have hz0 := hz0 (fun n hn => by simpa using List.all_eq_true.1 hsz n (DataW.weights_mem_each (j := 0) (t := 32) rfl rfl n hn))
  refine (nobody_walk W _ l0 hl0.ints (by omega) n1).mono fun e W' ⟨he, hg⟩ => ?_
  subst he
  refine ⟨_, rfl, _, _, _, [], p0, [], hW', ?_, ?_, rfl, hg.frame _, fun h => by cases h⟩
  · exact trodAll_mk1 (shut_bool Tryz.underlying4 _)
  · have := trodAll_mk2 (Below.trod laidOut (by kernel_rfl) (of_decide_eq_true (by kernel_rfl)) h0 hg lt0) (shut_int Tryz.underlying3 wf1)
    simp only [List.append_nil] at this
    exact this

theorem relNobody_holds : Rows.RelNobodySaid :=
  OpenClaim.holds_of_wide 4 Tryz.f4 rfl rfl rfl rfl rfl rfl rfl ⟨rfl, rfl, rfl, rfl, rfl⟩ rfl rfl rfl rfl rfl (by kernel_rfl) Tryz.func4 (by kernel_rfl)
    (of_decide_eq_true (by kernel_rfl)) (by unfold Func.isWrapper; first | (rw [if_pos (by decide +kernel)]; kernel_rfl) | (rw [if_neg (by decide +kernel)]; exact ⟨rfl, rfl⟩))
    (fun os started H enc _ => relNobody_lifted os started H enc)
#print axioms relNobody_holds
end Go.Proofs.YthcljhfankooaabGreat
