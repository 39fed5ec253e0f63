/- The document's Merge. -/
import Derived.Test.YtmjlhmhkbfnccaaRefF
namespace Go.Proofs.Ytmjlhmhkbfnccaa
open Go.RowKit Go.Shelf Go.Maps

/-- Tuples put in one after another until one is refused: how many were new, what is told, what is there then. -/
def mergeL (o : List Int) : List (List Int) → List (List Int) → Nat × Int × List (List Int)
  | [], A => (0, 0, A)
  | y :: ys, A => if insEL o y A = 0 then (let r := mergeL o ys (insTo o y A); ((if insBL o y A = true then 1 else 0) + r.1, r.2.1, r.2.2)) else (0, insEL o y A, insTo o y A)
theorem mergeL_step {o y : List Int} {ys A : List (List Int)} (h : insEL o y A = 0) : mergeL o (y :: ys) A = ((if insBL o y A = true then 1 else 0) + (mergeL o ys (insTo o y A)).1, (mergeL o ys (insTo o y A)).2.1, (mergeL o ys (insTo o y A)).2.2) := by rw [mergeL, if_pos h]
theorem mergeL_stop {o y : List Int} {ys A : List (List Int)} (h : insEL o y A ≠ 0) : mergeL o (y :: ys) A = (0, insEL o y A, insTo o y A) := by rw [mergeL, if_neg h]
/-- So far: n came of the first k of ys, and A is there. -/
def MAt (o : List Int) (ys A0 : List (List Int)) (k n : Nat) (A : List (List Int)) : Prop := mergeL o ys A0 = (n + (mergeL o (ys.drop k) A).1, (mergeL o (ys.drop k) A).2.1, (mergeL o (ys.drop k) A).2.2)
theorem MAt.start (o : List Int) (ys A : List (List Int)) : MAt o ys A 0 0 A := by simp [MAt]
theorem MAt.next {o : List Int} {ys A0 A : List (List Int)} {k n : Nat} (h : MAt o ys A0 k n A) (hk : k < ys.length) (he : insEL o (ys.getD k []) A = 0) : MAt o ys A0 (k + 1) (n + if insBL o (ys.getD k []) A = true then 1 else 0) (insTo o (ys.getD k []) A) := by
  unfold MAt at h ⊢
  have e : ys.drop k = ys.getD k [] :: ys.drop (k + 1) := by rw [List.drop_eq_getElem_cons hk]; simp [List.getD, hk]
  rw [h, e, mergeL_step he]
  simp only [Nat.add_assoc]
theorem MAt.stop {o : List Int} {ys A0 A : List (List Int)} {k n : Nat} (h : MAt o ys A0 k n A) (hk : k < ys.length) (he : insEL o (ys.getD k []) A ≠ 0) : mergeL o ys A0 = (n, insEL o (ys.getD k []) A, insTo o (ys.getD k []) A) := by
  unfold MAt at h
  have e : ys.drop k = ys.getD k [] :: ys.drop (k + 1) := by rw [List.drop_eq_getElem_cons hk]; simp [List.getD, hk]
  rw [h, e, mergeL_stop he]
  rfl
theorem MAt.end {o : List Int} {ys A0 A : List (List Int)} {n : Nat} (h : MAt o ys A0 ys.length n A) : mergeL o ys A0 = (n, 0, A) := by
  unfold MAt at h
  rw [h, List.drop_length]
  rfl
/-- A tuple in its place: they rise still. -/
theorem up_insTo {o x : List Int} {A : List (List Int)} (ho : right o = true) (hU : Up o A) (hB : Bnd x) : Up o (insTo o x A) := by
  rw [insTo]
  split
  case isFalse => exact hU
  rename_i hi
  rw [insBL, Bool.and_eq_true, Bool.and_eq_true, decide_eq_true_eq] at hi
  obtain ⟨hf, hn, hlen⟩ := hi
  have hxl := fitB_true.1 hf
  have hni : x ∉ A := fun hm => by
    rw [List.contains_iff_mem.2 hm] at hn
    cases hn
  have h := List.takeWhile_append_dropWhile (p := fun y => decide (cmpA o y x < 0)) (l := A)
  have hA : ∀ y ∈ A.takeWhile (fun y => decide (cmpA o y x < 0)), cmpA o y x < 0 := fun y hy => of_decide_eq_true (tw_all A y hy)
  have hlx : (insX o x A).length = A.length + 1 := insX_length
  unfold insX at hlx ⊢
  generalize A.takeWhile (fun y => decide (cmpA o y x < 0)) = P at h hA hlx ⊢
  generalize hBe : A.dropWhile (fun y => decide (cmpA o y x < 0)) = D at h hlx ⊢
  have hpw := hU.1
  rw [← h, List.pairwise_append] at hpw
  have hD : ∀ y ∈ D, cmpA o x y < 0 := fun y hy => by
    have ly : y.length = o.length := hU.2.1 y (by rw [← h]; simp [hy])
    have hge : ¬ cmpA o y x < 0 := by
      cases D with
      | nil => cases hy
      | cons b r =>
        have hb : ¬ (cmpA o b x < 0) := of_decide_eq_false (dw_head A b r hBe)
        rcases List.mem_cons.1 hy with rfl | hm
        · exact hb
        · intro hlt
          have h1 := (List.pairwise_cons.1 hpw.2.1).1 y hm
          have l1 : b.length = o.length := hU.2.1 b (by rw [← h]; simp)
          exact hb (cmpA_lt_le ho l1 ly hxl h1 (by omega))
    have hne : cmpA o y x ≠ 0 := fun e => hni (by
      have := cmpA_zero ho ly hxl e
      rw [← this, ← h]
      simp [hy])
    have := cmpA_neg ho ly hxl
    omega
  refine ⟨?_, ?_, by omega, ?_⟩
  · rw [List.pairwise_append, List.pairwise_cons]
    exact ⟨hpw.1, ⟨hD, hpw.2.1⟩, fun a ha b hb => by
      rcases List.mem_cons.1 hb with rfl | hb
      · exact hA a ha
      · exact hpw.2.2 a ha b hb⟩
  · intro a ha
    rcases List.mem_append.1 ha with ha | ha
    · exact hU.2.1 a (by rw [← h]; simp [ha])
    · rcases List.mem_cons.1 ha with rfl | ha
      · exact hxl
      · exact hU.2.1 a (by rw [← h]; simp [ha])
  · intro a ha
    rcases List.mem_append.1 ha with ha | ha
    · exact hU.2.2.2 a (by rw [← h]; simp [ha])
    · rcases List.mem_cons.1 ha with rfl | ha
      · exact hB
      · exact hU.2.2.2 a (by rw [← h]; simp [ha])
theorem up_at {o : List Int} {ys : List (List Int)} (h : Up o ys) {k : Nat} (hk : k < ys.length) : Bnd (ys.getD k []) := by
  have e : ys.getD k [] = ys[k] := by simp [List.getD, hk]
  rw [e]
  exact h.2.2.2 _ (List.getElem_mem hk)
/-- What a set is told, and what is there then. -/
def mergeE (o o2 : List Int) (ys A : List (List Int)) : Nat × Int × List (List Int) := if fitB o o2 = true then mergeL o ys A else (0, 14, A)
def MgR (S : Nat → Prop) (w : World) (rb d : Nat) (cs : Array Value) (o : List Int) (ys A0 : List (List Int)) (nv i : Value) (wr : World) : Prop := ∃ (k n : Nat) (A : List (List Int)) (v : Value), k ≤ ys.length ∧ n ≤ k ∧ nv = .int .i64 (n : Int) ∧ i = .int .i64 (k : Int) ∧ MAt o ys A0 k n A ∧ Up o A ∧ RAt S wr rb d (cs.setIfInBounds (d + 1) v) o A ∧ Keeps (fun b => b = rb) w wr

set_option maxRecDepth 100000 in
set_option maxHeartbeats 4000000 in
theorem rmerge_at (S : Nat → Prop) (w : World) (rb d : Nat) (cs : Array Value) (o o2 : List Int) (A0 ys : List (List Int)) (ov2 tv2 : Value) (h : RAt S w rb d cs o A0) (ho : right o = true) (hU : Up o A0) (hov2 : IntsS S w ov2 o2) (hL2 : ListAt S w tv2 ys) (hU2 : Up o2 ys) (hnew : NewIn S w) :
    Calls Try.prog 32 #[.pointer (some ⟨rb, d, none⟩), .agg #[ov2, tv2]] w fun e w' => e = .returned (.tuple #[.int .i64 ((mergeE o o2 ys A0).1 : Int), .int .i64 (mergeE o o2 ys A0).2.1]) ∧ (∃ v, RAt S w' rb d (cs.setIfInBounds (d + 1) v) o (mergeE o o2 ys A0).2.2) ∧ Keeps (fun b => b = rb) w w' := by
  obtain ⟨ov, tv, hh, hov, _, _⟩ := h.cells
  obtain ⟨oa, oc, rfl, _⟩ := id hov
  obtain ⟨oa2, oc2, rfl, _⟩ := id hov2
  obtain ⟨f, ⟨a, cap, rfl, hc1, hc2, hf⟩, hfi⟩ := hL2
  obtain ⟨w1, hw1⟩ : ∃ w1, w1 = w.alloc (.cells #[.slice oa2 o2.length oc2, .slice a ys.length cap] 56) := ⟨_, rfl⟩
  have b1 : Below w.heap.size w w1 := by rw [hw1]; exact (Below.refl _ w).alloc (Nat.le_refl _) _
  have hbox : w1.heap[w.heap.size]? = some (.cells #[.slice oa2 o2.length oc2, .slice a ys.length cap] 56 (0, 0)) := by rw [hw1]; exact World.alloc_heap_new _ _
  have hlt0 := hh.lt
  obtain ⟨c0, c1, _⟩ := At2.cells (hh.later b1)
  obtain ⟨e0, e1, _⟩ := two_cells hbox
  have BOX : Hid (∀ wr, Keeps (fun b => b = rb) w1 wr → wr.cell? ⟨w.heap.size, 1, none⟩ = some (.slice a ys.length cap)) := fun wr hk => by
    exact (two_cells (hk.same _ _ hbox (by omega))).2.1
  have hns := h.ns
  have ROW : Hid (∀ wr, Keeps (fun b => b = rb) w1 wr → ∀ j, j < ys.length → ∃ b off, a = some ⟨b, off, none⟩ ∧ wr.cell? ⟨b, off + j, none⟩ = some (f j) ∧ Ints wr.heap.size wr (f j) (ys.getD j [])) := fun wr hk j hj => by
    obtain ⟨b, off, e, hS, hc⟩ := hf j hj
    have hst : Stays S w1 wr := hk.stays (fun b _ hs e => hns (e ▸ hs))
    exact ⟨b, off, e, hst.cell ((Stays.of_below (S := S) b1).cell hc hS) hS, (((hfi j hj).later b1).stays hst).ints⟩
  have HNEW : Hid (∀ wr, Keeps (fun b => b = rb) w1 wr → NewIn S wr) := fun wr hk b hb => hnew b (by have := hk.size; have := b1.size; omega)
  have HA := hide (And.intro ho (And.intro hU2 (And.intro (Keeps.of_below (O := fun b => b = rb) b1) (And.intro h b1))))
  have hyl := hU2.2.2.1
  have mixed : Try.prog.follows .mixedOrders = true := by kernel_rfl
  cases hfit : fitB o o2 with
  | false =>
    have hne : ((o.length : Int) != (o2.length : Int)) = true := by
      have := hfit
      unfold fitB at this
      simp at this ⊢
      omega
    have HF := hide hfit
    clear h hh hov hov2 hf hfi hnew hfit hU ho hU2 hlt0 b1 hbox
    go_enter Try.func32, Try.ntmps32
    go_wp2_with fail
    rw [← hw1]
    clear hw1
    go_quiet (fail)
    go_wp2_with fail
    go_ret2
    rw [mergeE, if_neg (by rw [unhide HF]; simp)]
    exact ⟨rfl, (unhide HA).2.2.2.1.keepV (below_drewN (unhide HA).2.2.2.2 _), Keeps.of_below (below_drewN (unhide HA).2.2.2.2 _)⟩
  | true =>
    have hne : ((o.length : Int) != (o2.length : Int)) = false := by
      have := hfit
      unfold fitB at this
      simp at this ⊢
      omega
    have HF := hide hfit
    have H0 : Hid (∀ m, MgR S w1 rb d cs o ys A0 (.int .i64 0) (.int .i64 0) (w1.drewN m)) := fun m => by
      obtain ⟨v, hv⟩ := h.keepV (below_drewN b1 m)
      exact ⟨0, 0, A0, v, Nat.zero_le _, Nat.le_refl _, rfl, rfl, MAt.start _ _ _, hU, hv, Keeps.of_below (below_drewN (Below.refl _ _) m)⟩
    clear h hh hov hov2 hf hfi hnew hfit hU ho hU2 hlt0 b1 hbox
    go_enter Try.func32, Try.ntmps32
    go_wp2_with fail
    rw [← hw1]
    clear hw1
    go_quiet (fail)
    go_wp2_with fail
    go_loopw [6, 7] (fun nv i wr => MgR S w1 rb d cs o ys A0 nv i wr) (fun _ i _ => ys.length - (intOf i).toNat)
    case atStart => exact unhide H0 _
    case round =>
      obtain ⟨k, n, A, v, hk, hnk, rfl, rfl, hM, hUA, hR, hK⟩ := hrel
      have g1 := unhide BOX wr hK
      by_cases hlt : k < ys.length
      · obtain ⟨b, off, rfl, hc, hy⟩ := unhide ROW wr hK k hlt
        have hBy := up_at (unhide HA).2.1 hlt
        have hMn := hM.next hlt
        have hMs := hM.stop hlt
        obtain ⟨y, hye⟩ : ∃ y, y = ys.getD k [] := ⟨_, rfl⟩
        rw [← hye] at hy hBy hMn hMs
        have hin := rinsert_at S wr rb d _ o y A (f k) hR (unhide HA).1 hUA hy (unhide HNEW wr hK)
        have hUn := up_insTo (unhide HA).1 hUA hBy
        have HIN : Hid (∀ w2 v2, Keeps (fun b => b = rb) wr w2 → RAt S w2 rb d ((cs.setIfInBounds (d + 1) v).setIfInBounds (d + 1) v2) o (insTo o y A) → RAt S w2 rb d (cs.setIfInBounds (d + 1) v2) o (insTo o y A) ∧ Keeps (fun b => b = rb) w1 w2) := fun w2 v2 k2 h2 => by
          rw [Array.setIfInBounds_setIfInBounds] at h2
          exact ⟨h2, hK.trans k2 (fun _ _ e => e)⟩
        obtain ⟨ya, yc, ey, _⟩ := id hy
        rw [ey] at hc hin
        generalize hb1 : insBL o y A = ib at hin hMn
        generalize he1 : insEL o y A = ie at hin hMn hMs
        generalize insTo o y A = A2 at hin hMn hMs hUn HIN
        generalize y.length = yl at hc hin
        have hg : (k : Int) < (ys.length : Int) := by omega
        have HMN := hide (And.intro hMn (And.intro hMs hUn))
        clear hM hR hK hy hBy hMn hMs hye ey hUA hUn hb1 he1
        go_wp2_with fail
        refine hin.mono ?_
        clear hin
        rintro e w2 ⟨rfl, ⟨v2, hR2⟩, hK2⟩
        have H2 := hide (unhide HIN w2 v2 hK2 hR2)
        clear hR2 hK2 HIN
        by_cases hie : ie = 0
        · subst hie
          cases ib with
          | true =>
            go_wp2_with fail
            go_roundw
            case rel => exact ⟨k + 1, n + 1, A2, v2, by omega, by omega, by go_num, by go_num, (unhide HMN).1 trivial, (unhide HMN).2.2, (unhide H2).1, (unhide H2).2⟩
            case measure => simp [intOf]; omega
          | false =>
            go_wp2_with fail
            go_roundw
            case rel => exact ⟨k + 1, n, A2, v2, by omega, by omega, rfl, by go_num, (unhide HMN).1 trivial, (unhide HMN).2.2, (unhide H2).1, (unhide H2).2⟩
            case measure => simp [intOf]; omega
        · have hie2 : (ie != 0) = true := by simpa using hie
          have HE := hide ((unhide HMN).2.1 hie)
          clear hie
          go_wp2_with fail
          go_ret2
          rw [mergeE, if_pos (unhide HF), unhide HE]
          exact ⟨rfl, ⟨v2, (unhide H2).1⟩, (unhide HA).2.2.1.trans (unhide H2).2 (fun _ _ e => e)⟩
      · have hg : ¬ ((k : Int) < (ys.length : Int)) := by omega
        have hke : k = ys.length := by omega
        rw [hke] at hM
        have HE := hide (And.intro hM.end (And.intro hR hK))
        clear hM hR hK hUA hke
        go_wp2_with fail
        go_ret2
        rw [mergeE, if_pos (unhide HF), (unhide HE).1]
        exact ⟨rfl, ⟨v, (unhide HE).2.1⟩, (unhide HA).2.2.1.trans (unhide HE).2.2 (fun _ _ e => e)⟩
end Go.Proofs.Ytmjlhmhkbfnccaa
