/- Store.Back of a kind and a number that are no value's: the zero value and false. Store.Back of any kind and number, held against the document's. The store's Get: held.get walked. The store's Get: held.get walked. Store.Get, of any value. Both stores side by side. The walk of TermStores. -/
import Derived.Test.YtpiehfjgokfdeaaDoorBackXP
import Derived.Test.YtpiehfjgokfdeaaDoorRSall
import Derived.Test.YtpiehfjgokfdeaaDoorNodeOps
import Derived.Test.YtpiehfjgokfdeaaDoorPutX
import Derived.Test.YtpiehfjgokfdeaaDoorPutA
import Derived.Deep.RegionWith
import Derived.Test.YtpiehfjgokfdeaaDoorFrame
namespace Go.Proofs.YtpiehfjgokfdeaaDoor
open Go.RowKit Go.Maps Go.Deep
abbrev noVal : Value := .agg #[.int .i64 0, .int .i64 0, .string ⟨#[]⟩, .slice none 0 0]

set_option maxRecDepth 100000 in
set_option maxHeartbeats 4000000 in
theorem backSym_no (W : World) (p : SP) (S : SS) (n : Int) (h : Sto W p S) (hn : Sym.isNum S.xs n = false) :
    Calls Tryd.prog 64 #[.pointer (some ⟨p.hb, 0, none⟩), .int .i64 n] W fun e w' => e = .returned (.tuple #[noVal, .bool false]) ∧ Below W.heap.size W w' := by
  have b1 := below_box W (.cells #[.int .i64 0, .int .i64 0, .string ⟨#[]⟩, .slice none 0 0] 24)
  have h1 := h.later b1
  have d0 := h1.d0
  have C := Sym.text_any h1.T1 n
  rw [hn] at C
  generalize Sym.textAt S.xs n = t at C
  have HC := hide C
  clear C h h1 hn b1
  go_enter Tryd.func64, Tryd.ntmps64
  go_wp2_with fail
  refine (unhide HC).mono ?_
  rintro e w' ⟨rfl, rfl⟩
  go_wp2_with fail
  refine bodyPost_ret (v := .tuple #[noVal, .bool false]) (by simp [results, Tryd.results64, go_sem]) rfl ?_
  exact ⟨rfl, below_box W _⟩

set_option maxRecDepth 100000 in
set_option maxHeartbeats 4000000 in
theorem backCon_no (W : World) (p : SP) (S : SS) (n : Int) (h : Sto W p S) (hn : ¬ (0 ≤ n ∧ n < (S.ns.length : Int))) :
    Calls Tryd.prog 65 #[.pointer (some ⟨p.hb, 0, none⟩), .int .i64 n] W fun e w' => e = .returned (.tuple #[noVal, .bool false]) ∧ Below W.heap.size W w' := by
  have b1 := below_box W (.cells #[.int .i64 0, .int .i64 0, .string ⟨#[]⟩, .slice none 0 0] 24)
  have d2 := (h.later b1).d2
  have hl16 : S.ns.length ≤ 16384 := h.len
  clear h b1
  by_cases hn0 : n < 0
  · clear hn
    go_enter Tryd.func65, Tryd.ntmps65
    go_wp2_with fail
    refine bodyPost_ret (v := .tuple #[noVal, .bool false]) (by simp [results, Tryd.results65, go_sem]) rfl ?_
    exact ⟨rfl, below_box W _⟩
  · have hn1 : (S.ns.length : Int) ≤ n := by omega
    clear hn
    go_enter Tryd.func65, Tryd.ntmps65
    go_wp2_with fail
    refine bodyPost_ret (v := .tuple #[noVal, .bool false]) (by simp [results, Tryd.results65, go_sem]) rfl ?_
    exact ⟨rfl, below_box W _⟩

/-- No value has this kind and number. -/
def Noth (S : SS) (kind n : Int) : Prop := kind ≠ 1 ∧ (kind = 2 → Sym.isNum S.xs n = false) ∧ (kind = 3 → ¬ (0 ≤ n ∧ n < (S.ns.length : Int)))

set_option maxRecDepth 100000 in
set_option maxHeartbeats 4000000 in
theorem back_no (W : World) (p : SP) (S : SS) (kind n : Int) (h : Sto W p S) (hz : Noth S kind n) :
    Calls Tryd.prog 42 #[.pointer (some ⟨p.hb, 0, none⟩), .int .i64 kind, .int .i64 n] W fun e w' => e = .returned (.tuple #[noVal, .bool false]) ∧ Below W.heap.size W w' := by
  obtain ⟨z1, z2, z3⟩ := hz
  have b1 := below_box W (.cells #[.int .i64 0, .int .i64 0, .string ⟨#[]⟩, .slice none 0 0] 24)
  by_cases k2 : kind = 2
  · have HC := hide (backSym_no _ p S n (h.later b1) (z2 k2))
    subst k2
    clear h z1 z2 z3
    go_enter Tryd.func42, Tryd.ntmps42
    go_wp2_with fail
    refine (unhide HC).mono ?_
    rintro e w2 ⟨rfl, b2⟩
    have hbx : CellsAt w2 W.heap.size 0 V.none := (boxed W V.none).below b2 (by simp)
    have hob : w2.heap[W.heap.size]? = some V.none.obj := (b2.block W.heap.size (by simp)).trans (World.alloc_heap_new W _)
    have f0 : ∀ o, w2.frozen? ⟨W.heap.size, o, none⟩ = false := fun o => by simp [World.frozen?, hob, V.obj]
    have x0 := hbx.z.1
    have x1 := hbx.z.2.1
    have x2 := hbx.z.2.2.1
    have x3 := hbx.z.2.2.2
    have bw : Below W.heap.size W w2 := b1.trans (b2.mono (by simp))
    clear HC b1 b2 hbx
    go_wp2_with fail
    refine bodyPost_ret (v := .tuple #[noVal, .bool false]) (by simp [results, Tryd.results42, go_sem, x0, x1, x2, x3]) rfl ?_
    exact ⟨rfl, (((bw.setCell (Nat.le_refl _) _).setCell (Nat.le_refl _) _).setCell (Nat.le_refl _) _).setCell (Nat.le_refl _) _⟩
  · by_cases k3 : kind = 3
    · have HC := hide (backCon_no _ p S n (h.later b1) (z3 k3))
      subst k3
      clear h z1 z2 z3 k2
      go_enter Tryd.func42, Tryd.ntmps42
      go_wp2_with fail
      refine (unhide HC).mono ?_
      rintro e w2 ⟨rfl, b2⟩
      have hbx : CellsAt w2 W.heap.size 0 V.none := (boxed W V.none).below b2 (by simp)
      have hob : w2.heap[W.heap.size]? = some V.none.obj := (b2.block W.heap.size (by simp)).trans (World.alloc_heap_new W _)
      have f0 : ∀ o, w2.frozen? ⟨W.heap.size, o, none⟩ = false := fun o => by simp [World.frozen?, hob, V.obj]
      have x0 := hbx.z.1
      have x1 := hbx.z.2.1
      have x2 := hbx.z.2.2.1
      have x3 := hbx.z.2.2.2
      have bw : Below W.heap.size W w2 := b1.trans (b2.mono (by simp))
      clear HC b1 b2 hbx
      go_wp2_with fail
      refine bodyPost_ret (v := .tuple #[noVal, .bool false]) (by simp [results, Tryd.results42, go_sem, x0, x1, x2, x3]) rfl ?_
      exact ⟨rfl, (((bw.setCell (Nat.le_refl _) _).setCell (Nat.le_refl _) _).setCell (Nat.le_refl _) _).setCell (Nat.le_refl _) _⟩
    · have e1 : (kind == 1) = false := by simpa using z1
      have e2 : (kind == 2) = false := by simpa using k2
      have e3 : (kind == 3) = false := by simpa using k3
      clear h z2 z3
      go_enter Tryd.func42, Tryd.ntmps42
      go_wp2_with fail
      refine bodyPost_ret (v := .tuple #[noVal, .bool false]) (by simp [results, Tryd.results42, go_sem]) rfl ?_
      exact ⟨rfl, below_box W _⟩

set_option maxRecDepth 100000 in
set_option maxHeartbeats 4000000 in
theorem sback_no (W : World) (p : SP) (S : SS) (kind n : Int) (h : Sto W p S) (hz : Noth S kind n) :
    Calls Tryd.prog 23 #[.pointer (some ⟨p.sb, 0, none⟩), .int .i64 kind, .int .i64 n] W fun e w' => e = .returned (.tuple #[noVal, .bool false]) ∧ Below W.heap.size W w' := by
  have b1 := below_box W (.cells #[.int .i64 0, .int .i64 0, .string ⟨#[]⟩, .slice none 0 0] 24)
  have h1 := h.later b1
  have HC := hide (back_no _ p S kind n h1 hz)
  have HM := hide (smade_any h1)
  have c0 := h1.c0
  clear h h1 hz
  go_enter Tryd.func23, Tryd.ntmps23
  go_wp2_with fail
  refine (unhide HM).mono ?_
  rintro e w' ⟨rfl, rfl⟩
  go_wp2_with fail
  refine (unhide HC).mono ?_
  rintro e w2 ⟨rfl, b2⟩
  have hbx : CellsAt w2 W.heap.size 0 V.none := (boxed W V.none).below b2 (by simp)
  have hob : w2.heap[W.heap.size]? = some V.none.obj := (b2.block W.heap.size (by simp)).trans (World.alloc_heap_new W _)
  have f0 : ∀ o, w2.frozen? ⟨W.heap.size, o, none⟩ = false := fun o => by simp [World.frozen?, hob, V.obj]
  have x0 := hbx.z.1
  have x1 := hbx.z.2.1
  have x2 := hbx.z.2.2.1
  have x3 := hbx.z.2.2.2
  have bw : Below W.heap.size W w2 := b1.trans (b2.mono (by simp))
  clear HC HM b1 b2 hbx c0
  go_wp2_with fail
  refine bodyPost_ret (v := .tuple #[noVal, .bool false]) (by simp [results, Tryd.results23, go_sem, x0, x1, x2, x3]) rfl ?_
  exact ⟨rfl, (((bw.setCell (Nat.le_refl _) _).setCell (Nat.le_refl _) _).setCell (Nat.le_refl _) _).setCell (Nat.le_refl _) _⟩
end Go.Proofs.YtpiehfjgokfdeaaDoor

namespace Go.Proofs.YtpiehfjgokfdeaaDoor
open Go.RowKit Go.Maps Go.Deep
def SS.Thin (S : SS) : Prop := ∀ x ∈ S.xs, x.size ≤ 65536
theorem putNode_thin {S : SS} {word : ByteArray} {n : Nd} (h : S.Thin) : (putNodeV S word n).2.Thin := by
  unfold putNodeV
  split
  · exact h
  · split
    · exact h
    · exact h
theorem symPut_thin {xs : List ByteArray} {s : ByteArray} (h : ∀ x ∈ xs, x.size ≤ 65536) (hs : s.size ≤ 65536) : ∀ x ∈ Sym.put xs s, x.size ≤ 65536 := by
  unfold Sym.put
  intro x hx
  split at hx
  · exact h x hx
  · split at hx
    · exact h x hx
    · rcases List.mem_append.1 hx with hx | hx
      · exact h x hx
      · rw [List.mem_singleton.1 hx]; exact hs
theorem bare_small {k n : Int} {s : ByteArray} (h1 : -9223372036854775808 ≤ k ∧ k ≤ 9223372036854775807) (h2 : -9223372036854775808 ≤ n ∧ n ≤ 9223372036854775807) (h3 : s.size ≤ 9223372036854775807) : (bare k n s).Small :=
  V.Small.of ⟨h1.1, h1.2, h2.1, h2.2, h3⟩ (fun i hi => absurd hi (Nat.not_lt_zero i))
theorem bare_num (n : Int) : (bare 1 n ⟨#[]⟩).may 0 = true := by
  rw [V.may_eq, if_pos (show (bare 1 n ⟨#[]⟩).kind = 1 from rfl)]; rfl
theorem bare_sym {s : ByteArray} (h : s.size ≤ 65536) : (bare 2 0 s).may 0 = true := by
  rw [V.may_eq, if_neg (show ¬ (bare 2 0 s).kind = 1 from fun e => absurd (show (2 : Int) = 1 from e) (by decide)), if_pos (show (bare 2 0 s).kind = 2 from rfl)]
  simp only [Bool.and_eq_true, decide_eq_true_eq]
  exact ⟨⟨rfl, rfl⟩, h⟩
theorem putV_thin : ∀ (v : V) (d : Nat) (S : SS), v.may d = true → S.Thin → (v.putV S).2.Thin := by
  refine V.ind fun v ih d S hm h => ?_
  rcases kinds_of hm with hk | hk | hk
  · rw [V.putV_num hk]; exact h
  · rw [V.putV_sym hk]
    refine symPut_thin h ?_
    rw [V.may_eq, if_neg (by omega), if_pos hk] at hm
    simp only [Bool.and_eq_true, decide_eq_true_eq] at hm
    exact hm.2
  · have hargs : ∀ k, k ≤ v.len → (argsTo (fun i S => (v.kid i).putV S) k S).S.Thin := by
      intro k
      induction k with
      | zero => intro _; exact h
      | succ k ihk =>
        intro hkl
        have hmk := may_kids hm hk k (by omega)
        simp only [argsTo]
        split
        · exact ih k (by omega) (d - 1) _ hmk (ihk (by omega))
        · exact ihk (by omega)
    rw [V.putV_con hk]
    split
    · exact putNode_thin (hargs v.len (Nat.le_refl _))
    · exact hargs v.len (Nat.le_refl _)
theorem putAll_thin {v : V} {S : SS} (h : S.Thin) : (putAll v S).2.Thin := by
  unfold putAll
  cases hr : v.right with
  | true => exact putV_thin v 32 S (right_may hr) h
  | false => exact h
theorem putAll_long {v : V} {S : SS} (h : S.Long) : (putAll v S).2.Long := by
  unfold putAll
  cases hr : v.right with
  | true => exact putV_long v 32 S (right_may hr) h
  | false => exact h

/-- Back answers what the document's Back answers, made anew. -/
theorem sback_agree (W : World) (p : SP) (S : SS) (R : RS) (kind n : Int) (h : Sto W p S) (ha : Agree S R) (hl : S.Long) (ht : S.Thin) (hs : ∀ j, j < R.cs.length → (nth R.cs j).Small) (hn : -9223372036854775808 ≤ n ∧ n ≤ 9223372036854775807) :
    Calls Tryd.prog 23 #[.pointer (some ⟨p.sb, 0, none⟩), .int .i64 kind, .int .i64 n] W fun e w' => ∃ r, e = .returned (.tuple #[r, .bool (rbackV R kind n).2]) ∧ Got W w' (rbackV R kind n).1 r ∧ Below W.heap.size W w' := by
  have no : ∀ (_ : Noth S kind n) (_ : rbackV R kind n = (.none, false)), Calls Tryd.prog 23 #[.pointer (some ⟨p.sb, 0, none⟩), .int .i64 kind, .int .i64 n] W fun e w' => ∃ r, e = .returned (.tuple #[r, .bool (rbackV R kind n).2]) ∧ Got W w' (rbackV R kind n).1 r ∧ Below W.heap.size W w' := fun hz e => by
    rw [e]
    refine (sback_no W p S kind n h hz).mono ?_
    rintro e w' ⟨rfl, b⟩
    refine ⟨_, rfl, ⟨bare 0 0 ⟨#[]⟩, rfl, bare_at (by omega) (by omega) (by decide), ?_, fun j hj => absurd hj (bare_uses j)⟩, b⟩
    rw [ord_zero]
    exact ⟨rfl, rfl, rfl, rfl, fun i hi => absurd hi (Nat.not_lt_zero i)⟩
  have yes : ∀ (v : V) (d : Nat) (_ : v.may d = true) (_ : v.Small) (_ : v.IsIn S n) (_ : v.kind = kind) (_ : rbackV R kind n = (v, true)), Calls Tryd.prog 23 #[.pointer (some ⟨p.sb, 0, none⟩), .int .i64 kind, .int .i64 n] W fun e w' => ∃ r, e = .returned (.tuple #[r, .bool (rbackV R kind n).2]) ∧ Got W w' (rbackV R kind n).1 r ∧ Below W.heap.size W w' := fun v d hm hv hin hk e => by
    rw [e, ← hk]
    exact sback_any v W p S d n h hl hm hv hin
  by_cases k1 : kind = 1
  · subst k1
    refine yes (bare 1 n ⟨#[]⟩) 0 (bare_num n) (bare_small (by decide) hn (by decide)) ((isIn_num rfl).2 rfl) rfl rfl
  · by_cases k2 : kind = 2
    · subst k2
      cases hi : Sym.isNum S.xs n with
      | false =>
        refine no ⟨by decide, fun _ => hi, fun e => absurd e (by decide)⟩ ?_
        simp [rbackV, ha.xs, hi]
      | true =>
        have hi' := hi
        simp only [Sym.isNum, Bool.and_eq_true, decide_eq_true_eq] at hi'
        have hlt : n.toNat < S.xs.length := by omega
        have he : S.xs[n.toNat]? = some (Sym.textAt S.xs n) := by
          unfold Sym.textAt
          rw [if_pos hi'.1, List.getElem?_eq_getElem hlt]; rfl
        have hsz := ht _ (List.mem_of_getElem? he)
        refine yes (bare 2 0 (Sym.textAt S.xs n)) 0 (bare_sym hsz) (bare_small (by decide) (by decide) (by omega)) ((isIn_sym rfl).2 ⟨n.toNat, by omega, he⟩) rfl (by simp [rbackV, ha.xs, hi])
    · by_cases k3 : kind = 3
      · subst k3
        by_cases hr : 0 ≤ n ∧ n < (R.cs.length : Int)
        · obtain ⟨hin, hk, d, hm⟩ := ha.at_ n.toNat (by omega)
          refine yes (nth R.cs n.toNat) d hm (hs _ (by omega)) ?_ hk ?_
          · rw [show ((n.toNat : Nat) : Int) = n by omega] at hin; exact hin
          · unfold rbackV; rw [if_neg (by decide), if_neg (by decide), if_pos rfl, if_pos hr]
        · refine no ⟨by decide, fun e => absurd e (by decide), fun _ => by rw [← ha.len]; exact hr⟩ ?_
          unfold rbackV; rw [if_neg (by decide), if_neg (by decide), if_pos rfl, if_neg hr]
      · refine no ⟨k1, fun e => absurd e k2, fun e => absurd e k3⟩ ?_
        unfold rbackV; rw [if_neg k1, if_neg k2, if_neg k3]
end Go.Proofs.YtpiehfjgokfdeaaDoor

namespace Go.Proofs.YtpiehfjgokfdeaaDoor
open Go.RowKit Go.Maps Go.WideMaps

namespace V
/-- The number of a value that is there. -/
def getV (S : SS) : V → Int × Bool
  | none => (0, false)
  | mk k n s a l c f =>
    if k = 1 then (n, true)
    else if k = 2 then ((Sym.num S.xs s : Int), Sym.there S.xs s)
    else if allTo (fun i => ((f i).getV S).2) l = true then findV S s (nodeAt (mk k n s a l c f) (fun i => ((f i).getV S).1) l) else (0, false)
theorem getV_num {v : V} (h : v.kind = 1) (S : SS) : v.getV S = (v.num, true) := by
  cases v with
  | none => cases h
  | mk k n s a l c f => exact if_pos h
theorem getV_sym {v : V} (h : v.kind = 2) (S : SS) : v.getV S = ((Sym.num S.xs v.str : Int), Sym.there S.xs v.str) := by
  cases v with
  | none => cases h
  | mk k n s a l c f =>
    have h2 : k = 2 := h
    show (if k = 1 then _ else if k = 2 then _ else _) = _
    rw [if_neg (by omega), if_pos h2]; rfl
theorem getV_con {v : V} (h : v.kind = 3) (S : SS) : v.getV S = if allTo (fun i => ((v.kid i).getV S).2) v.len = true then findV S v.str (nodeAt v (fun i => ((v.kid i).getV S).1) v.len) else (0, false) := by
  cases v with
  | none => cases h
  | mk k n s a l c f =>
    have h2 : k = 3 := h
    show (if k = 1 then _ else if k = 2 then _ else _) = _
    rw [if_neg (by omega), if_neg (by omega)]; rfl
end V

/-- What is found stands there; what stands there is found. -/
theorem getV_in {S : SS} (ok : S.Ok) : ∀ (v : V) (d : Nat), v.may d = true → (v.getV S).2 = true → v.IsIn S (v.getV S).1 := by
  refine V.ind fun v ih d hm h => ?_
  rcases kinds_of hm with hk | hk | hk
  · rw [isIn_num hk, V.getV_num hk]
  · rw [V.getV_sym hk] at h ⊢
    rw [isIn_sym hk]
    exact ⟨_, rfl, (Sym.num_at h).1⟩
  · rw [V.getV_con hk] at h ⊢
    by_cases ha : allTo (fun i => ((v.kid i).getV S).2) v.len = true
    · rw [if_pos ha] at h ⊢
      exact find_in ok hk (fun i hi => ih i hi (d - 1) (may_kids hm hk i hi) ((allTo_iff _ _).1 ha i hi)) h
    · rw [if_neg ha] at h; cases h
theorem in_getV {S : SS} (dis : S.Dis) : ∀ (v : V) (d : Nat) (m : Int), v.may d = true → v.IsIn S m → v.getV S = (m, true) := by
  refine V.ind fun v ih d m hm hin => ?_
  rcases kinds_of hm with hk | hk | hk
  · rw [isIn_num hk] at hin
    rw [V.getV_num hk, hin]
  · rw [isIn_sym hk] at hin
    obtain ⟨j, rfl, hj⟩ := hin
    have ht : Sym.there S.xs v.str = true := by
      cases e : Sym.there S.xs v.str with
      | true => rfl
      | false =>
        exfalso
        unfold Sym.there at e
        cases hp : Sym.place S.xs v.str 0 with
        | none => exact Sym.place_none S.xs v.str 0 hp (List.mem_of_getElem? hj)
        | some _ => rw [hp] at e; cases e
    rw [V.getV_sym hk, ht, nodup_at dis.xs (Sym.num_at ht).1 hj]
  · have hin2 := hin
    rw [isIn_con hk] at hin2
    obtain ⟨j, w, nums, e, h1, h2, h3⟩ := hin2
    have hall : ∀ i, i < v.len → (v.kid i).getV S = (nums i, true) := fun i hi => ih i hi (d - 1) _ (may_kids hm hk i hi) (h3 i hi)
    have ha : allTo (fun i => ((v.kid i).getV S).2) v.len = true := (allTo_iff _ _).2 fun i hi => by
      show ((v.kid i).getV S).2 = true
      rw [hall i hi]
    rw [V.getV_con hk, if_pos ha]
    exact find_of dis hm hk (fun i hi => by rw [hall i hi]; exact h3 i hi) hin

/-- Both Gets answer the same. -/
theorem find_zero {S : SS} {word : ByteArray} {n : Nd} (h : (findV S word n).2 = false) : findV S word n = (0, false) := by
  unfold findV at h ⊢
  by_cases ht : Sym.there S.ws word = true
  · rw [if_pos ht] at h ⊢
    simp only at h
    have hn : ¬ (n.at0 (Sym.num S.ws word)).list ∈ S.ns := of_decide_eq_false h
    unfold nNum
    rw [if_neg hn, h]; rfl
  · rw [if_neg ht]
theorem agree_get {S : SS} {R : RS} (h : Agree S R) {v : V} (hr : v.right = true) : v.getV S = rgetAll v R := by
  have hm := right_may hr
  unfold rgetAll
  rw [hr]
  simp only [if_true]
  rcases kinds_of hm with hk | hk | hk
  · rw [if_pos hk, V.getV_num hk]
  · rw [if_neg (by omega), if_pos hk, V.getV_sym hk, h.xs]
  · rw [if_neg (by omega), if_neg (by omega)]
    cases hg : (v.getV S).2 with
    | true =>
      have hin := getV_in h.ok v 32 hm hg
      obtain ⟨m, e⟩ : ∃ m : Nat, (v.getV S).1 = (m : Int) := by
        have := hin
        rw [isIn_con hk] at this
        obtain ⟨j, _, _, e, _⟩ := this
        exact ⟨j, e⟩
      rw [e] at hin
      rw [h.con hm hk hin, in_getV h.dis v 32 _ hm hin]
      simp
    | false =>
      have hn : conV R.cs v 0 = -1 := by
        rcases h.con_or v with ⟨m, e⟩ | e
        · exfalso
          have hin := h.con_in (v := v) (d := 32) hm (by rw [e]; omega)
          rw [in_getV h.dis v 32 _ hm hin] at hg
          cases hg
        · exact e
      rw [hn]
      have hz : v.getV S = (0, false) := by
        rw [V.getV_con hk] at hg ⊢
        by_cases ha : allTo (fun i => ((v.kid i).getV S).2) v.len = true
        · rw [if_pos ha] at hg ⊢
          exact find_zero hg
        · rw [if_neg ha]
      rw [hz]; rfl
end Go.Proofs.YtpiehfjgokfdeaaDoor

namespace Go.Proofs.YtpiehfjgokfdeaaDoor
open Go.RowKit Go.Maps Go.WideMaps

theorem getV_bits {v : V} {B : Nat} {w : World} {S : SS} {d : Nat} (hat : v.At B w) (hm : v.may d = true) (hx : S.xs.length ≤ 16384) (hn : S.ns.length ≤ 16384) : Bits (v.getV S).1 := by
  rcases kinds_of hm with h | h | h
  · rw [V.getV_num h]; exact ⟨hat.flat.n0, hat.flat.n1⟩
  · rw [V.getV_sym h]
    cases ht : Sym.there S.xs v.str with
    | true => have := (Sym.num_at ht).2; unfold Bits; simp only; omega
    | false =>
      have : Sym.num S.xs v.str = 0 := by
        unfold Sym.there at ht
        unfold Sym.num
        cases hp : Sym.place S.xs v.str 0 with
        | none => rfl
        | some _ => rw [hp] at ht; cases ht
      rw [this]; unfold Bits; simp
  · rw [V.getV_con h]
    split
    · unfold findV
      split
      · have := nNum_le S.ns ((nodeAt v (fun i => ((v.kid i).getV S).1) v.len).at0 (Sym.num S.ws v.str)).list
        unfold Bits; simp only; omega
      · unfold Bits; simp
    · unfold Bits; simp

def GetC (v : V) : Prop := ∀ (B : Nat) (W : World) (p : SP) (S : SS) (d : Nat), v.At B W → B ≤ W.heap.size → Sto W p S → v.may d = true →
  Calls Tryd.prog 37 #[.pointer (some ⟨p.hb, 0, none⟩), v.val] W fun e w' => e = .returned (.tuple #[.int .i64 (v.getV S).1, .bool (v.getV S).2]) ∧ Below W.heap.size W w'

/-- Between two Args. -/
structure GR (W : World) (v : V) (S : SS) (k : Nat) (wr : World) : Prop where
  bw : Below W.heap.size W wr
  all : allTo (fun i => ((v.kid i).getV S).2) k = true
  node : NB wr (W.heap.size + 1) (nodeAt v (fun i => ((v.kid i).getV S).1) k)
  box : CellsAt wr W.heap.size 0 v
  sz : W.heap.size + 2 ≤ wr.heap.size

theorem gr_start (W : World) (v : V) (S : SS) (o : Obj) (ho : o = .cells ((nodeAt v (fun _ => 0) 0).list.map (Value.int .i64)).toArray 98) : GR W v S 0 ((W.alloc v.obj).alloc o) := by
  subst ho
  have b1 := below_box W v.obj
  have b2 := below_box (W.alloc v.obj) (.cells ((nodeAt v (fun _ => 0) 0).list.map (Value.int .i64)).toArray 98)
  have e1 : (W.alloc v.obj).heap.size = W.heap.size + 1 := by simp
  refine ⟨b1.trans (b2.mono (by omega)), rfl, ?_, (boxed W v).below b2 (by omega), by simp⟩
  have := nb_alloc (W.alloc v.obj) (nodeAt v (fun _ => 0) 0)
  rw [e1, nodeAt_congr v (g := fun i => ((v.kid i).getV S).1) (fun j hj => absurd hj (Nat.not_lt_zero j))] at this
  exact this
theorem gr_next {W wr w2 : World} {v : V} {S : SS} {k : Nat} (h : GR W v S k wr) (hk : k < v.len) (h8 : v.len ≤ 8) (b2 : Below wr.heap.size wr w2) (hf : ((v.kid k).getV S).2 = true) :
    GR W v S (k + 1) ((w2.setCell ⟨W.heap.size + 1, 2 + k, none⟩ (.int .i64 (v.kid k).kind)).setCell ⟨W.heap.size + 1, 10 + k, none⟩ (.int .i64 ((v.kid k).getV S).1)) := by
  have hsz := h.sz
  have bw2 : Below W.heap.size W w2 := h.bw.trans (b2.mono h.bw.size)
  have n1 : NB w2 (W.heap.size + 1) (nodeAt v (fun i => ((v.kid i).getV S).1) k) := h.node.turn (Turn.of_below (S := fun _ => False) b2) (fun e => e)
  refine ⟨(bw2.setCell (by show _ ≤ W.heap.size + 1; omega) _).setCell (by show _ ≤ W.heap.size + 1; omega) _, ?_, ?_, ?_, ?_⟩
  · simp only [allTo]; rw [h.all, hf]; rfl
  · have := (n1.set (i := 2 + k) (by omega) (v.kid k).kind).set (i := 10 + k) (by omega) ((v.kid k).getV S).1
    rw [show nodeAt v (fun i => ((v.kid i).getV S).1) (k + 1) = nodeAt v (fun j => if j = k then ((v.kid k).getV S).1 else ((v.kid j).getV S).1) (k + 1) from nodeAt_congr v (fun j hj => by
      by_cases e : j = k
      · subst e; simp
      · simp [e]), ← nodeAt_step v (fun i => ((v.kid i).getV S).1) k _ (by omega)]
    exact this
  · have hb2 : CellsAt w2 W.heap.size 0 v := h.box.below b2 (by omega)
    exact hb2.stays (fun a u ha hu2 => by
      have e7 : ∀ (w : World) (i : Nat) (x : Value), (w.setCell ⟨W.heap.size + 1, i, none⟩ x).cell? a = w.cell? a := fun w i x => by
        simp only [World.cell?]
        rw [Below.heap_setCell w ⟨W.heap.size + 1, i, none⟩ x a.block (by rw [ha]; simp)]
      rw [e7, e7]; exact hu2)
  · have := b2.size
    simp [World.setCell]; omega

set_option maxRecDepth 100000 in
set_option maxHeartbeats 4000000 in
theorem get_num (v : V) (hk : v.kind = 1) : GetC v := by
  intro B W p S d hat hB h hm
  have H := hide (V.getV_num hk S)
  clear h hat hm
  go_enter Tryd.func37, Tryd.ntmps37
  go_wp2_with fail
  go_ret2
  exact ⟨ret_ib2 (unhide H), below_box W _⟩

set_option maxRecDepth 100000 in
set_option maxHeartbeats 4000000 in
theorem get_sym (v : V) (hk : v.kind = 2) : GetC v := by
  intro B W p S d hat hB h hm
  have H := hide (V.getV_sym hk S)
  have hs : v.str.size ≤ 65536 := by
    rw [V.may_eq, if_neg (by omega), if_pos hk] at hm
    simp only [Bool.and_eq_true, decide_eq_true_eq] at hm
    exact hm.2
  have d0 := fun o => (h.later (below_box W o)).d0
  have HG : Hid (∀ o m, Calls Tryd.prog 59 #[.pointer (some ⟨p.t1, 0, none⟩), .string v.str] ((W.alloc o).drewN m) fun e w' => e = .returned (.tuple #[.int .i64 (Sym.num S.xs v.str : Int), .bool (Sym.there S.xs v.str)]) ∧ w' = (W.alloc o).drewN m) :=
    fun o m => Sym.get_any (h.later (below_drewN (below_box W o) m)).T1 v.str (by omega)
  clear h hat hm
  go_enter Tryd.func37, Tryd.ntmps37
  go_wp2_with fail
  go_quiet ((go_at_call 59; exact Calls.quiet_of_same (unhide HG _ _)))
  go_wp2_with fail
  go_ret2
  exact ⟨ret_ib2 (unhide H), below_drewN (below_box W _) _⟩

set_option maxRecDepth 100000 in
set_option maxHeartbeats 16000000 in
theorem get_con (v : V) (ih : ∀ i, i < v.len → GetC (v.kid i)) (hk : v.kind = 3) : GetC v := by
  intro B W p S d hat hB h hm
  have hmk := hm
  rw [may_con hk] at hmk
  simp only [Bool.and_eq_true, decide_eq_true_eq] at hmk
  obtain ⟨⟨⟨⟨hg1, hg2⟩, hwd⟩, h8⟩, hkids⟩ := hmk
  have hws := wd_size hwd
  have HM : Hid (∀ i, i < v.len → (v.kid i).may (d - 1) = true) := fun i hi => (allTo_iff _ _).1 hkids i hi
  have H := hide (V.getV_con hk S)
  have IH := hide ih
  have hl8 : (v.len : Int) ≤ 8 := by omega
  have PS0 := hide (gr_start W v S _ (node_start v).symm)
  unfold V.obj at PS0
  have HSTO := hide h
  have HAT := hide hat
  clear hg1 hg2 hwd hkids hm ih h hat
  unfold V.val
  generalize hA : v.addr = A at PS0 ⊢
  have HA := hide hA
  rw [hk] at PS0 ⊢
  have HK := hide hk
  clear hA hk
  go_enter Tryd.func37, Tryd.ntmps37
  go_wp2_with fail
  go_loopw [35] (fun i wr => ∃ k : Nat, k ≤ v.len ∧ i = .int .i64 k ∧ Hid (GR W v S k wr)) (fun i _ => v.len - (intOf i).toNat)
  case atStart => exact ⟨0, Nat.zero_le _, rfl, PS0⟩
  case round =>
    obtain ⟨k, hkl, rfl, hpr⟩ := hrel
    have hq := unhide hpr
    clear PS0
    have hatr := (unhide HAT).below (hq.bw.mono hB)
    by_cases hlt : k < v.len
    · obtain ⟨g, o, ha, hg, hc⟩ := hatr.flat.at_ k hlt
      rw [unhide HA] at ha
      subst ha
      have c0 := hc.c0
      have c1 := hc.c1
      have c2 := hc.c2
      have c3 := hc.c3
      have hbwr : B ≤ wr.heap.size := by have := hq.sz; omega
      have b1 := below_box wr (v.kid k).obj
      obtain ⟨gv, hgv⟩ : ∃ gv, gv = (v.kid k).getV S := ⟨_, rfl⟩
      have hcall := unhide IH k hlt B (wr.alloc (v.kid k).obj) p S (d - 1) ((hatr.kid k hlt).below (b1.mono hbwr)) (by simp; omega) (((unhide HSTO).later hq.bw).later b1) (unhide HM k hlt)
      rw [← hgv] at hcall
      have HC := hide hcall
      have HQ := hide hq
      have HGV := hide hgv
      have HB1 := hide b1
      clear hcall hq hc b1 hatr hgv
      have hk8 : (k : Int) < 8 := by omega
      go_wp2_with fail
      refine (unhide HC).mono ?_
      rintro e w2 ⟨rfl, b2⟩
      have b3 : Below wr.heap.size wr w2 := (unhide HB1).trans (b2.mono (by simp))
      clear c0 c1 c2 c3 HC
      cases he : gv.2 with
      | true =>
        have nb2 : NB w2 (W.heap.size + 1) (nodeAt v (fun i => ((v.kid i).getV S).1) k) := (unhide HQ).node.turn (Turn.of_below (S := fun _ => False) b3) (fun e => e)
        have x1 := nb2.cell (2 + k) (by omega)
        have y1 := nb2.frozen (2 + k)
        have nb3 := nb2.set (i := 2 + k) (by omega) (v.kid k).kind
        have x2 := nb3.cell (10 + k) (by omega)
        have y2 := nb3.frozen (10 + k)
        have hbx : w2.cell? ⟨wr.heap.size, 0, none⟩ = some (.int .i64 (v.kid k).kind) := ((boxed wr (v.kid k)).below b2 (by simp)).c0
        have hN := gr_next (unhide HQ) hlt h8 b3 (by rw [← unhide HGV]; exact he)
        rw [← unhide HGV] at hN
        have HN := hide hN
        clear he nb2 nb3 b2 b3 hN
        generalize nodeAt v (fun i => ((v.kid i).getV S).1) k = N at *
        go_wp2_with fail
        go_roundw
        case rel => first | exact ⟨k + 1, by omega, by go_num, HN⟩ | ((repeat apply Exists.intro); exact ⟨⟨k + 1, by omega, by go_num, HN⟩, rfl⟩)
        case measure => simp [intOf]; omega
      | false =>
        have HF : Hid (v.getV S = (0, false)) := by
          show _ = _
          rw [unhide H, if_neg (fun ha => by
            have := (allTo_iff _ _).1 ha k hlt
            rw [← unhide HGV, he] at this
            cases this)]
        have bw := (unhide HQ).bw.trans (b3.mono (unhide HQ).bw.size)
        clear he b2 b3
        go_wp2_with fail
        go_ret2
        exact ⟨ret_ib2 (unhide HF), bw⟩
    · have hke : k = v.len := by omega
      subst hke
      have z2 := hq.box.z.2.2.1
      have hN := hq.node
      have hsl := (unhide HSTO).later hq.bw
      have hbits := nodeAt_bits hatr (Nat.le_refl _) h8 (nums := fun i => ((v.kid i).getV S).1) (fun j hj => getV_bits (hatr.kid j hj) (unhide HM j hj) hsl.T1.len hsl.len)
      have hcall := find_any hsl v.str (nodeAt v (fun i => ((v.kid i).getV S).1) v.len) hws hbits
      have HF : Hid (v.getV S = findV S v.str (nodeAt v (fun i => ((v.kid i).getV S).1) v.len)) := by show _ = _; rw [unhide H, if_pos hq.all]
      generalize nodeAt v (fun i => ((v.kid i).getV S).1) v.len = N at *
      have HN := hide hN
      have HC := hide hcall
      have HQ := hide hq
      clear hcall hq hN hbits hsl hatr
      go_wp2_with (refine wpList_load98 rfl _ rfl rfl (unhide HN) ?_)
      refine (unhide HC).mono ?_
      rintro e w2 ⟨rfl, b2⟩
      have bw := (unhide HQ).bw.trans (b2.mono (unhide HQ).bw.size)
      clear b2 HC z2
      go_wp2_with fail
      go_ret2
      exact ⟨ret_ib2 (a := (findV S v.str N).1) (b := (findV S v.str N).2) (by rw [unhide HF]), bw⟩
theorem get_all : ∀ v : V, GetC v := by
  refine V.ind fun v ih B W p S d hat hB h hm => ?_
  rcases kinds_of hm with hk | hk | hk
  · exact get_num v hk B W p S d hat hB h hm
  · exact get_sym v hk B W p S d hat hB h hm
  · exact get_con v ih hk B W p S d hat hB h hm
end Go.Proofs.YtpiehfjgokfdeaaDoor

namespace Go.Proofs.YtpiehfjgokfdeaaDoor
open Go.RowKit Go.Maps Go.WideMaps
def getAll (v : V) (S : SS) : Int × Bool := if v.right then v.getV S else (0, false)
theorem agree_getAll {S : SS} {R : RS} (h : Agree S R) (v : V) : getAll v S = rgetAll v R := by
  cases hr : v.right with
  | true => unfold getAll; rw [hr]; exact agree_get h hr
  | false => unfold getAll rgetAll; rw [hr]; rfl

set_option maxRecDepth 100000 in
set_option maxHeartbeats 4000000 in
theorem sget_any (v : V) (B : Nat) (W : World) (p : SP) (S : SS) (hat : v.At B W) (hB : B ≤ W.heap.size) (h : Sto W p S) :
    Calls Tryd.prog 18 #[.pointer (some ⟨p.sb, 0, none⟩), v.val] W fun e w' => e = .returned (.tuple #[.int .i64 (getAll v S).1, .bool (getAll v S).2]) ∧ Below W.heap.size W w' := by
  have b1 := below_box W v.obj
  have HX := hide (boxed W v)
  have hmade := smade_any (h.later b1)
  have hr := right_any v B (W.alloc v.obj) (hat.below (b1.mono hB)) (by simp; omega)
  have HM := hide hmade
  have HR := hide hr
  clear hmade hr
  go_enter Tryd.func18, Tryd.ntmps18
  go_wp2_with fail
  refine (unhide HM).mono ?_
  rintro e w' ⟨rfl, rfl⟩
  go_wp2_with fail
  refine (unhide HR).mono ?_
  rintro e w2 ⟨rfl, b2⟩
  have bw : Below W.heap.size W w2 := b1.trans (b2.mono (by simp))
  have hx := ((unhide HX).below b2 (by simp)).z
  have h2 := h.later bw
  clear b1 b2 HM HR HX
  cases hr : v.right with
  | false =>
    have H : Hid (getAll v S = (0, false)) := by show _ = _; unfold getAll; rw [hr]; rfl
    clear h2 hx
    go_wp2_with fail
    go_ret2
    exact ⟨ret_ib2 (unhide H), bw⟩
  | true =>
    have H : Hid (getAll v S = v.getV S) := by show _ = _; unfold getAll; rw [hr]; rfl
    obtain ⟨x0, x1, x2, x3⟩ := hx
    have c0 := h2.c0
    have hget : Hid (Calls Tryd.prog 37 #[.pointer (some ⟨p.hb, 0, none⟩), v.val] w2.drew fun e w' => e = .returned (.tuple #[.int .i64 (v.getV S).1, .bool (v.getV S).2]) ∧ Below W.heap.size W w') := by
      show Calls _ _ _ _ _
      refine (get_all v B w2.drew p S 32 (hat.below (bw.drew.mono hB)) (by have := bw.size; show B ≤ w2.heap.size; omega) (h.later bw.drew) (right_may hr)).mono ?_
      rintro e w' ⟨rfl, b⟩
      exact ⟨rfl, bw.drew.trans (b.mono bw.drew.size)⟩
    clear h2
    go_wp2_with fail
    go_region_with (go_at_call 37; refine (unhide hget).mono ?_; rintro e w' ⟨rfl, hw⟩)
    all_goals
      go_wp2_with fail
      go_ret2
      exact ⟨ret_ib2 (a := (v.getV S).1) (b := (v.getV S).2) (by rw [unhide H]), hw⟩
end Go.Proofs.YtpiehfjgokfdeaaDoor

namespace Go.Proofs.YtpiehfjgokfdeaaDoor
open Go.RowKit Go.Maps
structure Side (W wr : World) (p : SP) (r : RP) (S : SS) (R : RS) : Prop where
  bw : Below W.heap.size W wr
  sto : Sto wr p S
  rsto : RSto wr r R.xs R.cs
  lie : R.Lie W.heap.size wr
  agree : Agree S R
  long : S.Long
  thin : S.Thin
  pb : W.heap.size ≤ p.base
  rb : W.heap.size ≤ r.base
  rle : r.base ≤ wr.heap.size
  apart : ∀ k, (k = p.sb ∨ p.own k) → ¬ r.own k
section
variable {W wr w2 w3 w4 : World} {p p' : SP} {r r' : RP} {S : SS} {R : RS}
theorem Side.later (h : Side W wr p r S R) (b : Below wr.heap.size wr w2) : Side W w2 p r S R :=
  ⟨h.bw.trans (b.mono h.bw.size), h.sto.later b, h.rsto.later b, fun i hi => (h.lie i hi).below (b.mono h.bw.size), h.agree, h.long, h.thin, h.pb, h.rb, Nat.le_trans h.rle b.size, h.apart⟩
theorem Side.uses (h : Side W wr p r S R) {v : V} (hv : v.At W.heap.size W) : ∀ k, v.uses k → ¬ p.own k := fun k hk e => by
  have := (h.sto.own_lt k e).1
  have := V.uses_lt v hv k hk
  have := h.pb
  omega
theorem Side.small (h : Side W wr p r S R) : ∀ j, j < R.cs.length → (nth R.cs j).Small := fun j hj => V.At.small _ (h.lie j hj)
theorem Side.step (h : Side W wr p r S R) (st : Step wr w2 p p') : Below W.heap.size wr w2 :=
  st.turn.below h.bw.size (fun k e => Nat.le_trans h.pb (h.sto.own_lt k e).1)
theorem Side.mid (h : Side W wr p r S R) (st : Step wr w2 p p') : RSto w2 r R.xs R.cs ∧ R.Lie W.heap.size w2 :=
  ⟨h.rsto.stays st.turn (fun k e q => h.apart k (.inr q) e), fun i hi => (h.lie i hi).below (h.step st)⟩
theorem Side.next (h : Side W wr p r S R) {v : V} (st : Step wr w2 p p') (hs : Sto w2 p' (putAll v S).2) (b : Below w2.heap.size w2 w3) (rst : RStep w3 w4 r r')
    (hrs : RSto w4 r' (rputAll v R).2.xs (rputAll v R).2.cs) (hl : (rputAll v R).2.Lie W.heap.size w4) : Side W w4 p' r' (putAll v S).2 (rputAll v R).2 := by
  have b2 := h.step st
  have s2 : W.heap.size ≤ w2.heap.size := (h.bw.trans b2).size
  have bw3 : Below W.heap.size W w3 := (h.bw.trans b2).trans (b.mono s2)
  have hr3 : RSto w3 r R.xs R.cs := (h.mid st).1.later b
  have hle : r.base ≤ w3.heap.size := by have := h.rle; have := st.turn.size; have := b.size; omega
  have b4 : Below W.heap.size w3 w4 := rst.below hr3 h.rb hle
  have far : ∀ k, (k = p'.sb ∨ p'.own k) → ¬ r.own k := fun k e q => by
    rcases e with e | e
    · exact h.apart k (.inl (e.trans st.sb)) q
    · rcases st.own k e with e | e
      · exact h.apart k (.inr e) q
      · have := (h.rsto.own_lt k q).2; omega
  have low : ∀ k, (k = p'.sb ∨ p'.own k) → k < w2.heap.size := fun k e => by
    rcases e with e | e
    · rw [e]; exact Sym.lt_of_heap hs.st
    · exact (hs.own_lt k e).2
  refine ⟨bw3.trans b4, (hs.later b).stays rst.turn (fun k e q => far k e q), hrs, hl, (agree_putAll h.agree).2, putAll_long h.long, putAll_thin h.thin, ?_, ?_, ?_, fun k e q => ?_⟩
  · rw [st.base]; exact h.pb
  · rw [rst.base]; exact h.rb
  · rw [rst.base]; have := b4.size; omega
  · rcases rst.own k q with q | q
    · exact far k e q
    · have := low k e; have := b.size; omega
end
end Go.Proofs.YtpiehfjgokfdeaaDoor

namespace Go.Proofs.YtpiehfjgokfdeaaDoor
open Go.RowKit Go.Maps
theorem min12 (n : Nat) : ∃ M : Nat, min (n : Int) 12 = (M : Int) ∧ M ≤ n ∧ M ≤ 12 := ⟨min n 12, by omega, by omega, by omega⟩
theorem rsto_new (w : World) : RSto (w.alloc (.cells #[.slice none 0 0, .slice none 0 0] 36)) ⟨w.heap.size, w.heap.size, none, 0, none, 0⟩ [] [] :=
  ⟨World.alloc_heap_new w _, ⟨by decide, .inl ⟨rfl, rfl⟩⟩, ⟨by decide, .inl ⟨rfl, rfl⟩⟩, by decide, by decide, Nat.le_refl _⟩

theorem CellsAt.turn {Q : Nat → Prop} {w w' : World} {b o : Nat} {v : V} (h : CellsAt w b o v) (t : Turn Q w w') (hb : b < w.heap.size) (hQ : ¬ Q b) : CellsAt w' b o v :=
  h.stays (fun p u e hu => by have := t.block b hb hQ; subst e; simpa [World.cell?, this] using hu)
theorem rback_at {W w : World} {p : SP} {r : RP} {S : SS} {R : RS} {kind n : Int} (h : Side W w p r S R) (hn : -9223372036854775808 ≤ n ∧ n ≤ 9223372036854775807) : (rbackV R kind n).1.At W.heap.size w := by
  have hz : V.none.At W.heap.size w := V.At.of ⟨by decide, by decide, by decide, by decide, by decide, Nat.zero_le _, fun i hi => absurd hi (Nat.not_lt_zero i)⟩ (fun i hi => absurd hi (Nat.not_lt_zero i))
  unfold rbackV
  by_cases k1 : kind = 1
  · rw [if_pos k1]; exact bare_at (by decide) hn (by decide)
  · rw [if_neg k1]
    by_cases k2 : kind = 2
    · rw [if_pos k2]
      split
      · refine bare_at (by decide) (by decide) ?_
        unfold Sym.textAt
        split
        · cases hx : R.xs[n.toNat]? with
          | none => exact (by decide : (0 : Nat) ≤ 9223372036854775807)
          | some t =>
            have := h.thin t (by rw [← h.agree.xs]; exact List.mem_of_getElem? hx)
            show t.size ≤ _
            omega
        · exact (by decide : (0 : Nat) ≤ 9223372036854775807)
      · exact hz
    · rw [if_neg k2]
      by_cases k3 : kind = 3
      · rw [if_pos k3]
        split
        · next hr => exact h.lie _ (by omega)
        · exact hz
      · rw [if_neg k3]; exact hz
def Both (W wr : World) (sb rb : Nat) : Prop := ∃ p r S R, Side W wr p r S R ∧ p.sb = sb ∧ r.rb = rb

open Go.BigFrame in
set_option maxRecDepth 100000 in
set_option maxHeartbeats 8000000 in
theorem termStores_walk (W : World) (L : V) (kind n : Int) (hL : L.At W.heap.size W) (hcap : L.len ≤ L.cap) (hc63 : L.cap ≤ 9223372036854775807) (ht : Tbl W.heap.size W) (hn : -9223372036854775808 ≤ n ∧ n ≤ 9223372036854775807) :
    Calls Tryd.prog 5 #[.slice L.addr L.len L.cap, .int .i64 kind, .int .i64 n] W fun e w' => e = .returned (.bool true) ∧ Below W.heap.size W w' := by
  have HL := hide hL
  have HT := hide ht
  have HN := hide hn
  obtain ⟨M, hM, hM1, hM2⟩ := min12 L.len
  have hMc : M ≤ L.cap := by omega
  clear ht hL hn
  generalize hla : L.addr = la
  have HLA := hide hla
  clear hla
  go_enter Tryd.func5, Tryd.ntmps5
  go_wp2_with fail
  refine (storeNew_any W).mono ?_
  rintro e w1 ⟨p, rfl, hp, hS, b1⟩
  have HS := hide hS
  have HP := hide hp
  clear hS hp
  go_wp2_with fail
  have bx := below_box w1 (.cells #[.slice none 0 0, .slice none 0 0] 36)
  have bw1 : Below W.heap.size W (w1.alloc (.cells #[.slice none 0 0, .slice none 0 0] 36)) := b1.trans (bx.mono b1.size)
  refine (alive_any W.heap.size _ bw1.size ((unhide HT).below bw1)).mono ?_
  rintro e w2 ⟨rfl, b2⟩
  have hside : Side W w2 p ⟨w1.heap.size, w1.heap.size, none, 0, none, 0⟩ S0 ⟨[], []⟩ := by
    refine Side.later ⟨bw1, (unhide HS).later bx, rsto_new w1, fun i hi => absurd hi (Nat.not_lt_zero i), agree_new, (fun l hl => by cases hl), (fun l hl => by cases hl), Nat.le_of_eq (unhide HP).symm, b1.size, by simp, ?_⟩ b2
    intro k e q
    have hk : k = w1.heap.size := by
      rcases q with q | q | q
      · exact q
      · cases q
      · cases q
    rcases e with e | e
    · have := Sym.lt_of_heap (unhide HS).st; omega
    · have := ((unhide HS).own_lt k e).2; omega
  have HSD := hide hside
  clear hside bx bw1 b2 b1 HS HP
  obtain ⟨sb, hsb⟩ : ∃ sb, sb = p.sb := ⟨_, rfl⟩
  obtain ⟨rb, hrb⟩ : ∃ rb, rb = w1.heap.size := ⟨_, rfl⟩
  have HB : Hid (Both W w2 sb rb) := ⟨p, _, _, _, unhide HSD, hsb.symm, hrb.symm⟩
  rw [← hsb, ← hrb]
  clear HSD hsb hrb
  clear p
  go_wp2_with fail
  go_loopw [37] (fun i wr => ∃ k : Nat, k ≤ M ∧ i = .int .i64 k ∧ Hid (Both W wr sb rb)) (fun i _ => M - (intOf i).toNat)
  case atStart => exact ⟨0, Nat.zero_le _, rfl, HB⟩
  case round =>
    obtain ⟨k, hk, rfl, hR⟩ := hrel
    clear HB
    obtain ⟨p, r, S, R, hs, hsb, hrb⟩ := unhide hR
    clear hR
    by_cases hlt : k < M
    · have hkl : k < L.len := by omega
      have hatk : (L.kid k).At W.heap.size W := (unhide HL).kid k hkl
      obtain ⟨b, o, ha, hb, hc⟩ := ((unhide HL).below hs.bw).flat.at_ k hkl
      rw [unhide HLA] at ha
      subst ha
      have c0 := hc.c0
      have c1 := hc.c1
      have c2 := hc.c2
      have c3 := hc.c3
      obtain ⟨v, hv⟩ : ∃ v, v = L.kid k := ⟨_, rfl⟩
      rw [← hv] at c0 c1 c2 c3 hatk
      have hs1 := hs.later (below_box wr v.obj)
      have HG : Hid (Calls Tryd.prog 18 #[.pointer (some ⟨sb, 0, none⟩), v.val] (wr.alloc v.obj) fun e w' => e = .returned (.tuple #[.int .i64 (rgetAll v R).1, .bool (rgetAll v R).2]) ∧ Below (wr.alloc v.obj).heap.size (wr.alloc v.obj) w') := by
        have := sget_any v W.heap.size (wr.alloc v.obj) p S (hatk.below hs1.bw) hs1.bw.size hs1.sto
        rw [hsb, agree_getAll hs1.agree] at this
        exact this
      have HX := hide (boxed wr v)
      have HS1 := hide hs1
      have HAT := hide hatk
      have HSL := hide (show wr.heap.size < (wr.alloc v.obj).heap.size by simp)
      have HOLD : Hid (∀ k, p.own k ∨ r.own k → k < wr.heap.size) := fun k e => e.elim (fun e => (hs.sto.own_lt k e).2) (fun e => (hs.rsto.own_lt k e).2)
      clear hs hs1 hatk hc hv
      go_wp2_with fail
      refine (unhide HG).mono ?_
      rintro e w3 ⟨rfl, b3⟩
      have HS3 := hide ((unhide HS1).later b3)
      have HX3 := hide ((unhide HX).below b3 (unhide HSL))
      have HL3 := hide (Nat.lt_of_lt_of_le (unhide HSL) b3.size)
      clear c0 c1 c2 c3 HG HX HS1 HSL b3
      obtain ⟨x0, x1, x2, x3⟩ := (unhide HX3).z
      have HG : Hid (Calls Tryd.prog 19 #[.pointer (some ⟨rb, 0, none⟩), v.val] w3 fun e w' => e = .returned (.tuple #[.int .i64 (rgetAll v R).1, .bool (rgetAll v R).2]) ∧ Below w3.heap.size w3 w') := by
        have h := unhide HS3
        have := rsGet_any v W.heap.size w3 r R ((unhide HAT).below h.bw) h.rb h.rle h.rsto h.lie
        rw [hrb] at this
        exact this
      generalize rgetAll v R = g at HG ⊢
      go_wp2_with fail
      refine (unhide HG).mono ?_
      rintro e w4 ⟨rfl, b4⟩
      have HS4 := hide ((unhide HS3).later b4)
      have HX4 := hide ((unhide HX3).below b4 (unhide HL3))
      have HL4 := hide (Nat.lt_of_lt_of_le (unhide HL3) b4.size)
      clear x0 x1 x2 x3 HG HX3 HS3 HL3 b4
      obtain ⟨x0, x1, x2, x3⟩ := (unhide HX4).z
      have HG : Hid (Calls Tryd.prog 20 #[.pointer (some ⟨sb, 0, none⟩), v.val] w4 fun e w' => e = .returned (.tuple #[.int .i64 (rputAll v R).1.1, .int .i64 (rputAll v R).1.2]) ∧ ∃ p', Sto w' p' (putAll v S).2 ∧ Step w4 w' p p') := by
        have h := unhide HS4
        have := sput_any v W.heap.size w4 p S ((unhide HAT).below h.bw) h.bw.size (h.uses (unhide HAT)) h.sto h.agree.ok
        rw [hsb, (agree_putAll h.agree).1] at this
        exact this
      go_wp2_with fail
      refine (unhide HG).mono ?_
      rintro e w5 ⟨rfl, p2, hs5, st⟩
      have HX5 : Hid (CellsAt w5 wr.heap.size 0 v) := (unhide HX4).turn st.turn (unhide HL4) (fun e => Nat.lt_irrefl _ (unhide HOLD _ (.inl e)))
      have HS5 := hide hs5
      have HST := hide st
      clear x0 x1 x2 x3 HG HX4 hs5 st
      obtain ⟨x0, x1, x2, x3⟩ := (unhide HX5).z
      have HG : Hid (Calls Tryd.prog 21 #[.pointer (some ⟨rb, 0, none⟩), v.val] w5 fun e w' => e = .returned (.tuple #[.int .i64 (rputAll v R).1.1, .int .i64 (rputAll v R).1.2]) ∧ Hid (Both W w' sb rb)) := by
        have h := unhide HS4
        have hm := h.mid (unhide HST)
        have hb5 := h.bw.trans (h.step (unhide HST))
        have := rsPut_any v W.heap.size w5 r R ((unhide HAT).below hb5) h.rb (Nat.le_trans h.rle (unhide HST).turn.size) hm.1 hm.2
        rw [hrb] at this
        refine this.mono ?_
        rintro e w' ⟨rfl, r', hr', rst, hl⟩
        exact ⟨rfl, p2, r', _, _, h.next (unhide HST) (unhide HS5) (Below.refl _ _) rst hr' hl, (unhide HST).sb.trans hsb, rst.rb.trans hrb⟩
      generalize (rputAll v R).1 = a at HG ⊢
      go_wp2_with fail
      refine (unhide HG).mono ?_
      rintro e w6 ⟨rfl, h6⟩
      clear x0 x1 x2 x3 HG HX5 HS5 HST HS4 HL4 HOLD HAT hsb hrb
      clear p r S R
      obtain ⟨p, r, S, R, hs, hsb, hrb⟩ := unhide h6
      have C : Hid (∀ i : Later w6, Calls Tryd.prog 22 #[.pointer (some ⟨sb, 0, none⟩)] i.val fun e w' => e = .returned (.int .i64 (R.cs.length : Int)) ∧ ∃ z : Later w6, w' = z.val) := fun i => by
        have := slen_any (hs.later i.h).sto
        rw [hsb, ← hs.agree.len] at this
        refine this.mono ?_
        rintro e w' ⟨rfl, rfl⟩
        exact ⟨rfl, i, rfl⟩
      have r1 : ∀ i : Later w6, i.val.cell? ⟨rb, 1, none⟩ = some (.slice r.ca R.cs.length r.cc) := fun i => by
        have := (hs.later i.h).rsto.c1
        rw [hrb] at this
        exact this
      have HB : Hid (∀ i : Later w6, Both W i.val sb rb) := fun i => ⟨p, r, S, R, hs.later i.h, hsb, hrb⟩
      clear hs hsb hrb h6
      go_wp2_with fail
      refine region_later (by kernel_rfl) (by kernel_rfl) ?_
      repeat (go_big_quiet_step ((go_at_call 22; exact unhide C _)))
      refine wpQuiet_nil ?_
      intro w7 hw7
      obtain ⟨i, hw8⟩ := hw7
      subst hw8
      have HW := hide (unhide HB i)
      clear r1 C HB
      generalize i.val = w7 at HW ⊢
      go_wp2_with fail
      go_roundw
      case rel => exact ⟨k + 1, by omega, by go_num, HW⟩
      case measure => simp [intOf]; omega
    · have hk2 : k = M := by omega
      subst hk2
      have HB1 : Hid (Calls Tryd.prog 23 #[.pointer (some ⟨sb, 0, none⟩), .int .i64 kind, .int .i64 n] wr fun e w' => ∃ q, e = .returned (.tuple #[q, .bool (rbackV R kind n).2]) ∧ Got wr w' (rbackV R kind n).1 q ∧ Below wr.heap.size wr w') := by
        have := sback_agree wr p S R kind n hs.sto hs.agree hs.long hs.thin hs.small (unhide HN)
        rw [hsb] at this
        exact this
      have HB2 : Hid (∀ w', Below wr.heap.size wr w' → Calls Tryd.prog 24 #[.pointer (some ⟨rb, 0, none⟩), .int .i64 kind, .int .i64 n] w' fun e w2 => e = .returned (.tuple #[(rbackV R kind n).1.val, .bool (rbackV R kind n).2]) ∧ Below w'.heap.size w' w2) := fun w' hw => by
        have := rsBack_any w' r R (hs.later hw).rsto kind n
        rw [hrb] at this
        exact this
      have HQ : Hid (∀ w', Below wr.heap.size wr w' → (rbackV R kind n).1.At W.heap.size w') := fun w' hw => rback_at (hs.later hw) (unhide HN)
      have HBW := hide hs.bw
      clear hs hsb hrb
      generalize rbackV R kind n = y at HB1 HB2 HQ
      obtain ⟨q, is⟩ := y
      go_wp2_with fail
      refine (unhide HB1).mono ?_
      rintro e w2 ⟨_, rfl, ⟨u, rfl, hu, hul, huf⟩, b2⟩
      have bA : Below wr.heap.size wr (w2.alloc u.obj) := b2.trans ((below_box w2 u.obj).mono b2.size)
      have HU : Hid (u.At w2.heap.size w2 ∧ u.ord q = 0) := ⟨hu, hul⟩
      have HBA := hide bA
      clear hu hul huf bA b2 HB1
      go_wp2_with fail
      refine (unhide HB2 _ (unhide HBA)).mono ?_
      rintro e w3 ⟨rfl, b3⟩
      have bq := below_box w3 q.obj
      have b4 : Below (w2.alloc u.obj).heap.size (w2.alloc u.obj) (w3.alloc q.obj) := b3.trans (bq.mono b3.size)
      have b5 : Below wr.heap.size wr (w3.alloc q.obj) := (unhide HBA).trans (b4.mono (unhide HBA).size)
      have HBX : Hid (CellsAt (w3.alloc q.obj) w2.heap.size 0 u) := (boxed w2 u).below b4 (by simp)
      have HBY : Hid (CellsAt (w3.alloc q.obj) w3.heap.size 0 q) := boxed w3 q
      have HR : Hid (∀ i : Later (w3.alloc q.obj), Calls Tryd.prog 25 #[u.val, q.val] i.val fun e w' => e = .returned (.bool true) ∧ ∃ z : Later (w3.alloc q.obj), w' = z.val) := fun i => by
        have b6 : Below wr.heap.size wr i.val := b5.trans (i.h.mono b5.size)
        have b7 : Below (w2.alloc u.obj).heap.size (w2.alloc u.obj) i.val := b4.trans (i.h.mono b4.size)
        have hW : W.heap.size ≤ i.val.heap.size := ((unhide HBW).trans (b6.mono (unhide HBW).size)).size
        have h2 : Below w2.heap.size w2 i.val := (below_box w2 u.obj).trans (b7.mono (by simp))
        have := raw_any u q i.val.heap.size i.val (((unhide HU).1.below h2).more h2.size _) ((unhide HQ _ b6).more hW _) (Nat.le_refl _)
        rw [(unhide HU).2] at this
        exact Calls.later this
      obtain ⟨x0, x1, x2, x3⟩ := (unhide HBX).z
      obtain ⟨y0, y1, y2, y3⟩ := (unhide HBY).z
      have HE : Hid (∀ i : Later (w3.alloc q.obj), Below W.heap.size W i.val) := fun i => by
        have b6 : Below wr.heap.size wr i.val := b5.trans (i.h.mono b5.size)
        exact (unhide HBW).trans (b6.mono (unhide HBW).size)
      clear b3 bq b4 b5 HBX HBY HB2 HQ HU HBA HBW
      go_wp2_with fail
      refine (unhide HR ⟨_, Below.refl _ _⟩).mono ?_
      rintro e w7 ⟨rfl, i, rfl⟩
      have HW := hide (unhide HE i)
      clear x0 x1 x2 x3 y0 y1 y2 y3 HR HE
      generalize i.val = w7 at HW ⊢
      go_wp2_with fail
      go_ret
      exact ⟨rfl, unhide HW⟩
end Go.Proofs.YtpiehfjgokfdeaaDoor
