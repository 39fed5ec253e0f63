/- Store.Back of a kind and a number that are no value's: the zero value and false. Store.Back of any kind and number, held against the document's. The store's Get: held.get walked. The store's Get: held.get walked. Store.Get, of any value. Both stores side by side. The walk of TermStores. -/
import Derived.Test.YtbfkcfhkccicoaaDoorBackXP
import Derived.Test.YtbfkcfhkccicoaaDoorRSall
import Derived.Test.YtbfkcfhkccicoaaDoorNodeOps
import Derived.Test.YtbfkcfhkccicoaaDoorPutX
import Derived.Test.YtbfkcfhkccicoaaDoorPutA
import Derived.Deep.RegionWith
import Derived.Test.YtbfkcfhkccicoaaDoorFrame
namespace Go.Proofs.YtbfkcfhkccicoaaDoor
open Go.RowKit Go.Maps Go.Deep
abbrev noVal : Value := .agg #[.int .i64 0, .int .i64 0, .string ⟨#[]⟩, .slice none 0 0]

set_option maxRecDepth 100000 in
set_option maxHeartbeats 4000000 in
theorem backSym_no (W : World) (p : SP) (S : SS) (n : Int) (h : Sto W p S) (hn : Sym.isNum S.xs n = false) :
    Calls Tryd.prog 36 #[.pointer (some ⟨p.hb, 0, none⟩), .int .i64 n] W fun e w' => e = .returned (.tuple #[noVal, .bool false]) ∧ Below W.heap.size W w' := by
  have b1 := below_box W (.cells #[.int .i64 0, .int .i64 0, .string ⟨#[]⟩, .slice none 0 0] 32)
  have h1 := h.later b1
  have d0 := h1.d0
  have C := Sym.text_any h1.T1 n
  rw [hn] at C
  generalize Sym.textAt S.xs n = t at C
  have HC := hide C
  clear C h h1 hn b1
  go_enter Tryd.func36, Tryd.ntmps36
  go_wp2_with fail
  refine (unhide HC).mono ?_
  rintro e w' ⟨rfl, rfl⟩
  go_wp2_with fail
  refine bodyPost_ret (v := .tuple #[noVal, .bool false]) (by simp [results, Tryd.results36, go_sem]) rfl ?_
  exact ⟨rfl, below_box W _⟩

set_option maxRecDepth 100000 in
set_option maxHeartbeats 4000000 in
theorem backCon_no (W : World) (p : SP) (S : SS) (n : Int) (h : Sto W p S) (hn : ¬ (0 ≤ n ∧ n < (S.ns.length : Int))) :
    Calls Tryd.prog 37 #[.pointer (some ⟨p.hb, 0, none⟩), .int .i64 n] W fun e w' => e = .returned (.tuple #[noVal, .bool false]) ∧ Below W.heap.size W w' := by
  have b1 := below_box W (.cells #[.int .i64 0, .int .i64 0, .string ⟨#[]⟩, .slice none 0 0] 32)
  have d2 := (h.later b1).d2
  have hl16 : S.ns.length ≤ 16384 := h.len
  clear h b1
  by_cases hn0 : n < 0
  · clear hn
    go_enter Tryd.func37, Tryd.ntmps37
    go_wp2_with fail
    refine bodyPost_ret (v := .tuple #[noVal, .bool false]) (by simp [results, Tryd.results37, go_sem]) rfl ?_
    exact ⟨rfl, below_box W _⟩
  · have hn1 : (S.ns.length : Int) ≤ n := by omega
    clear hn
    go_enter Tryd.func37, Tryd.ntmps37
    go_wp2_with fail
    refine bodyPost_ret (v := .tuple #[noVal, .bool false]) (by simp [results, Tryd.results37, go_sem]) rfl ?_
    exact ⟨rfl, below_box W _⟩

/-- No value has this kind and number. -/
def Noth (S : SS) (kind n : Int) : Prop := kind ≠ 1 ∧ (kind = 2 → Sym.isNum S.xs n = false) ∧ (kind = 3 → ¬ (0 ≤ n ∧ n < (S.ns.length : Int)))

set_option maxRecDepth 100000 in
set_option maxHeartbeats 4000000 in
theorem back_no (W : World) (p : SP) (S : SS) (kind n : Int) (h : Sto W p S) (hz : Noth S kind n) :
    Calls Tryd.prog 25 #[.pointer (some ⟨p.hb, 0, none⟩), .int .i64 kind, .int .i64 n] W fun e w' => e = .returned (.tuple #[noVal, .bool false]) ∧ Below W.heap.size W w' := by
  obtain ⟨z1, z2, z3⟩ := hz
  have b1 := below_box W (.cells #[.int .i64 0, .int .i64 0, .string ⟨#[]⟩, .slice none 0 0] 32)
  by_cases k2 : kind = 2
  · have HC := hide (backSym_no _ p S n (h.later b1) (z2 k2))
    subst k2
    clear h z1 z2 z3
    go_enter Tryd.func25, Tryd.ntmps25
    go_wp2_with fail
    refine (unhide HC).mono ?_
    rintro e w2 ⟨rfl, b2⟩
    have hbx : CellsAt w2 W.heap.size 0 V.none := (boxed W V.none).below b2 (by simp)
    have hob : w2.heap[W.heap.size]? = some V.none.obj := (b2.block W.heap.size (by simp)).trans (World.alloc_heap_new W _)
    have f0 : ∀ o, w2.frozen? ⟨W.heap.size, o, none⟩ = false := fun o => by simp [World.frozen?, hob, V.obj]
    have x0 := hbx.z.1
    have x1 := hbx.z.2.1
    have x2 := hbx.z.2.2.1
    have x3 := hbx.z.2.2.2
    have bw : Below W.heap.size W w2 := b1.trans (b2.mono (by simp))
    clear HC b1 b2 hbx
    go_wp2_with fail
    refine bodyPost_ret (v := .tuple #[noVal, .bool false]) (by simp [results, Tryd.results25, go_sem, x0, x1, x2, x3]) rfl ?_
    exact ⟨rfl, (((bw.setCell (Nat.le_refl _) _).setCell (Nat.le_refl _) _).setCell (Nat.le_refl _) _).setCell (Nat.le_refl _) _⟩
  · by_cases k3 : kind = 3
    · have HC := hide (backCon_no _ p S n (h.later b1) (z3 k3))
      subst k3
      clear h z1 z2 z3 k2
      go_enter Tryd.func25, Tryd.ntmps25
      go_wp2_with fail
      refine (unhide HC).mono ?_
      rintro e w2 ⟨rfl, b2⟩
      have hbx : CellsAt w2 W.heap.size 0 V.none := (boxed W V.none).below b2 (by simp)
      have hob : w2.heap[W.heap.size]? = some V.none.obj := (b2.block W.heap.size (by simp)).trans (World.alloc_heap_new W _)
      have f0 : ∀ o, w2.frozen? ⟨W.heap.size, o, none⟩ = false := fun o => by simp [World.frozen?, hob, V.obj]
      have x0 := hbx.z.1
      have x1 := hbx.z.2.1
      have x2 := hbx.z.2.2.1
      have x3 := hbx.z.2.2.2
      have bw : Below W.heap.size W w2 := b1.trans (b2.mono (by simp))
      clear HC b1 b2 hbx
      go_wp2_with fail
      refine bodyPost_ret (v := .tuple #[noVal, .bool false]) (by simp [results, Tryd.results25, go_sem, x0, x1, x2, x3]) rfl ?_
      exact ⟨rfl, (((bw.setCell (Nat.le_refl _) _).setCell (Nat.le_refl _) _).setCell (Nat.le_refl _) _).setCell (Nat.le_refl _) _⟩
    · have e1 : (kind == 1) = false := by simpa using z1
      have e2 : (kind == 2) = false := by simpa using k2
      have e3 : (kind == 3) = false := by simpa using k3
      clear h z2 z3
      go_enter Tryd.func25, Tryd.ntmps25
      go_wp2_with fail
      refine bodyPost_ret (v := .tuple #[noVal, .bool false]) (by simp [results, Tryd.results25, go_sem]) rfl ?_
      exact ⟨rfl, below_box W _⟩

set_option maxRecDepth 100000 in
set_option maxHeartbeats 4000000 in
theorem sback_no (W : World) (p : SP) (S : SS) (kind n : Int) (h : Sto W p S) (hz : Noth S kind n) :
    Calls Tryd.prog 12 #[.pointer (some ⟨p.sb, 0, none⟩), .int .i64 kind, .int .i64 n] W fun e w' => e = .returned (.tuple #[noVal, .bool false]) ∧ Below W.heap.size W w' := by
  have b1 := below_box W (.cells #[.int .i64 0, .int .i64 0, .string ⟨#[]⟩, .slice none 0 0] 32)
  have h1 := h.later b1
  have HC := hide (back_no _ p S kind n h1 hz)
  have HM := hide (smade_any h1)
  have c0 := h1.c0
  clear h h1 hz
  go_enter Tryd.func12, Tryd.ntmps12
  go_wp2_with fail
  refine (unhide HM).mono ?_
  rintro e w' ⟨rfl, rfl⟩
  go_wp2_with fail
  refine (unhide HC).mono ?_
  rintro e w2 ⟨rfl, b2⟩
  have hbx : CellsAt w2 W.heap.size 0 V.none := (boxed W V.none).below b2 (by simp)
  have hob : w2.heap[W.heap.size]? = some V.none.obj := (b2.block W.heap.size (by simp)).trans (World.alloc_heap_new W _)
  have f0 : ∀ o, w2.frozen? ⟨W.heap.size, o, none⟩ = false := fun o => by simp [World.frozen?, hob, V.obj]
  have x0 := hbx.z.1
  have x1 := hbx.z.2.1
  have x2 := hbx.z.2.2.1
  have x3 := hbx.z.2.2.2
  have bw : Below W.heap.size W w2 := b1.trans (b2.mono (by simp))
  clear HC HM b1 b2 hbx c0
  go_wp2_with fail
  refine bodyPost_ret (v := .tuple #[noVal, .bool false]) (by simp [results, Tryd.results12, go_sem, x0, x1, x2, x3]) rfl ?_
  exact ⟨rfl, (((bw.setCell (Nat.le_refl _) _).setCell (Nat.le_refl _) _).setCell (Nat.le_refl _) _).setCell (Nat.le_refl _) _⟩
end Go.Proofs.YtbfkcfhkccicoaaDoor

namespace Go.Proofs.YtbfkcfhkccicoaaDoor
open Go.RowKit Go.Maps Go.Deep
def SS.Thin (S : SS) : Prop := ∀ x ∈ S.xs, x.size ≤ 65536
theorem putNode_thin {S : SS} {word : ByteArray} {n : Nd} (h : S.Thin) : (putNodeV S word n).2.Thin := by
  unfold putNodeV
  split
  · exact h
  · split
    · exact h
    · exact h
theorem symPut_thin {xs : List ByteArray} {s : ByteArray} (h : ∀ x ∈ xs, x.size ≤ 65536) (hs : s.size ≤ 65536) : ∀ x ∈ Sym.put xs s, x.size ≤ 65536 := by
  unfold Sym.put
  intro x hx
  split at hx
  · exact h x hx
  · split at hx
    · exact h x hx
    · rcases List.mem_append.1 hx with hx | hx
      · exact h x hx
      · rw [List.mem_singleton.1 hx]; exact hs
theorem bare_small {k n : Int} {s : ByteArray} (h1 : -9223372036854775808 ≤ k ∧ k ≤ 9223372036854775807) (h2 : -9223372036854775808 ≤ n ∧ n ≤ 9223372036854775807) (h3 : s.size ≤ 9223372036854775807) : (bare k n s).Small :=
  V.Small.of ⟨h1.1, h1.2, h2.1, h2.2, h3⟩ (fun i hi => absurd hi (Nat.not_lt_zero i))
theorem bare_num (n : Int) : (bare 1 n ⟨#[]⟩).may 0 = true := by
  rw [V.may_eq, if_pos (show (bare 1 n ⟨#[]⟩).kind = 1 from rfl)]; rfl
theorem bare_sym {s : ByteArray} (h : s.size ≤ 65536) : (bare 2 0 s).may 0 = true := by
  rw [V.may_eq, if_neg (show ¬ (bare 2 0 s).kind = 1 from fun e => absurd (show (2 : Int) = 1 from e) (by decide)), if_pos (show (bare 2 0 s).kind = 2 from rfl)]
  simp only [Bool.and_eq_true, decide_eq_true_eq]
  exact ⟨⟨rfl, rfl⟩, h⟩
theorem putV_thin : ∀ (v : V) (d : Nat) (S : SS), v.may d = true → S.Thin → (v.putV S).2.Thin := by
  refine V.ind fun v ih d S hm h => ?_
  rcases kinds_of hm with hk | hk | hk
  · rw [V.putV_num hk]; exact h
  · rw [V.putV_sym hk]
    refine symPut_thin h ?_
    rw [V.may_eq, if_neg (by omega), if_pos hk] at hm
    simp only [Bool.and_eq_true, decide_eq_true_eq] at hm
    exact hm.2
  · have hargs : ∀ k, k ≤ v.len → (argsTo (fun i S => (v.kid i).putV S) k S).S.Thin := by
      intro k
      induction k with
      | zero => intro _; exact h
      | succ k ihk =>
        intro hkl
        have hmk := may_kids hm hk k (by omega)
        simp only [argsTo]
        split
        · exact ih k (by omega) (d - 1) _ hmk (ihk (by omega))
        · exact ihk (by omega)
    rw [V.putV_con hk]
    split
    · exact putNode_thin (hargs v.len (Nat.le_refl _))
    · exact hargs v.len (Nat.le_refl _)
theorem putAll_thin {v : V} {S : SS} (h : S.Thin) : (putAll v S).2.Thin := by
  unfold putAll
  cases hr : v.right with
  | true => exact putV_thin v 32 S (right_may hr) h
  | false => exact h
theorem putAll_long {v : V} {S : SS} (h : S.Long) : (putAll v S).2.Long := by
  unfold putAll
  cases hr : v.right with
  | true => exact putV_long v 32 S (right_may hr) h
  | false => exact h

/-- Back answers what the document's Back answers, made anew. -/
theorem sback_agree (W : World) (p : SP) (S : SS) (R : RS) (kind n : Int) (h : Sto W p S) (ha : Agree S R) (hl : S.Long) (ht : S.Thin) (hs : ∀ j, j < R.cs.length → (nth R.cs j).Small) (hn : -9223372036854775808 ≤ n ∧ n ≤ 9223372036854775807) :
    Calls Tryd.prog 12 #[.pointer (some ⟨p.sb, 0, none⟩), .int .i64 kind, .int .i64 n] W fun e w' => ∃ r, e = .returned (.tuple #[r, .bool (rbackV R kind n).2]) ∧ Got W w' (rbackV R kind n).1 r ∧ Below W.heap.size W w' := by
  have no : ∀ (_ : Noth S kind n) (_ : rbackV R kind n = (.none, false)), Calls Tryd.prog 12 #[.pointer (some ⟨p.sb, 0, none⟩), .int .i64 kind, .int .i64 n] W fun e w' => ∃ r, e = .returned (.tuple #[r, .bool (rbackV R kind n).2]) ∧ Got W w' (rbackV R kind n).1 r ∧ Below W.heap.size W w' := fun hz e => by
    rw [e]
    refine (sback_no W p S kind n h hz).mono ?_
    rintro e w' ⟨rfl, b⟩
    refine ⟨_, rfl, ⟨bare 0 0 ⟨#[]⟩, rfl, bare_at (by omega) (by omega) (by decide), ?_, fun j hj => absurd hj (bare_uses j), bare_pl⟩, b⟩
    rw [ord_zero]
    exact ⟨rfl, rfl, rfl, rfl, fun i hi => absurd hi (Nat.not_lt_zero i)⟩
  have yes : ∀ (v : V) (d : Nat) (_ : v.may d = true) (_ : v.Small) (_ : v.IsIn S n) (_ : v.kind = kind) (_ : rbackV R kind n = (v, true)), Calls Tryd.prog 12 #[.pointer (some ⟨p.sb, 0, none⟩), .int .i64 kind, .int .i64 n] W fun e w' => ∃ r, e = .returned (.tuple #[r, .bool (rbackV R kind n).2]) ∧ Got W w' (rbackV R kind n).1 r ∧ Below W.heap.size W w' := fun v d hm hv hin hk e => by
    rw [e, ← hk]
    exact sback_any v W p S d n h hl hm hv hin
  by_cases k1 : kind = 1
  · subst k1
    refine yes (bare 1 n ⟨#[]⟩) 0 (bare_num n) (bare_small (by decide) hn (by decide)) ((isIn_num rfl).2 rfl) rfl rfl
  · by_cases k2 : kind = 2
    · subst k2
      cases hi : Sym.isNum S.xs n with
      | false =>
        refine no ⟨by decide, fun _ => hi, fun e => absurd e (by decide)⟩ ?_
        simp [rbackV, ha.xs, hi]
      | true =>
        have hi' := hi
        simp only [Sym.isNum, Bool.and_eq_true, decide_eq_true_eq] at hi'
        have hlt : n.toNat < S.xs.length := by omega
        have he : S.xs[n.toNat]? = some (Sym.textAt S.xs n) := by
          unfold Sym.textAt
          rw [if_pos hi'.1, List.getElem?_eq_getElem hlt]; rfl
        have hsz := ht _ (List.mem_of_getElem? he)
        refine yes (bare 2 0 (Sym.textAt S.xs n)) 0 (bare_sym hsz) (bare_small (by decide) (by decide) (by omega)) ((isIn_sym rfl).2 ⟨n.toNat, by omega, he⟩) rfl (by simp [rbackV, ha.xs, hi])
    · by_cases k3 : kind = 3
      · subst k3
        by_cases hr : 0 ≤ n ∧ n < (R.cs.length : Int)
        · obtain ⟨hin, hk, d, hm⟩ := ha.at_ n.toNat (by omega)
          refine yes (nth R.cs n.toNat) d hm (hs _ (by omega)) ?_ hk ?_
          · rw [show ((n.toNat : Nat) : Int) = n by omega] at hin; exact hin
          · unfold rbackV; rw [if_neg (by decide), if_neg (by decide), if_pos rfl, if_pos hr]
        · refine no ⟨by decide, fun e => absurd e (by decide), fun _ => by rw [← ha.len]; exact hr⟩ ?_
          unfold rbackV; rw [if_neg (by decide), if_neg (by decide), if_pos rfl, if_neg hr]
      · refine no ⟨k1, fun e => absurd e k2, fun e => absurd e k3⟩ ?_
        unfold rbackV; rw [if_neg k1, if_neg k2, if_neg k3]
end Go.Proofs.YtbfkcfhkccicoaaDoor

namespace Go.Proofs.YtbfkcfhkccicoaaDoor
open Go.RowKit Go.Maps Go.WideMaps

namespace V
/-- The number of a value that is there. -/
def getV (S : SS) : V → Int × Bool
  | none => (0, false)
  | mk k n s a l c f =>
    if k = 1 then (n, true)
    else if k = 2 then ((Sym.num S.xs s : Int), Sym.there S.xs s)
    else if allTo (fun i => ((f i).getV S).2) l = true then findV S s (nodeAt (mk k n s a l c f) (fun i => ((f i).getV S).1) l) else (0, false)
theorem getV_num {v : V} (h : v.kind = 1) (S : SS) : v.getV S = (v.num, true) := by
  cases v with
  | none => cases h
  | mk k n s a l c f => exact if_pos h
theorem getV_sym {v : V} (h : v.kind = 2) (S : SS) : v.getV S = ((Sym.num S.xs v.str : Int), Sym.there S.xs v.str) := by
  cases v with
  | none => cases h
  | mk k n s a l c f =>
    have h2 : k = 2 := h
    show (if k = 1 then _ else if k = 2 then _ else _) = _
    rw [if_neg (by omega), if_pos h2]; rfl
theorem getV_con {v : V} (h : v.kind = 3) (S : SS) : v.getV S = if allTo (fun i => ((v.kid i).getV S).2) v.len = true then findV S v.str (nodeAt v (fun i => ((v.kid i).getV S).1) v.len) else (0, false) := by
  cases v with
  | none => cases h
  | mk k n s a l c f =>
    have h2 : k = 3 := h
    show (if k = 1 then _ else if k = 2 then _ else _) = _
    rw [if_neg (by omega), if_neg (by omega)]; rfl
end V

/-- What is found stands there; what stands there is found. -/
theorem getV_in {S : SS} (ok : S.Ok) : ∀ (v : V) (d : Nat), v.may d = true → (v.getV S).2 = true → v.IsIn S (v.getV S).1 := by
  refine V.ind fun v ih d hm h => ?_
  rcases kinds_of hm with hk | hk | hk
  · rw [isIn_num hk, V.getV_num hk]
  · rw [V.getV_sym hk] at h ⊢
    rw [isIn_sym hk]
    exact ⟨_, rfl, (Sym.num_at h).1⟩
  · rw [V.getV_con hk] at h ⊢
    by_cases ha : allTo (fun i => ((v.kid i).getV S).2) v.len = true
    · rw [if_pos ha] at h ⊢
      exact find_in ok hk (fun i hi => ih i hi (d - 1) (may_kids hm hk i hi) ((allTo_iff _ _).1 ha i hi)) h
    · rw [if_neg ha] at h; cases h
theorem in_getV {S : SS} (dis : S.Dis) : ∀ (v : V) (d : Nat) (m : Int), v.may d = true → v.IsIn S m → v.getV S = (m, true) := by
  refine V.ind fun v ih d m hm hin => ?_
  rcases kinds_of hm with hk | hk | hk
  · rw [isIn_num hk] at hin
    rw [V.getV_num hk, hin]
  · rw [isIn_sym hk] at hin
    obtain ⟨j, rfl, hj⟩ := hin
    have ht : Sym.there S.xs v.str = true := by
      cases e : Sym.there S.xs v.str with
      | true => rfl
      | false =>
        exfalso
        unfold Sym.there at e
        cases hp : Sym.place S.xs v.str 0 with
        | none => exact Sym.place_none S.xs v.str 0 hp (List.mem_of_getElem? hj)
        | some _ => rw [hp] at e; cases e
    rw [V.getV_sym hk, ht, nodup_at dis.xs (Sym.num_at ht).1 hj]
  · have hin2 := hin
    rw [isIn_con hk] at hin2
    obtain ⟨j, w, nums, e, h1, h2, h3⟩ := hin2
    have hall : ∀ i, i < v.len → (v.kid i).getV S = (nums i, true) := fun i hi => ih i hi (d - 1) _ (may_kids hm hk i hi) (h3 i hi)
    have ha : allTo (fun i => ((v.kid i).getV S).2) v.len = true := (allTo_iff _ _).2 fun i hi => by
      show ((v.kid i).getV S).2 = true
      rw [hall i hi]
    rw [V.getV_con hk, if_pos ha]
    exact find_of dis hm hk (fun i hi => by rw [hall i hi]; exact h3 i hi) hin

/-- Both Gets answer the same. -/
theorem find_zero {S : SS} {word : ByteArray} {n : Nd} (h : (findV S word n).2 = false) : findV S word n = (0, false) := by
  unfold findV at h ⊢
  by_cases ht : Sym.there S.ws word = true
  · rw [if_pos ht] at h ⊢
    simp only at h
    have hn : ¬ (n.at0 (Sym.num S.ws word)).list ∈ S.ns := of_decide_eq_false h
    unfold nNum
    rw [if_neg hn, h]; rfl
  · rw [if_neg ht]
theorem agree_get {S : SS} {R : RS} (h : Agree S R) {v : V} (hr : v.right = true) : v.getV S = rgetAll v R := by
  have hm := right_may hr
  unfold rgetAll
  rw [hr]
  simp only [if_true]
  rcases kinds_of hm with hk | hk | hk
  · rw [if_pos hk, V.getV_num hk]
  · rw [if_neg (by omega), if_pos hk, V.getV_sym hk, h.xs]
  · rw [if_neg (by omega), if_neg (by omega)]
    cases hg : (v.getV S).2 with
    | true =>
      have hin := getV_in h.ok v 32 hm hg
      obtain ⟨m, e⟩ : ∃ m : Nat, (v.getV S).1 = (m : Int) := by
        have := hin
        rw [isIn_con hk] at this
        obtain ⟨j, _, _, e, _⟩ := this
        exact ⟨j, e⟩
      rw [e] at hin
      rw [h.con hm hk hin, in_getV h.dis v 32 _ hm hin]
      simp
    | false =>
      have hn : conV R.cs v 0 = -1 := by
        rcases h.con_or v with ⟨m, e⟩ | e
        · exfalso
          have hin := h.con_in (v := v) (d := 32) hm (by rw [e]; omega)
          rw [in_getV h.dis v 32 _ hm hin] at hg
          cases hg
        · exact e
      rw [hn]
      have hz : v.getV S = (0, false) := by
        rw [V.getV_con hk] at hg ⊢
        by_cases ha : allTo (fun i => ((v.kid i).getV S).2) v.len = true
        · rw [if_pos ha] at hg ⊢
          exact find_zero hg
        · rw [if_neg ha]
      rw [hz]; rfl
end Go.Proofs.YtbfkcfhkccicoaaDoor

namespace Go.Proofs.YtbfkcfhkccicoaaDoor
open Go.RowKit Go.Maps Go.WideMaps

theorem getV_bits {v : V} {B : Nat} {w : World} {S : SS} {d : Nat} (hat : v.At B w) (hm : v.may d = true) (hx : S.xs.length ≤ 16384) (hn : S.ns.length ≤ 16384) : Bits (v.getV S).1 := by
  rcases kinds_of hm with h | h | h
  · rw [V.getV_num h]; exact ⟨hat.flat.n0, hat.flat.n1⟩
  · rw [V.getV_sym h]
    cases ht : Sym.there S.xs v.str with
    | true => have := (Sym.num_at ht).2; unfold Bits; simp only; omega
    | false =>
      have : Sym.num S.xs v.str = 0 := by
        unfold Sym.there at ht
        unfold Sym.num
        cases hp : Sym.place S.xs v.str 0 with
        | none => rfl
        | some _ => rw [hp] at ht; cases ht
      rw [this]; unfold Bits; simp
  · rw [V.getV_con h]
    split
    · unfold findV
      split
      · have := nNum_le S.ns ((nodeAt v (fun i => ((v.kid i).getV S).1) v.len).at0 (Sym.num S.ws v.str)).list
        unfold Bits; simp only; omega
      · unfold Bits; simp
    · unfold Bits; simp



/-- Between two Args. -/
structure GR (W : World) (v : V) (S : SS) (k : Nat) (wr : World) : Prop where
  bw : Below W.heap.size W wr
  all : allTo (fun i => ((v.kid i).getV S).2) k = true
  node : NB wr (W.heap.size + 1) (nodeAt v (fun i => ((v.kid i).getV S).1) k)
  box : CellsAt wr W.heap.size 0 v
  sz : W.heap.size + 2 ≤ wr.heap.size

theorem gr_start (W : World) (v : V) (S : SS) (o : Obj) (ho : o = .cells ((nodeAt v (fun _ => 0) 0).list.map (Value.int .i64)).toArray 81) : GR W v S 0 ((W.alloc v.obj).alloc o) := by
  subst ho
  have b1 := below_box W v.obj
  have b2 := below_box (W.alloc v.obj) (.cells ((nodeAt v (fun _ => 0) 0).list.map (Value.int .i64)).toArray 81)
  have e1 : (W.alloc v.obj).heap.size = W.heap.size + 1 := by simp
  refine ⟨b1.trans (b2.mono (by omega)), rfl, ?_, (boxed W v).below b2 (by omega), by simp⟩
  have := nb_alloc (W.alloc v.obj) (nodeAt v (fun _ => 0) 0)
  rw [e1, nodeAt_congr v (g := fun i => ((v.kid i).getV S).1) (fun j hj => absurd hj (Nat.not_lt_zero j))] at this
  exact this
theorem gr_next {W wr w2 : World} {v : V} {S : SS} {k : Nat} (h : GR W v S k wr) (hk : k < v.len) (h8 : v.len ≤ 8) (b2 : Below wr.heap.size wr w2) (hf : ((v.kid k).getV S).2 = true) :
    GR W v S (k + 1) ((w2.setCell ⟨W.heap.size + 1, 2 + k, none⟩ (.int .i64 (v.kid k).kind)).setCell ⟨W.heap.size + 1, 10 + k, none⟩ (.int .i64 ((v.kid k).getV S).1)) := by
  have hsz := h.sz
  have bw2 : Below W.heap.size W w2 := h.bw.trans (b2.mono h.bw.size)
  have n1 : NB w2 (W.heap.size + 1) (nodeAt v (fun i => ((v.kid i).getV S).1) k) := h.node.turn (Turn.of_below (S := fun _ => False) b2) (fun e => e)
  refine ⟨(bw2.setCell (by show _ ≤ W.heap.size + 1; omega) _).setCell (by show _ ≤ W.heap.size + 1; omega) _, ?_, ?_, ?_, ?_⟩
  · simp only [allTo]; rw [h.all, hf]; rfl
  · have := (n1.set (i := 2 + k) (by omega) (v.kid k).kind).set (i := 10 + k) (by omega) ((v.kid k).getV S).1
    rw [show nodeAt v (fun i => ((v.kid i).getV S).1) (k + 1) = nodeAt v (fun j => if j = k then ((v.kid k).getV S).1 else ((v.kid j).getV S).1) (k + 1) from nodeAt_congr v (fun j hj => by
      by_cases e : j = k
      · subst e; simp
      · simp [e]), ← nodeAt_step v (fun i => ((v.kid i).getV S).1) k _ (by omega)]
    exact this
  · have hb2 : CellsAt w2 W.heap.size 0 v := h.box.below b2 (by omega)
    exact hb2.stays (fun a u ha hu2 => by
      have e7 : ∀ (w : World) (i : Nat) (x : Value), (w.setCell ⟨W.heap.size + 1, i, none⟩ x).cell? a = w.cell? a := fun w i x => by
        simp only [World.cell?]
        rw [Below.heap_setCell w ⟨W.heap.size + 1, i, none⟩ x a.block (by rw [ha]; simp)]
      rw [e7, e7]; exact hu2)
  · have := b2.size
    simp [World.setCell]; omega





end Go.Proofs.YtbfkcfhkccicoaaDoor


namespace Go.Proofs.YtbfkcfhkccicoaaDoor
open Go.RowKit Go.Maps Go.WideMaps
def getAll (v : V) (S : SS) : Int × Bool := if v.right then v.getV S else (0, false)
theorem agree_getAll {S : SS} {R : RS} (h : Agree S R) (v : V) : getAll v S = rgetAll v R := by
  cases hr : v.right with
  | true => unfold getAll; rw [hr]; exact agree_get h hr
  | false => unfold getAll rgetAll; rw [hr]; rfl

end Go.Proofs.YtbfkcfhkccicoaaDoor


namespace Go.Proofs.YtbfkcfhkccicoaaDoor
open Go.RowKit Go.Maps
structure Side (W wr : World) (p : SP) (r : RP) (S : SS) (R : RS) : Prop where
  bw : Below W.heap.size W wr
  sto : Sto wr p S
  rsto : RSto wr r R.xs R.cs
  lie : R.Lie W.heap.size wr
  agree : Agree S R
  long : S.Long
  thin : S.Thin
  pb : W.heap.size ≤ p.base
  rb : W.heap.size ≤ r.base
  rle : r.base ≤ wr.heap.size
  apart : ∀ k, (k = p.sb ∨ p.own k) → ¬ r.own k
section
variable {W wr w2 w3 w4 : World} {p p' : SP} {r r' : RP} {S : SS} {R : RS}
theorem Side.later (h : Side W wr p r S R) (b : Below wr.heap.size wr w2) : Side W w2 p r S R :=
  ⟨h.bw.trans (b.mono h.bw.size), h.sto.later b, h.rsto.later b, fun i hi => (h.lie i hi).below (b.mono h.bw.size), h.agree, h.long, h.thin, h.pb, h.rb, Nat.le_trans h.rle b.size, h.apart⟩
theorem Side.uses (h : Side W wr p r S R) {v : V} (hv : v.At W.heap.size W) : ∀ k, v.uses k → ¬ p.own k := fun k hk e => by
  have := (h.sto.own_lt k e).1
  have := V.uses_lt v hv k hk
  have := h.pb
  omega
theorem Side.small (h : Side W wr p r S R) : ∀ j, j < R.cs.length → (nth R.cs j).Small := fun j hj => V.At.small _ (h.lie j hj)
theorem Side.step (h : Side W wr p r S R) (st : Step wr w2 p p') : Below W.heap.size wr w2 :=
  st.turn.below h.bw.size (fun k e => Nat.le_trans h.pb (h.sto.own_lt k e).1)
theorem Side.mid (h : Side W wr p r S R) (st : Step wr w2 p p') : RSto w2 r R.xs R.cs ∧ R.Lie W.heap.size w2 :=
  ⟨h.rsto.stays st.turn (fun k e q => h.apart k (.inr q) e), fun i hi => (h.lie i hi).below (h.step st)⟩
theorem Side.next (h : Side W wr p r S R) {v : V} (st : Step wr w2 p p') (hs : Sto w2 p' (putAll v S).2) (b : Below w2.heap.size w2 w3) (rst : RStep w3 w4 r r')
    (hrs : RSto w4 r' (rputAll v R).2.xs (rputAll v R).2.cs) (hl : (rputAll v R).2.Lie W.heap.size w4) : Side W w4 p' r' (putAll v S).2 (rputAll v R).2 := by
  have b2 := h.step st
  have s2 : W.heap.size ≤ w2.heap.size := (h.bw.trans b2).size
  have bw3 : Below W.heap.size W w3 := (h.bw.trans b2).trans (b.mono s2)
  have hr3 : RSto w3 r R.xs R.cs := (h.mid st).1.later b
  have hle : r.base ≤ w3.heap.size := by have := h.rle; have := st.turn.size; have := b.size; omega
  have b4 : Below W.heap.size w3 w4 := rst.below hr3 h.rb hle
  have far : ∀ k, (k = p'.sb ∨ p'.own k) → ¬ r.own k := fun k e q => by
    rcases e with e | e
    · exact h.apart k (.inl (e.trans st.sb)) q
    · rcases st.own k e with e | e
      · exact h.apart k (.inr e) q
      · have := (h.rsto.own_lt k q).2; omega
  have low : ∀ k, (k = p'.sb ∨ p'.own k) → k < w2.heap.size := fun k e => by
    rcases e with e | e
    · rw [e]; exact Sym.lt_of_heap hs.st
    · exact (hs.own_lt k e).2
  refine ⟨bw3.trans b4, (hs.later b).stays rst.turn (fun k e q => far k e q), hrs, hl, (agree_putAll h.agree).2, putAll_long h.long, putAll_thin h.thin, ?_, ?_, ?_, fun k e q => ?_⟩
  · rw [st.base]; exact h.pb
  · rw [rst.base]; exact h.rb
  · rw [rst.base]; have := b4.size; omega
  · rcases rst.own k q with q | q
    · exact far k e q
    · have := low k e; have := b.size; omega
end
end Go.Proofs.YtbfkcfhkccicoaaDoor

namespace Go.Proofs.YtbfkcfhkccicoaaDoor
open Go.RowKit Go.Maps
theorem min12 (n : Nat) : ∃ M : Nat, min (n : Int) 12 = (M : Int) ∧ M ≤ n ∧ M ≤ 12 := ⟨min n 12, by omega, by omega, by omega⟩
theorem rsto_new (w : World) : RSto (w.alloc (.cells #[.slice none 0 0, .slice none 0 0] 29)) ⟨w.heap.size, w.heap.size, none, 0, none, 0⟩ [] [] :=
  ⟨World.alloc_heap_new w _, ⟨by decide, .inl ⟨rfl, rfl⟩⟩, ⟨by decide, .inl ⟨rfl, rfl⟩⟩, by decide, by decide, Nat.le_refl _⟩

theorem CellsAt.turn {Q : Nat → Prop} {w w' : World} {b o : Nat} {v : V} (h : CellsAt w b o v) (t : Turn Q w w') (hb : b < w.heap.size) (hQ : ¬ Q b) : CellsAt w' b o v :=
  h.stays (fun p u e hu => by have := t.block b hb hQ; subst e; simpa [World.cell?, this] using hu)
theorem rback_at {W w : World} {p : SP} {r : RP} {S : SS} {R : RS} {kind n : Int} (h : Side W w p r S R) (hn : -9223372036854775808 ≤ n ∧ n ≤ 9223372036854775807) : (rbackV R kind n).1.At W.heap.size w := by
  have hz : V.none.At W.heap.size w := V.At.of ⟨by decide, by decide, by decide, by decide, by decide, Nat.zero_le _, fun i hi => absurd hi (Nat.not_lt_zero i)⟩ (fun i hi => absurd hi (Nat.not_lt_zero i))
  unfold rbackV
  by_cases k1 : kind = 1
  · rw [if_pos k1]; exact bare_at (by decide) hn (by decide)
  · rw [if_neg k1]
    by_cases k2 : kind = 2
    · rw [if_pos k2]
      split
      · refine bare_at (by decide) (by decide) ?_
        unfold Sym.textAt
        split
        · cases hx : R.xs[n.toNat]? with
          | none => exact (by decide : (0 : Nat) ≤ 9223372036854775807)
          | some t =>
            have := h.thin t (by rw [← h.agree.xs]; exact List.mem_of_getElem? hx)
            show t.size ≤ _
            omega
        · exact (by decide : (0 : Nat) ≤ 9223372036854775807)
      · exact hz
    · rw [if_neg k2]
      by_cases k3 : kind = 3
      · rw [if_pos k3]
        split
        · next hr => exact h.lie _ (by omega)
        · exact hz
      · rw [if_neg k3]; exact hz
def Both (W wr : World) (sb rb : Nat) : Prop := ∃ p r S R, Side W wr p r S R ∧ p.sb = sb ∧ r.rb = rb

end Go.Proofs.YtbfkcfhkccicoaaDoor
