/- Walks of the document's test whether a value may be: left, may, Right. -/
import Derived.Test.YtbfkcfhkccicoaaDoorFits
namespace Go.Proofs.YtbfkcfhkccicoaaDoor
open Go.RowKit

/-- The box of a value. -/
abbrev V.obj (v : V) : Obj := .cells #[.int .i64 v.kind, .int .i64 v.num, .string v.str, .slice v.addr v.len v.cap] 32
theorem boxed (w : World) (v : V) : CellsAt (w.alloc v.obj) w.heap.size 0 v := by
  have h := World.alloc_heap_new w v.obj
  exact ⟨by simp only [World.cell?]; rw [h]; rfl, by simp only [World.cell?]; rw [h]; rfl, by simp only [World.cell?]; rw [h]; rfl, by simp only [World.cell?]; rw [h]; rfl⟩
theorem CellsAt.below {w w' : World} {b o B : Nat} {v : V} (h : CellsAt w b o v) (hb : Below B w w') (hB : b < B) : CellsAt w' b o v :=
  h.stays (fun p u hp hu => (hb.cell (p := p) (by omega)).trans hu)
theorem CellsAt.z {w : World} {b : Nat} {v : V} (h : CellsAt w b 0 v) : w.cell? ⟨b, 0, .none⟩ = some (.int .i64 v.kind) ∧ w.cell? ⟨b, 1, .none⟩ = some (.int .i64 v.num) ∧ w.cell? ⟨b, 2, .none⟩ = some (.string v.str) ∧ w.cell? ⟨b, 3, .none⟩ = some (.slice v.addr v.len v.cap) :=
  ⟨h.c0, by simpa using h.c1, by simpa using h.c2, by simpa using h.c3⟩
theorem below_box (w : World) (o : Obj) : Below w.heap.size w (w.alloc o) := (Below.refl _ w).alloc (Nat.le_refl _) o
theorem size_box (w : World) (o : Obj) : (w.alloc o).heap.size = w.heap.size + 1 := by simp

/-- What 'left' answers. -/
def lft (v : V) (n : Nat) : Int := if v.size ≤ n then (n : Int) - (v.size : Int) else -1
def LeftC (v : V) : Prop := ∀ (B : Nat) (w : World) (n : Nat), v.At B w → B ≤ w.heap.size → n ≤ 1024 →
  Calls Tryd.prog 19 #[v.val, .int .i64 (n : Int)] w fun e w' => e = .returned (.int .i64 (lft v n)) ∧ Below w.heap.size w w'

theorem ret_int {a b : Int} (h : a = b) : Ending.returned (.int .i64 a) = .returned (.int .i64 b) := by rw [h]
theorem lft_of {v : V} {n : Nat} {m : Int} (h : m = -1 ∧ n < 1 + sumTo (fun i => (v.kid i).size) v.len ∨ 0 ≤ m ∧ m + 1 + (sumTo (fun i => (v.kid i).size) v.len : Int) = (n : Int)) : m = lft v n := by
  unfold lft
  rw [V.size_eq]
  rcases h with ⟨h1, h2⟩ | ⟨h1, h2⟩
  · rw [if_neg (by omega), h1]
  · rw [if_pos (by omega)]; omega

set_option maxHeartbeats 2000000 in
theorem left_any : ∀ v : V, LeftC v := by
  refine V.ind fun v ih => ?_
  intro B w n hat hB hn
  have hl := hat.flat.l
  have IH := hide ih
  clear ih
  have hbox := boxed w v
  unfold V.val
  generalize hA : v.addr = A
  have HA := hide hA
  clear hA
  have b1 := below_box w v.obj
  have s1 := size_box w v.obj
  have hobj : v.obj = .cells #[.int .i64 v.kind, .int .i64 v.num, .string v.str, .slice A v.len v.cap] 32 := by rw [← unhide HA]
  have HO := hide hobj
  clear hobj
  rw [unhide HO] at hbox b1 s1
  have HBX := hide hbox
  have HS1 := hide s1
  clear hbox s1
  go_enter Tryd.func19, Tryd.ntmps19
  go_wp2_with fail
  go_loopw [5, 1] (fun i m wr => ∃ (k : Nat) (q : Int), k ≤ v.len ∧ i = .int .i64 k ∧ m = .int .i64 q ∧ q ≤ 1024 ∧ -1 ≤ q ∧ Hid (q = -1 ∧ n < 1 + sumTo (fun i => (v.kid i).size) v.len ∨ 0 ≤ q ∧ q + 1 + (sumTo (fun i => (v.kid i).size) k : Int) = (n : Int)) ∧
      Below (w.heap.size + 1) (w.alloc (.cells #[.int .i64 v.kind, .int .i64 v.num, .string v.str, .slice A v.len v.cap] 32)) wr) (fun i _ _ => v.len - (intOf i).toNat)
  case atStart =>
    refine ⟨0, (n : Int) - 1, Nat.zero_le _, rfl, rfl, by omega, by omega, ?_, Below.refl _ _⟩
    show _ ∨ _
    by_cases h0 : n = 0
    · left; subst h0; exact ⟨rfl, by omega⟩
    · right; exact ⟨by omega, by simp [sumTo]⟩
  case round =>
    obtain ⟨k, q, hk, rfl, rfl, hq1, hq0, hS, hbw⟩ := hrel
    have z := ((unhide HBX).below hbw (by omega)).z
    rw [unhide HA] at z
    obtain ⟨z0, z1, z2, z3⟩ := z
    have bw : Below w.heap.size w wr := b1.trans (hbw.mono (by omega))
    have hatr : v.At B wr := hat.below (bw.mono hB)
    by_cases hq : 0 ≤ q
    · by_cases hlt : k < v.len
      · obtain ⟨b, o, ha, hb, hc⟩ := hatr.flat.at_ k hlt
        rw [unhide HA] at ha
        subst ha
        have c0 := hc.c0
        have c1 := hc.c1
        have c2 := hc.c2
        have c3 := hc.c3
        obtain ⟨qn, rfl⟩ : ∃ qn : Nat, q = (qn : Int) := ⟨q.toNat, by omega⟩
        have hsz : w.heap.size + 1 ≤ wr.heap.size := by rw [← unhide HS1]; exact hbw.size
        have HZ := hide hsz
        clear hsz
        go_wp2_with fail
        refine (unhide IH k hlt B _ qn (hatr.kid k hlt) (by have := unhide HZ; omega) (by omega)).mono ?_
        rintro e w2 ⟨rfl, hb2⟩
        clear c0 c1 c2 c3 hc z0 z1 z2 z3
        go_wp2_with fail
        go_roundw
        case rel =>
          have hb3 : Below (w.heap.size + 1) wr w2 := hb2.mono (unhide HZ)
          have hS2 := hS.out
          have hsm : sumTo (fun i => (v.kid i).size) (k + 1) ≤ sumTo (fun i => (v.kid i).size) v.len := sumTo_mono (by omega)
          simp only [sumTo] at hsm
          refine ⟨k + 1, lft (v.kid k) qn, by omega, by go_num, rfl, ?_, ?_, ?_, hbw.trans hb3⟩
          · unfold lft; split <;> omega
          · unfold lft; split <;> omega
          · show _ ∨ _
            simp only [sumTo]
            unfold lft
            split <;> omega
        case measure => simp [intOf]; omega
      · have : k = v.len := by omega
        subst this
        go_wp2_with fail
        go_ret
        exact ⟨ret_int (lft_of hS.out), bw⟩
    · have hq2 : decide (0 ≤ q) = false := decide_eq_false hq
      have HQ := hide hq
      clear hq
      by_cases hlt : k < v.len
      · go_wp2_with fail
        go_ret
        refine ⟨ret_int (lft_of (.inl ?_)), bw⟩
        have := hS.out
        have := unhide HQ
        omega
      · go_wp2_with fail
        go_ret
        refine ⟨ret_int (lft_of (.inl ?_)), bw⟩
        have := hS.out
        have := unhide HQ
        omega
def MayC (v : V) : Prop := ∀ (B : Nat) (w : World) (d : Nat) (D : Int), v.At B w → B ≤ w.heap.size → D + (d : Int) = 32 → 0 ≤ D →
  Calls Tryd.prog 20 #[v.val, .int .i64 D] w fun e w' => e = .returned (.bool (v.may d)) ∧ Below w.heap.size w w'

section
variable (v : V) (w : World) (d : Nat) (D : Int)

set_option maxHeartbeats 2000000 in
theorem may_num (hk : v.kind = 1) : Calls Tryd.prog 20 #[v.val, .int .i64 D] w fun e w' => e = .returned (.bool (v.may d)) ∧ Below w.heap.size w w' := by
  have H : Hid (v.may d = (v.str.toList.isEmpty && ((v.len : Int) == 0))) := by
    show _ = _
    rw [V.may_eq, if_pos hk]
    congr 1
    · by_cases h : v.str.size = 0
      · rw [empty_of h, decide_eq_true h]
      · rw [empty_not h, decide_eq_false h]
    · cases h : ((v.len : Int) == 0) <;> simp_all
  rw [unhide H]
  clear H
  cases h1 : v.str.toList.isEmpty
  all_goals
    go_enter Tryd.func20, Tryd.ntmps20
    go_wp2_with fail
    go_ret
    exact ⟨rfl, below_box w _⟩

set_option maxHeartbeats 2000000 in
theorem may_sym (hk : v.kind = 2) (hss : v.str.size ≤ 9223372036854775807) : Calls Tryd.prog 20 #[v.val, .int .i64 D] w fun e w' => e = .returned (.bool (v.may d)) ∧ Below w.heap.size w w' := by
  have H : Hid (v.may d = ((v.num == 0) && ((v.len : Int) == 0) && decide ((v.str.size : Int) ≤ 65536))) := by
    show _ = _
    rw [V.may_eq, if_neg (by omega), if_pos hk]
    congr 1
    · congr 1
      · cases h : ((v.len : Int) == 0) <;> simp_all
    · by_cases h : v.str.size ≤ 65536
      · rw [decide_eq_true h, decide_eq_true (by omega)]
      · rw [decide_eq_false h, decide_eq_false (by omega)]
  rw [unhide H]
  clear H
  cases h1 : (v.num == 0)
  · go_enter Tryd.func20, Tryd.ntmps20
    go_wp2_with fail
    go_ret
    exact ⟨rfl, below_box w _⟩
  · cases h2 : ((v.len : Int) == 0)
    all_goals
      go_enter Tryd.func20, Tryd.ntmps20
      go_wp2_with fail
      go_ret
      exact ⟨rfl, below_box w _⟩

set_option maxHeartbeats 2000000 in
theorem may_not (h1 : ¬ v.kind = 1) (h2 : ¬ v.kind = 2) (h3 : ¬ v.kind = 3) : Calls Tryd.prog 20 #[v.val, .int .i64 D] w fun e w' => e = .returned (.bool (v.may d)) ∧ Below w.heap.size w w' := by
  have H : v.may d = false := by rw [V.may_eq, if_neg h1, if_neg h2, decide_eq_false h3]; rfl
  rw [H]
  clear H
  have e1 : (v.kind == 1) = false := beq_eq_false_iff_ne.2 h1
  have e2 : (v.kind == 2) = false := beq_eq_false_iff_ne.2 h2
  have e3 : (v.kind != 3) = true := bne_iff_ne.2 h3
  clear h1 h2 h3
  go_enter Tryd.func20, Tryd.ntmps20
  go_wp2_with fail
  go_ret
  exact ⟨rfl, below_box w _⟩
end

set_option maxHeartbeats 2000000 in
/-- A Con that may not be by its own row. -/
theorem may_con_no (v : V) (w : World) (d : Nat) (D : Int) (hk : v.kind = 3) (hs : v.str.size ≤ 9223372036854775807) (hD : D + (d : Int) = 32)
    (h : ¬ (v.num = 0 ∧ isWd v.str = true ∧ v.len ≤ 8 ∧ 0 < d)) : Calls Tryd.prog 20 #[v.val, .int .i64 D] w fun e w' => e = .returned (.bool (v.may d)) ∧ Below w.heap.size w w' := by
  have H : v.may d = false := by
    rw [may_con hk, Bool.eq_false_iff]
    intro e
    simp only [Bool.and_eq_true, decide_eq_true_eq] at e
    exact h ⟨e.1.1.1.2, e.1.1.2, e.1.2, e.1.1.1.1⟩
  rw [H]
  clear H
  by_cases h1 : v.num = 0
  · have e1 : (v.num != 0) = false := by simp [h1]
    cases h2 : isWd v.str
    · clear h h1
      go_enter Tryd.func20, Tryd.ntmps20
      go_wp2_with fail
      refine (word_any _ _ hs).mono ?_
      rintro e w' ⟨rfl, rfl⟩
      go_wp2_with fail
      go_ret
      exact ⟨rfl, below_box w _⟩
    · by_cases h3 : v.len ≤ 8
      · have h4 : ¬ 0 < d := fun e => h ⟨h1, h2, h3, e⟩
        have e3 : decide ((8 : Int) < (v.len : Int)) = false := decide_eq_false (by omega)
        have e4 : decide ((32 : Int) ≤ D) = true := decide_eq_true (by omega)
        clear h h1 h3 h4
        go_enter Tryd.func20, Tryd.ntmps20
        go_wp2_with fail
        refine (word_any _ _ hs).mono ?_
        rintro e w' ⟨rfl, rfl⟩
        go_wp2_with fail
        go_ret
        exact ⟨rfl, below_box w _⟩
      · have e3 : decide ((8 : Int) < (v.len : Int)) = true := decide_eq_true (by omega)
        clear h h1 h3
        go_enter Tryd.func20, Tryd.ntmps20
        go_wp2_with fail
        refine (word_any _ _ hs).mono ?_
        rintro e w' ⟨rfl, rfl⟩
        go_wp2_with fail
        go_ret
        exact ⟨rfl, below_box w _⟩
  · have e1 : (v.num != 0) = true := bne_iff_ne.2 h1
    clear h h1
    go_enter Tryd.func20, Tryd.ntmps20
    go_wp2_with fail
    go_ret
    exact ⟨rfl, below_box w _⟩

set_option maxHeartbeats 4000000 in
theorem may_con_all (v : V) (ih : ∀ i, i < v.len → MayC (v.kid i)) (B : Nat) (w : World) (d : Nat) (D : Int) (hat : v.At B w) (hB : B ≤ w.heap.size) (hD : D + (d : Int) = 31) (hD0 : 0 ≤ D) (hk : v.kind = 3)
    (h1 : v.num = 0) (h2 : isWd v.str = true) (h3 : v.len ≤ 8) : Calls Tryd.prog 20 #[v.val, .int .i64 D] w fun e w' => e = .returned (.bool (v.may (d + 1))) ∧ Below w.heap.size w w' := by
  have hs := hat.flat.s
  have hl := hat.flat.l
  have H : Hid (v.may (d + 1) = allTo (fun i => (v.kid i).may d) v.len) := by
    show _ = _
    rw [may_con hk, h2, decide_eq_true h1, decide_eq_true h3, decide_eq_true (by omega)]; rfl
  have IH := hide ih
  clear ih
  unfold V.val
  generalize hA : v.addr = A
  have HA := hide hA
  clear hA
  have hobj : v.obj = .cells #[.int .i64 3, .int .i64 v.num, .string v.str, .slice A v.len v.cap] 32 := by rw [← unhide HA, ← hk]
  have hbox := boxed w v
  have b1 := below_box w v.obj
  have s1 := size_box w v.obj
  rw [hobj] at hbox b1 s1
  have HBX := hide hbox
  have HS1 := hide s1
  clear hbox s1 hobj
  have e1 : (v.num != 0) = false := by simp [h1]
  have e3 : decide ((8 : Int) < (v.len : Int)) = false := decide_eq_false (by omega)
  have e4 : decide ((32 : Int) ≤ D) = false := decide_eq_false (by omega)
  have HK := hide hk
  clear h1
  go_enter Tryd.func20, Tryd.ntmps20
  go_wp2_with fail
  refine (word_any _ _ hs).mono ?_
  rintro e w' ⟨rfl, rfl⟩
  go_wp2_with fail
  go_loopw [5] (fun i wr => ∃ k : Nat, k ≤ v.len ∧ i = .int .i64 k ∧ Hid (allTo (fun i => (v.kid i).may d) k = true) ∧
      Below (w.heap.size + 1) (w.alloc (.cells #[.int .i64 3, .int .i64 v.num, .string v.str, .slice A v.len v.cap] 32)) wr) (fun i _ => v.len - (intOf i).toNat)
  case atStart => exact ⟨0, Nat.zero_le _, rfl, rfl, Below.refl _ _⟩
  case round =>
    obtain ⟨k, hk, rfl, hS, hbw⟩ := hrel
    have z := ((unhide HBX).below hbw (by omega)).z
    rw [unhide HA] at z
    obtain ⟨z0, z1, z2, z3⟩ := z
    have bw : Below w.heap.size w wr := b1.trans (hbw.mono (by omega))
    have hatr : v.At B wr := hat.below (bw.mono hB)
    by_cases hlt : k < v.len
    · obtain ⟨b, o, ha, hb, hc⟩ := hatr.flat.at_ k hlt
      rw [unhide HA] at ha
      subst ha
      have c0 := hc.c0
      have c1 := hc.c1
      have c2 := hc.c2
      have c3 := hc.c3
      have hsz : w.heap.size + 1 ≤ wr.heap.size := by rw [← unhide HS1]; exact hbw.size
      have HZ := hide hsz
      clear hsz
      go_wp2_with fail
      refine (unhide IH k hlt B _ d (D + 1) (hatr.kid k hlt) (by have := unhide HZ; omega) (by omega) (by omega)).mono ?_
      rintro e w2 ⟨rfl, hb2⟩
      clear c0 c1 c2 c3 hc z0 z1 z2 z3
      have hb3 : Below (w.heap.size + 1) wr w2 := hb2.mono (unhide HZ)
      cases hm : (v.kid k).may d with
      | true =>
        have HM := hide hm
        go_wp2_with fail
        go_roundw
        case rel =>
          refine ⟨k + 1, by omega, by go_num, ?_, hbw.trans hb3⟩
          show _ = _
          simp only [allTo]
          rw [hS.out, unhide HM]; rfl
        case measure => simp [intOf]; omega
      | false =>
        have HM := hide hm
        go_wp2_with fail
        go_ret
        refine ⟨ret_bool ?_, bw.trans (hb2.mono (by have := unhide HZ; omega))⟩
        rw [unhide H, allTo_bad (f := fun i => (v.kid i).may d) hlt (unhide HM)]
    · have : k = v.len := by omega
      subst this
      go_wp2_with fail
      go_ret
      exact ⟨ret_bool (by rw [unhide H, hS.out]), bw⟩

theorem may_any : ∀ v : V, MayC v := by
  refine V.ind fun v ih => ?_
  intro B w d D hat hB hD hD0
  by_cases h1 : v.kind = 1
  · exact may_num v w d D h1
  · by_cases h2 : v.kind = 2
    · exact may_sym v w d D h2 hat.flat.s
    · by_cases h3 : v.kind = 3
      · by_cases h : v.num = 0 ∧ isWd v.str = true ∧ v.len ≤ 8 ∧ 0 < d
        · obtain ⟨d, rfl⟩ : ∃ q, d = q + 1 := ⟨d - 1, by omega⟩
          exact may_con_all v ih B w d D hat hB (by omega) hD0 h3 h.1 h.2.1 h.2.2.1
        · exact may_con_no v w d D h3 hat.flat.s hD h
      · exact may_not v w d D h1 h2 h3

theorem lft_pos (v : V) : decide (0 ≤ lft v 1024) = decide (v.size ≤ 1024) := by
  unfold lft
  by_cases h : v.size ≤ 1024
  · rw [if_pos h, decide_eq_true h, decide_eq_true (by omega)]
  · rw [if_neg h, decide_eq_false h]; rfl

/-- The document's Right. -/
theorem rright_any (v : V) (B : Nat) (w : World) (hat : v.At B w) (hB : B ≤ w.heap.size) :
    Calls Tryd.prog 6 #[v.val] w fun e w' => e = .returned (.bool v.right) ∧ Below w.heap.size w w' := by
  have H : Hid (v.right = (decide (0 ≤ lft v 1024) && v.may 32)) := by
    show _ = _
    rw [lft_pos]; unfold V.right; rw [Bool.and_comm]
  rw [unhide H]
  clear H
  have b1 := below_box w v.obj
  have s1 := size_box w v.obj
  have hbx := boxed w v
  go_enter Tryd.func6, Tryd.ntmps6
  go_wp2_with fail
  have h := left_any v B _ 1024 (hat.below (b1.mono hB)) (by rw [s1]; omega) (Nat.le_refl _)
  rw [show ((1024 : Nat) : Int) = 1024 from rfl] at h
  refine h.mono ?_
  clear h
  rintro e w2 ⟨rfl, b2⟩
  rw [s1] at b2
  have z := (hbx.below b2 (by omega)).z
  obtain ⟨z0, z1, z2, z3⟩ := z
  have bw : Below w.heap.size w w2 := b1.trans (b2.mono (by omega))
  have hs2 : w.heap.size + 1 ≤ w2.heap.size := by rw [← s1]; exact b2.size
  clear hbx s1
  cases hd : decide (0 ≤ lft v 1024)
  · clear b1 b2
    have HD := hide hd
    go_wp2_with fail
    go_ret
    exact ⟨ret_bool (by rw [unhide HD]; rfl), bw⟩
  · clear b1 b2
    have HD := hide hd
    have HS := hide hs2
    clear hs2
    go_wp2_with fail
    refine (may_any v B _ 32 0 (hat.below (bw.mono hB)) (by have := unhide HS; omega) (by omega) (by omega)).mono ?_
    rintro e w3 ⟨rfl, b3⟩
    clear z0 z1 z2 z3
    have bw3 : Below w.heap.size w w3 := bw.trans (b3.mono (by have := unhide HS; omega))
    clear b3
    go_wp2_with fail
    go_ret
    exact ⟨ret_bool (by rw [unhide HD]; rfl), bw3⟩
end Go.Proofs.YtbfkcfhkccicoaaDoor
