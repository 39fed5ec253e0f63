/- Walks of the test whether a value may be: term.fits, allFit, Right. -/
import Derived.Test.YtbfkcfhkccicoaaDoorWordB
namespace Go.Proofs.YtbfkcfhkccicoaaDoor
open Go.RowKit

/-- From w to w' no block of w has turned but those in S; the streams are as they were. -/
structure Turn (S : Nat → Prop) (w w' : World) : Prop where
  os : w'.os = w.os
  tape : w'.tape = w.tape
  output : w'.output = w.output
  size : w.heap.size ≤ w'.heap.size
  block : ∀ k, k < w.heap.size → ¬ S k → w'.heap[k]? = w.heap[k]?

theorem Turn.refl (S : Nat → Prop) (w : World) : Turn S w w := ⟨rfl, rfl, rfl, Nat.le_refl _, fun _ _ _ => rfl⟩
theorem Turn.trans {S S' : Nat → Prop} {a b c : World} (h : Turn S a b) (k : Turn S' b c) (hS : ∀ i, i < a.heap.size → S' i → S i) : Turn S a c :=
  ⟨k.os.trans h.os, k.tape.trans h.tape, k.output.trans h.output, Nat.le_trans h.size k.size, fun i hi hn => (k.block i (Nat.lt_of_lt_of_le hi h.size) (fun e => hn (hS i hi e))).trans (h.block i hi hn)⟩
theorem Turn.mono {S S' : Nat → Prop} {a b : World} (h : Turn S a b) (hS : ∀ i, S i → S' i) : Turn S' a b :=
  ⟨h.os, h.tape, h.output, h.size, fun i hi hn => h.block i hi (fun e => hn (hS i e))⟩
theorem Turn.of_below {S : Nat → Prop} {w w' : World} (h : Below w.heap.size w w') : Turn S w w' := ⟨h.os, h.tape, h.output, h.size, fun k hk _ => h.block k hk⟩
theorem Turn.below {S : Nat → Prop} {w w' : World} {B : Nat} (h : Turn S w w') (hB : B ≤ w.heap.size) (hS : ∀ k, S k → B ≤ k) : Below B w w' :=
  ⟨h.os, h.tape, h.output, h.size, fun k hk => h.block k (by omega) (fun e => by have := hS k e; omega)⟩
theorem Turn.alloc {S : Nat → Prop} (w : World) (o : Obj) : Turn S w (w.alloc o) := Turn.of_below ((Below.refl _ w).alloc (Nat.le_refl _) o)
theorem Turn.setCell {S : Nat → Prop} (w : World) (p : Addr) (u : Value) (hp : S p.block) : Turn S w (w.setCell p u) :=
  ⟨rfl, rfl, rfl, by simp [World.setCell], fun k _ hn => Below.heap_setCell _ _ _ _ (fun e => hn (e ▸ hp))⟩

theorem V.At.turn {S : Nat → Prop} {B : Nat} {w w' : World} {v : V} (h : v.At B w) (t : Turn S w w') (hS : ∀ k, S k → B ≤ k) : v.At B w' :=
  h.stays (fun p u hp hu => by
    have hlt := World.block_lt_of_cell? w p hu
    have : w'.cell? p = w.cell? p := by
      simp only [World.cell?]
      rw [t.block _ hlt (fun e => by have := hS _ e; omega)]
    exact this.trans hu) v

/-- The counter of parts at block p holds n. -/
def Parts (w : World) (p : Nat) (n : Nat) : Prop := w.heap[p]? = some (.cells #[.int .i64 (n : Int)] 3 (0, 0))

/-- What 'fits' answers of a value. -/
def fit (v : V) (n d : Nat) : Bool := v.may d && decide (v.size ≤ n)

/-- Its contract. -/
def FitsC (v : V) : Prop := ∀ (B : Nat) (w : World) (p n d : Nat), v.At B w → B ≤ p → Parts w p n → n ≤ 1024 → d ≤ 32 →
  Calls Tryd.prog 31 #[v.val, .pointer (some ⟨p, 0, .none⟩), .int .i64 (d : Int)] w fun e w' =>
    ∃ m : Nat, e = .returned (.bool (fit v n d)) ∧ Parts w' p m ∧ m ≤ n ∧ (fit v n d = true → m + v.size = n) ∧ Turn (· = p) w w'

theorem parts_cell {w : World} {p n : Nat} (hp : Parts w p n) : w.cell? ⟨p, 0, .none⟩ = some (.int .i64 (n : Int)) := by unfold Parts at hp; simp [World.cell?, hp]
theorem parts_lt {w : World} {p n : Nat} (hp : Parts w p n) : p < w.heap.size := (Array.getElem?_eq_some_iff.1 hp).1
theorem parts_alloc {w : World} {p n : Nat} (hp : Parts w p n) (o : Obj) : Parts (w.alloc o) p n := (Below.heap_alloc w o p (parts_lt hp)).trans hp
theorem parts_frozen {w : World} {p n : Nat} (hp : Parts w p n) : w.frozen? ⟨p, 0, .none⟩ = false := by unfold Parts at hp; simp [World.frozen?, hp]

set_option maxHeartbeats 1000000 in
theorem fits_zero (v : V) (w : World) (p d : Nat) (hp : Parts w p 0) :
  Calls Tryd.prog 31 #[v.val, .pointer (some ⟨p, 0, .none⟩), .int .i64 (d : Int)] w fun e w' =>
    e = .returned (.bool false) ∧ Parts w' p 0 ∧ Turn (· = p) w w' := by
  have c0 := fun o => parts_cell (parts_alloc hp o)
  go_enter Tryd.func31, Tryd.ntmps31
  go_wp2_with fail
  go_ret
  exact ⟨rfl, parts_alloc hp _, Turn.alloc _ _⟩

theorem parts_set {w : World} {p n m : Nat} (hp : Parts w p n) : Parts (w.setCell ⟨p, 0, .none⟩ (.int .i64 (m : Int))) p m := by
  unfold Parts at *
  simp [World.setCell, Array.getElem?_modify, hp]
theorem empty_of {s : ByteArray} (h : s.size = 0) : s.toList.isEmpty = true := by
  rw [Lib.toList_data, List.isEmpty_iff, ← List.length_eq_zero_iff]; exact h
theorem empty_not {s : ByteArray} (h : ¬ s.size = 0) : s.toList.isEmpty = false := by
  rw [Bool.eq_false_iff]
  intro e
  rw [Lib.toList_data, List.isEmpty_iff, ← List.length_eq_zero_iff] at e
  exact h e

section
variable (v : V) (w : World) (p n d : Nat) (hp : Parts w p (n + 1)) (hn : n ≤ 1024)
include hp hn

set_option maxHeartbeats 1000000 in
theorem fits_num (hk : v.kind = 1) :
  Calls Tryd.prog 31 #[v.val, .pointer (some ⟨p, 0, .none⟩), .int .i64 (d : Int)] w fun e w' =>
    e = .returned (.bool (decide (v.str.size = 0) && decide (v.len = 0))) ∧ Parts w' p n ∧ Turn (· = p) w w' := by
  have hpl := parts_lt hp
  have c0 := fun o => parts_cell (parts_alloc hp o)
  have f0 := fun o => parts_frozen (parts_alloc hp o)
  by_cases hs : v.str.size = 0
  · have es := empty_of hs
    have hs2 : decide (v.str.size = 0) = true := decide_eq_true hs
    clear hs
    by_cases hz : v.len = 0
    · have ez : ((v.len : Int) == 0) = true := by simp [hz]
      have hz2 : decide (v.len = 0) = true := decide_eq_true hz
      clear hz
      rw [hs2, hz2]
      clear hs2 hz2
      go_enter Tryd.func31, Tryd.ntmps31
      go_wp2_with fail
      go_ret
      exact ⟨rfl, parts_alloc (parts_set hp) _, (Turn.setCell (S := fun x => x = p) _ _ _ rfl).trans (Turn.alloc _ _) (fun _ _ h => h)⟩
    · have ez : ((v.len : Int) == 0) = false := beq_eq_false_iff_ne.2 (by omega)
      have hz2 : decide (v.len = 0) = false := decide_eq_false hz
      clear hz
      rw [hs2, hz2]
      clear hs2 hz2
      go_enter Tryd.func31, Tryd.ntmps31
      go_wp2_with fail
      go_ret
      exact ⟨rfl, parts_alloc (parts_set hp) _, (Turn.setCell (S := fun x => x = p) _ _ _ rfl).trans (Turn.alloc _ _) (fun _ _ h => h)⟩
  · have es := empty_not hs
    have hs2 : decide (v.str.size = 0) = false := decide_eq_false hs
    clear hs
    rw [hs2]
    clear hs2
    go_enter Tryd.func31, Tryd.ntmps31
    go_wp2_with fail
    go_ret
    exact ⟨rfl, parts_alloc (parts_set hp) _, (Turn.setCell (S := fun x => x = p) _ _ _ rfl).trans (Turn.alloc _ _) (fun _ _ h => h)⟩

set_option maxHeartbeats 1000000 in
theorem fits_sym (hk : v.kind = 2) (hss : v.str.size ≤ 9223372036854775807) :
  Calls Tryd.prog 31 #[v.val, .pointer (some ⟨p, 0, .none⟩), .int .i64 (d : Int)] w fun e w' =>
    e = .returned (.bool (decide (v.num = 0) && decide (v.len = 0) && decide (v.str.size ≤ 65536))) ∧ Parts w' p n ∧ Turn (· = p) w w' := by
  have hpl := parts_lt hp
  have c0 := fun o => parts_cell (parts_alloc hp o)
  have f0 := fun o => parts_frozen (parts_alloc hp o)
  have e1 : (decide (v.num = 0)) = (v.num == 0) := by cases h : (v.num == 0) <;> simp_all
  have e2 : (decide (v.len = 0)) = ((v.len : Int) == 0) := by cases h : ((v.len : Int) == 0) <;> simp_all
  have e3 : (decide (v.str.size ≤ 65536)) = decide ((v.str.size : Int) ≤ 65536) := by
    by_cases h : v.str.size ≤ 65536
    · rw [decide_eq_true h, decide_eq_true (by omega)]
    · rw [decide_eq_false h, decide_eq_false (by omega)]
  rw [e1, e2, e3]
  clear e1 e2 e3
  cases h1 : (v.num == 0)
  · go_enter Tryd.func31, Tryd.ntmps31
    go_wp2_with fail
    go_ret
    exact ⟨rfl, parts_alloc (parts_set hp) _, (Turn.setCell (S := fun x => x = p) _ _ _ rfl).trans (Turn.alloc _ _) (fun _ _ h => h)⟩
  · cases h2 : ((v.len : Int) == 0)
    · go_enter Tryd.func31, Tryd.ntmps31
      go_wp2_with fail
      go_ret
      exact ⟨rfl, parts_alloc (parts_set hp) _, (Turn.setCell (S := fun x => x = p) _ _ _ rfl).trans (Turn.alloc _ _) (fun _ _ h => h)⟩
    · go_enter Tryd.func31, Tryd.ntmps31
      go_wp2_with fail
      go_ret
      exact ⟨rfl, parts_alloc (parts_set hp) _, (Turn.setCell (S := fun x => x = p) _ _ _ rfl).trans (Turn.alloc _ _) (fun _ _ h => h)⟩

set_option maxHeartbeats 1000000 in
theorem fits_not (h1 : ¬ v.kind = 1) (h2 : ¬ v.kind = 2) (h3 : ¬ v.kind = 3) :
  Calls Tryd.prog 31 #[v.val, .pointer (some ⟨p, 0, .none⟩), .int .i64 (d : Int)] w fun e w' =>
    e = .returned (.bool false) ∧ Parts w' p n ∧ Turn (· = p) w w' := by
  have hpl := parts_lt hp
  have c0 := fun o => parts_cell (parts_alloc hp o)
  have f0 := fun o => parts_frozen (parts_alloc hp o)
  have e1 : (v.kind == 1) = false := beq_eq_false_iff_ne.2 h1
  have e2 : (v.kind == 2) = false := beq_eq_false_iff_ne.2 h2
  have e3 : (v.kind == 3) = false := beq_eq_false_iff_ne.2 h3
  clear h1 h2 h3
  go_enter Tryd.func31, Tryd.ntmps31
  go_wp2_with fail
  go_ret
  exact ⟨rfl, parts_alloc (parts_set hp) _, (Turn.setCell (S := fun x => x = p) _ _ _ rfl).trans (Turn.alloc _ _) (fun _ _ h => h)⟩
end

/-- What 'allFit' answers of a value's Args. -/
def fitAll (v : V) (n d : Nat) : Bool := decide (v.len ≤ 8) && allTo (fun i => (v.kid i).may d) v.len && decide (sumTo (fun i => (v.kid i).size) v.len ≤ n)
theorem fitAll_long {v : V} {n d : Nat} (h : ¬ v.len ≤ 8) : fitAll v n d = false := by unfold fitAll; rw [decide_eq_false h]; rfl

theorem fit_def (v : V) (n d : Nat) : fit v n d = (v.may d && decide (v.size ≤ n)) := rfl
theorem fitAll_bad {v : V} {k m n d : Nat} (hk : k < v.len) (hm : m + sumTo (fun i => (v.kid i).size) k = n) (h : fit (v.kid k) m d = false) : fitAll v n d = false := by
  rw [fit_def, Bool.and_eq_false_iff] at h
  unfold fitAll
  rcases h with h | h
  · rw [allTo_bad (f := fun i => (v.kid i).may d) hk h]; simp
  · have h1 := of_decide_eq_false h
    have h2 : sumTo (fun i => (v.kid i).size) (k + 1) ≤ sumTo (fun i => (v.kid i).size) v.len := sumTo_mono (by omega)
    simp only [sumTo] at h2
    rw [decide_eq_false (show ¬ sumTo (fun i => (v.kid i).size) v.len ≤ n by omega)]; simp
theorem fitAll_good {v : V} {m n d : Nat} (h8 : v.len ≤ 8) (hm : m + sumTo (fun i => (v.kid i).size) v.len = n) (h : allTo (fun i => (v.kid i).may d) v.len = true) : fitAll v n d = true := by
  unfold fitAll
  rw [h, decide_eq_true h8, decide_eq_true (by omega)]; rfl

set_option maxHeartbeats 1000000 in
theorem allFit_any (v : V) (ih : ∀ i, i < v.len → FitsC (v.kid i)) (B : Nat) (w : World) (p n d : Nat) (hat : v.At B w) (hB : B ≤ p) (hp : Parts w p n) (hn : n ≤ 1024) (hd : d ≤ 32) :
  Calls Tryd.prog 49 #[.slice v.addr v.len v.cap, .pointer (some ⟨p, 0, .none⟩), .int .i64 (d : Int)] w fun e w' =>
    ∃ m : Nat, e = .returned (.bool (fitAll v n d)) ∧ Parts w' p m ∧ m ≤ n ∧ (fitAll v n d = true → m + sumTo (fun i => (v.kid i).size) v.len = n) ∧ Turn (· = p) w w' := by
  have hl := hat.flat.l
  by_cases h8 : v.len ≤ 8
  · have h8i : decide ((8 : Int) < (v.len : Int)) = false := decide_eq_false (by omega)
    have H8 := hide h8
    have IH := hide ih
    clear ih
    generalize hA : v.addr = A
    have HA := hide hA
    clear hA
    go_enter Tryd.func49, Tryd.ntmps49
    go_wp2_with fail
    go_loopw [14] (fun i wr => ∃ k m : Nat, k ≤ v.len ∧ i = .int .i64 k ∧ Parts wr p m ∧ m ≤ n ∧ Hid (m + sumTo (fun i => (v.kid i).size) k = n ∧ allTo (fun i => (v.kid i).may d) k = true) ∧ Turn (· = p) w wr) (fun i _ => v.len - (intOf i).toNat)
    case atStart => exact ⟨0, n, Nat.zero_le _, rfl, hp, Nat.le_refl _, ⟨by simp [sumTo], rfl⟩, Turn.refl _ _⟩
    case round =>
      obtain ⟨k, m, hk, rfl, hpr, hmn, hS, ht⟩ := hrel
      have hatr : v.At B wr := hat.turn ht (fun k e => e ▸ hB)
      by_cases hlt : k < v.len
      · obtain ⟨b, o, ha, hb, hc⟩ := hatr.flat.at_ k hlt
        rw [unhide HA] at ha
        subst ha
        have c0 := hc.c0
        have c1 := hc.c1
        have c2 := hc.c2
        have c3 := hc.c3
        go_wp2_with fail
        refine (unhide IH k hlt B _ p m d ((hatr.kid k hlt).turn (Turn.alloc (S := fun _ => False) _ _) (fun _ e => e.elim)) hB (parts_alloc hpr _) (by omega) hd).mono ?_
        rintro e w2 ⟨m2, rfl, hp2, hm2, hs2, ht2⟩
        have htt : Turn (· = p) w w2 := (ht.trans (Turn.alloc (S := fun x => x = p) wr _) (fun _ _ e => e)).trans ht2 (fun _ _ e => e)
        have HS2 := hide hs2
        clear hs2 c0 c1 c2 c3 hc
        cases hf : fit (v.kid k) m d with
        | true =>
          have HF := hide hf
          go_wp2_with fail
          go_roundw
          case rel =>
            refine ⟨k + 1, m2, by omega, by go_num, hp2, by omega, ⟨?_, ?_⟩, htt⟩
            · have h1 := unhide HS2 (unhide HF)
              have h2 := hS.out.1
              simp only [sumTo]; omega
            · have h1 := unhide HF
              rw [fit_def, Bool.and_eq_true] at h1
              simp only [allTo]
              rw [hS.out.2, h1.1]; rfl
          case measure => simp [intOf]; omega
        | false =>
          have HF := hide hf
          go_wp2_with fail
          go_ret
          have := fitAll_bad hlt hS.out.1 (unhide HF)
          exact ⟨m2, ret_bool this.symm, hp2, by omega, fun e => (by rw [this] at e; cases e), htt⟩
      · have : k = v.len := by omega
        subst this
        go_wp2_with fail
        go_ret
        exact ⟨m, ret_bool (fitAll_good (unhide H8) hS.out.1 hS.out.2).symm, hpr, hmn, fun _ => hS.out.1, ht⟩
  · have h8i : decide ((8 : Int) < (v.len : Int)) = true := decide_eq_true (by omega)
    have H := hide (fitAll_long (n := n) (d := d) h8)
    clear h8
    go_enter Tryd.func49, Tryd.ntmps49
    go_wp2_with fail
    go_ret
    exact ⟨n, ret_bool (unhide H).symm, hp, Nat.le_refl _, fun e => (by rw [unhide H] at e; cases e), Turn.refl _ _⟩

theorem may_con {v : V} (h : v.kind = 3) (d : Nat) : v.may d = (decide (0 < d) && decide (v.num = 0) && isWd v.str && decide (v.len ≤ 8) && allTo (fun i => (v.kid i).may (d - 1)) v.len) := by
  rw [V.may_eq, if_neg (by omega), if_neg (by omega), decide_eq_true h, Bool.true_and]

theorem fit_con {v : V} (h : v.kind = 3) (n d : Nat) : fit v (n + 1) (d + 1) = (decide (v.num = 0) && isWd v.str && fitAll v n d) := by
  rw [fit_def, may_con h, V.size_eq]
  unfold fitAll
  have e1 : decide (0 < d + 1) = true := decide_eq_true (by omega)
  have e2 : decide (1 + sumTo (fun i => (v.kid i).size) v.len ≤ n + 1) = decide (sumTo (fun i => (v.kid i).size) v.len ≤ n) := by
    by_cases h : sumTo (fun i => (v.kid i).size) v.len ≤ n
    · rw [decide_eq_true h, decide_eq_true (by omega)]
    · rw [decide_eq_false h, decide_eq_false (by omega)]
  rw [e1, e2, Nat.add_sub_cancel]
  simp [Bool.and_assoc]
theorem fit_con0 {v : V} (h : v.kind = 3) (n : Nat) : fit v n 0 = false := by
  rw [fit_def, may_con h]; rfl

set_option maxHeartbeats 2000000 in
theorem fits_con (v : V) (ih : ∀ i, i < v.len → FitsC (v.kid i)) (B : Nat) (w : World) (p n d : Nat) (hat : v.At B w) (hB : B ≤ p) (hp : Parts w p (n + 1)) (hn : n + 1 ≤ 1024) (hd : d ≤ 32) (hk : v.kind = 3) :
  Calls Tryd.prog 31 #[v.val, .pointer (some ⟨p, 0, .none⟩), .int .i64 (d : Int)] w fun e w' =>
    ∃ m : Nat, e = .returned (.bool (fit v (n + 1) d)) ∧ Parts w' p m ∧ m ≤ n ∧ (fit v (n + 1) d = true → m + v.size = n + 1) ∧ Turn (· = p) w w' := by
  have hpl := parts_lt hp
  have c0 := fun o => parts_cell (parts_alloc hp o)
  have f0 := fun o => parts_frozen (parts_alloc hp o)
  have hs := hat.flat.s
  have tp : Turn (· = p) w ((w.setCell ⟨p, 0, .none⟩ (.int .i64 (n : Int))).alloc (.cells #[.int .i64 3, .int .i64 v.num, .string v.str, .slice v.addr v.len v.cap] 32)) :=
    (Turn.setCell (S := fun x => x = p) _ _ _ rfl).trans (Turn.alloc (S := fun x => x = p) _ _) (fun _ _ h => h)
  have hpn := parts_alloc (parts_set (m := n) hp) (.cells #[.int .i64 3, .int .i64 v.num, .string v.str, .slice v.addr v.len v.cap] 32)
  have IH := hide ih
  clear ih
  rcases Nat.eq_zero_or_pos d with h0 | h0
  · subst h0
    have H := hide (fit_con0 hk (n + 1))
    go_enter Tryd.func31, Tryd.ntmps31
    go_wp2_with fail
    go_ret
    exact ⟨n, ret_bool (unhide H).symm, hpn, Nat.le_refl _, fun e => (by rw [unhide H] at e; cases e), tp⟩
  · obtain ⟨d, rfl⟩ : ∃ q, d = q + 1 := ⟨d - 1, by omega⟩
    have H := hide (fit_con hk n d)
    have HK := hide hk
    cases h1 : (v.num == 0)
    · have H1 : Hid (fit v (n + 1) (d + 1) = false) := by
        show _ = _
        rw [unhide H, decide_eq_false (by simpa using h1)]; rfl
      go_enter Tryd.func31, Tryd.ntmps31
      go_wp2_with fail
      go_ret
      exact ⟨n, ret_bool (unhide H1).symm, hpn, Nat.le_refl _, fun e => (by rw [unhide H1] at e; cases e), tp⟩
    · cases h2 : isWd v.str
      · have H1 : Hid (fit v (n + 1) (d + 1) = false) := by
          show _ = _
          rw [unhide H, h2]; simp
        go_enter Tryd.func31, Tryd.ntmps31
        go_wp2_with fail
        refine (isWord_any _ _ hs).mono ?_
        rintro e w' ⟨rfl, rfl⟩
        go_wp2_with fail
        go_ret
        exact ⟨n, ret_bool (unhide H1).symm, hpn, Nat.le_refl _, fun e => (by rw [unhide H1] at e; cases e), tp⟩
      · have H1 : Hid (fit v (n + 1) (d + 1) = fitAll v n d) := by
          show _ = _
          rw [unhide H, h2, decide_eq_true (by simpa using h1)]; rfl
        go_enter Tryd.func31, Tryd.ntmps31
        go_wp2_with fail
        refine (isWord_any _ _ hs).mono ?_
        rintro e w' ⟨rfl, rfl⟩
        go_wp2_with fail
        refine (allFit_any v (unhide IH) B _ p n d (hat.turn tp (fun k e => e ▸ hB)) hB hpn (by omega) (by omega)).mono ?_
        rintro e w2 ⟨m, rfl, hp2, hm2, hs2, ht2⟩
        have HS2 := hide hs2
        clear hs2
        go_wp2_with fail
        go_ret
        refine ⟨m, ret_bool ?_, hp2, hm2, fun e => ?_, tp.trans ht2 (fun _ _ e => e)⟩
        · rw [unhide H1]
        · rw [unhide H1] at e
          have := unhide HS2 e
          rw [V.size_eq]; omega

theorem fit_kind1 {v : V} (h : v.kind = 1) (n d : Nat) : fit v (n + 1) d = (decide (v.str.size = 0) && decide (v.len = 0)) ∧ (fit v (n + 1) d = true → v.size = 1) := by
  have e1 : v.may d = (decide (v.str.size = 0) && decide (v.len = 0)) := by rw [V.may_eq, if_pos h]
  rw [fit_def, e1]
  by_cases hl : v.len = 0
  · have : v.size = 1 := by rw [V.size_eq, hl]; rfl
    rw [this]
    simp
  · rw [decide_eq_false hl]; simp
theorem fit_kind2 {v : V} (h : v.kind = 2) (n d : Nat) : fit v (n + 1) d = (decide (v.num = 0) && decide (v.len = 0) && decide (v.str.size ≤ 65536)) ∧ (fit v (n + 1) d = true → v.size = 1) := by
  have e1 : v.may d = (decide (v.num = 0) && decide (v.len = 0) && decide (v.str.size ≤ 65536)) := by rw [V.may_eq, if_neg (by omega), if_pos h]
  rw [fit_def, e1]
  by_cases hl : v.len = 0
  · have : v.size = 1 := by rw [V.size_eq, hl]; rfl
    rw [this]
    simp
  · rw [decide_eq_false hl]; simp
theorem fit_kind0 {v : V} (h1 : ¬ v.kind = 1) (h2 : ¬ v.kind = 2) (h3 : ¬ v.kind = 3) (n d : Nat) : fit v n d = false := by
  rw [fit_def, V.may_eq, if_neg h1, if_neg h2, decide_eq_false h3]; rfl

theorem fits_any : ∀ v : V, FitsC v := by
  refine V.ind fun v ih => ?_
  intro B w p n d hat hB hp hn hd
  rcases n with _ | n
  · refine (fits_zero v w p d hp).mono ?_
    rintro e w' ⟨rfl, h1, h2⟩
    have : fit v 0 d = false := by rw [fit_def, decide_eq_false (by have := v.size_pos; omega)]; simp
    exact ⟨0, ret_bool this.symm, h1, Nat.le_refl _, fun e => (by rw [this] at e; cases e), h2⟩
  · by_cases h1 : v.kind = 1
    · refine (fits_num v w p n d hp (by omega) h1).mono ?_
      rintro e w' ⟨rfl, h2, h3⟩
      have := fit_kind1 h1 n d
      exact ⟨n, ret_bool this.1.symm, h2, by omega, fun e => by rw [this.2 e], h3⟩
    · by_cases h2 : v.kind = 2
      · refine (fits_sym v w p n d hp (by omega) h2 hat.flat.s).mono ?_
        rintro e w' ⟨rfl, h2', h3⟩
        have := fit_kind2 h2 n d
        exact ⟨n, ret_bool this.1.symm, h2', by omega, fun e => by rw [this.2 e], h3⟩
      · by_cases h3 : v.kind = 3
        · refine (fits_con v ih B w p n d hat hB hp hn hd h3).mono ?_
          rintro e w' ⟨m, rfl, h4, h5, h6, h7⟩
          exact ⟨m, rfl, h4, by omega, h6, h7⟩
        · refine (fits_not v w p n d hp (by omega) h1 h2 h3).mono ?_
          rintro e w' ⟨rfl, h4, h5⟩
          have := fit_kind0 h1 h2 h3 (n + 1) d
          exact ⟨n, ret_bool this.symm, h4, by omega, fun e => (by rw [this] at e; cases e), h5⟩

/-- term.Right. -/
theorem right_any (v : V) (B : Nat) (w : World) (hat : v.At B w) (hB : B ≤ w.heap.size) :
    Calls Tryd.prog 22 #[v.val] w fun e w' => e = .returned (.bool v.right) ∧ Below w.heap.size w w' := by
  go_enter Tryd.func22, Tryd.ntmps22
  go_wp2_with fail
  have b2 : Below w.heap.size w ((w.alloc (.cells #[.int .i64 v.kind, .int .i64 v.num, .string v.str, .slice v.addr v.len v.cap] 32)).alloc (.cells #[.int .i64 1024] 3)) :=
    ((Below.refl _ w).alloc (Nat.le_refl _) _).alloc (by simp) _
  have hp : Parts ((w.alloc (.cells #[.int .i64 v.kind, .int .i64 v.num, .string v.str, .slice v.addr v.len v.cap] 32)).alloc (.cells #[.int .i64 1024] 3)) (w.heap.size + 1) 1024 := by
    have := World.alloc_heap_new (w.alloc (.cells #[.int .i64 v.kind, .int .i64 v.num, .string v.str, .slice v.addr v.len v.cap] 32)) (.cells #[.int .i64 1024] 3)
    simpa [Parts] using this
  have hat2 := hat.below (b2.mono hB)
  have h := fits_any v B _ (w.heap.size + 1) 1024 32 hat2 (by omega) hp (Nat.le_refl _) (Nat.le_refl _)
  rw [show ((32 : Nat) : Int) = 32 from rfl] at h
  refine h.mono ?_
  clear h
  rintro e w' ⟨m, rfl, _, _, _, ht⟩
  have b3 : Below w.heap.size w w' := b2.trans (ht.below (by simp; omega) (fun k e => by omega))
  clear ht b2 hp hat2
  go_wp2_with fail
  go_ret
  exact ⟨rfl, b3⟩
end Go.Proofs.YtbfkcfhkccicoaaDoor
