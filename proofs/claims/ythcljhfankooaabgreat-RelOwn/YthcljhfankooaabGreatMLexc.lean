/- alike. near. slices.Compare. Rows, sorted. -/
import Derived.Test.YthcljhfankooaabGreatMMade
import Derived.Laws.BitsAllLaws
namespace Go.Proofs.YthcljhfankooaabGreat
open Go.RowKit Go.Shelf

/-- The same in these columns? -/
def likeB (cols : Int) (a b : List Int) : Bool := (List.range a.length).all fun c => !(cols.toNat.testBit c) || decide (a.getD c 0 = b.getD c 0)
def LkR (cols : Int) (a b : List Int) (w : World) (i : Value) (wr : World) : Prop := ∃ k : Nat, k ≤ a.length ∧ i = .int .i64 (k : Int) ∧ (∀ c, c < k → cols.toNat.testBit c = true → a.getD c 0 = b.getD c 0) ∧ ∃ n, wr = w.drewN n
theorem and_one' (q : Nat) (h : q < 4611686018427387904) : bits .and .i64 (q : Int) 1 = ((q % 2 : Nat) : Int) := by
  show IntKind.i64.wrap ((BitVec.ofInt 64 (q : Int) &&& BitVec.ofInt 64 1).toNat : Int) = _
  rw [BitVec.toNat_and, ofInt_u64 _ (by omega), show (BitVec.ofInt 64 1).toNat = 1 from rfl, Nat.and_one_is_mod, IntKind.wrap_i64]
  omega
/-- Bytes. -/
def BytesS (S : Nat → Prop) (w : World) (v : Value) (l : List Int) : Prop := Row S w v l.length (fun j => .int .u8 (l.getD j 0))
theorem bit_and (x : Nat) (c : Nat) (hx : x < 4611686018427387904) : bits .and .i64 ((x : Int) / 2 ^ c) 1 = if x.testBit c = true then 1 else 0 := by
  have h1 : ((x : Int) / 2 ^ c) = ((x / 2 ^ c : Nat) : Int) := by rw [Int.natCast_ediv, Int.natCast_pow]; rfl
  have h2 : x / 2 ^ c < 4611686018427387904 := Nat.lt_of_le_of_lt (Nat.div_le_self _ _) hx
  rw [h1, and_one' _ h2, Nat.testBit_eq_decide_div_mod_eq]
  rcases Nat.mod_two_eq_zero_or_one (x / 2 ^ c) with h | h
  · rw [h]; rfl
  · rw [h]; rfl

set_option maxRecDepth 100000 in
set_option maxHeartbeats 4000000 in
theorem likr_any (w : World) (cols : Nat) (a b : List Int) (av bv : Value) (hc : cols < 256) (ha : Ints w.heap.size w av a) (hb : Ints w.heap.size w bv b) (hl : a.length = b.length) (h8 : a.length ≤ 8) :
    Calls Tryz.prog 56 #[.int .i64 (cols : Int), av, bv] w fun e w' => e = .returned (.bool (likeB cols a b)) ∧ ∃ n, w' = w.drewN n := by
  obtain ⟨aa, ac, rfl, _⟩ := id ha
  obtain ⟨ba, bc, rfl, _⟩ := id hb
  have HA := hide (And.intro ha (And.intro hb hl))
  clear ha hb hl
  go_enter Tryz.func56, Tryz.ntmps56
  go_wp2_with fail
  go_loopw [10] (fun i wr => LkR cols a b w i wr) (fun i _ => a.length - (intOf i).toNat)
  case atStart => exact ⟨0, Nat.zero_le _, rfl, fun c hc => by omega, 0, rfl⟩
  case round =>
    obtain ⟨k, hk, rfl, hall, n, rfl⟩ := hrel
    obtain ⟨ha, hb, hl⟩ := unhide HA
    by_cases hlt : k < a.length
    · obtain ⟨p, po, e1, x1⟩ := ha.nat hlt
      obtain ⟨q, qo, e2, x2⟩ := hb.nat (k := k) (by omega)
      subst e1
      subst e2
      have hbit := bit_and cols k (by omega)
      have hlb : (k : Int) < (b.length : Int) := by omega
      have hga : a.getD k 0 = a[k] := by rw [List.getD_eq_getElem?_getD, List.getElem?_eq_getElem hlt]; rfl
      have hgb : b.getD k 0 = b[k] := by rw [List.getD_eq_getElem?_getD, List.getElem?_eq_getElem (by omega)]; rfl
      obtain ⟨va, hva⟩ : ∃ va, va = a[k] := ⟨_, rfl⟩
      obtain ⟨vb, hvb⟩ : ∃ vb, vb = b[k] := ⟨_, rfl⟩
      rw [← hva] at x1 hga
      rw [← hvb] at x2 hgb
      have y1 : (w.drewN n).cell? ⟨p, po + k, none⟩ = some (.int .i64 va) := x1
      have y2 : (w.drewN n).cell? ⟨q, qo + k, none⟩ = some (.int .i64 vb) := x2
      have HI := hide (And.intro hall (And.intro hga hgb))
      clear hall hga hgb ha hb hl hva hvb
      cases ht : cols.testBit k with
      | false =>
        rw [ht] at hbit
        simp only [Bool.false_eq_true, if_false] at hbit
        have HT := hide ht
        clear ht
        go_wp2_with fail
        go_quiet (fail)
        go_wp2_with fail
        go_roundw
        case rel =>
          refine ⟨k + 1, by omega, by go_num, fun c hc hb => ?_, _, rfl⟩
          by_cases e : c = k
          · subst e
            rw [Int.toNat_natCast, unhide HT] at hb
            cases hb
          · exact (unhide HI).1 c (by omega) hb
        case measure => simp [intOf]; omega
      | true =>
        rw [ht] at hbit
        simp only [if_true] at hbit
        have HT := hide ht
        clear ht
        by_cases hv : va = vb
        · go_wp2_with fail
          go_quiet (fail)
          go_wp2_with fail
          go_roundw
          case rel =>
            refine ⟨k + 1, by omega, by go_num, fun c hc hb => ?_, _, rfl⟩
            by_cases e : c = k
            · subst e
              rw [(unhide HI).2.1, (unhide HI).2.2, hv]
            · exact (unhide HI).1 c (by omega) hb
          case measure => simp [intOf]; omega
        · go_wp2_with fail
          go_quiet (fail)
          go_wp2_with fail
          go_ret
          refine ⟨?_, n + nq, World.drewN_drewN _ _ _⟩
          have : likeB cols a b = false := by
            unfold likeB
            rw [List.all_eq_false]
            refine ⟨k, List.mem_range.2 hlt, ?_⟩
            rw [Int.toNat_natCast, unhide HT, (unhide HI).2.1, (unhide HI).2.2]
            simp [hv]
          rw [this]; rfl
    · have hg : ¬ ((k : Int) < (a.length : Int)) := by omega
      have HI := hide hall
      clear hall ha hb hl
      go_wp2_with fail
      go_ret
      refine ⟨?_, _, rfl⟩
      have : likeB cols a b = true := by
        unfold likeB
        rw [List.all_eq_true]
        intro c hc
        have hc := List.mem_range.1 hc
        cases hbt : (cols : Int).toNat.testBit c with
        | false => rfl
        | true => rw [unhide HI c (by omega) hbt]; simp
      rw [this]; rfl
end Go.Proofs.YthcljhfankooaabGreat

namespace Go.Proofs.YthcljhfankooaabGreat
open Go.RowKit Go.Shelf

/-- What is alike in the columns of a search has its order's head. -/
theorem like_head {o y t : List Int} {cols : Nat} (hr : right o = true) (hy : y.length = o.length) (ht : t.length = o.length) (h : likeB cols y t = true) : headA o (C.coverN o cols) y t = true := by
  have hfit : fitN o [y.length, t.length] = true := by simp [fitN, hr, hy, ht]
  unfold headA
  rw [hfit, Bool.true_and]
  refine decide_eq_true ?_
  unfold likeB at h
  rw [List.all_eq_true] at h
  have h : ∀ c, c < y.length → cols.testBit c = true → y.getD c 0 = t.getD c 0 := fun c hc hb => by
    have := h c (List.mem_range.2 hc)
    rw [Int.toNat_natCast, hb] at this
    simpa using this
  cases hc : C.coverB o cols with
  | false =>
    have : C.coverN o cols = 0 := by unfold C.coverN; rw [hc]; rfl
    rw [this]
    simp
  | true =>
    have hc2 := hc
    unfold C.coverB at hc2
    rw [hr, Bool.true_and, List.any_eq_true] at hc2
    obtain ⟨n, hn, hm⟩ := hc2
    have hn := List.mem_range.1 hn
    have hm : (mask (o.take n) : Int) = (cols : Int) := of_decide_eq_true hm
    have hN := (C.cover_yes hr (n := n) (by omega) hm).1
    rw [hN, Int.toNat_natCast]
    unfold turn
    rw [← List.map_take, ← List.map_take]
    apply List.map_congr_left
    intro i hi
    have hin := (right_in hr).2 i (List.mem_of_mem_take hi)
    have hbit : cols.testBit i.toNat = true := by
      have e : mask (o.take n) = cols := by omega
      rw [← e, mask_bit, List.any_eq_true]
      exact ⟨i, hi, by simp⟩
    have := h i.toNat (by omega) hbit
    simpa [at_] using this
theorem pick_lt {os : List (List Int)} {s : Int} (h : 0 < os.length) : ∃ j : Nat, j < os.length ∧ C.pickN os s = (j : Int) := by
  unfold C.pickN
  cases hp : C.pickI os s with
  | none => exact ⟨0, h, rfl⟩
  | some j =>
    unfold C.pickI at hp
    rw [List.find?_range_eq_some] at hp
    exact ⟨j, by simpa using hp.2.1, rfl⟩

/-- What near goes over. -/
def NearOk (w : World) (cols : Nat) (t : List Int) (ns : List Nrow) (S : Nat → Prop) (e : Ending) (w' : World) : Prop := ∃ lb its, e = .returned (.func (.func 95) #[] lb) ∧ GoesH 95 lb its (fun b => S b ∧ b < w'.heap.size) w' ∧ its.length ≤ 1024 ∧ (its.map (·.2)).Nodup ∧ (∀ x ∈ its.map (·.2), x ∈ nKeys ns) ∧ (∀ x ∈ nKeys ns, likeB cols x t = true → x ∈ its.map (·.2)) ∧ Below w.heap.size w w'
set_option maxRecDepth 100000 in
set_option maxHeartbeats 4000000 in
theorem near_any [Xt] (w0 w : World) (hb mb wd : Nat) (sh : List (Nat × Nat)) (os : List (List Int)) (ns : List Nrow) (h0 : HAt w0 hb mb sh wd os ns) (hbw : Below w0.heap.size w0 w) (t : List Int) (tv : Value) (ht : Ints w.heap.size w tv t) (hl : t.length = wd) (cols : Nat) :
    Calls Tryz.prog 55 #[.pointer (some ⟨hb, 0, none⟩), .int .i64 (cols : Int), tv] w fun e w' => NearOk w cols t ns (fun b => Fre hb mb sh b ∧ (b < w0.heap.size ∨ w.heap.size ≤ b)) e w' := by
  have h := h0.later hbw
  obtain ⟨ov, sv, hh, hL, hR⟩ := h.mem
  have hpk := C.pick_any (Fre hb mb sh) w ov os hL (cols : Int)
  obtain ⟨j, hj, ej⟩ := pick_lt (s := (cols : Int)) h.pos
  rw [ej] at hpk
  have hc1 : w.cell? ⟨hb, 1, none⟩ = some ov := by rw [cell_at hh]; rfl
  have hc2 : w.cell? ⟨hb, 2, none⟩ = some sv := by rw [cell_at hh]; rfl
  obtain ⟨f, ⟨oa, oc, rfl, _, _, hoc⟩, hin⟩ := id hL
  obtain ⟨sa, sc, rfl, _, _, hsc⟩ := id hR
  obtain ⟨g1, o1, rfl, _, hcell1⟩ := hoc j hj
  obtain ⟨g2, o2, rfl, _, hcell2⟩ := hsc j hj
  have hor := hin j hj
  obtain ⟨xa, xc, ex, _⟩ := id hor
  rw [ex] at hcell1 hor
  have hcv := C.cover_any w.heap.size w _ (os.getD j []) (cols : Int) hor.ints
  obtain ⟨xs, hT0, hx1, hx2⟩ := h0.sets j hj
  have hT : SetT (fun b => Fre hb mb sh b ∧ (b < w0.heap.size ∨ w.heap.size ≤ b)) w _ _ (os.getD j []) xs := (hT0.mono (S' := fun b => Fre hb mb sh b ∧ (b < w0.heap.size ∨ w.heap.size ≤ b)) (fun b hb1 hs => ⟨hs, .inl hb1⟩) (fun hs => hs.1.1 (by
    have := sh_in (sh := sh) h.len hj
    simp only [Dk, List.mem_cons]; exact .inr (.inr this)))).later hbw
  have hok := h.ok (os.getD j []) (by rw [List.getD_eq_getElem?_getD, List.getElem?_eq_getElem hj]; exact List.getElem_mem hj)
  have hrg := range_T (fun b => Fre hb mb sh b ∧ (b < w0.heap.size ∨ w.heap.size ≤ b)) w _ _ (os.getD j []) t (C.coverN (os.getD j []) cols) xs tv hT ht (by have := h.wd8; omega) (fun b hb1 => ⟨h.new b hb1, .inr hb1⟩)
  have HG : Hid (∀ e w', (∃ lb its, e = .returned (.func (.func 95) #[] lb) ∧ GoesH 95 lb its (fun b => (Fre hb mb sh b ∧ (b < w0.heap.size ∨ w.heap.size ≤ b)) ∧ b < w'.heap.size) w' ∧ its.map (·.2) = xs.filter (fun y => headA (os.getD j []) (C.coverN (os.getD j []) cols) y t) ∧ its.length ≤ 1024 ∧ Below w.heap.size w w') → NearOk w cols t ns (fun b => Fre hb mb sh b ∧ (b < w0.heap.size ∨ w.heap.size ≤ b)) e w') := fun e w' ⟨lb, its, e1, e2, e3, e4, e5⟩ => by
    have hup := hT.up
    refine ⟨lb, its, e1, e2, e4, ?_, ?_, ?_, e5⟩
    · rw [e3]
      refine List.Nodup.sublist List.filter_sublist ?_
      refine List.Pairwise.imp_of_mem (fun {a b} _ hb hab e => ?_) hup.1
      rw [e, cmpA_self _ _ hok.1 (hup.2.1 b hb)] at hab
      omega
    · intro x hx
      rw [e3] at hx
      exact (hx1 x).1 (List.mem_filter.1 hx).1
    · intro x hx hlk
      rw [e3]
      have hm := (hx1 x).2 hx
      exact List.mem_filter.2 ⟨hm, like_head hok.1 (hup.2.1 x hm) (by rw [hl]; exact hok.2.symm) hlk⟩
  have hcell3 : w.cell? ⟨g2, o2 + j, none⟩ = some (.pointer (some ⟨(sh.getD j (0, 0)).1, 0, none⟩)) := hcell2
  clear hcell2
  generalize hsb : (sh.getD j (0, 0)).1 = sb at hcell3 hrg
  generalize C.coverN (os.getD j []) cols = cn at hcv hrg HG
  generalize C.coverB (os.getD j []) cols = cb at hcv
  generalize C.pickB os cols = pb at hpk
  generalize hon : (os.getD j []).length = on at hcell1 hcv
  obtain ⟨ta, tc, rfl, _⟩ := id ht
  have hji : (j : Int) < (os.length : Int) := by omega
  clear h h0 hT0 hbw hh hL hR hoc hin hsc hor hT hx1 hx2 hok ht hl ej ex hsb hon
  go_enter Tryz.func55, Tryz.ntmps55
  go_wp2_with fail
  refine hpk.mono ?_
  clear hpk
  rintro e w1 ⟨rfl, hw1⟩
  subst hw1
  go_wp2_with fail
  refine hcv.mono ?_
  clear hcv
  rintro e w2 ⟨rfl, hw2⟩
  subst hw2
  go_wp2_with fail
  refine hrg.mono ?_
  clear hrg
  rintro e w3 hh
  have hN := unhide HG e w3 hh
  obtain ⟨lb, its, e1, _⟩ := hh
  subst e1
  have HN := hide hN
  clear hN
  go_wp2_with fail
  go_ret
  exact unhide HN
end Go.Proofs.YthcljhfankooaabGreat

namespace Go.Proofs.YthcljhfankooaabGreat
open Go.RowKit Go.Shelf

/-- By the first number in which they are unlike. -/
def lexC : List Int → List Int → Int
  | [], [] => 0
  | [], _ :: _ => -1
  | _ :: _, [] => 1
  | a :: x, b :: y => if a < b then -1 else if b < a then 1 else lexC x y
theorem lexC_self : ∀ x, lexC x x = 0
  | [] => rfl
  | a :: x => by simp [lexC, lexC_self x]
theorem lexC_drop {x y : List Int} {k : Nat} (hx : k < x.length) (hy : k < y.length) : lexC (x.drop k) (y.drop k) = if x[k] < y[k] then -1 else if y[k] < x[k] then 1 else lexC (x.drop (k + 1)) (y.drop (k + 1)) := by
  rw [List.drop_eq_getElem_cons hx, List.drop_eq_getElem_cons hy]
  rfl
theorem lexC_eq : ∀ {x y : List Int}, lexC x y = 0 → x = y
  | [], [], _ => rfl
  | [], _ :: _, h => by simp [lexC] at h
  | _ :: _, [], h => by simp [lexC] at h
  | a :: x, b :: y, h => by
    unfold lexC at h
    split at h
    · cases h
    · split at h
      · cases h
      · rw [lexC_eq h, show a = b by omega]
theorem lexC_lt_trans : ∀ {x y z : List Int}, lexC x y < 0 → lexC y z < 0 → lexC x z < 0
  | [], [], _, h, _ => by simp [lexC] at h
  | [], _ :: _, [], _, h => by simp [lexC] at h
  | [], _ :: _, _ :: _, _, _ => by simp [lexC]
  | _ :: _, [], _, h, _ => by simp [lexC] at h
  | _ :: _, _ :: _, [], _, h => by simp [lexC] at h
  | a :: x, b :: y, c :: z, h1, h2 => by
    unfold lexC at h1 h2 ⊢
    split at h1
    · split at h2
      · rw [if_pos (by omega)]; omega
      · split at h2
        · omega
        · rw [if_pos (by omega)]; omega
    · split at h1
      · omega
      · split at h2
        · rw [if_pos (by omega)]; omega
        · split at h2
          · omega
          · rw [if_neg (by omega), if_neg (by omega)]
            exact lexC_lt_trans h1 h2
theorem lexC_swap : ∀ x y, lexC y x = - lexC x y
  | [], [] => rfl
  | [], _ :: _ => rfl
  | _ :: _, [] => rfl
  | a :: x, b :: y => by
    have ih := lexC_swap x y
    unfold lexC
    by_cases h1 : a < b
    · rw [if_neg (by omega), if_pos h1, if_pos h1]; rfl
    · by_cases h2 : b < a
      · rw [if_pos h2, if_neg h1, if_pos h2]
      · rw [if_neg h2, if_neg h1, if_neg h1, if_neg h2, ih]
theorem lexC_range : ∀ x y, lexC x y = -1 ∨ lexC x y = 0 ∨ lexC x y = 1
  | [], [] => .inr (.inl rfl)
  | [], _ :: _ => .inl rfl
  | _ :: _, [] => .inr (.inr rfl)
  | a :: x, b :: y => by
    unfold lexC
    split
    · exact .inl rfl
    · split
      · exact .inr (.inr rfl)
      · exact lexC_range x y

def LxR (x y : List Int) (w : World) (i : Value) (wr : World) : Prop := ∃ k : Nat, k ≤ x.length ∧ k ≤ y.length ∧ i = .int .i64 (k : Int) ∧ lexC x y = lexC (x.drop k) (y.drop k) ∧ ∃ n, wr = w.drewN n
end Go.Proofs.YthcljhfankooaabGreat

namespace Go.Proofs.YthcljhfankooaabGreat
open Go.RowKit Go.Shelf

set_option maxRecDepth 100000 in
set_option maxHeartbeats 4000000 in
theorem lexc_any (w : World) (x y : List Int) (xv yv : Value) (hx : Ints w.heap.size w xv x) (hy : Ints w.heap.size w yv y) :
    Calls Tryz.prog 59 #[xv, yv] w fun e w' => e = .returned (.int .i64 (lexC x y)) ∧ ∃ n, w' = w.drewN n := by
  obtain ⟨xa, xc, rfl, hx1, hx2, _⟩ := id hx
  obtain ⟨ya, yc, rfl, hy1, hy2, _⟩ := id hy
  have HA := hide (And.intro hx hy)
  have hcmp := fun a b w => compare_any a b w
  clear hx hy
  go_enter Tryz.func59, Tryz.ntmps59
  go_wp2_with fail
  go_loopw [11] (fun i wr => LxR x y w i wr) (fun i _ => x.length - (intOf i).toNat)
  case atStart => exact ⟨0, Nat.zero_le _, Nat.zero_le _, rfl, rfl, 0, rfl⟩
  case round =>
    obtain ⟨k, hk1, hk2, rfl, hL, n, rfl⟩ := hrel
    obtain ⟨hx, hy⟩ := unhide HA
    have HL := hide hL
    clear hL
    by_cases hlx : k < x.length
    · obtain ⟨p, po, e1, x1⟩ := hx.nat hlx
      subst e1
      have y1 : (w.drewN n).cell? ⟨p, po + k, none⟩ = some (.int .i64 x[k]) := x1
      by_cases hly : k < y.length
      · obtain ⟨q, qo, e2, x2⟩ := hy.nat hly
        subst e2
        have y2 : (w.drewN n).cell? ⟨q, qo + k, none⟩ = some (.int .i64 y[k]) := x2
        have HD := hide (lexC_drop hlx hly)
        obtain ⟨va, hva⟩ : ∃ va, va = x[k] := ⟨_, rfl⟩
        obtain ⟨vb, hvb⟩ : ∃ vb, vb = y[k] := ⟨_, rfl⟩
        rw [← hva] at x1 y1 HD
        rw [← hvb] at x2 y2 HD
        have hnb : ¬ ((y.length : Int) ≤ (k : Int)) := by omega
        clear hx hy hva hvb
        by_cases h1 : va < vb
        · have H1 := hide h1
          have hc : cmpI va vb = -1 := if_pos h1
          have hcm := hcmp va vb (w.drewN n)
          rw [hc] at hcm
          clear hc
          go_wp2_with fail
          refine hcm.mono ?_
          clear hcm
          rintro e w1 ⟨rfl, hw1⟩
          subst hw1
          go_wp2_with fail
          go_ret
          exact ⟨by rw [unhide HL, unhide HD, if_pos (unhide H1)]; rfl, n, rfl⟩
        · have H1 := hide h1
          by_cases h2 : vb < va
          · have H2 := hide h2
            have hc : cmpI va vb = 1 := by unfold cmpI; rw [if_neg h1, if_pos h2]
            have hcm := hcmp va vb (w.drewN n)
            rw [hc] at hcm
            clear hc
            go_wp2_with fail
            refine hcm.mono ?_
            clear hcm
            rintro e w1 ⟨rfl, hw1⟩
            subst hw1
            go_wp2_with fail
            go_ret
            exact ⟨by rw [unhide HL, unhide HD, if_neg (by have := unhide H1; omega), if_pos (by have := unhide H2; omega)]; rfl, n, rfl⟩
          · have H2 := hide h2
            have hc : cmpI va vb = 0 := by unfold cmpI; rw [if_neg h1, if_neg h2]
            have hcm := hcmp va vb (w.drewN n)
            rw [hc] at hcm
            clear hc
            go_wp2_with fail
            refine hcm.mono ?_
            clear hcm
            rintro e w1 ⟨rfl, hw1⟩
            subst hw1
            go_wp2_with fail
            go_roundw
            case rel => exact ⟨k + 1, by omega, by omega, by go_num, by rw [unhide HL, unhide HD, if_neg (by have := unhide H1; omega), if_neg (by have := unhide H2; omega)], n, rfl⟩
            case measure => simp [intOf]; omega
      · have hyk : y.length = k := by omega
        have HR : Hid (lexC x y = 1) := by
          have hd : y.drop k = [] := List.drop_eq_nil_of_le (by omega)
          rw [unhide HL, List.drop_eq_getElem_cons hlx, hd]
          exact hide rfl
        have hnb : ((y.length : Int) ≤ (k : Int)) := by omega
        clear hx hy hyk
        go_wp2_with fail
        go_ret
        exact ⟨by rw [unhide HR]; rfl, n, rfl⟩
    · have hg : ¬ ((k : Int) < (x.length : Int)) := by omega
      by_cases hly : k < y.length
      · have HR : Hid (lexC x y = -1) := by
          have hd : x.drop k = [] := List.drop_eq_nil_of_le (by omega)
          rw [unhide HL, hd, List.drop_eq_getElem_cons hly]
          exact hide rfl
        have hlt : ((x.length : Int) < (y.length : Int)) := by omega
        clear hx hy
        go_wp2_with fail
        go_ret
        exact ⟨by rw [unhide HR]; rfl, n, rfl⟩
      · have HR : Hid (lexC x y = 0) := by
          have hd : x.drop k = [] := List.drop_eq_nil_of_le (by omega)
          have hd2 : y.drop k = [] := List.drop_eq_nil_of_le (by omega)
          rw [unhide HL, hd, hd2]
          exact hide rfl
        have hlt : ¬ ((x.length : Int) < (y.length : Int)) := by omega
        clear hx hy
        go_wp2_with fail
        go_ret
        exact ⟨by rw [unhide HR]; rfl, n, rfl⟩

set_option maxRecDepth 100000 in
set_option maxHeartbeats 4000000 in
theorem found1_any (W : World) (u v nx ny : Value) (x y : List Int) (hx : Ints W.heap.size W u x) (hy : Ints W.heap.size W v y) :
    Calls Tryz.prog 58 #[.agg #[u, nx], .agg #[v, ny]] W fun e w' => e = .returned (.int .i64 (lexC x y)) ∧ ∃ q os', w' = Sort.grow (W.drewN q) os' := by
  obtain ⟨W2, hW2⟩ : ∃ W2, W2 = (W.alloc (.cells #[u, nx] 91)).alloc (.cells #[v, ny] 91) := ⟨_, rfl⟩
  have b2 : Below W.heap.size W W2 := by rw [hW2]; exact ((Below.refl _ W).alloc (Nat.le_refl _) _).alloc (by simp) _
  have hcm := lexc_any W2 x y u v ((hx.below b2 (Nat.le_refl _)).mono b2.size) ((hy.below b2 (Nat.le_refl _)).mono b2.size)
  have g1 : W2.heap[W.heap.size]? = some (.cells #[u, nx] 91 (0, 0)) := by
    rw [hW2]
    exact (((Below.refl _ (W.alloc (.cells #[u, nx] 91))).alloc (Nat.le_refl _) _).block _ (by simp)).trans (World.alloc_heap_new W _)
  have g2 : W2.heap[W.heap.size + 1]? = some (.cells #[v, ny] 91 (0, 0)) := by
    have := World.alloc_heap_new (W.alloc (.cells #[u, nx] 91)) (.cells #[v, ny] 91)
    rw [World.size_alloc] at this
    rw [hW2]; exact this
  have c1 : W2.cell? ⟨W.heap.size, 0, none⟩ = some u := by rw [cell_at g1]; rfl
  have c2 : W2.cell? ⟨W.heap.size + 1, 0, none⟩ = some v := by rw [cell_at g2]; rfl
  have HW := hide hW2
  obtain ⟨ua, uc, rfl, _⟩ := id hx
  obtain ⟨va, vc, rfl, _⟩ := id hy
  clear hx hy b2 g1 g2 hW2
  go_enter Tryz.func58, Tryz.ntmps58
  go_wp2_with fail
  rw [← unhide HW]
  refine hcm.mono ?_
  clear hcm
  rintro e w3 ⟨rfl, n, hw3⟩
  have H3 := hide hw3
  clear hw3 c1 c2
  go_wp2_with fail
  go_ret
  refine ⟨rfl, n, #[.cells #[.slice ua x.length uc, nx] 91, .cells #[.slice va y.length vc, ny] 91], ?_⟩
  rw [unhide H3, unhide HW, Sort.alloc_eq_grow, Sort.alloc_eq_grow, Sort.grow_grow]
  rfl

/-- A row to be sorted: its tuple lies apart. -/
abbrev Srow (B : Nat → Prop) (w : World) : Type := { p : Value × List Int × Value // IntsS B w p.1 p.2.1 ∧ p.2.2.oneCell' = true }
theorem srow_one (B : Nat → Prop) (w : World) : Nonempty (Srow B w) := ⟨⟨(.slice none 0 0, [], .bool false), IntsS.nil _ _, rfl⟩⟩
def encR {B : Nat → Prop} {w : World} (x : Srow B w) : List Value := [x.1.1, x.1.2.2]
def cmpR {B : Nat → Prop} {w : World} (x y : Srow B w) : Int := lexC x.1.2.1 y.1.2.1
theorem swoR (B : Nat → Prop) (w : World) : Sort.SWO (ltOf (cmpR (B := B) (w := w))) where
  irrefl x := by unfold ltOf cmpR; rw [lexC_self]; rfl
  trans x y z h1 h2 := by
    unfold ltOf cmpR at *
    exact decide_eq_true (lexC_lt_trans (of_decide_eq_true h1) (of_decide_eq_true h2))
  ntrans x y z h1 h2 := by
    unfold ltOf cmpR at *
    have h1 : ¬ lexC x.1.2.1 y.1.2.1 < 0 := of_decide_eq_false h1
    have h2 : ¬ lexC y.1.2.1 z.1.2.1 < 0 := of_decide_eq_false h2
    refine decide_eq_false (fun h3 => ?_)
    have s1 := lexC_swap x.1.2.1 y.1.2.1
    have s2 := lexC_swap y.1.2.1 z.1.2.1
    rcases Int.lt_or_eq_of_le (show lexC y.1.2.1 x.1.2.1 ≤ 0 by omega) with a | a
    · rw [lexC_swap] at h3
      have : lexC y.1.2.1 z.1.2.1 < 0 := lexC_lt_trans a (by rw [lexC_swap]; exact h3)
      omega
    · rw [lexC_eq a] at h2
      omega
theorem sortw_same {B : Nat → Prop} {w : World} [Inhabited (Srow B w)] {blk m : Nat} {dk : Array (Srow B w)} {os : Array Obj} {b : Nat} (hb : b < w.heap.size) (hne : b ≠ blk) : (sortWorldK encR 2 w blk 0 m dk os).heap[b]? = w.heap[b]? := by
  unfold sortWorldK Sort.grow Sort.putRowK Sort.putRow Sort.mapBlock
  show ((_ : Array Obj) ++ os)[b]? = _
  rw [Array.getElem?_append_left (by simpa using hb)]
  show (Array.modify _ _ _)[b]? = _
  rw [Array.getElem?_modify, if_neg (Ne.symm hne)]
  rfl
theorem sortw_size {B : Nat → Prop} {w : World} [Inhabited (Srow B w)] {blk m : Nat} {dk : Array (Srow B w)} {os : Array Obj} : w.heap.size ≤ (sortWorldK encR 2 w blk 0 m dk os).heap.size := by
  unfold sortWorldK Sort.grow Sort.putRowK Sort.putRow Sort.mapBlock
  show _ ≤ ((_ : Array Obj) ++ os).size
  simp
theorem sort_any (B : Nat → Prop) (w : World) (blk cap : Nat) [Inhabited (Srow B w)] (d : Array (Srow B w)) (hB : ¬ B blk) (hH : Sort.HoldsK encR 2 w blk 0 d) (hblk : blk < w.heap.size) (hsz : d.size < 4611686018427387904) :
    Calls Tryz.prog 57 #[.slice (some ⟨blk, 0, none⟩) d.size cap, .func (.func 58) #[] #[]] w fun e w' => e = .returned (.tuple #[]) ∧ ∃ d' n os, Sort.PermIn 0 d.size d d' ∧ Sort.SortedIn (ltOf (cmpR (B := B) (w := w))) 0 d.size d' ∧ w' = sortWorldK encR 2 w blk 0 n d' os := by
  have eg : ∀ args w, (callFunc 58 args).run Tryz.prog w = .ok (.enter 58 args) w := enters_of Tryz.func58 (by kernel_rfl) rfl
  refine AnyQ.slices_SortFunc Tryz.sortRow 2 Tryz.isAgg91 Tryz.sizeOf91 encR (fun _ => rfl) (fun x v hv => ?_) cmpR (swoR B w) 58 #[] blk 0 cap d w eg (fun m os dk _ x y => ?_) hH hblk hsz
  · simp only [encR, List.mem_cons, List.not_mem_nil, or_false] at hv
    rcases hv with rfl | rfl
    · obtain ⟨a, c, e, _⟩ := x.2.1
      rw [e]; rfl
    · exact x.2.2
  · have st : Stays B w (sortWorldK encR 2 w blk 0 m dk os) := ⟨sortw_size, fun b o hb _ hs => by
      have hne : b ≠ blk := fun e => hB (e ▸ hs)
      rw [sortw_same (lt_heap hb) hne]; exact hb⟩
    exact found1_any _ _ _ _ _ _ _ (x.2.1.stays st).ints (y.2.1.stays st).ints
end Go.Proofs.YthcljhfankooaabGreat
