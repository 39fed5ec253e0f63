/- Walks of Back, of the document's Back and of the document's Turn. -/
import Derived.Test.YtklmhgljhmodlaaTurns
namespace Go.Proofs.Ytklmhgljhmodlaa
open Go.RowKit

def BRel (w : World) (g : Nat) (o t : List Int) (i : Value) (wr : World) : Prop := ∃ k : Nat, k ≤ o.length ∧ i = .int .i64 k ∧ OwnI w.heap.size wr (.slice (some ⟨g, 0, none⟩) o.length o.length) (backTo o t k) ∧ Below w.heap.size w wr
theorem OwnI.drew {base : Nat} {w : World} {v : Value} {l : List Int} (h : OwnI base w v l) : OwnI base w.drew v l := World.ownsRow.drew h
theorem backTo_next {o t : List Int} {k : Nat} {x p : Int} (hk : k < o.length) (hx : x = o[k]) (hp : p = t.getD k 0) : backTo o t (k + 1) = (backTo o t k).set x.toNat p := by
  subst hx hp
  simp [backTo, List.getD, List.getElem?_eq_getElem hk]

set_option maxRecDepth 100000 in
set_option maxHeartbeats 4000000 in
theorem back_any (B : Nat) (w : World) (u v : Value) (o t : List Int) (hB : B ≤ w.heap.size) (ho : Ints B w u o) (ht : Ints B w v t) :
    Calls Try.prog 18 #[u, v] w fun e w' => ∃ r, e = .returned r ∧ OwnI w.heap.size w' r (backA o t) ∧ Below w.heap.size w w' := by
  have HO := hide ho
  have HT := hide ht
  obtain ⟨a, cap, rfl, hc1, hc2, _⟩ := ho
  obtain ⟨a2, cap2, rfl, hd1, hd2, _⟩ := ht
  obtain ⟨i0, hi, hz0, hz1, hz2⟩ := info_parts info3
  have HI := hide (And.intro hi (And.intro hz0 (And.intro hz1 hz2)))
  clear hi hz0 hz1 hz2
  go_enter Try.func18, Try.ntmps18
  go_wp2_with fail
  have b1 := one_below w (.slice a2 t.length cap2)
  have hw2 := one_widths w a2 t.length cap2
  generalize w.alloc (.cells #[.slice a2 t.length cap2] 22) = w1 at b1 hw2 ⊢
  refine (fit1_any B w1 _ o ((unhide HO).below b1 hB) w.heap.size t.length hw2).mono ?_
  rintro e w' ⟨rfl, rfl⟩
  cases hf : fitN o [t.length] with
  | false =>
    have H := hide (backA_not hf)
    clear hf hw2
    go_wp2_with fail
    go_ret
    exact ⟨_, rfl, by rw [unhide H]; exact OwnI.nil _ _, b1⟩
  | true =>
    have HF := hide hf
    have B1 := hide b1
    have h8 : o.length ≤ 8 := (right_in (fitN_one hf).2).1
    have hs1 : w.heap.size ≤ w'.heap.size := b1.size
    clear hf hw2 b1
    go_wp2_with (at_make; refine wpList_make_full _ rfl _ _ 22 rfl w.heap.size 3 i0 (.int .i64 0) 1 Try.underlying22 (unhide HI).1 (unhide HI).2.1 (unhide HI).2.2.1 _ _ _ _ o.length rfl rfl rfl rfl (by rw [(unhide HI).2.2.2]; omega) (by unfold maxLen; omega) hs1 ?_; intro w2 hown hgrow)
    have b2 : Below w.heap.size w w2 := (unhide B1).grown hgrow hs1 (fun k e => by cases e)
    have hO : OwnI w.heap.size w2 (.slice (some ⟨w'.heap.size, 0, none⟩) o.length o.length) (backTo o t 0) := OwnI.made hown
    generalize w'.heap.size = g at hO ⊢
    have HO2 := hide hO
    have B2 := hide b2
    clear hown hgrow b2 hO B1
    go_wp2_with fail
    go_loopw [17] (fun i wr => BRel w g o t i wr) (fun i _ => o.length - (intOf i).toNat)
    case atStart => exact ⟨0, Nat.zero_le _, rfl, unhide HO2, unhide B2⟩
    case round =>
      obtain ⟨k, hk, rfl, hr, hb⟩ := hrel
      have HR := hide hr
      have HB := hide hb
      clear HO2 B2
      by_cases hlt : k < o.length
      · obtain ⟨b0, o0, b1, o1, x, rfl, rfl, hx, x0, x1, x2, y0, _, y1, _, _⟩ := cols2 ((unhide HO).below hb hB) ((unhide HT).below hb hB) (unhide HF) hlt
        have hkt : k < t.length := by have := (fitN_one (unhide HF)).1; omega
        obtain ⟨z0, z1⟩ := hr.cell (j := x.toNat) (by rw [backTo_length]; omega)
        obtain ⟨p, hp⟩ : ∃ p, p = t.getD k 0 := ⟨_, rfl⟩
        have HN := hide (backTo_next hlt hx hp)
        rw [← hp] at y1
        generalize (backTo o t k)[x.toNat]'_ = c0 at z0
        clear hx hb hr hp
        go_wp2_with fail
        refine region_tail 10 (by kernel_rfl) (by kernel_rfl) ?_
        simp only [List.take_succ_cons, List.take_zero, List.drop_succ_cons, List.drop_zero]
        repeat still_step
        refine wpStill_nil ?_
        go_wp2_with fail
        go_roundw
        case rel =>
          refine ⟨k + 1, by omega, by go_num, ?_, (unhide HB).drew.setCell (OwnI.base_le (unhide HR)) _⟩
          rw [unhide HN]
          exact (unhide HR).drew.stored (backTo_length _ _ _).symm x.toNat p
        case measure => simp [intOf]; omega
      · have hk2 : k = o.length := by omega
        have HN : Hid (OwnI w.heap.size wr (.slice (some ⟨g, 0, none⟩) o.length o.length) (backA o t)) := by
          show OwnI _ _ _ _
          rw [backA_fit (unhide HF), back]
          rw [hk2] at hr
          exact hr
        clear hb hk2 hr
        go_wp2_with fail
        go_ret
        exact ⟨_, rfl, unhide HN, unhide HB⟩

set_option maxRecDepth 100000 in
set_option maxHeartbeats 4000000 in
theorem rback_any (B : Nat) (w : World) (u v : Value) (o t : List Int) (hB : B ≤ w.heap.size) (ho : Ints B w u o) (ht : Ints B w v t) :
    Calls Try.prog 19 #[u, v] w fun e w' => ∃ r, e = .returned r ∧ OwnI w.heap.size w' r (backA o t) ∧ Below w.heap.size w w' := by
  have HO := hide ho
  have HT := hide ht
  obtain ⟨a, cap, rfl, hc1, hc2, _⟩ := ho
  obtain ⟨a2, cap2, rfl, hd1, hd2, _⟩ := ht
  obtain ⟨i0, hi, hz0, hz1, hz2⟩ := info_parts info3
  have HI := hide (And.intro hi (And.intro hz0 (And.intro hz1 hz2)))
  clear hi hz0 hz1 hz2
  go_enter Try.func19, Try.ntmps19
  go_wp2_with fail
  refine (fits_any B w _ _ _ o t t (unhide HO) (unhide HT) (unhide HT)).mono ?_
  rw [fitN_twice]
  rintro e w' ⟨rfl, rfl⟩
  cases hf : fitN o [t.length] with
  | false =>
    have H := hide (backA_not hf)
    clear hf
    go_wp2_with fail
    go_ret
    exact ⟨_, rfl, by rw [unhide H]; exact OwnI.nil _ _, Below.refl _ _⟩
  | true =>
    have HF := hide hf
    have ht8 := (fitN_one hf).1
    have HT8 := hide ht8
    have h8 : t.length ≤ 8 := by rw [ht8]; exact (right_in (fitN_one hf).2).1
    clear hf ht8
    go_wp2_with (at_make; refine wpList_make_full _ rfl _ _ 22 rfl w'.heap.size 3 i0 (.int .i64 0) 1 Try.underlying22 (unhide HI).1 (unhide HI).2.1 (unhide HI).2.2.1 _ _ _ _ t.length rfl rfl rfl rfl (by rw [(unhide HI).2.2.2]; omega) (by unfold maxLen; omega) (Nat.le_refl _) ?_; intro w2 hown hgrow)
    have b2 : Below w'.heap.size w' w2 := (Below.refl _ _).grown hgrow (Nat.le_refl _) (fun k e => by cases e)
    have hO := OwnI.made hown
    rw [unhide HT8] at hO
    replace hO : OwnI w'.heap.size w2 (.slice (some ⟨w'.heap.size, 0, none⟩) o.length o.length) (backTo o t 0) := hO
    obtain ⟨g, hg⟩ : ∃ g, g = w'.heap.size := ⟨_, rfl⟩
    have HO2 : Hid (OwnI w'.heap.size w2 (.slice (some ⟨g, 0, none⟩) o.length o.length) (backTo o t 0)) := by rw [hg]; exact hO
    rw [← hg]
    have B2 := hide b2
    clear hown hgrow b2 hO hg
    go_wp2_with fail
    go_loopw [6] (fun i wr => BRel w' g o t i wr) (fun i _ => o.length - (intOf i).toNat)
    case atStart => exact ⟨0, Nat.zero_le _, rfl, unhide HO2, unhide B2⟩
    case round =>
      obtain ⟨k, hk, rfl, hr, hb⟩ := hrel
      have HR := hide hr
      have HB := hide hb
      clear HO2 B2
      by_cases hlt : k < o.length
      · obtain ⟨b0, o0, b1, o1, x, rfl, rfl, hx, x0, x1, x2, y0, _, y1, _, _⟩ := cols2 ((unhide HO).below hb hB) ((unhide HT).below hb hB) (unhide HF) hlt
        have hkt : k < t.length := by have := unhide HT8; omega
        obtain ⟨z0, z1⟩ := hr.cell (j := x.toNat) (by rw [backTo_length]; omega)
        obtain ⟨p, hp⟩ : ∃ p, p = t.getD k 0 := ⟨_, rfl⟩
        have HN := hide (backTo_next hlt hx hp)
        rw [← hp] at y1
        generalize (backTo o t k)[x.toNat]'_ = c0 at z0
        clear hx hb hr hp
        go_wp2_with fail
        refine region_tail 10 (by kernel_rfl) (by kernel_rfl) ?_
        simp only [List.take_succ_cons, List.take_zero, List.drop_succ_cons, List.drop_zero]
        repeat still_step
        refine wpStill_nil ?_
        go_wp2_with fail
        go_roundw
        case rel =>
          refine ⟨k + 1, by omega, by go_num, ?_, (unhide HB).drew.setCell (OwnI.base_le (unhide HR)) _⟩
          rw [unhide HN]
          exact (unhide HR).drew.stored (backTo_length _ _ _).symm x.toNat p
        case measure => simp [intOf]; omega
      · have hk2 : k = o.length := by omega
        have HN : Hid (OwnI w'.heap.size wr (.slice (some ⟨g, 0, none⟩) t.length t.length) (backA o t)) := by
          show OwnI _ _ _ _
          rw [backA_fit (unhide HF), back, unhide HT8]
          rw [hk2] at hr
          exact hr
        clear hb hk2 hr
        go_wp2_with fail
        go_ret
        exact ⟨_, rfl, unhide HN, unhide HB⟩

def URel (w : World) (o t : List Int) (v i : Value) (wr : World) : Prop := ∃ k : Nat, k ≤ o.length ∧ i = .int .i64 k ∧ OwnI w.heap.size wr v ((turn o t).take k) ∧ Below w.heap.size w wr
theorem cell_one_new (w : World) (x : Value) (ty : TypeId) : ∀ j u, [x][j]? = some u → (w.alloc (.cells #[x] ty)).cell? ((⟨w.heap.size, 0, none⟩ : Addr).add j) = some u
  | 0, u, h => by obtain rfl : x = u := by simpa using h
                  simp [Addr.add]
  | j + 1, u, h => by simp at h
theorem OwnI.snoc {base : Nat} {w : World} {v : Value} {l : List Int} {x : Int} (h : w.ownsRow base 3 1 v (l.length + 1) (l.map (Value.int .i64) ++ [.int .i64 x])) : OwnI base w v (l ++ [x]) := OwnI.of h (by simp) (by simp)
theorem OwnI.below_append {w wr w3 : World} {v : Value} {l : List Int} (hb : Below w.heap.size w wr) (h : OwnI w.heap.size wr v l) (hg : wr.grownBy w3 v.ownBlock) : Below w.heap.size w w3 :=
  hb.grown hg hb.size (fun k e => (World.ownsRow.lt h k e).1)

set_option maxRecDepth 100000 in
set_option maxHeartbeats 4000000 in
theorem rturn_any (B : Nat) (w : World) (u v : Value) (o t : List Int) (hB : B ≤ w.heap.size) (ho : Ints B w u o) (ht : Ints B w v t) :
    Calls Try.prog 17 #[u, v] w fun e w' => ∃ r, e = .returned r ∧ OwnI w.heap.size w' r (turnA o t) ∧ Below w.heap.size w w' := by
  have HO := hide ho
  have HT := hide ht
  obtain ⟨a, cap, rfl, hc1, hc2, _⟩ := ho
  obtain ⟨a2, cap2, rfl, hd1, hd2, _⟩ := ht
  obtain ⟨i0, hi, hz0, hz1, hz2⟩ := info_parts info3
  have HI := hide (And.intro hi (And.intro hz0 (And.intro hz1 hz2)))
  clear hi hz0 hz1 hz2
  go_enter Try.func17, Try.ntmps17
  go_wp2_with fail
  refine (fits_any B w _ _ _ o t t (unhide HO) (unhide HT) (unhide HT)).mono ?_
  rw [fitN_twice]
  rintro e w' ⟨rfl, rfl⟩
  cases hf : fitN o [t.length] with
  | false =>
    have H := hide (turnA_not hf)
    clear hf
    go_wp2_with fail
    go_ret
    exact ⟨_, rfl, by rw [unhide H]; exact OwnI.nil _ _, Below.refl _ _⟩
  | true =>
    have HF := hide hf
    have h8 : o.length ≤ 8 := (right_in (fitN_one hf).2).1
    clear hf
    go_wp2_with fail
    go_loopw [5, 6] (fun v i wr => URel w' o t v i wr) (fun _ i _ => o.length - (intOf i).toNat)
    case atStart => exact ⟨0, Nat.zero_le _, rfl, OwnI.nil _ _, Below.refl _ _⟩
    case round =>
      obtain ⟨k, hk, rfl, hr, hb⟩ := hrel
      have HR := hide hr
      have HB := hide hb
      by_cases hlt : k < o.length
      · obtain ⟨b0, o0, b1, o1, x, rfl, rfl, hx, x0, x1, x2, y0, y1, _, _, _⟩ := cols2 ((unhide HO).below hb hB) ((unhide HT).below hb hB) (unhide HF) hlt
        have HN := hide (turn_take (a := t) hlt)
        rw [← hx] at HN
        have hsz := hb.size
        have hl : (((turn o t).take k).length) = k := by simp [turn_length]; omega
        have HL := hide hl
        generalize (turn o t).take k = l at HR HN HL
        generalize at_ t x = p at *
        clear hx hb hr hl
        go_wp2_with (at_builtin; refine wpList_append_own _ rfl _ _ 22 rfl w'.heap.size 3 i0 (.int .i64 0) 1 8 Try.underlying22 (unhide HI).1 (unhide HI).2.1 (unhide HI).2.2.1 (unhide HI).2.2.2 rfl (by decide) _ _ _ rfl ((unhide HR).alloc _) ⟨wr.heap.size, 0, none⟩ 1 1 [.int .i64 p] rfl rfl (cell_one_new _ _ _) (by simp [Value.oneCell']) (by have := unhide HL; unfold maxLen; omega) (by have := unhide HL; omega) (by simp; omega) ?_; intro v' w3 hown hgrow hnil)
        go_roundw
        case rel =>
          refine ⟨k + 1, by omega, by go_num, ?_, ((unhide HB).alloc hsz _).grown hgrow (by simp; omega) (fun k e => (World.ownsRow.lt (unhide HR) k e).1)⟩
          rw [unhide HN]
          exact OwnI.snoc hown
        case measure => simp [intOf]; omega
      · have hk2 : k = o.length := by omega
        rw [List.take_of_length_le (by rw [turn_length]; omega), ← turnA_fit (unhide HF)] at hr
        have HN := hide hr
        clear hb hk2 hr
        go_wp2_with fail
        go_ret
        exact ⟨_, rfl, unhide HN, unhide HB⟩
end Go.Proofs.Ytklmhgljhmodlaa
