/- BtreeWalks: the walk. -/
import Derived.Test.YtmjlhmhkbfnccaaWalksA
namespace Go.Proofs.Ytmjlhmhkbfnccaa
open Go.RowKit Go.Shelf

attribute [local go_sem] Oper.semAt_some

/-- The boxes with which it begins. -/
theorem walks_start (W : World) (u v : Value) (lv : Int) (w1 : World) (hw1 : w1 = ((((W.alloc (.cells #[u, v] 52)).alloc (.cells #[.int .i64 lv] 3)).alloc (.cells #[.bool false] 4)).alloc (.cells #[v] 32)).drew) :
    Below W.heap.size W w1 ∧ Boxed w1 (W.heap.size + 1) 3 (.int .i64 lv) ∧ Boxed w1 (W.heap.size + 1 + 1) 4 (.bool false) ∧ Boxed w1 (W.heap.size + 1 + 1 + 1) 32 v ∧ w1.heap.size = W.heap.size + 4 := by
  subst hw1
  refine ⟨((((((Below.refl _ W).alloc (Nat.le_refl _) _).alloc (by simp) _).alloc (by simp; omega) _).alloc (by simp; omega) _)).drew, ?_, ?_, ?_, by simp⟩
  · have := ((Boxed.new (W.alloc (.cells #[u, v] 52)) 3 (.int .i64 lv)).alloc (.cells #[.bool false] 4)).alloc (.cells #[v] 32)
    rw [World.size_alloc] at this
    exact this
  · have := (Boxed.new ((W.alloc (.cells #[u, v] 52)).alloc (.cells #[.int .i64 lv] 3)) 4 (.bool false)).alloc (.cells #[v] 32)
    rw [World.size_alloc, World.size_alloc] at this
    exact this
  · have := Boxed.new (((W.alloc (.cells #[u, v] 52)).alloc (.cells #[.int .i64 lv] 3)).alloc (.cells #[.bool false] 4)) 32 v
    rw [World.size_alloc, World.size_alloc, World.size_alloc] at this
    exact this
def WfR (W : World) (b5 b6 b8 b9 s h : Nat) (lv : Int) (mv : Value) (o : List Int) (n : Nat) (i : Value) (wr : World) : Prop := ∃ (k : Nat) (A : List (List Int)), k ≤ n ∧ i = .int .i64 (k : Int) ∧ Wf W wr b5 b6 b8 b9 s h lv mv o A
theorem box_bel {B : Nat} {w w' : World} {b : Nat} {t : TypeId} {v : Value} (h : Boxed w b t v) (hb : Below B w w') (hB : b < B) : Boxed w' b t v := (hb.block _ hB).trans h

set_option maxRecDepth 100000 in
set_option maxHeartbeats 8000000 in
theorem walks_walk (W : World) (ov v0 v1 : Value) (o : List Int) (xs ms : List (List Int)) (lv : Int) (ho : Ints W.heap.size W ov o) (hl : ListAt (fun b => b < W.heap.size) W v0 xs) (hm : ListAt (fun b => b < W.heap.size) W v1 ms) (hB : ∀ x ∈ xs, Bnd x) (hBm : ∀ x ∈ ms, Bnd x) :
    Calls Try.prog 7 #[ov, .agg #[v0, v1], .int .i64 lv] W fun e W' => e = .returned (.bool true) ∧ Below W.heap.size W W' := by
  obtain ⟨a, cap, f, rfl, hc1, hc2, hf⟩ := rowsIn hl hB
  obtain ⟨a1, cap1, f1, rfl, hd1, hd2, hf1⟩ := rowsIn hm hBm
  have HF := hide hf
  have HM := hide hf1
  clear hl hf hB hm hBm hf1
  obtain ⟨oa, oc, rfl, _⟩ := id ho
  have HO := hide ho
  clear ho
  have mixed : Try.prog.follows .mixedOrders = true := by kernel_rfl
  obtain ⟨w1, hw1⟩ : ∃ w1, w1 = ((((W.alloc (.cells #[.slice a xs.length cap, .slice a1 ms.length cap1] 52)).alloc (.cells #[.int .i64 lv] 3)).alloc (.cells #[.bool false] 4)).alloc (.cells #[.slice a1 ms.length cap1] 32)).drew := ⟨_, rfl⟩
  obtain ⟨b01, k5, k6, k8, hs1⟩ := walks_start W _ _ lv w1 hw1
  refine calls_marks Try.func7 rfl ?_
  simp only [Try.ntmps7, List.size_toArray, List.length_cons, List.length_nil, Nat.reduceAdd, Nat.reduceSub, Array.replicate_succ, Array.replicate_zero, List.push_toArray, List.append_toArray, List.nil_append, List.cons_append]
  go_wp2_with fail
  go_region
  obtain ⟨b8, e8⟩ : ∃ b, b = W.heap.size + 1 + 1 + 1 := ⟨_, rfl⟩
  obtain ⟨b6, e6⟩ : ∃ b, b = W.heap.size + 1 + 1 := ⟨_, rfl⟩
  obtain ⟨b5, e5⟩ : ∃ b, b = W.heap.size + 1 := ⟨_, rfl⟩
  obtain ⟨b4, e4⟩ : ∃ b, b = W.heap.size := ⟨_, rfl⟩
  rw [← e8] at k8
  rw [← e6] at k6
  rw [← e5] at k5
  have HN := hide (And.intro e4 (And.intro e5 (And.intro e6 e8)))
  have l5 : b5 < w1.heap.size := by omega
  have l6 : b6 < w1.heap.size := by omega
  have l8 : b8 < w1.heap.size := by omega
  have g6 : W.heap.size ≤ b6 := by omega
  have hsW : W.heap.size ≤ w1.heap.size := by omega
  have HK := hide (And.intro b01 (And.intro k5 (And.intro k6 k8)))
  have ho1 := ((unhide HO).below b01 (Nat.le_refl _)).mono b01.size
  rw [← e8, ← e6, ← e5, ← e4, ← hw1]
  clear hw1 e8 e6 e5 e4 hs1 b01 k5 k6 k8
  cases hr : right o with
  | false =>
    have hn1 := new_no w1 _ o ho1 hr
    clear hr ho1
    go_wp2_with fail
    refine hn1.mono ?_
    clear hn1
    rintro e w2 ⟨rfl, b2⟩
    have b3 := alloc_below w2 (.cells #[.pointer none] 33)
    have hal := alive_any (w2.alloc (.cells #[.pointer none] 33))
    have HB2 := hide (b2.trans (b3.mono b2.size))
    clear b2 b3
    go_wp2_with fail
    refine hal.mono ?_
    clear hal
    rintro e w3 ⟨rfl, b3⟩
    have b13 := (unhide HB2).trans (b3.mono (unhide HB2).size)
    have k6' := box_bel (unhide HK).2.2.1 b13 l6
    have q6 := k6'.cell
    have r6 := k6'.frozen
    have HB3 := hide (And.intro b13 k6')
    clear b3 b13 k6'
    go_wp2_with fail
    obtain ⟨b13, k6'⟩ := unhide HB3
    have k6s := Boxed.set (.bool true) k6'
    have hKs : Keeps (fun b => b = b6) w3 (w3.setCell ⟨b6, 0, none⟩ (.bool true)) := (Keeps.refl (fun b => b = b6) w3).setCell ⟨b6, 0, none⟩ rfl _
    have b03 := (unhide HK).1.trans (b13.mono (unhide HK).1.size)
    have b04 := b03.trans (hKs.below b03.size (fun b e => by omega))
    exact leaves_marks (base := W.heap.size) (v := .bool true) [] _ List.nodup_nil (fun _ h => by cases h) (fun w' hs => ⟨by simp [results, Try.f7, go_sem, (hs.box k6s).cell], rfl, b04.trans (hs.below (Nat.le_refl _) b04.size)⟩)
  | true =>
  have hn1 := new_T2 w1 _ o ho1 hr
  have HR := hide hr
  clear hr ho1
  go_wp2_with fail
  refine hn1.mono ?_
  clear hn1
  rintro e w2 ⟨s, rfl, ⟨h, hT, lh⟩, b2⟩
  obtain ⟨w3, hw3⟩ : ∃ w3, w3 = w2.alloc (.cells #[.pointer (some ⟨s, 0, none⟩)] 33) := ⟨_, rfl⟩
  have b3 : Below w2.heap.size w2 w3 := by rw [hw3]; exact alloc_below _ _
  have k9 : Boxed w3 w2.heap.size 33 (.pointer (some ⟨s, 0, none⟩)) := by rw [hw3]; exact Boxed.new w2 _ _
  have b13 : Below w1.heap.size w1 w3 := b2.trans (b3.mono b2.size)
  have hWf : Wf W w3 b5 b6 b8 w2.heap.size s h lv (.slice a1 ms.length cap1) o [] := by
    obtain ⟨b01, k5, k6, k8⟩ := unhide HK
    exact ⟨(hT.mono (S' := fun b => b ≠ h) (fun b _ hs => hs.2) (fun e => e rfl)).later b3, by omega, b01.trans (b13.mono hsW), box_bel k5 b13 l5, box_bel k6 b13 l6, box_bel k8 b13 l8, k9⟩
  have hal := alive_any w3
  obtain ⟨b9, e9⟩ : ∃ b, b = w2.heap.size := ⟨_, rfl⟩
  rw [← e9] at hWf
  have HWF := hide hWf
  have H9 := hide e9
  clear hT lh b2 b3 k9 b13 hWf
  by_cases h300 : 300 < xs.length
  · have hg : (300 : Int) < (xs.length : Int) := by omega
    go_wp2_with fail
    rw [← hw3]
    refine hal.mono ?_
    clear hal
    rintro e w4 ⟨rfl, b4'⟩
    have hWf4 := (unhide HWF).later b4'
    have q6 := hWf4.k6.cell
    have r6 := hWf4.k6.frozen
    have HW4 := hide hWf4
    clear hWf4 b4' hw3
    go_wp2_with fail
    have hWf4 := unhide HW4
    have k6s := Boxed.set (.bool true) hWf4.k6
    have hKs : Keeps (fun b => b = b6) w4 (w4.setCell ⟨b6, 0, none⟩ (.bool true)) := (Keeps.refl (fun b => b = b6) w4).setCell ⟨b6, 0, none⟩ rfl _
    have b04 := hWf4.bel.trans (hKs.below hWf4.bel.size (fun b e => by omega))
    exact leaves_marks (base := W.heap.size) (v := .bool true) [] _ List.nodup_nil (fun _ h => by cases h) (fun w' hs => ⟨by simp [results, Try.f7, go_sem, (hs.box k6s).cell], rfl, b04.trans (hs.below (Nat.le_refl _) b04.size)⟩)
  have hg : ¬ ((300 : Int) < (xs.length : Int)) := by omega
  go_wp2_with fail
  rw [← hw3]
  refine hal.mono ?_
  clear hal
  rintro e w4 ⟨rfl, b4'⟩
  have HW4 : Hid (WfR W b5 b6 b8 b9 s h lv (.slice a1 ms.length cap1) o xs.length (.int .i64 0) w4) := ⟨0, [], Nat.zero_le _, rfl, (unhide HWF).later b4'⟩
  rw [← e9]
  clear b4' hw3 e9
  go_wp2_with fail
  go_loopw [40] (fun i wr => WfR W b5 b6 b8 b9 s h lv (.slice a1 ms.length cap1) o xs.length i wr) (fun i _ => xs.length - (intOf i).toNat)
  case atStart => exact unhide HW4
  case round =>
    obtain ⟨k, A, hk, rfl, hWk⟩ := hrel
    by_cases hlt : k < xs.length
    · obtain ⟨b, off, rfl, hc, hx, hxB⟩ := unhide HF wr hWk.bel k hlt
      obtain ⟨x, hxe⟩ : ∃ x, x = xs.getD k [] := ⟨_, rfl⟩
      rw [← hxe] at hx hxB
      have hin := hWk.ins hx hxB
      obtain ⟨xa, xc, ex, _⟩ := id hx
      rw [ex] at hc hin
      have q9 := hWk.k9.cell
      generalize insBL o x A = ib1 at hin
      generalize insEL o x A = ie1 at hin
      generalize x.length = xn at hc hin
      clear hWk hx hxB hxe ex
      go_wp2_with fail
      refine hin.mono ?_
      clear hin
      rintro e w5 ⟨rfl, hW5⟩
      have HW5 := hide hW5
      clear hW5
      go_wp2_with fail
      go_roundw
      case rel => exact ⟨k + 1, _, by omega, by go_num, unhide HW5⟩
      case measure => simp [intOf]; omega
    · have hnk : ¬ ((k : Int) < (xs.length : Int)) := by omega
      have ha1 := all_T _ wr s h o A hWk.t
      have q9 := hWk.k9.cell
      have HWK := hide hWk
      clear hWk
      go_wp2_with fail
      refine ha1.mono ?_
      clear ha1
      rintro e w6 ⟨lb6, its6, rfl, hg6, he6, hn6, b6'⟩
      have hli := list_G w6 _ lb6 its6 _ _ hg6 eg_all hn6 he6
      have hW6 := (unhide HWK).later b6'
      have HW6 := hide hW6
      clear hg6 he6 hn6 b6' hW6
      go_wp2_with fail
      refine hli.mono ?_
      clear hli
      rintro e w7 ⟨rv7, rfl, hL7, b7⟩
      have hW7 := (unhide HW6).later b7
      obtain ⟨rva, rvc, erv⟩ : ∃ ra rc, rv7 = .slice ra A.length rc := by
        obtain ⟨_, ⟨ra, rc, e, _⟩, _⟩ := id hL7
        exact ⟨ra, rc, e⟩
      subst erv
      obtain ⟨w8, hw8⟩ : ∃ w8, w8 = w7.alloc (.cells #[.slice rva A.length rvc] 32) := ⟨_, rfl⟩
      have b8' : Below w7.heap.size w7 w8 := by rw [hw8]; exact alloc_below _ _
      have hs8 : w8.heap.size = w7.heap.size + 1 := by rw [hw8]; simp
      have k13 : Boxed w8 w7.heap.size 32 (.slice rva A.length rvc) := by rw [hw8]; exact Boxed.new w7 _ _
      have hW8 := hW7.later b8'
      have hall2 := all_any w8 (some ⟨s, 0, none⟩)
      obtain ⟨w9, hw9⟩ : ∃ w9, w9 = w8.alloc (.cells #[.pointer (some ⟨s, 0, none⟩)] 33) := ⟨_, rfl⟩
      have b9' : Below w8.heap.size w8 w9 := by rw [hw9]; exact alloc_below _ _
      have hs9 : w9.heap.size = w8.heap.size + 1 := by rw [hw9]; simp
      have ks : Boxed w9 w8.heap.size 33 (.pointer (some ⟨s, 0, none⟩)) := by rw [hw9]; exact Boxed.new w8 _ _
      rw [← hw9] at hall2
      obtain ⟨w10, hw10⟩ : ∃ w10, w10 = w9.alloc (.cells #[.int .i64 0] 3) := ⟨_, rfl⟩
      have b10' : Below w9.heap.size w9 w10 := by rw [hw10]; exact alloc_below _ _
      have hs10 : w10.heap.size = w9.heap.size + 1 := by rw [hw10]; simp
      have ki : Boxed w10 w9.heap.size 3 (.int .i64 0) := by rw [hw10]; exact Boxed.new w9 _ _
      have hW10 := (hW8.later b9').later b10'
      have hs6 := (unhide HW6).bel.size
      have hs67 := b7.size
      have hh6 := (unhide HW6).t.lt
      have hWk : Wk W w10 b5 b6 b8 b9 w7.heap.size w8.heap.size w9.heap.size s h lv 0 (.slice a1 ms.length cap1) (.slice rva A.length rvc) o A A := by
        refine hW10.begin ((((hL7.mono (B' := fun b => b ≠ h ∧ b ≠ w9.heap.size) (fun b hb hs => ⟨by omega, by omega⟩)).later b8').later b9').later b10') (box_bel (box_bel k13 b9' (by omega)) b10' (by omega)) (box_bel ks b10' (by omega)) ki ?_ (by omega) ?_
        · have q5 := hW7.k5.lt
          have q6 := hW7.k6.lt
          have q8 := hW7.k8.lt
          have q9 := hW7.k9.lt
          exact ⟨by omega, by omega, by omega, by omega, by omega, by omega⟩
        · obtain ⟨l, hl1, hl2, hl3⟩ := (hW8.later b9').t
          exact ⟨l, (hl1.mono (S' := fun b => b ≠ h ∧ b ≠ w9.heap.size) (fun b hb hs => ⟨hs, by omega⟩) (fun e => e.1 rfl)).later b10', hl2, hl3⟩
      have q9 := hW7.k9.cell
      have l9 := hW7.k9.lt
      have l9n : b9 ≠ w7.heap.size := by omega
      have HWK2 := hide hWk
      have hA := hWk.t.up.2.2.1
      clear hW7 b8' hs8 k13 hW8 b9' hs9 ks b10' hs10 ki hW10 hs6 hs67 hh6 hWk hL7 b7 HWK HW6 HWF HW4
      go_wp2_with fail
      rw [← hw8]
      refine hall2.mono ?_
      clear hall2
      rintro e w9' ⟨rfl, hw9'⟩
      subst hw9'
      have hz8 : w8.heap.size = w7.heap.size + 1 := by rw [hw8]; simp
      have hz9 : w9'.heap.size = w7.heap.size + 1 + 1 := by rw [hw9]; simp [hz8]
      have hz10 : w10.heap.size = w7.heap.size + 1 + 1 + 1 := by rw [hw10]; simp [hz9]
      rw [hz9, hz8] at HWK2
      obtain ⟨ib, eib⟩ : ∃ b, b = w7.heap.size + 1 + 1 := ⟨_, rfl⟩
      obtain ⟨bs, ebs⟩ : ∃ b, b = w7.heap.size + 1 := ⟨_, rfl⟩
      obtain ⟨b13, e13⟩ : ∃ b, b = w7.heap.size := ⟨_, rfl⟩
      rw [← eib, ← ebs, ← e13] at HWK2
      have hl10 : ib < w10.heap.size := by omega
      go_wp2_with fail
      rw [← hw8, ← hw9, ← hw10, ← eib, ← ebs, ← e13]
      clear hw8 hw9 hw10 eib ebs e13 hz8 hz9 hz10 q9 l9 l9n
      obtain ⟨its, hgo, hits, hn10⟩ := (unhide HWK2).goes
      have hWs := (unhide HWK2).bel.size
      have hlen : its.length = A.length := by rw [← hits]; simp
      have hh10 := (unhide HWK2).t.lt
      have HITS := hide (And.intro hits hlen)
      clear hits hlen
      refine (wpIn_wide (n := 6)).1 (wp_range_fin 2 (gf := 41) (lb := #[.pointer (some ⟨bs, 0, none⟩)]) rfl eg_all hgo (fun _ _ _ _ _ h h2 => h.step h2) (fun b => b = h ∨ b = ib) (fun b hb => by omega) (fun b hb e => by rcases e with e | e; exact hb.1.1 e; exact hb.1.2 e)
        (fun k O' Wx => (∀ b, O' b ↔ b = h ∨ b = ib) ∧ ∃ A', Wk W Wx b5 b6 b8 b9 b13 bs ib s h lv (k : Int) (.slice a1 ms.length cap1) (.slice rva A.length rvc) o A' A)
        (fun Wx => ∃ A', Wk W Wx b5 b6 b8 b9 b13 bs ib s h lv (A.length : Int) (.slice a1 ms.length cap1) (.slice rva A.length rvc) o A' A)
        (fun k O A B h h2 => ⟨h.1, h.2.imp fun _ q => q.step h2 hWs⟩) (fun A B h h2 => h.imp fun _ q => q.step h2 hWs) ⟨fun _ => Iff.rfl, A, unhide HWK2⟩ ?a1 ?assign ?body ?fin ?done)
      case assign =>
        intro l m v Wx KK hK
        gi_wp2
        exact hK
      case fin =>
        rintro O' Wx ⟨_, A', hq⟩
        rw [(unhide HITS).2] at hq
        exact ⟨A', hq⟩
      case body =>
        intro ll m k' O2 H v Wx hsz hO2 hH hlt hi hy hrec
        obtain ⟨hOO, A', hWx⟩ := hi
        obtain ⟨y, hyx, hyi, _⟩ := hy
        obtain ⟨hits, hlen⟩ := unhide HITS
        have hkA : k' < A.length := by omega
        have hyA : A.getD k' [] = y.2 := by
          rw [← hits, List.getD, List.getElem?_map, hyx]; rfl
        obtain ⟨ff, ⟨wa', wc', ew, _, _, hcell⟩, hel⟩ := id hWx.was
        obtain ⟨wb, woff, ewa, _, hc⟩ := hcell k' hkA
        have hfi := (hel k' hkA).ints
        rw [hyA] at hfi
        have hsame := same_any Wx.heap.size Wx v (ff k') y.2 y.2 (Nat.le_refl _) hyi.ints hfi
        rw [show sameB y.2 y.2 = true from decide_eq_true rfl] at hsame
        obtain ⟨va, vc, ev, _⟩ := id hyi
        obtain ⟨fa, fc, ef, _⟩ := id hfi
        simp only [Value.slice.injEq] at ew
        obtain ⟨ew1, _, ew3⟩ := ew
        subst ew1
        subst ewa
        rw [ef] at hc hsame
        subst ev
        generalize y.2.length = yn at hc hsame
        have qi := hWx.ki.cell
        have q13 := hWx.k13.cell
        have hge : ¬ ((A.length : Int) ≤ (k' : Int)) := by omega
        have hAl : A.length ≤ 1024 := hA
        have HX := hide (And.intro hOO (And.intro hWx (And.intro hH hrec)))
        clear hOO hWx hH hrec hyx hyi hits hlen hyA hcell hel hfi ef hO2
        gi_wp2
        refine ⟨trivial, fun h => (by cases h), (CallsIn.inRound ll (callsIn_wide.2 hsame)).mono ?_⟩
        clear hsame
        rintro e w5 ⟨rfl, b5'⟩
        obtain ⟨hOO, hWx, hH, hll1, hll2, rr, hrec⟩ := unhide HX
        have hW5 := hWx.later b5'
        have hrec5 : w5.heap[ll]? = some (.loop rr) := (b5'.block _ (lt_heap hrec)).trans hrec
        have hK5 : Keeps (fun b => O2 b ∨ H b) Wx w5 := Keeps.of_below b5'
        have hhlt := hWx.t.lt
        have hOOx := hOO
        have hO2x : ∀ b, O2 b → b < Wx.heap.size := fun b hb => by rcases (hOO b).1 hb with e | e; (rw [e]; exact hWx.t.lt); (rw [e]; exact hWx.ki.lt)
        have hll3 : ll ≠ h := by omega
        have qi5 := hW5.ki.cell
        have q8 := hW5.k8.cell
        have q9 := hW5.k9.cell
        clear qi q13 hc
        by_cases hkm : k' < ms.length
        · obtain ⟨mb, moff, rfl, hmc, hmx, hmB⟩ := unhide HM w5 hW5.bel k' hkm
          obtain ⟨x, hxe⟩ : ∃ x, x = ms.getD k' [] := ⟨_, rfl⟩
          rw [← hxe] at hmx hmB
          have hWd : Wk W w5.drew b5 b6 b8 b9 b13 bs ib s h lv (k' : Int) (.slice (some ⟨mb, moff, none⟩) ms.length cap1) (.slice (some ⟨wb, woff, none⟩) A.length rvc) o A' A := hW5.step (Step.drew w5.heap.size w5) hW5.bel.size
          have hin := hWd.ins (xv := f1 k') (x := x) (hmx.below ((Below.refl _ w5).drew) (Nat.le_refl _)) hmB
          obtain ⟨xa, xc, ex, _⟩ := id hmx
          rw [ex] at hmc hin
          generalize insBL o x A' = ib1 at hin
          generalize insEL o x A' = ie1 at hin
          obtain ⟨A2, hA2⟩ : ∃ A2, A2 = insTo o x A' := ⟨_, rfl⟩
          rw [← hA2] at hin
          generalize x.length = xn at hmc hin
          have hkm1 : (k' : Int) < (ms.length : Int) := by omega
          have HX5 := hide (And.intro hrec5 hK5)
          clear hOO hWx hH hrec hW5 hrec5 hK5 hmx hmB hxe ex hWd hA2 b5'
          gi_wp2
          refine region_tail_round 5 mixed (by kernel_rfl) (by rfl) (by rintro ⟨_, _, hq⟩; exact hq) ?_
          simp only [List.take_succ_cons, List.take_zero, List.drop_succ_cons, List.drop_zero]
          repeat still_step
          try refine wpStill_nil ?_
          go_wp2_with fail
          refine hin.mono ?_
          clear hin
          rintro e w6 ⟨rfl, hW6, hKi⟩
          obtain ⟨hrec5, hK5⟩ := unhide HX5
          have hR6 : w6.heap[ll]? = some (.loop rr) := hKi.same _ _ (show w5.drew.heap[ll]? = _ from hrec5) (fun e => by omega)
          have hK6 : Keeps (fun b => O2 b ∨ H b) Wx w6 := (hK5.drew).trans hKi (fun b _ e => .inl ((hOOx b).2 (.inl e)))
          clear hrec5 hK5 hKi HX5 HX qi5 q8 q9
          go_wp2_with fail
          have q9 := hW6.k9.cell
          have hal := all_any w6 (some ⟨s, 0, none⟩)
          have HX6 := hide (And.intro hW6 (And.intro hR6 hK6))
          clear hW6 hR6 hK6
          gi_wp2
          refine ⟨trivial, fun h => (by cases h), (CallsIn.inRound ll (callsIn_wide.2 hal)).mono ?_⟩
          clear hal
          rintro e w7' ⟨rfl, hw7'⟩
          obtain ⟨hW6c, hR6c, hK6c⟩ := unhide HX6
          have b7' : Below w6.heap.size w6 w7' := by rw [hw7']; exact alloc_below _ _
          have hb7 : Boxed w7' w6.heap.size 33 (.pointer (some ⟨s, 0, none⟩)) := by rw [hw7']; exact Boxed.new _ _ _
          have hW7 := hW6c.later b7'
          have hrec7 : w7'.heap[ll]? = some (.loop rr) := (b7'.block _ (lt_heap hR6c)).trans hR6c
          have hK7 := hK6c.trans (Keeps.of_below (O := fun b => O2 b ∨ H b) b7') (fun _ _ e => e)
          have hgo2 := (by obtain ⟨l, hl1, hB1, _⟩ := hW7.t; exact ⟨l, all_goes hl1 hB1 hb7⟩ : ∃ l, GoesH 41 #[.pointer (some ⟨w6.heap.size, 0, none⟩)] l (fun b => (b ≠ h ∧ b ≠ ib) ∧ b < w7'.heap.size) w7')
          obtain ⟨its2, hgo2⟩ := hgo2
          have HX7 := hide (And.intro hW7 hK7)
          clear hW6c hR6c hK6c b7' hb7 hW7 hK7 HX6 hw7'
          gi_wp2
          refine wp_range_brk2 4 hrec7 rfl eg_all hgo2 ?ba1 ?bas ?bbo ?baf
          case bas =>
            intro l m v Wy KK hK
            gi_wp2
            exact hK
          case bbo =>
            intro l m v Wy
            gi_wp2
          case baf =>
            intro Wy hsy
            obtain ⟨hW7, hK7⟩ := unhide HX7
            have hWy := hW7.step hsy hW7.bel.size
            have hKy := hK7.trans (Keeps.of_below (O := fun b => O2 b ∨ H b) (hsy.below (Nat.le_refl _) (Nat.le_refl _))) (fun _ _ e => e)
            have qi := hWy.ki.cell
            have fi := hWy.ki.frozen
            have q5 := hWy.k5.cell
            have q13 := hWy.k13.cell
            have HXy := hide (And.intro hWy hKy)
            clear hW7 hK7 hWy hKy hgo2 hsy HX7 hrec7
            by_cases hlv : (k' : Int) = lv
            · have hlv1 : ((k' : Int) == lv) = true := by simpa using hlv
              clear hlv
              gi_wp2
              obtain ⟨hWy, hKy⟩ := unhide HXy
              refine ⟨⟨rfl, A2, hWy.seti (A.length : Int)⟩, (hKy.mono (fun b e => e.imp id .inl)).setCell ⟨ib, 0, none⟩ (.inl ((hOOx ib).2 (.inr rfl))) _⟩
            · have hlv1 : ((k' : Int) == lv) = false := by simpa using hlv
              clear hlv
              gi_wp2
              obtain ⟨hWy, hKy⟩ := unhide HXy
              have hKz := hKy.setCell ⟨ib, 0, none⟩ (.inl ((hOOx ib).2 (.inr rfl))) (.int .i64 ((k' + 1 : Nat) : Int))
              have hWz := hWy.seti ((k' + 1 : Nat) : Int)
              rw [Int.natCast_add] at hKz hWz
              exact ⟨⟨O2, ⟨hOOx, A2, by rw [Int.natCast_add]; exact hWz⟩, fun b hb => ⟨.inl hb, Nat.lt_of_lt_of_le (hO2x b hb) hKz.size⟩⟩, hKz⟩
        · have hkm1 : ¬ ((k' : Int) < (ms.length : Int)) := by omega
          clear hOO hWx hH hrec b5'
          have q8' := q8
          clear q9
          have q9 := hW5.k9.cell
          have hal := all_any w5 (some ⟨s, 0, none⟩)
          have HX6 := hide (And.intro hW5 (And.intro hrec5 hK5))
          clear hW5 hrec5 hK5
          gi_wp2
          refine ⟨trivial, fun h => (by cases h), (CallsIn.inRound ll (callsIn_wide.2 hal)).mono ?_⟩
          clear hal
          rintro e w7' ⟨rfl, hw7'⟩
          obtain ⟨hW6c, hR6c, hK6c⟩ := unhide HX6
          have b7' : Below w5.heap.size w5 w7' := by rw [hw7']; exact alloc_below _ _
          have hb7 : Boxed w7' w5.heap.size 33 (.pointer (some ⟨s, 0, none⟩)) := by rw [hw7']; exact Boxed.new _ _ _
          have hW7 := hW6c.later b7'
          have hrec7 : w7'.heap[ll]? = some (.loop rr) := (b7'.block _ (lt_heap hR6c)).trans hR6c
          have hK7 := hK6c.trans (Keeps.of_below (O := fun b => O2 b ∨ H b) b7') (fun _ _ e => e)
          have hgo2 := (by obtain ⟨l, hl1, hB1, _⟩ := hW7.t; exact ⟨l, all_goes hl1 hB1 hb7⟩ : ∃ l, GoesH 41 #[.pointer (some ⟨w5.heap.size, 0, none⟩)] l (fun b => (b ≠ h ∧ b ≠ ib) ∧ b < w7'.heap.size) w7')
          obtain ⟨its2, hgo2⟩ := hgo2
          have HX7 := hide (And.intro hW7 hK7)
          clear hW6c hR6c hK6c b7' hb7 hW7 hK7 HX6 hw7'
          gi_wp2
          refine wp_range_brk2 4 hrec7 rfl eg_all hgo2 ?cba1 ?cbas ?cbbo ?cbaf
          case cbas =>
            intro l m v Wy KK hK
            gi_wp2
            exact hK
          case cbbo =>
            intro l m v Wy
            gi_wp2
          case cbaf =>
            intro Wy hsy
            obtain ⟨hW7, hK7⟩ := unhide HX7
            have hWy := hW7.step hsy hW7.bel.size
            have hKy := hK7.trans (Keeps.of_below (O := fun b => O2 b ∨ H b) (hsy.below (Nat.le_refl _) (Nat.le_refl _))) (fun _ _ e => e)
            have qi := hWy.ki.cell
            have fi := hWy.ki.frozen
            have q5 := hWy.k5.cell
            have q13 := hWy.k13.cell
            have HXy := hide (And.intro hWy hKy)
            clear hW7 hK7 hWy hKy hgo2 hsy HX7 hrec7
            by_cases hlv : (k' : Int) = lv
            · have hlv1 : ((k' : Int) == lv) = true := by simpa using hlv
              clear hlv
              gi_wp2
              obtain ⟨hWy, hKy⟩ := unhide HXy
              refine ⟨⟨rfl, A', hWy.seti (A.length : Int)⟩, (hKy.mono (fun b e => e.imp id .inl)).setCell ⟨ib, 0, none⟩ (.inl ((hOOx ib).2 (.inr rfl))) _⟩
            · have hlv1 : ((k' : Int) == lv) = false := by simpa using hlv
              clear hlv
              gi_wp2
              obtain ⟨hWy, hKy⟩ := unhide HXy
              have hKz := hKy.setCell ⟨ib, 0, none⟩ (.inl ((hOOx ib).2 (.inr rfl))) (.int .i64 ((k' + 1 : Nat) : Int))
              have hWz := hWy.seti ((k' + 1 : Nat) : Int)
              rw [Int.natCast_add] at hKz hWz
              exact ⟨⟨O2, ⟨hOOx, A', by rw [Int.natCast_add]; exact hWz⟩, fun b hb => ⟨.inl hb, Nat.lt_of_lt_of_le (hO2x b hb) hKz.size⟩⟩, hKz⟩
      case done =>
        rintro D Wx hD ⟨A', hWx⟩ hDx
        have hWd := hWx.step (Step.drew Wx.heap.size Wx) hWx.bel.size
        obtain ⟨its1, hgo1, hits1, hn1⟩ := hWd.goes
        have hli1 := list_G Wx.drew _ _ its1 _ _ hgo1 eg_all hn1 hits1
        have qi := hWx.ki.cell
        have q13 := hWx.k13.cell
        have q9 := hWx.k9.cell
        have hDlt : D < Wx.heap.size := lt_heap hDx
        have hD0 : W.heap.size ≤ D := by omega
        have HWX := hide hWx
        clear hD hWx hWd hgo1 hits1 hn1 hgo hn10 hh10 hl10 hA hWs
        go_wp2_with fail
        obtain ⟨PP, hPP⟩ : ∃ PP : Act → World → Prop, PP = fun a' w2 => a'.defers = [{ target := .collected D, args := #[] }] ∧ a'.tmps.getD 6 undef = .pointer (some ⟨b6, 0, none⟩) ∧ ∃ v4, (Wk W v4 b5 b6 b8 b9 b13 bs ib s h lv (A.length : Int) (.slice a1 ms.length cap1) (.slice rva A.length rvc) o A' A ∧ Below Wx.heap.size Wx v4) ∧ w2 = v4.setCell ⟨b6, 0, none⟩ (.bool true) := ⟨_, rfl⟩
        have HPP := hide hPP
        clear hPP
        refine wp_mono (Q := fun e a' w2 => match e with | Exit.normal => PP a' w2 | _ => False) ?_ ?_
        · go_region_with (first
            | (go_at_call 17; refine hli1.mono ?_; clear hli1; rintro e v1 ⟨rv1, rfl, hL1, b1'⟩; have b1 : Below Wx.heap.size Wx v1 := ((Below.refl _ Wx).drew).trans b1'; have hW1 := (unhide HWX).later b1; have hal := all_T _ v1 s h o A' hW1.t; have m9 := hW1.k9.cell; have hrv : ∃ ra rc, rv1 = .slice ra A'.length rc := (by obtain ⟨_, ⟨ra, rc, e, _⟩, _⟩ := id hL1; exact ⟨ra, rc, e⟩); obtain ⟨ra1, rc1, rfl⟩ := hrv; have HL1 := hide (And.intro hL1 (And.intro hW1 b1)); clear hL1 b1 b1' hW1)
            | (go_at_call 18; refine hal.mono ?_; clear hal; rintro e v2 ⟨lb2, its2, rfl, hg2, he2, hn2, b2'⟩; have hli2 := list_G v2 _ lb2 its2 _ _ hg2 eg_all hn2 he2; have HL2 := hide (And.intro ((unhide HL1).1.later b2') (And.intro ((unhide HL1).2.1.later b2') ((unhide HL1).2.2.trans (b2'.mono (unhide HL1).2.2.size)))); clear hg2 he2 hn2 b2')
            | (go_at_call 17; refine hli2.mono ?_; clear hli2; rintro e v3 ⟨rv3, rfl, hL3, b3'⟩; have hrv : ∃ ra rc, rv3 = .slice ra A'.length rc := (by obtain ⟨_, ⟨ra, rc, e, _⟩, _⟩ := id hL3; exact ⟨ra, rc, e⟩); obtain ⟨ra3, rc3, rfl⟩ := hrv; have hsm := rsame_any (fun _ => True) v3 _ _ _ _ (((unhide HL2).1.later b3').mono (fun _ _ _ => trivial)) (hL3.mono (fun _ _ _ => trivial)); have e2 : sameLB A' A' = true := (by simp [sameLB]); rw [e2] at hsm; have HL3 := hide (And.intro ((unhide HL2).2.1.later b3') ((unhide HL2).2.2.trans (b3'.mono (unhide HL2).2.2.size))); clear hL3 b3' e2)
            | (go_at_call 16; refine hsm.mono ?_; clear hsm; rintro e v4 ⟨rfl, b4'⟩; have hW4 := (unhide HL3).1.later b4'; have n6 := hW4.k6.cell; have f6 := hW4.k6.frozen; have HL4 := hide (And.intro hW4 ((unhide HL3).2.trans (b4'.mono (unhide HL3).2.size))); clear hW4 b4'))
          all_goals
            rw [unhide HPP]
            exact ⟨rfl, rfl, _, unhide HL4, rfl⟩
        · intro e a' w2 hq
          cases e with
          | exit id => exact hq.elim
          | goto tt => exact hq.elim
          | ret => exact hq.elim
          | panic ch => exact hq.elim
          | outgrown => exact hq.elim
          | normal =>
          rw [unhide HPP] at hq
          obtain ⟨hd, h6, v4, ⟨hW4, hb4⟩, rfl⟩ := hq
          obtain ⟨tmps, defers⟩ := a'
          simp only at hd h6
          subst hd
          have h6' : tmps[6]?.getD undef = .pointer (some ⟨b6, 0, none⟩) := by simpa using h6
          have HL4 := hide (And.intro hW4 hb4)
          clear h6 hW4 hb4
          go_wp2_with fail
          obtain ⟨hW4, hb4⟩ := unhide HL4
          have k6s := Boxed.set (.bool true) hW4.k6
          have hKs : Keeps (fun b => b = b6) v4 (v4.setCell ⟨b6, 0, none⟩ (.bool true)) := (Keeps.refl (fun b => b = b6) v4).setCell ⟨b6, 0, none⟩ rfl _
          have b04 := hW4.bel.trans (hKs.below hW4.bel.size (fun b e => by omega))
          have hD4 : v4.heap[D]? = some (.deferred (some [])) := (hb4.block _ hDlt).trans hDx
          have hDn : D ≠ b6 := fun e => by
            have h2 : v4.heap[b6]? = some (.cells #[.bool false] 4 (0, 0)) := hW4.k6
            rw [e, h2] at hD4
            simp at hD4
          refine leaves_marks (base := W.heap.size) (v := .bool true) [D] _ (by simp) (fun E hE => ?_) (fun w' hs => ⟨by simp [results, Try.f7, go_sem, h6', (hs.box k6s).cell], rfl, b04.trans (hs.below (Nat.le_refl _) b04.size)⟩)
          have e : E = D := by simpa using hE
          rw [e]
          exact ⟨hD0, hKs.same _ _ hD4 hDn⟩
end Go.Proofs.Ytmjlhmhkbfnccaa
