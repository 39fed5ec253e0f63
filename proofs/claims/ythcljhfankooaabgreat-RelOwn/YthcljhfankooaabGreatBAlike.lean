/- Going over the tuples of a head. -/
import Derived.Test.YthcljhfankooaabGreatBLeast
namespace Go.Proofs.YthcljhfankooaabGreat
open Go.RowKit Go.Shelf

attribute [local go_sem] Oper.semAt_some

theorem alike_any (w : World) (p : Option Addr) (oa la : Option Addr) (on oc ln lc : Nat) (n k : Int) :
    Calls Tryz.prog 96 #[.agg #[.slice oa on oc, .pointer p, .int .i64 n], .int .i64 k, .slice la ln lc] w fun e w' => e = .returned (.func (.func 127) #[] #[.pointer (some ⟨w.heap.size, 0, none⟩), .pointer (some ⟨w.heap.size + 1, 0, none⟩), .pointer (some ⟨w.heap.size + 1 + 1, 0, none⟩)]) ∧
      w' = ((w.alloc (.cells #[.slice oa on oc, .pointer p, .int .i64 n] 102)).alloc (.cells #[.int .i64 k] 3)).alloc (.cells #[.slice la ln lc] 32) := by
  go_enter Tryz.func96, Tryz.ntmps96
  go_wp2_with fail
  go_ret
  exact ⟨rfl, rfl⟩

/-- Those of a head, from the least of them on. -/
def likeI (o : List Int) (k : Int) (x : List Int) (l : List Item) : List Item := (fromI o (leastL o k x) l).takeWhile (fun y => headA o k y.2 x)
theorem tw_at {p : Item → Bool} : ∀ (L : List Item) (j : Nat) (x : Item), j ≤ (L.takeWhile p).length → L[j]? = some x → (p x = true → j < (L.takeWhile p).length ∧ (L.takeWhile p)[j]? = some x) ∧ (p x = false → j = (L.takeWhile p).length)
  | [], j, x, _, h => by simp at h
  | a :: r, 0, x, _, h => by
    have e : a = x := by simpa using h
    subst e
    refine ⟨fun hp => ?_, fun hp => ?_⟩
    · rw [List.takeWhile_cons_of_pos hp]; simp
    · rw [List.takeWhile_cons_of_neg (by simp [hp])]; rfl
  | a :: r, j + 1, x, hj, h => by
    by_cases ha : p a = true
    · rw [List.takeWhile_cons_of_pos ha] at hj ⊢
      have := tw_at (p := p) r j x (by simpa using hj) (by simpa using h)
      simpa using this
    · rw [List.takeWhile_cons_of_neg ha] at hj
      simp at hj
theorem tw_le {p : Item → Bool} (L : List Item) : (L.takeWhile p).length ≤ L.length := (List.takeWhile_prefix p).length_le

set_option maxRecDepth 100000 in
set_option maxHeartbeats 4000000 in
theorem alike1_goes (S : Nat → Prop) (ov xv : Value) (o x : List Int) (k : Int) (l : List Item) (d : Nat) (p : Option Addr) (cnt : Int) (W : World) (hb kb lb : Nat) (hr : right o = true) (hhb : W.heap[hb]? = some (.cells #[ov, .pointer p, .int .i64 cnt] 102 (0, 0))) (hkb : Boxed W kb 3 (.int .i64 k)) (hlb : Boxed W lb 32 xv)
    (hSlt : ∀ b, S b → b < W.heap.size) (shb : S hb) (skb : S kb) (slb : S lb) (hov : IntsS S W ov o) (hxv : IntsS S W xv x) (hT : Tree S W d 15 p l) (hR : Rises o l) :
    GoesAtH 127 #[.pointer (some ⟨hb, 0, none⟩), .pointer (some ⟨kb, 0, none⟩), .pointer (some ⟨lb, 0, none⟩)] (likeI o k x l).length (Hands (likeI o k x l)) S W := by
  intro lp J Jx O hSO hO hJ hJx hY h0
  obtain ⟨oa, oc, rfl, _⟩ := id hov
  obtain ⟨la, lc, rfl, _⟩ := id hxv
  obtain ⟨W1, hW1⟩ : ∃ W1, W1 = W.alloc (.cells #[.func (.yield lp) #[] #[]] 70) := ⟨_, rfl⟩
  have b1 : Below W.heap.size W W1 := by rw [hW1]; exact (Below.refl _ W).alloc (Nat.le_refl _) _
  have y1 : Boxed W1 W.heap.size 70 (.func (.yield lp) #[] #[]) := by rw [hW1]; exact Boxed.new W _ _
  have st1 : Stays S W W1 := Stays.of_below b1
  obtain ⟨c0, c1, c2, _⟩ := three_cells ((b1.block _ (lt_heap hhb)).trans hhb)
  have q1 := (st1.box hkb skb).cell
  have q2 := (st1.box hlb slb).cell
  have hs1 : W1.heap.size = W.heap.size + 1 := by rw [hW1]; simp
  have hls : Calls Tryz.prog 129 #[.agg #[.slice oa o.length oc, .pointer p, .int .i64 cnt], .int .i64 k, .slice la x.length lc] W1.drew fun e w' => ∃ r, e = .returned r ∧ IntsS (fun b => S b ∨ W1.heap.size ≤ b) w' r (leastL o k x) ∧ Below W1.heap.size W1 w' :=
    (least_any S W1.drew (.slice oa o.length oc) (.slice la x.length lc) o x p cnt k hr ((hov.stays st1).stays (Step.drew 0 W1).stays) ((hxv.stays st1).stays (Step.drew 0 W1).stays)).mono fun e w' ⟨r, he, hi, hb⟩ => ⟨r, he, hi, ((Below.refl _ W1).drew).trans hb⟩
  have HALL := hide (And.intro hov (And.intro hxv (And.intro hT (And.intro hR (And.intro hhb (And.intro hkb hlb))))))
  have HY := hide hY
  have mixed : Tryz.prog.follows .mixedOrders = true := by kernel_rfl
  have hhlt := lt_heap hhb
  clear hov hxv hT hR hhb hkb hlb hY st1
  refine calls_marks Tryz.func127 rfl ?_
  simp only [Tryz.ntmps127, List.size_toArray, List.length_cons, List.length_nil, Nat.reduceAdd, Nat.reduceSub, Array.replicate_succ, Array.replicate_zero, List.push_toArray, List.append_toArray, List.nil_append, List.cons_append]
  have HS1 := hide hs1
  clear hs1
  subst hW1
  go_wp2_with fail
  obtain ⟨W1, hW1⟩ : ∃ W1, W1 = W.alloc (.cells #[.func (.yield lp) #[] #[]] 70) := ⟨_, rfl⟩
  rw [← hW1] at hls c0 c1 c2 q1 q2 b1 y1 HS1 ⊢
  obtain ⟨PP, hPP⟩ : ∃ PP : Act → World → Prop, PP = fun a' w2 => ∃ (W3 : World) (ra : Option Addr) (rn rc : Nat) (z6 z7 z8 z9 z10 : Value), a' = { tmps := #[.func (.yield lp) #[] #[], .pointer (some ⟨hb, 0, none⟩), .pointer (some ⟨kb, 0, none⟩), .pointer (some ⟨lb, 0, none⟩), .pointer (some ⟨W.heap.size, 0, none⟩), undef, z6, z7, z8, z9, z10, .func (.func 148) #[] #[.pointer (some ⟨W3.heap.size, 0, none⟩), .pointer (some ⟨W3.heap.size + 1, 0, none⟩)], undef, undef, undef, undef, undef, undef, undef, undef, undef, undef, undef, undef, undef, undef], defers := [] } ∧
    w2 = (W3.alloc (.cells #[.slice oa o.length oc, .pointer p, .int .i64 cnt] 102)).alloc (.cells #[.slice ra rn rc] 32) ∧ IntsS (fun b => S b ∨ W1.heap.size ≤ b) W3 (.slice ra rn rc) (leastL o k x) ∧ Below W1.heap.size W1 W3 := ⟨_, rfl⟩
  have HPP := hide hPP
  have hh1 : hb < W1.heap.size := by have := unhide HS1; omega
  clear hPP hW1
  refine wp_mono (Q := fun e a' w2 => match e with | Exit.normal => PP a' w2 | _ => False) ?_ ?_
  · go_region_with (first
      | (go_at_call 129; refine hls.mono ?_; clear hls; rintro e W3 ⟨r, rfl, hi3, hb3⟩; have hr3 : ∃ ra rn rc, r = .slice ra rn rc := (by obtain ⟨ra, rc, e, _⟩ := hi3; exact ⟨ra, _, rc, e⟩); obtain ⟨ra, rn, rc, rfl⟩ := hr3; have hfr := hfrom_any W3 p oa ra o.length oc rn rc cnt; have g0 := (hb3.cell (p := ⟨hb, 0, none⟩) hh1).trans c0; have g1 := (hb3.cell (p := ⟨hb, 1, none⟩) hh1).trans c1; have g2 := (hb3.cell (p := ⟨hb, 2, none⟩) hh1).trans c2; have HI3 := hide (And.intro hi3 hb3); clear hi3 hb3)
      | (go_at_call 128; refine hfr.mono ?_; clear hfr; rintro e w4 ⟨rfl, rfl⟩))
    all_goals
      rw [unhide HPP]
      exact ⟨W3, ra, rn, rc, _, _, _, _, _, rfl, rfl, unhide HI3⟩
  · intro e a' w2 h
    cases e with
    | exit id => exact h.elim
    | goto tt => exact h.elim
    | ret => exact h.elim
    | panic ch => exact h.elim
    | outgrown => exact h.elim
    | normal =>
    rw [unhide HPP] at h
    obtain ⟨W3, ra, rn, rc, z6, z7, z8, z9, z10, rfl, rfl, hi3, hb3⟩ := h
    clear HPP PP
    go_wp2_with fail
    obtain ⟨W4, hW4⟩ : ∃ W4, W4 = (W3.alloc (.cells #[.slice oa o.length oc, .pointer p, .int .i64 cnt] 102)).alloc (.cells #[.slice ra rn rc] 32) := ⟨_, rfl⟩
    rw [← hW4]
    have hb4 : Below W3.heap.size W3 W4 := by rw [hW4]; exact ((Below.refl _ W3).alloc (Nat.le_refl _) _).alloc (by simp) _
    have hsz4 : W4.heap.size = W3.heap.size + 2 := by rw [hW4]; simp
    have k1 : W4.heap[W3.heap.size]? = some (.cells #[.slice oa o.length oc, .pointer p, .int .i64 cnt] 102 (0, 0)) := by rw [hW4, Below.heap_alloc _ _ _ (by simp)]; exact World.alloc_heap_new _ _
    have k2 : Boxed W4 (W3.heap.size + 1) 32 (.slice ra rn rc) := by
      rw [hW4]
      have := Boxed.new (W3.alloc (.cells #[.slice oa o.length oc, .pointer p, .int .i64 cnt] 102)) 32 (.slice ra rn rc)
      rw [World.size_alloc] at this
      exact this
    have hs3 := hb3.size
    have hs1 := unhide HS1
    have b14 : Below W1.heap.size W1 W4 := hb3.trans (hb4.mono hs3)
    have hst4 : Step W.heap.size W W4 := (Step.of_below b1).trans (Step.of_below b14)
    have hN := tw_le (p := fun y => headA o k y.2 x) (fromI o (leastL o k x) l)
    have hk0 : Sk S J W lp O 0 [] O W4 := ⟨hJ _ _ _ _ h0 hst4, fun _ h => (by cases h), hst4.stays, (b14.block _ y1.lt).trans y1, fun e => (by have := hO _ e; omega), hSO, fun b hb => ⟨.inl hb, by have := hO b hb; omega⟩⟩
    have HSEQ : Hid (∀ W5, Step W4.heap.size W4 W5 → GoesAtH 148 #[.pointer (some ⟨W3.heap.size, 0, none⟩), .pointer (some ⟨W3.heap.size + 1, 0, none⟩)] (fromI o (leastL o k x) l).length (Hands (fromI o (leastL o k x) l)) (fun q => S q ∨ (W1.heap.size ≤ q ∧ q < W4.heap.size)) W5) := fun W5 h5s => by
      have h5 : Stays (fun q => S q ∨ (W1.heap.size ≤ q ∧ q < W4.heap.size)) W4 W5 := h5s.stays
      have hs5 := h5.size
      have st5 : Stays S W W5 := hst4.stays.trans (h5.mono fun q hq => .inl hq)
      exact hfrom1_goes _ _ _ o (leastL o k x) l d p cnt W5 _ _ hr (h5.same _ _ k1 rfl (.inr (by omega))) (h5.box k2 (.inr (by omega)))
        (fun q hq => by rcases hq with hq | hq; (have := hSlt q hq; omega); omega) (((unhide HALL).1.stays st5).mono (fun _ _ h => .inl h)) (((hi3.mono (S' := fun q => S q ∨ (W1.heap.size ≤ q ∧ q < W4.heap.size)) (fun b hb h => h.imp id (fun h => ⟨h, by omega⟩))).stays (Stays.of_below hb4)).stays h5) (((unhide HALL).2.2.1.stays st5).mono (fun _ _ h => .inl h)) (unhide HALL).2.2.2.1
    refine (wpIn_wide (n := 6)).1 (wp_rangeH (gf := 148) rfl (enters_of Tryz.func148 (by kernel_rfl) rfl) (unhide HSEQ) (fun _ _ _ _ _ h h2 => h.step h2) O (fun q hq => by have := hO q hq; omega)
      (fun q hq e => by rcases hq with hq | hq; exact hSO q hq e; (have := hO q e; omega))
      (fun k' O2 Wx => Sk S J W lp O k' [] O2 Wx ∧ k' ≤ (likeI o k x l).length) (fun cc k' Wx => cc = .ret ∧ ((∃ j, j ≤ (likeI o k x l).length ∧ Jx j Wx) ∨ ∃ O3, J (likeI o k x l).length O3 Wx ∧ ∀ b, O3 b → (O b ∨ W.heap.size ≤ b) ∧ b < Wx.heap.size))
      (fun k' O2 A B h h2 => ⟨h.1.step hJ h2 (by omega) (fun _ h => by cases h), h.2⟩) (fun cc k' A B h h2 => ⟨h.1, h.2.imp (fun ⟨j, hj, hx⟩ => ⟨j, hj, hJx _ _ _ hx (h2.mono (by omega))⟩) (fun ⟨O3, hj, hb⟩ => ⟨O3, hJ _ _ _ _ hj (h2.mono (by omega)), fun b hb' => ⟨(hb b hb').1, Nat.lt_of_lt_of_le (hb b hb').2 h2.size⟩⟩)⟩) ⟨hk0, Nat.zero_le _⟩ ?a1 ?assign ?body ?done ?stop)
    case assign =>
      intro l m v Wx KK hK
      gi_wp2
      exact hK
    case body =>
      intro ll m k' O2 H v Wx hsz hO2 hH hlt hi hy
      obtain ⟨hi, hkN⟩ := hi
      obtain ⟨y, hyx, hyi, hyf⟩ := hy
      obtain ⟨t1, t2⟩ := tw_at (p := fun y => headA o k y.2 x) _ k' y hkN hyx
      have hhx := hi.st.same _ _ (unhide HALL).2.2.2.2.1 rfl shb
      obtain ⟨g0, _, _, _⟩ := three_cells hhx
      have g1 := (hi.st.box (unhide HALL).2.2.2.2.2.1 skb).cell
      have g2 := (hi.st.box (unhide HALL).2.2.2.2.2.2 slb).cell
      have hhead := head_any Wx.heap.size Wx (.slice oa o.length oc) v (.slice la x.length lc) o y.2 x k (Nat.le_refl _) ((unhide HALL).1.stays hi.st).ints hyi.ints ((unhide HALL).2.1.stays hi.st).ints
      have qy := hi.yb.cell
      have hyl := hi.yb.lt
      have HI := hide hi
      have HYI := hide hyi
      have HYF := hide hyf
      obtain ⟨va, vc, rfl, _⟩ := id hyi
      clear hi hyi hyf hhx
      cases hh : headA o k y.2 x with
      | true =>
        rw [hh] at hhead
        obtain ⟨t3, t4⟩ := t1 hh
        have NEXT : Hid (∀ w', Below Wx.heap.size Wx w' → YieldAt Fence.wide (m - 1) Tryz.prog lp #[.slice va y.2.length vc] w' fun e W' =>
            (e = .returned (.bool true) ∧ (∃ O', J (k' + 1) O' W' ∧ (∀ b, O' b → (O2 b ∨ w'.heap.size ≤ b) ∧ b < W'.heap.size)) ∧ Keeps (fun b => O2 b ∨ H b) w' W') ∨ (e = .returned (.bool false) ∧ Jx (k' + 1) W' ∧ Keeps (fun b => O2 b ∨ H b ∨ b < W.heap.size) w' W')) := fun w' hb =>
          unhide HY (m - 1) k' O2 H _ w' t3 (hJ _ _ _ _ (unhide HI).j (Step.of_below hb)) (fun b h => ⟨by have := (hH b h).1; omega, (hH b h).2.1, by have := (hH b h).2.2; have := hb.size; omega⟩) ⟨y, t4, (unhide HYI).later hb, (unhide HYF).step (unhide HYI) (Step.of_below (base := 0) hb)⟩
        clear t1 t2 hh
        gi_wp2
        refine ⟨trivial, fun h => (by cases h), (CallsIn.inRound ll (callsIn_wide.2 hhead)).mono ?_⟩
        rintro e w5 ⟨rfl, hb5⟩
        obtain ⟨fn, tmps, assign, body, hyr, hR⟩ := unhide NEXT w5 hb5
        have qy2 := (hb5.cell (p := ⟨W.heap.size, 0, none⟩) hyl).trans qy
        have hs5 := hb5.size
        gi_wp2
        refine ⟨fun h => (by cases h), hR.mono ?_⟩
        rintro e W6 (⟨rfl, ⟨O3, hJ3, hsub⟩, hk6⟩ | ⟨rfl, hJx6, hk6⟩)
        · gi_wp2
          exact ⟨⟨O3, ⟨(unhide HI).roundH ((Keeps.of_below hb5).trans hk6 (fun _ _ e => e)) hJ3 (fun b hb => ⟨(hsub b hb).1.imp id (fun h => by omega), (hsub b hb).2⟩) hSlt (fun b h => by have := (hH b h).1; omega), t3⟩, fun b hb => ⟨(hsub b hb).1.imp id (fun h => by omega), (hsub b hb).2⟩⟩, (Keeps.of_below hb5).trans hk6 (fun _ _ e => e)⟩
        · gi_wp2
          exact ⟨⟨rfl, .inl ⟨k' + 1, t3, hJx6⟩⟩, ((Keeps.of_below hb5).trans hk6 (fun _ _ e => e)).mono (fun q hq => hq.imp id (fun h => h.imp id (fun h => by omega)))⟩
      | false =>
        rw [hh] at hhead
        have t3 := t2 hh
        clear t1 t2 hh
        gi_wp2
        refine ⟨trivial, fun h => (by cases h), (CallsIn.inRound ll (callsIn_wide.2 hhead)).mono ?_⟩
        rintro e w5 ⟨rfl, hb5⟩
        have HT3 := hide t3
        clear t3
        gi_wp2
        refine ⟨fun _ h => (by cases h), ?_⟩
        gi_wp2
        have hj5 := hJ _ _ _ _ (unhide HI).j (Step.of_below hb5)
        have e3 : k' = (likeI o k x l).length := unhide HT3
        rw [e3] at hj5
        exact ⟨⟨rfl, .inr ⟨O2, hj5, fun b hb => ⟨((unhide HI).ob b hb).1, Nat.lt_of_lt_of_le ((unhide HI).ob b hb).2 hb5.size⟩⟩⟩, Keeps.of_below hb5⟩
    case done =>
      rintro D O2 Wx hD hO2 ⟨hi, hkN⟩ hDx
      have HD := hide hD
      clear hD
      go_wp2_with fail
      have hD := unhide HD
      have e3 : (fromI o (leastL o k x) l).length = (likeI o k x l).length := Nat.le_antisymm hkN hN
      refine leaves_marks (base := W.heap.size) (v := .tuple #[]) [D] _ (by simp) (fun E hE => ?_) (fun w' hs => ⟨results_none rfl _ _ _, ⟨_, rfl⟩, .inl ⟨O2, ?_, fun b hb => ⟨(hO2 b hb).1.imp id (fun h => by omega), Nat.lt_of_lt_of_le (hO2 b hb).2 hs.size⟩⟩⟩)
      · have e : E = D := by simpa using hE
        rw [e]
        exact ⟨by omega, hDx⟩
      · rw [← e3]
        exact hJ _ _ _ _ hi.j hs
    case stop =>
      rintro D cc k' Wx hD hk' ⟨rfl, hjx⟩ hDx
      have HD := hide hD
      clear hD
      refine wpIn_wide.2 ?_
      go_wp2_with fail
      have hD := unhide HD
      refine leaves_marks (base := W.heap.size) (v := .tuple #[]) [D] _ (by simp) (fun E hE => ?_) (fun w' hs => ⟨results_none rfl _ _ _, ⟨_, rfl⟩, ?_⟩)
      · have e : E = D := by simpa using hE
        rw [e]
        exact ⟨by omega, hDx⟩
      · rcases hjx with ⟨j, hj, hx⟩ | ⟨O3, hj, hb⟩
        · exact .inr ⟨j, hj, hJx _ _ _ hx hs⟩
        · exact .inl ⟨O3, hJ _ _ _ _ hj hs, fun b hb' => ⟨(hb b hb').1, Nat.lt_of_lt_of_le (hb b hb').2 hs.size⟩⟩
end Go.Proofs.YthcljhfankooaabGreat
