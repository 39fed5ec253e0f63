/- Going over copies of the tuples that are not below one. -/
import Derived.Test.YthcljhfankooaabGreatBIter
import Derived.Test.YthcljhfankooaabGreatBLaw3
namespace Go.Proofs.YthcljhfankooaabGreat
open Go.RowKit Go.Shelf

attribute [local go_sem] Oper.semAt_some

theorem hfrom_any (w : World) (p : Option Addr) (oa la : Option Addr) (on oc ln lc : Nat) (n : Int) :
    Calls Tryz.prog 128 #[.agg #[.slice oa on oc, .pointer p, .int .i64 n], .slice la ln lc] w fun e w' => e = .returned (.func (.func 148) #[] #[.pointer (some ⟨w.heap.size, 0, none⟩), .pointer (some ⟨w.heap.size + 1, 0, none⟩)]) ∧
      w' = (w.alloc (.cells #[.slice oa on oc, .pointer p, .int .i64 n] 102)).alloc (.cells #[.slice la ln lc] 32) := by
  go_enter Tryz.func128, Tryz.ntmps128
  go_wp2_with fail
  go_ret
  exact ⟨rfl, rfl⟩

/-- The tuples that are gone over. -/
def fromI (o low : List Int) (l : List Item) : List Item := if fitB o low = true then ge o low l else []
/-- Its cells may be written. -/
def Free (W : World) (v : Value) (l : List Int) : Prop := ∀ b off n c, v = .slice (some ⟨b, off, none⟩) n c → ∀ j, j < l.length → W.frozen? ⟨b, off + j, none⟩ = false
theorem Free.own {base : Nat} {w : World} {v : Value} {l : List Int} (h : OwnI base w v l) : Free w v l := fun b off n c e j hj => by
  subst e
  rcases h.2 with ⟨e, _⟩ | ⟨g, cap, cur, e, _⟩
  · cases e
  · simp only [Value.slice.injEq, Option.some.injEq, Addr.mk.injEq] at e
    obtain ⟨⟨rfl, rfl, _⟩, rfl, rfl⟩ := e
    rw [Nat.zero_add]
    exact World.ownsRow.frozenAt h j
theorem Free.step {S : Nat → Prop} {A B : World} {v : Value} {l : List Int} {base : Nat} (h : Free A v l) (hi : IntsS S A v l) (hs : Step base A B) : Free B v l := fun b off n c e j hj => by
  obtain ⟨a, cap, e2, _, _, hc⟩ := hi
  rw [e] at e2
  cases e2
  obtain ⟨b', off', e3, _, hcell⟩ := hc j hj
  cases e3
  obtain ⟨o, ho, hoc⟩ := cells_of_cell hcell
  have h1 : B.heap[b]? = A.heap[b]? := (hs.same _ o ho (.inr hoc)).trans ho.symm
  exact (World.frozen?_of_block (a := ⟨b, off + j, none⟩) h1).trans (h b off _ _ e j hj)
/-- A copy: it lies in these blocks. -/
def Hands (its : List Item) (k : Nat) (H : Nat → Prop) (v : Value) (W : World) : Prop := ∃ x, its[k]? = some x ∧ IntsS H W v x.2 ∧ Free W v x.2
theorem Hands.step {its : List Item} {k : Nat} {H : Nat → Prop} {v : Value} {A B : World} (h : Hands its k H v A) (hs : Step 0 A B) : Hands its k H v B := by
  obtain ⟨x, h1, h2, h3⟩ := h
  exact ⟨x, h1, h2.stays hs.stays, h3.step h2 hs⟩
/-- A round of the loop's own kept all but what is owned and what was handed. -/
theorem Sk.roundH {S : Nat → Prop} {J : Nat → (Nat → Prop) → World → Prop} {W : World} {lp : Nat} {O0 : Nat → Prop} {K : Nat} {O O' H : Nat → Prop} {A B : World} (h : Sk S J W lp O0 K [] O A) (hk : Keeps (fun b => O b ∨ H b) A B) (hj : J (K + 1) O' B) (hsub : ∀ b, O' b → (O b ∨ A.heap.size ≤ b) ∧ b < B.heap.size) (hS : ∀ b, S b → b < W.heap.size) (hH : ∀ b, H b → W.heap.size < b) : Sk S J W lp O0 (K + 1) [] O' B := by
  have hWA := h.st.size
  have hn : ∀ b, b < A.heap.size → ¬ O b → ¬ O' b := fun b hb hn e => by
    rcases (hsub b e).1 with e | e
    · exact hn e
    · omega
  exact ⟨hj, fun D hd => (by cases hd), h.st.trans (hk.stays (fun b _ hs e => by rcases e with e | e; exact h.os b hs e; (have := hH b e; have := hS b hs; omega))), hk.box h.yb (fun e => by rcases e with e | e; exact h.oy e; (have := hH _ e; omega)), hn _ h.yb.lt h.oy, fun b hs => hn b (by have := hS b hs; omega) (h.os b hs),
    fun b hb => ⟨by
      rcases (hsub b hb).1 with e | e
      · exact (h.ob b e).1
      · right; omega, (hsub b hb).2⟩⟩

set_option maxRecDepth 100000 in
set_option maxHeartbeats 4000000 in
theorem hfrom1_goes (S : Nat → Prop) (ov lv : Value) (o low : List Int) (l : List Item) (d : Nat) (p : Option Addr) (cnt : Int) (W : World) (hb lb : Nat) (hr : right o = true) (hhb : W.heap[hb]? = some (.cells #[ov, .pointer p, .int .i64 cnt] 102 (0, 0))) (hlb : Boxed W lb 32 lv) (hSlt : ∀ b, S b → b < W.heap.size)
    (hov : IntsS S W ov o) (hlv : IntsS S W lv low) (hT : Tree S W d 15 p l) (hR : Rises o l) :
    GoesAtH 148 #[.pointer (some ⟨hb, 0, none⟩), .pointer (some ⟨lb, 0, none⟩)] (fromI o low l).length (Hands (fromI o low l)) S W := by
  intro lp J Jx O hSO hO hJ hJx hY h0
  obtain ⟨oa, oc, rfl, _⟩ := id hov
  obtain ⟨la, lc, rfl, _⟩ := id hlv
  have b1 : Below W.heap.size W (W.alloc (.cells #[.func (.yield lp) #[] #[]] 70)) := (Below.refl _ W).alloc (Nat.le_refl _) _
  have y1 : Boxed (W.alloc (.cells #[.func (.yield lp) #[] #[]] 70)) W.heap.size 70 (.func (.yield lp) #[] #[]) := Boxed.new W _ _
  have hh1 := (b1.block _ (lt_heap hhb)).trans hhb
  obtain ⟨c0, c1, c2, _⟩ := three_cells hh1
  have hl1 : Boxed (W.alloc (.cells #[.func (.yield lp) #[] #[]] 70)) lb 32 (.slice la low.length lc) := (b1.block _ hlb.lt).trans hlb
  have q1 := hl1.cell
  have hfit := hfits_any (W.alloc (.cells #[.func (.yield lp) #[] #[]] 70)) oa la o low oc lc p cnt
  have HALL := hide (And.intro hov (And.intro hlv (And.intro hT (And.intro hR (And.intro hhb hlb)))))
  have HY := hide hY
  have hhlt := lt_heap hhb
  have hllt := hlb.lt
  clear hov hlv hT hR hhb hlb hY hl1 hh1
  refine calls_marks Tryz.func148 rfl ?_
  simp only [Tryz.ntmps148, List.size_toArray, List.length_cons, List.length_nil, Nat.reduceAdd, Nat.reduceSub, Array.replicate_succ, Array.replicate_zero, List.push_toArray, List.append_toArray, List.nil_append, List.cons_append]
  go_wp2_with fail
  refine hfit.mono ?_
  clear hfit
  rintro e W2 ⟨rfl, b2⟩
  have hWW2 : Step W.heap.size W W2 := (Step.of_below b1).trans (Step.of_below b2)
  have y2 : Boxed W2 W.heap.size 70 (.func (.yield lp) #[] #[]) := (b2.block _ y1.lt).trans y1
  have b02 : Below W.heap.size W W2 := b1.trans (b2.mono (by simp))
  cases hf : fitB o low with
  | false =>
    have HF : Hid (fromI o low l = []) := by show fromI o low l = []; simp [fromI, hf]
    clear hf
    go_wp2_with fail
    refine leaves_marks (base := W.heap.size) (v := .tuple #[]) [] _ List.nodup_nil (fun _ h => by cases h) (fun w' hs => ⟨results_none rfl _ _ _, ⟨_, rfl⟩, .inl ⟨O, ?_, fun b hb => ⟨.inl hb, ?_⟩⟩⟩)
    · rw [unhide HF]; exact hJ _ _ _ _ h0 (hWW2.trans hs)
    · have h1 := hO b hb
      have h2 := hs.size
      have h3 := hWW2.size
      omega
  | true =>
    have HFI : Hid (fromI o low l = ge o low l) := by show fromI o low l = _; simp [fromI, hf]
    have hlow := fitB_true.1 hf
    have HL := hide hlow
    clear hf hlow
    obtain ⟨_, _, _, _, hhb, hlb⟩ := unhide HALL
    obtain ⟨g0, g1, g2, _⟩ := three_cells ((b02.block _ hhlt).trans hhb)
    have g3 : W2.cell? ⟨lb, 0, none⟩ = some (.slice la low.length lc) := (show Boxed W2 lb 32 (.slice la low.length lc) from (b02.block _ hllt).trans hlb).cell
    have hfrom := nfrom_any W2 p oa la o.length oc low.length lc
    clear hhb hlb c0 c1 c2 q1 b1 b2 y1
    go_wp2_with fail
    refine hfrom.mono ?_
    clear hfrom
    rintro e w' ⟨rfl, rfl⟩
    go_wp2_with fail
    obtain ⟨W3, hW3⟩ : ∃ W3, W3 = ((W2.alloc (.cells #[.pointer p] 100)).alloc (.cells #[.slice oa o.length oc] 32)).alloc (.cells #[.slice la low.length lc] 32) := ⟨_, rfl⟩
    rw [← hW3]
    have hb3 : Below W2.heap.size W2 W3 := by rw [hW3]; exact (((Below.refl _ W2).alloc (Nat.le_refl _) _).alloc (by simp) _).alloc (by simp; omega) _
    have hsz3 : W3.heap.size = W2.heap.size + 3 := by rw [hW3]; simp
    have k1 : Boxed W3 W2.heap.size 100 (.pointer p) := by rw [hW3]; exact ((Boxed.new W2 _ _).alloc _).alloc _
    have k2 : Boxed W3 (W2.heap.size + 1) 32 (.slice oa o.length oc) := by
      rw [hW3]
      have := (Boxed.new (W2.alloc (.cells #[.pointer p] 100)) 32 (.slice oa o.length oc)).alloc (.cells #[.slice la low.length lc] 32)
      rw [World.size_alloc] at this
      exact this
    have k3 : Boxed W3 (W2.heap.size + 1 + 1) 32 (.slice la low.length lc) := by
      rw [hW3]
      have := Boxed.new ((W2.alloc (.cells #[.pointer p] 100)).alloc (.cells #[.slice oa o.length oc] 32)) 32 (.slice la low.length lc)
      rw [World.size_alloc, World.size_alloc] at this
      exact this
    have hst3 : Step W.heap.size W W3 := hWW2.trans (Step.of_below hb3)
    have hs2 := hWW2.size
    have hk0 : Sk S J W lp O 0 [] O W3 := ⟨hJ _ _ _ _ h0 hst3, fun _ h => (by cases h), hst3.stays, (hb3.block _ y2.lt).trans y2, fun e => (by have := hO _ e; omega), hSO, fun b hb => ⟨.inl hb, by have := hO b hb; omega⟩⟩
    have HSEQ : Hid (GoesO 156 #[.pointer (some ⟨W2.heap.size, 0, none⟩), .pointer (some ⟨W2.heap.size + 1, 0, none⟩), .pointer (some ⟨W2.heap.size + 1 + 1, 0, none⟩)] (ge o low l).length (fun k _ v _ => ((ge o low l).map (·.1))[k]? = some v) (fun q => S q ∨ (W2.heap.size ≤ q ∧ q < W2.heap.size + 3)) W3) := fun W4 h4 => by
      have hs4 := h4.size
      have st4 : Stays S W W4 := hst3.stays.trans (h4.mono fun q hq => .inl hq)
      exact nfrom1_goes _ _ o low hr (unhide HL) d _ p l W4 _ _ _ (h4.box k1 (.inr (by omega))) (h4.box k2 (.inr (by omega))) (h4.box k3 (.inr (by omega)))
        (fun q hq => by rcases hq with hq | hq; (have := hSlt q hq; omega); omega) (.inr (by omega)) (.inr (by omega)) (.inr (by omega)) (((unhide HALL).1.stays st4).mono (fun _ _ h => .inl h)) (((unhide HALL).2.1.stays st4).mono (fun _ _ h => .inl h)) (((unhide HALL).2.2.1.stays st4).mono (fun _ _ h => .inl h)) (unhide HALL).2.2.2.1
    refine (wpIn_wide (n := 6)).1 (wp_rangeO (gf := 156) rfl (enters_of Tryz.func156 (by kernel_rfl) rfl) (unhide HSEQ) (fun _ _ _ _ _ h _ => h) O (fun q hq => by have := hO q hq; omega)
      (fun q hq e => by rcases hq with hq | hq; exact hSO q hq e; (have := hO q e; omega))
      (fun k' O2 Wx => Sk S J W lp O k' [] O2 Wx) (fun cc k' Wx => cc = .ret ∧ Jx k' Wx)
      (fun k' O2 A B h h2 => h.step hJ h2 (by omega) (fun _ h => by cases h)) (fun cc k' A B h h2 => ⟨h.1, hJx _ _ _ h.2 (h2.mono (by omega))⟩) hk0 ?a1 ?assign ?body ?done ?stop)
    case assign =>
      intro l m v Wx KK hK
      gi_wp2
      exact hK
    case body =>
      intro ll m k' O2 v Wx hsz hO2 hlt hi hy
      rw [List.getElem?_map, Option.map_eq_some_iff] at hy
      obtain ⟨x, hx, rfl⟩ := hy
      have hmem : x ∈ l := (List.mem_filter.1 (List.mem_of_getElem? hx)).1
      have hix := ((unhide HALL).2.2.1.stays hi.st).items x hmem
      have hwid : x.2.length * 8 ≤ 140737488355328 := by have := (unhide HALL).2.2.2.1.2 x hmem; have := (right_in hr).1; omega
      have hclD : Calls Tryz.prog 36 #[x.1] Wx.drew fun e w' => ∃ r, e = .returned r ∧ OwnI Wx.heap.size w' r x.2 ∧ Below Wx.heap.size Wx w' :=
        (cloneL_any S Wx.drew x.1 x.2 (hix.stays (Step.drew 0 Wx).stays) hwid).mono fun e w' ⟨r, he, ho, hb⟩ => ⟨r, he, ho, ((Below.refl _ Wx).drew).trans hb⟩
      have NEXT : Hid (∀ r w', OwnI Wx.heap.size w' r x.2 → Below Wx.heap.size Wx w' → YieldAt Fence.wide (m - 1) Tryz.prog lp #[r] w' fun e W' =>
          (e = .returned (.bool true) ∧ (∃ O', J (k' + 1) O' W' ∧ (∀ b, O' b → (O2 b ∨ w'.heap.size ≤ b) ∧ b < W'.heap.size)) ∧ Keeps (fun b => O2 b ∨ (Wx.heap.size ≤ b ∧ b < w'.heap.size)) w' W') ∨ (e = .returned (.bool false) ∧ Jx (k' + 1) W' ∧ Keeps (fun b => O2 b ∨ (Wx.heap.size ≤ b ∧ b < w'.heap.size) ∨ b < W.heap.size) w' W')) := fun r w' ho hb =>
        unhide HY (m - 1) k' O2 (fun b => Wx.heap.size ≤ b ∧ b < w'.heap.size) r w' (by rw [unhide HFI]; exact hlt) (hJ _ _ _ _ hi.j (Step.of_below hb)) (fun b h => ⟨by omega, fun e => by have := (hO2 b e).2; omega, h.2⟩) ⟨x, by rw [unhide HFI]; exact hx, ho.intsS.mono (fun b hb2 h => ⟨h, hb2⟩), Free.own ho⟩
      have qy := hi.yb.cell
      have hyl := hi.yb.lt
      have HI := hide hi
      have mixed : Tryz.prog.follows .mixedOrders = true := by kernel_rfl
      obtain ⟨sa, sc, ex, _⟩ := id hix
      have HEX := hide ex
      rw [ex] at hclD ⊢
      clear hi hix hx hmem hwid ex
      gi_wp2
      gi_region_with_o (first
        | (refine ⟨trivial, fun h => (by cases h), (CallsIn.inRound ll (callsIn_wide.2 hclD)).mono ?_⟩; clear hclD; rintro e w4 ⟨r, rfl, hown, hb4⟩; obtain ⟨fn, tmps, assign, body, hyr, hR⟩ := unhide NEXT r w4 hown hb4; have hR2 := RoundIn.mono hR (fun e W' h => both1 (A := fun W' => (∃ O', J (k' + 1) O' W' ∧ (∀ b, O' b → (O2 b ∨ w4.heap.size ≤ b) ∧ b < W'.heap.size)) ∧ Keeps (fun b => O2 b ∨ (Wx.heap.size ≤ b ∧ b < w4.heap.size)) w4 W') (B := fun W' => Jx (k' + 1) W' ∧ Keeps (fun b => O2 b ∨ (Wx.heap.size ≤ b ∧ b < w4.heap.size) ∨ b < W.heap.size) w4 W') h); clear hR; have qy2 := (hb4.cell (p := ⟨W.heap.size, 0, none⟩) hyl).trans qy; obtain ⟨ra, rc, rfl, _⟩ := hown.intsS; have HB4 := hide hb4; clear hown hb4)
        | ((first | (refine hR2.mono ?_) | (refine ⟨fun h => (by cases h), hR2.mono ?_⟩)); clear hR2; rintro e W4 ⟨tv, rfl, h5⟩))
      all_goals rcases h5 with ⟨rfl, ⟨O3, hJ3, hsub⟩, hk4⟩ | ⟨rfl, hJx4, hk4⟩
      all_goals gi_wp2
      all_goals
        have hb4 := unhide HB4
        have hs4 := hb4.size
        first
        | exact ⟨⟨O3, (unhide HI).round ((Keeps.of_below (O := O2) hb4).trans hk4 (fun b hb e => e.elim id (fun h => by omega))) hJ3 (fun b hb => ⟨(hsub b hb).1.imp id (fun h => by omega), (hsub b hb).2⟩) hSlt, fun b hb => ⟨(hsub b hb).1.imp id (fun h => by omega), (hsub b hb).2⟩⟩, (Keeps.of_below (O := O2) hb4).trans hk4 (fun b hb e => e.elim id (fun h => by omega))⟩
        | exact ⟨⟨rfl, hJx4⟩, ((Keeps.of_below (O := fun b => O2 b ∨ b < W.heap.size) hb4).trans hk4 (fun b hb e => by rcases e with e | e | e; exact .inl e; omega; exact .inr e)).mono (fun q hq => hq.imp id (fun h => by omega))⟩
    case done =>
      rintro D O2 Wx hD hO2 hi hDx
      have HD := hide hD
      clear hD
      go_wp2_with fail
      have hD := unhide HD
      refine leaves_marks (base := W.heap.size) (v := .tuple #[]) [D] _ (by simp) (fun E hE => ?_) (fun w' hs => ⟨results_none rfl _ _ _, ⟨_, rfl⟩, .inl ⟨O2, ?_, fun b hb => ⟨(hO2 b hb).1.imp id (fun h => by omega), Nat.lt_of_lt_of_le (hO2 b hb).2 hs.size⟩⟩⟩)
      · have e : E = D := by simpa using hE
        rw [e]
        exact ⟨by omega, hDx⟩
      · rw [unhide HFI]
        exact hJ _ _ _ _ hi.j hs
    case stop =>
      rintro D cc k' Wx hD hk' ⟨rfl, hjx⟩ hDx
      have HD := hide hD
      clear hD
      refine wpIn_wide.2 ?_
      go_wp2_with fail
      have hD := unhide HD
      refine leaves_marks (base := W.heap.size) (v := .tuple #[]) [D] _ (by simp) (fun E hE => ?_) (fun w' hs => ⟨results_none rfl _ _ _, ⟨_, rfl⟩, .inr ⟨k', by rw [unhide HFI]; exact hk', hJx _ _ _ hjx hs⟩⟩)
      have e : E = D := by simpa using hE
      rw [e]
      exact ⟨by omega, hDx⟩
end Go.Proofs.YthcljhfankooaabGreat
