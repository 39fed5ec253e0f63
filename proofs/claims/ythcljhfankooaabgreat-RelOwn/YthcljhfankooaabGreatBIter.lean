/- Going over the nodes of a tree. -/
import Derived.Test.YthcljhfankooaabGreatBInsert
import Derived.Test.YthcljhfankooaabGreatBLaw2
import Derived.Deep.RegionWith
import Derived.Deep.Cut
import Derived.Deep.CutRange
namespace Go.Proofs.YthcljhfankooaabGreat
open Go.RowKit Go.Shelf

attribute [local go_sem] Oper.semAt_some

/-- Not below low. -/
def geF (o low : List Int) (y : Item) : Bool := decide (0 ≤ cmpA o y.2 low)
def ge (o low : List Int) (l : List Item) : List Item := l.filter (geF o low)
theorem ge_seg (o low : List Int) (c : Nat → List Item) (t : Nat → Item) : ∀ k i, (∀ j, i ≤ j → j < i + k → geF o low (t j) = true) → ge o low (seg c t i k) = seg (fun j => ge o low (c j)) t i k
  | 0, i, _ => rfl
  | k + 1, i, h => by
    rw [seg, seg, ge, List.filter_append, List.filter_cons_of_pos (h i (Nat.le_refl _) (by omega))]
    exact congrArg _ (congrArg _ (ge_seg o low c t k (i + 1) (fun j h1 h2 => h j (by omega) (by omega))))
theorem ge_node {o low : List Int} (ho : right o = true) {c : Nat → List Item} {t : Nat → Item} {n i : Nat} (h : Rises o (seg c t 0 n)) (hx : low.length = o.length) (hp : Place o low t n i) : ge o low (seg c t 0 n) = seg (fun j => ge o low (c j)) t i (n - i) := by
  rw [show n = i + (n - i) by have := hp.1; omega, seg_split]
  have e : ge o low (up c t i) = [] := by
    rw [ge, List.filter_eq_nil_iff]
    intro y hy
    have := h.ahead ho hx hp.1 hp.2.1 y hy
    simp [geF]; omega
  rw [ge, List.filter_append, show List.filter (geF o low) (up c t i) = [] from e, List.nil_append, show i + (n - i) - i = n - i by omega]
  exact ge_seg o low c t (n - i) i (fun j h1 h2 => by simp [geF]; exact hp.2.2 j h1 (by omega))
/-- What came ahead of the r-th round. -/
def came (c : Nat → List Item) (t : Nat → Item) (i r : Nat) : List Item := up (fun j => c (i + j)) (fun j => t (i + j)) r
theorem came_split (c : Nat → List Item) (t : Nat → Item) (i r k : Nat) (h : r ≤ k) : seg c t i k = came c t i r ++ seg c t (i + r) (k - r) := by
  have e1 := seg_shift c t i k 0
  rw [Nat.add_zero] at e1
  rw [← e1, show k = r + (k - r) by omega, seg_split, show r + (k - r) - r = k - r by omega]
  congr 1
  exact seg_shift c t i (k - r) r
theorem came_succ (c : Nat → List Item) (t : Nat → Item) (i r : Nat) : came c t i (r + 1) = came c t i r ++ (c (i + r) ++ [t (i + r)]) := rfl

theorem seg_head (c : Nat → List Item) (t : Nat → Item) (i : Nat) : ∀ k, ∃ rest, seg c t i k = c i ++ rest
  | 0 => ⟨[], by simp [seg]⟩
  | k + 1 => ⟨_, rfl⟩
theorem kid_part (A : List Item) (c : Nat → List Item) (t : Nat → Item) (i k : Nat) : A.length + (c i).length ≤ (A ++ seg c t i k).length ∧ ∀ (k' : Nat) (v : Value), ((c i).map (·.1))[k']? = some v → ((A ++ seg c t i k).map (·.1))[A.length + k']? = some v := by
  obtain ⟨rest, e⟩ := seg_head c t i k
  rw [e]
  refine ⟨by simp, fun k' v h => ?_⟩
  rw [List.map_append, List.map_append, List.getElem?_append_right (by simp)]
  simp only [List.length_map, Nat.add_sub_cancel_left]
  rw [List.getElem?_append_left]
  · exact h
  · have := (List.getElem?_eq_some_iff.1 h).1
    simpa using this
def mk (D : Nat) : Deferred := { target := .collected D, args := #[] }
theorem leaves_marks {m base : Nat} {fn : Func} {tmps : Array Value} {R : Ending → World → Prop} {v : Value} : ∀ (Ds : List Nat) (w : World), Ds.Nodup → (∀ D ∈ Ds, base ≤ D ∧ w.heap[D]? = some (.deferred (some []))) →
    (∀ w', Step base w w' → (results fn tmps).run Tryz.prog w' = .ok v w' ∧ R (.returned v) w') → LeavesInM Fence.wide m Tryz.prog fn tmps R (Ds.map mk) .returning w
  | [], w, _, _, h => by
    obtain ⟨h1, h2⟩ := h w (Step.refl _ _)
    exact ⟨v, h1, h2⟩
  | D :: Ds, w, hn, hD, h => by
    have hd := hD D (by simp)
    refine ⟨by simp, .inl ⟨D, _, rfl, run_takeDeferred hd.2, leaves_marks Ds _ (List.nodup_cons.1 hn).2 (fun E hE => ⟨(hD E (by simp [hE])).1, ?_⟩) (fun w' hs => h w' ((Step.putObj hd.2 rfl hd.1 _).trans hs))⟩⟩
    exact (World.putObj_heap_other (fun e => (List.nodup_cons.1 hn).1 (by rw [← e]; exact hE))).trans (hD E (by simp [hE])).2
theorem calls_marks {f : FuncId} {fn : Func} {c : Code} {args : Array Value} {w : World} {R : Ending → World → Prop} (hf : Tryz.prog.funcs[f]? = some fn) (hb : fn.body = some c)
    (h : c.wp Tryz.prog (bodyPostM Fence.wide 6 Tryz.prog fn R) { tmps := args ++ Array.replicate (fn.ntmps - args.size) undef, defers := [] } w) : Calls Tryz.prog f args w R :=
  (callsIn_wide (n := 6)).1 (callsIn_of_wp_marks hf hb trivial (wpIn_wide.2 h) rfl)

/-- Both ways of a round as one. -/
def Both1 (A B : World → Prop) (e : Ending) (W : World) : Prop := ∃ tv : Bool, e = .returned (.bool tv) ∧ ((tv = true ∧ A W) ∨ (tv = false ∧ B W))
theorem both1 {A B : World → Prop} {e : Ending} {W : World} (h : (e = .returned (.bool true) ∧ A W) ∨ (e = .returned (.bool false) ∧ B W)) : Both1 A B e W := by
  rcases h with ⟨h, ha⟩ | ⟨h, hb⟩
  · exact ⟨true, h, .inl ⟨rfl, ha⟩⟩
  · exact ⟨false, h, .inr ⟨rfl, hb⟩⟩

theorem nfrom_any (w : World) (p : Option Addr) (oa la : Option Addr) (on oc ln lc : Nat) :
    Calls Tryz.prog 149 #[.pointer p, .slice oa on oc, .slice la ln lc] w fun e w' => e = .returned (.func (.func 156) #[] #[.pointer (some ⟨w.heap.size, 0, none⟩), .pointer (some ⟨w.heap.size + 1, 0, none⟩), .pointer (some ⟨w.heap.size + 1 + 1, 0, none⟩)]) ∧
      w' = ((w.alloc (.cells #[.pointer p] 100)).alloc (.cells #[.slice oa on oc] 32)).alloc (.cells #[.slice la ln lc] 32) := by
  go_enter Tryz.func149, Tryz.ntmps149
  go_wp2_with fail
  go_ret
  exact ⟨rfl, rfl⟩

/-- Between two rounds over the kids of a node. -/
structure St (S : Nat → Prop) (J : Nat → (Nat → Prop) → World → Prop) (W : World) (lp n i : Nat) (c : Nat → List Item) (t : Nat → Item) (O0 : Nat → Prop) (r K : Nat) (Ds : List Nat) (O : Nat → Prop) (w : World) : Prop where
  j : J K O w
  k : (r ≤ n - i ∧ K = (came c t i r).length) ∨ (r = n - i + 1 ∧ K = (seg c t i (n - i)).length)
  nd : Ds.Nodup
  ds : ∀ D ∈ Ds, W.heap.size ≤ D ∧ w.heap[D]? = some (.deferred (some [])) ∧ ¬ O D
  st : Stays S W w
  yb : Boxed w W.heap.size 70 (.func (.yield lp) #[] #[])
  oy : ¬ O W.heap.size
  os : ∀ b, S b → ¬ O b
  ob : ∀ b, O b → (O0 b ∨ W.heap.size ≤ b) ∧ b < w.heap.size
/-- .. in the midst of a kid's own. -/
structure Sk (S : Nat → Prop) (J : Nat → (Nat → Prop) → World → Prop) (W : World) (lp : Nat) (O0 : Nat → Prop) (K : Nat) (Ds : List Nat) (O : Nat → Prop) (w : World) : Prop where
  j : J K O w
  ds : ∀ D ∈ Ds, W.heap.size ≤ D ∧ w.heap[D]? = some (.deferred (some [])) ∧ ¬ O D
  st : Stays S W w
  yb : Boxed w W.heap.size 70 (.func (.yield lp) #[] #[])
  oy : ¬ O W.heap.size
  os : ∀ b, S b → ¬ O b
  ob : ∀ b, O b → (O0 b ∨ W.heap.size ≤ b) ∧ b < w.heap.size
theorem Sk.step {S : Nat → Prop} {J : Nat → (Nat → Prop) → World → Prop} {W : World} {lp : Nat} {O0 : Nat → Prop} {K : Nat} {Ds : List Nat} {O : Nat → Prop} {A B : World} {base : Nat} (hJ : ∀ k O A B, J k O A → Step W.heap.size A B → J k O B) (h : Sk S J W lp O0 K Ds O A) (hs : Step base A B) (hb : W.heap.size ≤ base) (hD : ∀ D ∈ Ds, D < base) : Sk S J W lp O0 K Ds O B :=
  ⟨hJ _ _ _ _ h.j (hs.mono hb), fun D hd => ⟨(h.ds D hd).1, hs.same _ _ (h.ds D hd).2.1 (.inl (hD D hd)), (h.ds D hd).2.2⟩, h.st.trans hs.stays, hs.box h.yb, h.oy, h.os, fun b hb => ⟨(h.ob b hb).1, Nat.lt_of_lt_of_le (h.ob b hb).2 hs.size⟩⟩
theorem Sk.toSt {S : Nat → Prop} {J : Nat → (Nat → Prop) → World → Prop} {W : World} {lp n i : Nat} {c : Nat → List Item} {t : Nat → Item} {O0 : Nat → Prop} {r K D : Nat} {Ds : List Nat} {O : Nat → Prop} {w : World} (h : Sk S J W lp O0 K Ds O w) (hk : (r ≤ n - i ∧ K = (came c t i r).length) ∨ (r = n - i + 1 ∧ K = (seg c t i (n - i)).length)) (nd : (D :: Ds).Nodup) (hD : W.heap.size ≤ D ∧ w.heap[D]? = some (.deferred (some [])) ∧ ¬ O D) : Hid (St S J W lp n i c t O0 r K (D :: Ds) O w) :=
  (⟨h.j, hk, nd, fun E hE => by
    rcases List.mem_cons.1 hE with e | hE
    · rw [e]; exact hD
    · exact h.ds E hE, h.st, h.yb, h.oy, h.os, h.ob⟩ : St S J W lp n i c t O0 r K (D :: Ds) O w)
/-- A round of the loop's own kept all but what is owned. -/
theorem Sk.round {S : Nat → Prop} {J : Nat → (Nat → Prop) → World → Prop} {W : World} {lp : Nat} {O0 : Nat → Prop} {K : Nat} {Ds : List Nat} {O O' : Nat → Prop} {A B : World} (h : Sk S J W lp O0 K Ds O A) (hk : Keeps O A B) (hj : J (K + 1) O' B) (hsub : ∀ b, O' b → (O b ∨ A.heap.size ≤ b) ∧ b < B.heap.size) (hS : ∀ b, S b → b < W.heap.size) : Sk S J W lp O0 (K + 1) Ds O' B := by
  have hWA := h.st.size
  have hn : ∀ b, b < A.heap.size → ¬ O b → ¬ O' b := fun b hb hn e => by
    rcases (hsub b e).1 with e | e
    · exact hn e
    · omega
  exact ⟨hj, fun D hd => ⟨(h.ds D hd).1, hk.same _ _ (h.ds D hd).2.1 (h.ds D hd).2.2, hn _ (lt_heap (h.ds D hd).2.1) (h.ds D hd).2.2⟩, h.st.trans (hk.stays (fun b _ hs => h.os b hs)), hk.box h.yb h.oy, hn _ h.yb.lt h.oy, fun b hs => hn b (by have := hS b hs; omega) (h.os b hs),
    fun b hb => ⟨by
      rcases (hsub b hb).1 with e | e
      · exact (h.ob b e).1
      · right; omega, (hsub b hb).2⟩⟩

set_option maxRecDepth 100000 in
set_option maxHeartbeats 4000000 in
theorem nfrom1_goes (ov lv : Value) (o low : List Int) (hr : right o = true) (hlow : low.length = o.length) : ∀ (d : Nat) (S : Nat → Prop) (p : Option Addr) (l : List Item) (W : World) (nb ob lb : Nat), Boxed W nb 100 (.pointer p) → Boxed W ob 32 ov → Boxed W lb 32 lv →
    (∀ b, S b → b < W.heap.size) → S nb → S ob → S lb → IntsS S W ov o → IntsS S W lv low → Tree S W d 15 p l → Rises o l →
    GoesAtO 156 #[.pointer (some ⟨nb, 0, none⟩), .pointer (some ⟨ob, 0, none⟩), .pointer (some ⟨lb, 0, none⟩)] (ge o low l).length (fun k _ v _ => ((ge o low l).map (·.1))[k]? = some v) S W := by
  intro d
  induction d with
  | zero =>
    intro S p l W nb ob lb hnb hob hlb _ _ _ _ hov hlv hT _ lp J Jx O hSO hO hJ hJx hY h0
    obtain ⟨rfl, rfl⟩ := hT
    have q0 := hnb.cell
    have hlt := hnb.lt
    refine calls_marks Tryz.func156 rfl ?_
    simp only [Tryz.ntmps156, List.size_toArray, List.length_cons, List.length_nil, Nat.reduceAdd, Nat.reduceSub, Array.replicate_succ, Array.replicate_zero, List.push_toArray, List.append_toArray, List.nil_append, List.cons_append]
    go_wp2_with fail
    refine leaves_marks (base := W.heap.size) (v := .tuple #[]) [] _ List.nodup_nil (fun _ h => by cases h) (fun w' hs => ⟨results_none rfl _ _ _, ⟨_, rfl⟩, .inl ⟨O, hJ _ _ _ _ h0 ((Step.alloc _ _ _).trans hs), fun b hb => ⟨.inl hb, ?_⟩⟩⟩)
    have h1 := hO b hb
    have h2 := hs.size
    simp at h2
    omega
  | succ d ih =>
    intro S p l W nb ob lb hnb hob hlb hSlt snb sob slb hov hlv hT hR lp J Jx O hSO hO hJ hJx hY h0
    obtain ⟨b, n, tv, kv, t, c, k, rfl, rfl, hN, hk⟩ := hT
    obtain ⟨W1, hW1⟩ : ∃ W1, W1 = W.alloc (.cells #[.func (.yield lp) #[] #[]] 70) := ⟨_, rfl⟩
    have b1 : Below W.heap.size W W1 := by rw [hW1]; exact (Below.refl _ W).alloc (Nat.le_refl _) _
    have y1 : Boxed W1 W.heap.size 70 (.func (.yield lp) #[] #[]) := by rw [hW1]; exact Boxed.new W _ _
    have st1 : Stays S W W1 := Stays.of_below b1
    have n1 := st1.box hnb snb
    have o1 := st1.box hob sob
    have l1 := st1.box hlb slb
    obtain ⟨oa, oc, rfl, _⟩ := id hov
    obtain ⟨la, lc, rfl, _⟩ := id hlv
    have hf := find_any S W1 d 15 b n _ tv kv _ o low t k c (hN.stays st1) (by omega) hr hlow (hov.stays st1).ints (hlv.stays st1).ints hR
    have q1 := n1.cell
    have q2 := o1.cell
    have q3 := l1.cell
    have HL := hide hlow
    have HALL := hide (And.intro hN (And.intro hk (And.intro hR (And.intro hov hlv))))
    have HY := hide hY
    have IH := hide ih
    clear hlow hN hk hR hov hlv hY ih
    refine calls_marks Tryz.func156 rfl ?_
    simp only [Tryz.ntmps156, List.size_toArray, List.length_cons, List.length_nil, Nat.reduceAdd, Nat.reduceSub, Array.replicate_succ, Array.replicate_zero, List.push_toArray, List.append_toArray, List.nil_append, List.cons_append]
    rw [hW1] at q1 q2 q3 hf
    go_wp2_with fail
    refine hf.mono ?_
    clear hf
    rintro e W2 ⟨i, rfl, hp, b2⟩
    rw [← hW1] at b2
    generalize found o low t n i = fnd
    have hWW2 : Step W.heap.size W W2 := (Step.of_below b1).trans (Step.of_below b2)
    have y2 : Boxed W2 W.heap.size 70 (.func (.yield lp) #[] #[]) := (b2.block _ y1.lt).trans y1
    have hsz2 := hWW2.size
    have HP := hide hp
    have hin := hp.1
    have h15 := (unhide HALL).1.len
    clear hp b2 q1 q2 q3 n1 o1 l1 y1 st1 b1 hW1
    go_wp2_with fail
    have HST : Hid (St S J W lp n i (fun j => ge o low (c j)) t O 0 0 [] O W2) := ⟨hJ _ _ _ _ h0 hWW2, .inl ⟨Nat.zero_le _, rfl⟩, List.nodup_nil, fun _ h => (by cases h), hWW2.stays, y2, fun e => (by have := hO _ e; omega), hSO, fun b hb => ⟨.inl hb, by have := hO b hb; omega⟩⟩
    have HSET : Hid (Boxed W nb 100 (.pointer (some ⟨b, 0, none⟩)) ∧ Boxed W ob 32 (.slice oa o.length oc) ∧ Boxed W lb 32 (.slice la low.length lc)) := ⟨hnb, hob, hlb⟩
    have HGE := hide (ge_node hr (unhide HALL).2.2.1 (unhide HL) (unhide HP))
    clear hnb hob hlb hWW2 y2 hsz2 h0
    refine wp_loop (fun a w => ∃ (r K : Nat) (Ds : List Nat) (O' : Nat → Prop) (z : Int) (u8 u19 u20 u21 u22 u23 u24 u25 u26 u27 u28 u29 u30 u31 u32 u33 u34 u35 u36 u37 u38 u39 u40 u41 u42 u43 u44 u45 u46 u47 u48 u49 u50 u51 u52 u53 u54 u55 u56 u57 : Value), a = { tmps := #[.func (.yield lp) #[] #[], .pointer (some ⟨nb, 0, none⟩), .pointer (some ⟨ob, 0, none⟩), .pointer (some ⟨lb, 0, none⟩), .pointer (some ⟨W.heap.size, 0, none⟩), .int .i64 (i : Int), .bool fnd, .int .i64 z, u8, .pointer (some ⟨b, 0, none⟩), .bool false, .tuple #[.int .i64 (i : Int), .bool fnd], .pointer (some ⟨b, 0, none⟩), .slice oa o.length oc, .slice la low.length lc, .tuple #[.int .i64 (i : Int), .bool fnd], .int .i64 (i : Int), .bool fnd, .int .i64 (i : Int), u19, u20, u21, u22, u23, u24, u25, u26, u27, u28, u29, u30, u31, u32, u33, u34, u35, u36, u37, u38, u39, u40, u41, u42, u43, u44, u45, u46, u47, u48, u49, u50, u51, u52, u53, u54, u55, u56, u57], defers := Ds.map mk } ∧ z = ((i + r : Nat) : Int) ∧ Hid (St S J W lp n i (fun j => ge o low (c j)) t O r K Ds O' w)) (fun a _ => n + 1 - (intOf (a.tmps.getD 7 undef)).toNat) ?_ ?_
    · exact ⟨0, 0, [], O, i, undef, undef, undef, undef, undef, undef, undef, undef, undef, undef, undef, undef, undef, undef, undef, undef, undef, undef, undef, undef, undef, undef, undef, undef, undef, undef, undef, undef, undef, undef, undef, undef, undef, undef, undef, undef, undef, undef, undef, undef, rfl, by simp, HST⟩
    rintro a w ⟨r, K, Ds, O', z, u8, u19, u20, u21, u22, u23, u24, u25, u26, u27, u28, u29, u30, u31, u32, u33, u34, u35, u36, u37, u38, u39, u40, u41, u42, u43, u44, u45, u46, u47, u48, u49, u50, u51, u52, u53, u54, u55, u56, u57, rfl, rfl, hs⟩
    have hs0 := unhide hs
    have hbn : Boxed w nb 100 (.pointer (some ⟨b, 0, none⟩)) := hs0.st.box (unhide HSET).1 snb
    have hbo : Boxed w ob 32 (.slice oa o.length oc) := hs0.st.box (unhide HSET).2.1 sob
    have hbl : Boxed w lb 32 (.slice la low.length lc) := hs0.st.box (unhide HSET).2.2 slb
    have hNw := (unhide HALL).1.stays hs0.st
    obtain ⟨ta, tc, rfl, htc, htc2, hcell⟩ := id hNw.row
    have q1 := hbn.cell
    have q2 := hbo.cell
    have q3 := hbl.cell
    have q4 := hs0.yb.cell
    have q5 := hNw.c0
    rcases hs0.k with ⟨hle, hK⟩ | ⟨hend, hK⟩
    · have hat : ((i + r : Nat) : Int) ≤ (n : Int) := by omega
      have hkid := kid_any S w.drew d 15 b n (i + r) _ kv t k (hNw.stays (Step.drew 0 w).stays) (by omega)
      have hfrom := nfrom_any w.drew (k (i + r)) oa la o.length oc low.length lc
      have mixed : Tryz.prog.follows .mixedOrders = true := by kernel_rfl
      have HK := hide hK
      clear hs0 hK
      have HCELL := hide hcell
      clear hcell
      go_wp2_with fail
      refine wp_mono (Q := fun e a' w2 => match e with | Exit.normal => a' = { tmps := #[.func (.yield lp) #[] #[], .pointer (some ⟨nb, 0, none⟩), .pointer (some ⟨ob, 0, none⟩), .pointer (some ⟨lb, 0, none⟩), .pointer (some ⟨W.heap.size, 0, none⟩), .int .i64 (i : Int), .bool fnd, .int .i64 ((i : Int) + (r : Int)), u8, .pointer (some ⟨b, 0, none⟩), .bool false, .tuple #[.int .i64 (i : Int), .bool fnd], .pointer (some ⟨b, 0, none⟩), .slice oa o.length oc, .slice la low.length lc, .tuple #[.int .i64 (i : Int), .bool fnd], .int .i64 (i : Int), .bool fnd, .int .i64 (i : Int), .int .i64 ((i : Int) + (r : Int)), .pointer (some ⟨b, 0, none⟩), .pointer (some ⟨b, 0, none⟩), .pointer (some ⟨b, 0, none⟩), .slice ta n tc, .int .i64 (n : Int), .bool true, u26, u27, .pointer (some ⟨b, 0, none⟩), .int .i64 ((i : Int) + (r : Int)), .pointer (k (i + r)), .slice oa o.length oc, .slice la low.length lc, .func (.func 156) #[] #[.pointer (some ⟨w.heap.size, 0, none⟩), .pointer (some ⟨w.heap.size + 1, 0, none⟩), .pointer (some ⟨w.heap.size + 1 + 1, 0, none⟩)], u34, u35, u36, u37, u38, u39, u40, u41, u42, u43, u44, u45, u46, u47, u48, u49, u50, u51, u52, u53, u54, u55, u56, u57], defers := Ds.map mk } ∧ w2 = (((w.alloc (.cells #[.pointer (k (i + r))] 100)).alloc (.cells #[.slice oa o.length oc] 32)).alloc (.cells #[.slice la low.length lc] 32)).drew | _ => False) ?_ ?_
      · clear hbn hbo hbl hNw q4 q5 HALL HY IH HST HSET HGE
        go_region_with (first
          | (go_at_call 120; refine hkid.mono ?_; clear hkid; rintro e w2 ⟨rfl, rfl⟩)
          | (go_at_call 149; refine hfrom.mono ?_; clear hfrom; rintro e w2 ⟨rfl, rfl⟩))
        all_goals exact ⟨rfl, rfl⟩
      · intro e a' w2 h
        cases e with
        | exit id => exact h.elim
        | goto tt => exact h.elim
        | ret => exact h.elim
        | panic ch => exact h.elim
        | outgrown => exact h.elim
        | normal =>
        obtain ⟨rfl, rfl⟩ := h
        go_wp2_with fail
        obtain ⟨W3, hW3⟩ : ∃ W3, W3 = (((w.alloc (.cells #[.pointer (k (i + r))] 100)).alloc (.cells #[.slice oa o.length oc] 32)).alloc (.cells #[.slice la low.length lc] 32)).drew := ⟨_, rfl⟩
        rw [← hW3]
        have hs0 := unhide hs
        have hst3 : Step W.heap.size w W3 := by rw [hW3]; exact (((Step.alloc _ _ _).trans (Step.alloc _ _ _)).trans (Step.alloc _ _ _)).trans (Step.drew _ _)
        have hb3 : Below w.heap.size w W3 := by rw [hW3]; exact ((((Below.refl _ w).alloc (Nat.le_refl _) _).alloc (by simp) _).alloc (by simp; omega) _).drew
        have hsz3 : W3.heap.size = w.heap.size + 3 := by rw [hW3]; simp [World.drew]
        have k1 : Boxed W3 w.heap.size 100 (.pointer (k (i + r))) := by rw [hW3]; exact ((Boxed.new w _ _).alloc _).alloc _
        have k2 : Boxed W3 (w.heap.size + 1) 32 (.slice oa o.length oc) := by
          rw [hW3]
          have := (Boxed.new (w.alloc (.cells #[.pointer (k (i + r))] 100)) 32 (.slice oa o.length oc)).alloc (.cells #[.slice la low.length lc] 32)
          rw [World.size_alloc] at this
          exact this
        have k3 : Boxed W3 (w.heap.size + 1 + 1) 32 (.slice la low.length lc) := by
          rw [hW3]
          have := Boxed.new ((w.alloc (.cells #[.pointer (k (i + r))] 100)).alloc (.cells #[.slice oa o.length oc] 32)) 32 (.slice la low.length lc)
          rw [World.size_alloc, World.size_alloc] at this
          exact this
        have hWw := hs0.st.size
        have stW3 : Stays S W W3 := hs0.st.trans hst3.stays
        have hDlt : ∀ D ∈ Ds, D < W3.heap.size := fun D hD => by have := lt_heap (hs0.ds D hD).2.1; omega
        have hk0 : Sk S J W lp O K Ds O' W3 := (⟨hs0.j, hs0.ds, hs0.st, hs0.yb, hs0.oy, hs0.os, hs0.ob⟩ : Sk S J W lp O K Ds O' w).step hJ (Step.of_below (base := w.heap.size) hb3) hWw (fun D hD => lt_heap (hs0.ds D hD).2.1)
        have HSEQ : Hid (GoesO 156 #[.pointer (some ⟨w.heap.size, 0, none⟩), .pointer (some ⟨w.heap.size + 1, 0, none⟩), .pointer (some ⟨w.heap.size + 1 + 1, 0, none⟩)] (ge o low (c (i + r))).length (fun k _ v _ => ((ge o low (c (i + r))).map (·.1))[k]? = some v) (fun q => S q ∨ (w.heap.size ≤ q ∧ q < w.heap.size + 3)) W3) := fun W4 h4 => by
          have hs4 := h4.size
          have st4 : Stays S W W4 := stW3.trans (h4.mono fun q hq => .inl hq)
          have hov4 := ((unhide HALL).2.2.2.1.stays st4).mono (S' := fun q => S q ∨ (w.heap.size ≤ q ∧ q < w.heap.size + 3)) (fun _ _ h => .inl h)
          have hlv4 := ((unhide HALL).2.2.2.2.stays st4).mono (S' := fun q => S q ∨ (w.heap.size ≤ q ∧ q < w.heap.size + 3)) (fun _ _ h => .inl h)
          have hT4 := (((unhide HALL).2.1 (i + r) (by omega)).stays st4).mono (S' := fun q => S q ∨ (w.heap.size ≤ q ∧ q < w.heap.size + 3)) (fun _ _ h => .inl h)
          exact unhide IH _ _ _ W4 _ _ _ (h4.box k1 (.inr (by omega))) (h4.box k2 (.inr (by omega))) (h4.box k3 (.inr (by omega)))
            (fun q hq => by rcases hq with hq | hq; (have := hSlt q hq; omega); omega) (.inr (by omega)) (.inr (by omega)) (.inr (by omega)) hov4 hlv4 hT4 ((unhide HALL).2.2.1.kid (by omega))
        have hLE : K + (ge o low (c (i + r))).length ≤ (ge o low (seg c t 0 n)).length ∧ ∀ (k' : Nat) (v : Value), ((ge o low (c (i + r))).map (·.1))[k']? = some v → ((ge o low (seg c t 0 n)).map (·.1))[K + k']? = some v := by
          rw [unhide HGE, came_split (fun j => ge o low (c j)) t i r (n - i) hle, unhide HK]
          exact kid_part (came (fun j => ge o low (c j)) t i r) (fun j => ge o low (c j)) t (i + r) (n - i - r)
        have HLE := hide hLE
        refine (wpIn_wide (n := 6)).1 (wp_rangeO (gf := 156) rfl (enters_of Tryz.func156 (by kernel_rfl) rfl) (unhide HSEQ) (fun _ _ _ _ _ h _ => h) O' (fun q hq => by have := (hs0.ob q hq).2; omega)
          (fun q hq e => by rcases hq with hq | hq; exact hs0.os q hq e; (have := (hs0.ob q e).2; omega))
          (fun k' O2 Wx => Sk S J W lp O (K + k') Ds O2 Wx) (fun cc k' Wx => cc = .ret ∧ Jx (K + k') Wx ∧ ∀ D ∈ Ds, W.heap.size ≤ D ∧ Wx.heap[D]? = some (.deferred (some [])))
          (fun k' O2 A B h h2 => h.step hJ h2 (by omega) hDlt) (fun cc k' A B h h2 => ⟨h.1, hJx _ _ _ h.2.1 (h2.mono (by omega)), fun D hD => ⟨(h.2.2 D hD).1, h2.same _ _ (h.2.2 D hD).2 (.inl (hDlt D hD))⟩⟩) hk0 ?a1 ?assign ?body ?done ?stop)
        case assign =>
          intro l m v Wx KK hK
          gi_wp2
          exact hK
        case body =>
          intro l m k' O2 v Wx hsz hO2 hlt hi hy
          obtain ⟨fn, tmps, assign, body, hyr, hR⟩ := unhide HY (m - 1) (K + k') O2 v Wx (by have := (unhide HLE).1; omega) hi.j ((unhide HLE).2 k' v hy)
          have qy := hi.yb.cell
          have hDb := hi.ds
          gi_wp2
          refine ⟨fun h => (by cases h), hR.mono ?_⟩
          rintro e W4 (⟨rfl, ⟨O3, hJ3, hsub⟩, hk4⟩ | ⟨rfl, hJx4, hk4⟩)
          · gi_wp2
            exact ⟨⟨O3, hi.round hk4 hJ3 hsub hSlt, hsub⟩, hk4⟩
          · gi_wp2
            refine ⟨⟨rfl, hJx4, fun D hD => ⟨(hDb D hD).1, hk4.same _ _ (hDb D hD).2.1 (fun e => ?_)⟩⟩, hk4.mono (fun q hq => hq.imp id (fun h => ?_))⟩
            · rcases e with e | e
              · exact (hDb D hD).2.2 e
              · have := (hDb D hD).1
                omega
            · omega
        case stop =>
          rintro D cc k' Wx hD hk' ⟨rfl, hjx, hds⟩ hDx
          have HD := hide hD
          clear hD
          refine wpIn_wide.2 ?_
          go_wp2_with fail
          have hD := unhide HD
          refine leaves_marks (base := W.heap.size) (v := .tuple #[]) (D :: Ds) _ (List.nodup_cons.2 ⟨fun e => by have := hDlt D e; omega, hs0.nd⟩) (fun E hE => ?_) (fun w' hst => ⟨results_none rfl _ _ _, ⟨_, rfl⟩, .inr ⟨K + k', by have := (unhide HLE).1; omega, hJx _ _ _ hjx hst⟩⟩)
          rcases List.mem_cons.1 hE with e | hE
          · rw [e]; exact ⟨by omega, hDx⟩
          · exact hds E hE
        case done =>
          rintro D O2 Wx hD hO2 hi hDx
          have hbn : Boxed Wx nb 100 (.pointer (some ⟨b, 0, none⟩)) := hi.st.box (unhide HSET).1 snb
          have hNx := (unhide HALL).1.stays hi.st
          have x1 := hbn.cell
          have x4 := hi.yb.cell
          have x5 := hNx.c0
          have HI := hide hi
          have HD : Hid (D = W3.heap.size ∧ Wx.heap[D]? = some (.deferred (some [])) ∧ W3.heap.size = w.heap.size + 3 ∧ (∀ E ∈ Ds, E < W3.heap.size) ∧ Ds.Nodup ∧ W.heap.size ≤ w.heap.size) := ⟨hD, hDx, hsz3, hDlt, hs0.nd, hWw⟩
          have HO2 := hide hO2
          have HOB := hide hs0.ob
          clear hi hD hDx hO2 hs0 hst3 hb3 hsz3 k1 k2 k3 hWw stW3 hDlt hk0 HSEQ hLE hbn q1 q2 q3 q4 q5 hbo hbl hNw hW3
          have hDf := unhide HD
          have hDO : ¬ O2 D := fun e => by
            rcases (unhide HO2 D e).1 with e1 | e1
            · have := (unhide HOB D e1).2
              omega
            · omega
          have HDO := hide hDO
          clear hDf hDO
          by_cases hlt : i + r < n
          · obtain ⟨ta', tc', etv, _, _, hcx⟩ := id hNx.row
            cases etv
            obtain ⟨tb, toff, e1, _, hc⟩ := hcx (i + r) hlt
            subst e1
            have hc : Wx.drew.cell? ⟨tb, toff + (i + r), none⟩ = some (t (i + r)).1 := hc
            obtain ⟨sa, sc, e8, _⟩ := hNx.items (i + r) hlt
            have HE8 := hide e8
            have hgl : ((i : Int) + (r : Int) < (n : Int)) := by omega
            have hgl2 : decide ((i : Int) + (r : Int) < (n : Int)) = true := by simp; omega
            have mixed : Tryz.prog.follows .mixedOrders = true := by kernel_rfl
            have hjd := hJ _ _ _ _ (unhide HI).j (Step.drew _ Wx)
            have hNEXT : came (fun j => ge o low (c j)) t i (r + 1) = came (fun j => ge o low (c j)) t i r ++ (ge o low (c (i + r)) ++ [t (i + r)]) := rfl
            have hyv : ((ge o low (seg c t 0 n)).map (·.1))[K + (ge o low (c (i + r))).length]? = some (t (i + r)).1 := by
              rw [unhide HGE, came_split (fun j => ge o low (c j)) t i (r + 1) (n - i) (by omega), unhide HK, hNEXT]
              simp
            have hKl : K + (ge o low (c (i + r))).length < (ge o low (seg c t 0 n)).length := by
              have := (List.getElem?_eq_some_iff.1 hyv).1
              simpa using this
            obtain ⟨fn, tmps, assign, body, hyr, hR⟩ := unhide HY (6 - 1) _ O2 _ Wx.drew hKl hjd hyv
            rw [e8] at hyr hc
            have HKL := hide hKl
            clear hNx hcx e8 hyv hKl hNEXT hjd
            go_wp2_with fail
            have hR2 := RoundIn.mono hR (fun e W' h => both1 (A := fun w2 => (∃ O3, J (K + (ge o low (c (i + r))).length + 1) O3 w2 ∧ (∀ q, O3 q → (O2 q ∨ Wx.drew.heap.size ≤ q) ∧ q < w2.heap.size)) ∧ Keeps O2 Wx.drew w2) (B := fun w2 => Jx (K + (ge o low (c (i + r))).length + 1) w2 ∧ Keeps (fun q => O2 q ∨ q < W.heap.size) Wx.drew w2) h)
            obtain ⟨PP, hPP⟩ : ∃ PP : Act → World → Prop, PP = fun a' w2 => ∃ (tv : Bool) (z39 z40 z41 z42 z43 z44 z45 z46 z47 z48 z49 z50 z51 z52 z53 z54 z55 z56 : Value), a' = { tmps := #[.func (.yield lp) #[] #[], .pointer (some ⟨nb, 0, none⟩), .pointer (some ⟨ob, 0, none⟩), .pointer (some ⟨lb, 0, none⟩), .pointer (some ⟨W.heap.size, 0, none⟩), .int .i64 (i : Int), .bool fnd, .int .i64 ((i : Int) + (r : Int)), u8, .pointer (some ⟨b, 0, none⟩), .bool false, .tuple #[.int .i64 (i : Int), .bool fnd], .pointer (some ⟨b, 0, none⟩), .slice oa o.length oc, .slice la low.length lc, .tuple #[.int .i64 (i : Int), .bool fnd], .int .i64 (i : Int), .bool fnd, .int .i64 (i : Int), .int .i64 ((i : Int) + (r : Int)), .pointer (some ⟨b, 0, none⟩), .pointer (some ⟨b, 0, none⟩), .pointer (some ⟨b, 0, none⟩), .slice (some ⟨tb, toff, none⟩) n tc, .int .i64 (n : Int), .bool true, u26, u27, .pointer (some ⟨b, 0, none⟩), .int .i64 ((i : Int) + (r : Int)), .pointer (k (i + r)), .slice oa o.length oc, .slice la low.length lc, .func (.func 156) #[] #[.pointer (some ⟨w.heap.size, 0, none⟩), .pointer (some ⟨w.heap.size + 1, 0, none⟩), .pointer (some ⟨w.heap.size + 1 + 1, 0, none⟩)], u34, u35, u36, u37, u38, z39, z40, z41, z42, z43, z44, z45, z46, z47, z48, z49, z50, z51, z52, z53, z54, z55, z56, .bool (!tv)], defers := mk D :: Ds.map mk } ∧ ((tv = true ∧ (∃ O3, J (K + (ge o low (c (i + r))).length + 1) O3 w2 ∧ (∀ q, O3 q → (O2 q ∨ Wx.drew.heap.size ≤ q) ∧ q < w2.heap.size)) ∧ Keeps O2 Wx.drew w2) ∨ (tv = false ∧ Jx (K + (ge o low (c (i + r))).length + 1) w2 ∧ Keeps (fun q => O2 q ∨ q < W.heap.size) Wx.drew w2)) := ⟨_, rfl⟩
            have HPP := hide hPP
            clear hR hPP
            refine wp_mono (Q := fun e a' w2 => match e with | Exit.normal => PP a' w2 | _ => False) ?_ ?_
            · refine (wpIn_wide (n := 6)).1 ?_
              clear HALL IH HSET HGE HLE HP HL
              gi_region_with_o ((first | (refine hR2.mono ?_) | (refine ⟨fun h => (by cases h), hR2.mono ?_⟩)); clear hR2; rintro e W4 ⟨tv, rfl, h5⟩)
              all_goals
                rw [unhide HPP]
                exact ⟨tv, _, _, _, _, _, _, _, _, _, _, _, _, _, _, _, _, _, _, rfl, h5⟩
            · intro e a' w2 h
              cases e with
              | exit id => exact h.elim
              | goto tt => exact h.elim
              | ret => exact h.elim
              | panic ch => exact h.elim
              | outgrown => exact h.elim
              | normal =>
              rw [unhide HPP] at h
              obtain ⟨tv, z39, z40, z41, z42, z43, z44, z45, z46, z47, z48, z49, z50, z51, z52, z53, z54, z55, z56, rfl, (⟨rfl, ⟨O3, hJ3, hsub⟩, hk4⟩ | ⟨rfl, hJx4, hk4⟩)⟩ := h
              · go_wp2_with fail
                have hsk := ((unhide HI).step hJ (Step.drew Wx.heap.size Wx) (by have := (unhide HI).st.size; omega) (fun E hE => lt_heap ((unhide HI).ds E hE).2.1)).round hk4 hJ3 hsub hSlt
                have hDx := (unhide HD).2.1
                have hDlt := lt_heap hDx
                refine ⟨⟨r + 1, _, D :: Ds, O3, _, ⟨rfl, rfl⟩, by omega, hsk.toSt (.inl ⟨by omega, ?_⟩) (List.nodup_cons.2 ⟨fun e => by have := (unhide HD).2.2.2.1 D e; have := (unhide HD).1; omega, (unhide HD).2.2.2.2.1⟩) ⟨by have := (unhide HD); omega, hk4.same _ _ hDx (unhide HDO), fun e => ?_⟩⟩, ?_⟩
                · rw [unhide HK]
                  show _ = (came (fun j => ge o low (c j)) t i r ++ (ge o low (c (i + r)) ++ [t (i + r)])).length
                  simp
                  omega
                · rcases (hsub D e).1 with e2 | e2
                  · exact unhide HDO e2
                  · have : Wx.drew.heap.size = Wx.heap.size := rfl
                    omega
                · simp [intOf]
                  omega
              · go_wp2_with fail
                have hDx := (unhide HD).2.1
                refine leaves_marks (base := W.heap.size) (v := .tuple #[]) (D :: Ds) _ (List.nodup_cons.2 ⟨fun e => by have := (unhide HD).2.2.2.1 D e; have := (unhide HD).1; omega, (unhide HD).2.2.2.2.1⟩) (fun E hE => ?_) (fun w' hst => ⟨results_none rfl _ _ _, ⟨_, rfl⟩, .inr ⟨_, by have := unhide HKL; omega, hJx _ _ _ hJx4 hst⟩⟩)
                rcases List.mem_cons.1 hE with e | hE
                · rw [e]
                  have hb : W.heap.size ≤ D := by have := (unhide HD); omega
                  exact ⟨hb, hk4.same _ _ hDx (fun e => e.elim (unhide HDO) (fun h => by omega))⟩
                · have h3 := (unhide HI).ds E hE
                  exact ⟨h3.1, hk4.same _ _ h3.2.1 (fun e => e.elim h3.2.2 (fun h => by omega))⟩
          · obtain ⟨ta', tc', etv, _⟩ := id hNx.row
            cases etv
            have hge : ((i : Int) + (r : Int) < (n : Int)) = False := by simp; omega
            have hge2 : decide ((i : Int) + (r : Int) < (n : Int)) = false := by simp; omega
            have mixed : Tryz.prog.follows .mixedOrders = true := by kernel_rfl
            clear hNx
            go_wp2_with fail
            go_quiet (fail)
            go_wp2_with fail
            have hsk := (unhide HI).step hJ (Step.drewN (base := Wx.heap.size) Wx nq) (by have := (unhide HI).st.size; omega) (fun E hE => lt_heap ((unhide HI).ds E hE).2.1)
            refine ⟨⟨r + 1, _, D :: Ds, O2, _, _, _, _, _, _, _, _, _, _, _, _, _, _, _, _, _, _, _, _, _, _, _, _, _, _, _, _, _, _, _, _, _, _, _, _, _, _, _, _, _, rfl, by omega, hsk.toSt (.inr ⟨by omega, ?_⟩) (List.nodup_cons.2 ⟨fun e => by have := (unhide HD).2.2.2.1 D e; have := (unhide HD).1; omega, (unhide HD).2.2.2.2.1⟩) ⟨by have := (unhide HD); omega, (unhide HD).2.1, unhide HDO⟩⟩, ?_⟩
            · rw [came_split (fun j => ge o low (c j)) t i r (n - i) hle, show n - i - r = 0 by omega, unhide HK]
              simp [seg]
            · simp [intOf]
              omega
    · clear hs0
      have hat : ¬ (((i + r : Nat) : Int) ≤ (n : Int)) := by omega
      have hat2 : (n : Int) < ((i + r : Nat) : Int) := by omega
      go_wp2_with fail
      have hs0 := unhide hs
      refine leaves_marks (base := W.heap.size) (v := .tuple #[]) Ds _ hs0.nd (fun D hD => ⟨(hs0.ds D hD).1, (hs0.ds D hD).2.1⟩) (fun w' hst => ⟨results_none rfl _ _ _, ⟨_, rfl⟩, .inl ⟨O', ?_, fun b hb => ⟨(hs0.ob b hb).1, Nat.lt_of_lt_of_le (hs0.ob b hb).2 hst.size⟩⟩⟩)
      rw [unhide HGE, ← hK]
      exact hJ _ _ _ _ hs0.j hst
end Go.Proofs.YthcljhfankooaabGreat
