/- Values that are alike: what a store makes of them is the same. TermOwn: the walk. -/
import Derived.Test.YtbfkcfhkccicoaaDoorSides
import Derived.Test.YtbfkcfhkccicoaaDoorMSpo
import Derived.Test.YtbfkcfhkccicoaaDoorAliveW
namespace Go.Proofs.YtbfkcfhkccicoaaDoor
open Go.RowKit Go.Maps

theorem allTo_congr {f g : Nat → Bool} : ∀ n, (∀ i, i < n → f i = g i) → allTo f n = allTo g n
  | 0, _ => rfl
  | n + 1, h => by simp only [allTo]; rw [allTo_congr n (fun i hi => h i (by omega)), h n (by omega)]
theorem sumTo_congr {f g : Nat → Nat} : ∀ n, (∀ i, i < n → f i = g i) → sumTo f n = sumTo g n
  | 0, _ => rfl
  | n + 1, h => by simp only [sumTo]; rw [sumTo_congr n (fun i hi => h i (by omega)), h n (by omega)]
theorem may_like : ∀ u v : V, u.ord v = 0 → ∀ d, u.may d = v.may d := by
  refine V.ind fun u ih v h d => ?_
  obtain ⟨h1, h2, h3, h4, h5⟩ := (ord_zero u v).1 h
  rw [V.may_eq, V.may_eq, h1, h2, h3, h4, allTo_congr (g := fun i => (v.kid i).may (d - 1)) v.len (fun i hi => ih i (by omega) _ (h5 i (by omega)) _)]
theorem size_like : ∀ u v : V, u.ord v = 0 → u.size = v.size := by
  refine V.ind fun u ih v h => ?_
  obtain ⟨h1, h2, h3, h4, h5⟩ := (ord_zero u v).1 h
  rw [V.size_eq, V.size_eq, h4, sumTo_congr (g := fun i => (v.kid i).size) v.len (fun i hi => ih i (by omega) _ (h5 i (by omega)))]
theorem right_like {u v : V} (h : u.ord v = 0) : u.right = v.right := by
  unfold V.right
  rw [may_like u v h, size_like u v h]
theorem argsTo_congr {f g : Nat → SS → (Int × Int) × SS} (S : SS) : ∀ n, (∀ i, i < n → ∀ S, f i S = g i S) → argsTo f n S = argsTo g n S
  | 0, _ => rfl
  | n + 1, h => by simp only [argsTo]; rw [argsTo_congr S n (fun i hi => h i (by omega))]; simp only [h n (by omega)]
theorem putV_like : ∀ u v : V, u.ord v = 0 → ∀ d, v.may d = true → ∀ S, u.putV S = v.putV S := by
  refine V.ind fun u ih v h d hm S => ?_
  obtain ⟨h1, h2, h3, h4, h5⟩ := (ord_zero u v).1 h
  rcases kinds_of hm with hk | hk | hk
  · rw [V.putV_num hk, V.putV_num (h1.trans hk), h2]
  · rw [V.putV_sym hk, V.putV_sym (h1.trans hk), h3]
  · rw [V.putV_con hk, V.putV_con (h1.trans hk), h3, h4]
    have e : argsTo (fun i S => (u.kid i).putV S) v.len S = argsTo (fun i S => (v.kid i).putV S) v.len S :=
      argsTo_congr S v.len (fun i hi S => ih i (by omega) _ (h5 i (by omega)) (d - 1) (may_kids hm hk i hi) S)
    rw [e]
    have e2 : ∀ nums, nodeAt u nums v.len = nodeAt v nums v.len := fun nums => by
      funext j
      unfold nodeAt
      rw [h4]
      by_cases hj : j - 2 < v.len
      · have := ((ord_zero _ _).1 (h5 (j - 2) (by omega))).1
        simp only [hj, if_true, this]
      · simp only [hj, if_false]
    rw [e2]
theorem putAll_like {u v : V} (h : u.ord v = 0) (S : SS) : putAll u S = putAll v S := by
  unfold putAll
  rw [right_like h]
  cases hr : v.right with
  | true => simp only [if_true]; exact putV_like u v h 32 (right_may hr) S
  | false => rfl
theorem copied_any : ∀ v : V, CopC v := V.ind fun v ih => copied_step v ih
theorem spoil_any (P : Nat → Prop) (d : Nat) : SpC P d := Nat.strongRecOn d (fun d ih => spoil_step P d ih)
/-- A value of one's own is written over. -/
theorem spoil_own {P : Nat → Prop} {B : Nat} {w : World} (u : V) (h : u.At B w) (hp : u.Pl w) (hu : ∀ k, u.uses k → P k) (hP : ∀ b, P b → b < w.heap.size) :
    Calls Tryd.prog 10 #[u.val] w fun e w' => e = .returned (.tuple #[]) ∧ Turn P w w' := by
  obtain ⟨d, hd⟩ := sf_of (P := P) u h hp hu
  refine (spoil_any P d u.kind u.num u.str u.addr u.len u.cap w hd h.flat.l hP).mono ?_
  rintro e w' ⟨rfl, hz⟩
  exact ⟨rfl, hz.turn⟩
theorem Side.turned {W wr w2 : World} {p : SP} {r : RP} {S : SS} {R : RS} {O : Nat → Prop} (h : Side W wr p r S R) (t : Turn O wr w2) (h1 : ∀ k, O k → W.heap.size ≤ k) (h2 : ∀ k, O k → ¬ (k = p.sb ∨ p.own k)) (h3 : ∀ k, O k → ¬ r.own k) : Side W w2 p r S R :=
  ⟨h.bw.trans (t.below h.bw.size h1), h.sto.stays t (fun k e q => h2 k q e), h.rsto.stays t (fun k e q => h3 k q e), fun i hi => (h.lie i hi).below (t.below h.bw.size h1), h.agree, h.long, h.thin, h.pb, h.rb, Nat.le_trans h.rle t.size, h.apart⟩
end Go.Proofs.YtbfkcfhkccicoaaDoor

namespace Go.Proofs.YtbfkcfhkccicoaaDoor
open Go.RowKit Go.Maps

theorem min10 (n : Nat) : ∃ M : Nat, min (n : Int) 10 = (M : Int) ∧ M ≤ n ∧ M ≤ 10 := ⟨min n 10, by omega, by omega, by omega⟩
/-- The copy is put, the value is put, the copy is written over. -/
theorem own_next {W wB wC w5 w6 w7 : World} {p p2 : SP} {r r' : RP} {S : SS} {R : RS} {u v : V} (h : Side W (wC.alloc u.obj) p r S R) (hp : ∀ k, (k = p.sb ∨ p.own k) → k < wB.heap.size) (hr : ∀ k, r.own k → k < wB.heap.size) (hWB : W.heap.size ≤ wB.heap.size) (st : Step (wC.alloc u.obj) w5 p p2) (hs : Sto w5 p2 (putAll v S).2) (rst : RStep w5 w6 r r')
    (hrs : RSto w6 r' (rputAll v R).2.xs (rputAll v R).2.cs) (hl : (rputAll v R).2.Lie W.heap.size w6) (t : Turn (fun b => wB.heap.size ≤ b ∧ b < wC.heap.size) w6 w7) : Side W w7 p2 r' (putAll v S).2 (rputAll v R).2 := by
  have hn := h.next st hs (Below.refl _ _) rst hrs hl
  have hsz : (wC.alloc u.obj).heap.size = wC.heap.size + 1 := by simp
  have h5 := st.turn.size
  refine hn.turned t (fun k e => by omega) (fun k e q => ?_) (fun k e q => ?_)
  · rcases q with q | q
    · have := hp k (.inl (q.trans st.sb)); omega
    · rcases st.own k q with q | q
      · have := hp k (.inr q); omega
      · omega
  · rcases rst.own k q with q | q
    · have := hr k q; omega
    · omega
def BothN (W wr : World) (sb rb : Nat) (p : SP) (r : RP) (S : SS) (R : RS) : Prop := Side W wr p r S R ∧ p.sb = sb ∧ r.rb = rb

open Go.BigFrame in
set_option maxRecDepth 100000 in
set_option maxHeartbeats 8000000 in
theorem termOwn_walk (W : World) (L : V) (hL : L.At W.heap.size W) (hcap : L.len ≤ L.cap) (hc63 : L.cap ≤ 9223372036854775807) (ht : Tbl W.heap.size W) :
    Calls Tryd.prog 3 #[.slice L.addr L.len L.cap] W fun e w' => e = .returned (.bool true) ∧ Below W.heap.size W w' := by
  have HL := hide hL
  have HT := hide ht
  obtain ⟨M, hM, hM1, hM2⟩ := min10 L.len
  have hMc : M ≤ L.cap := by omega
  clear ht hL
  generalize hla : L.addr = la
  have HLA := hide hla
  clear hla
  go_enter Tryd.func3, Tryd.ntmps3
  go_wp2_with fail
  refine (storeNew_any W).mono ?_
  rintro e w1 ⟨p, rfl, hp, hS, b1⟩
  have HS := hide hS
  have HP := hide hp
  clear hS hp
  go_wp2_with fail
  have bx := below_box w1 (.cells #[.slice none 0 0, .slice none 0 0] 29)
  have bw1 : Below W.heap.size W (w1.alloc (.cells #[.slice none 0 0, .slice none 0 0] 29)) := b1.trans (bx.mono b1.size)
  refine (alive_any W.heap.size _ bw1.size ((unhide HT).below bw1)).mono ?_
  rintro e w2 ⟨rfl, b2⟩
  have hside : Side W w2 p ⟨w1.heap.size, w1.heap.size, none, 0, none, 0⟩ S0 ⟨[], []⟩ := by
    refine Side.later ⟨bw1, (unhide HS).later bx, rsto_new w1, fun i hi => absurd hi (Nat.not_lt_zero i), agree_new, (fun l hl => by cases hl), (fun l hl => by cases hl), Nat.le_of_eq (unhide HP).symm, b1.size, by simp, ?_⟩ b2
    intro k e q
    have hk : k = w1.heap.size := by
      rcases q with q | q | q
      · exact q
      · cases q
      · cases q
    rcases e with e | e
    · have := Sym.lt_of_heap (unhide HS).st; omega
    · have := ((unhide HS).own_lt k e).2; omega
  have HSD := hide hside
  clear hside bx bw1 b2 b1 HS HP
  obtain ⟨sb, hsb⟩ : ∃ sb, sb = p.sb := ⟨_, rfl⟩
  obtain ⟨rb, hrb⟩ : ∃ rb, rb = w1.heap.size := ⟨_, rfl⟩
  have HB : Hid (Both W w2 sb rb) := ⟨p, _, _, _, unhide HSD, hsb.symm, hrb.symm⟩
  rw [← hsb, ← hrb]
  clear HSD hsb hrb
  clear p
  go_wp2_with fail
  go_loopw [30] (fun i wr => ∃ k : Nat, k ≤ M ∧ i = .int .i64 k ∧ Hid (Both W wr sb rb)) (fun i _ => M - (intOf i).toNat)
  case atStart => exact ⟨0, Nat.zero_le _, rfl, HB⟩
  case round =>
    obtain ⟨k, hk, rfl, hR⟩ := hrel
    clear HB
    obtain ⟨p, r, S, R, hs, hsb, hrb⟩ := unhide hR
    clear hR
    by_cases hlt : k < M
    · have hkl : k < L.len := by omega
      have hatk : (L.kid k).At W.heap.size W := (unhide HL).kid k hkl
      obtain ⟨b, o, ha, hb, hc⟩ := ((unhide HL).below hs.bw).flat.at_ k hkl
      rw [unhide HLA] at ha
      subst ha
      have c0 := hc.c0
      have c1 := hc.c1
      have c2 := hc.c2
      have c3 := hc.c3
      obtain ⟨v, hv⟩ : ∃ v, v = L.kid k := ⟨_, rfl⟩
      rw [← hv] at c0 c1 c2 c3 hatk
      have hs1 := hs.later (below_box wr v.obj)
      have HRT := hide (rright_any v W.heap.size (wr.alloc v.obj) (hatk.below hs1.bw) hs1.bw.size)
      have HX := hide (boxed wr v)
      have HS1 := hide hs1
      have HAT := hide hatk
      have HSL := hide (show wr.heap.size < (wr.alloc v.obj).heap.size by simp)
      have HOLD : Hid ((∀ k, (k = p.sb ∨ p.own k) → k < wr.heap.size) ∧ ∀ k, r.own k → k < wr.heap.size) := ⟨fun k e => e.elim (fun e => by rw [e]; exact Sym.lt_of_heap hs.sto.st) (fun e => (hs.sto.own_lt k e).2), fun k e => (hs.rsto.own_lt k e).2⟩
      clear hs hs1 hatk hc hv
      generalize hrt : v.right = rt at HRT
      go_wp2_with fail
      refine (unhide HRT).mono ?_
      rintro e w3 ⟨rfl, b3⟩
      have HS3 := hide ((unhide HS1).later b3)
      have HX3 := hide ((unhide HX).below b3 (unhide HSL))
      have HL3 := hide (Nat.lt_of_lt_of_le (unhide HSL) b3.size)
      clear c0 c1 c2 c3 HX HS1 HSL b3 HRT
      obtain ⟨x0, x1, x2, x3⟩ := (unhide HX3).z
      cases rt with
      | false =>
        have HB3 : Hid (Both W w3 sb rb) := ⟨p, r, S, R, unhide HS3, hsb, hrb⟩
        clear HS3 hsb hrb
        go_wp2_with fail
        go_roundw
        case rel => exact ⟨k + 1, by omega, by go_num, HB3⟩
        case measure => simp [intOf]; omega
      | true =>
        have HRR := hide hrt
        have HCP := hide (copied_any v W.heap.size w3 32 ((unhide HAT).below (unhide HS3).bw) (unhide HS3).bw.size (right_may hrt))
        clear hrt
        go_wp2_with fail
        refine (unhide HCP).mono ?_
        rintro e wC ⟨_, rfl, ⟨u, rfl, hu, hul, huf, hup⟩, bC⟩
        have bD : Below w3.heap.size w3 (wC.alloc u.obj) := bC.trans ((below_box wC u.obj).mono bC.size)
        have HSD := hide ((unhide HS3).later bD)
        have HXD := hide ((unhide HX3).below bD (unhide HL3))
        have HYD := hide (boxed wC u)
        have HU : Hid (u.At wC.heap.size (wC.alloc u.obj) ∧ u.ord v = 0 ∧ (∀ k, u.uses k → w3.heap.size ≤ k) ∧ u.Pl (wC.alloc u.obj)) := ⟨hu.below (below_box wC u.obj), hul, huf, hup.below (below_box wC u.obj)⟩
        have HBC := hide bC
        have HLD := hide (Nat.lt_of_lt_of_le (unhide HL3) bD.size)
        have HLE := hide (Nat.le_trans (Nat.le_of_lt (unhide HL3)) (Nat.le_refl w3.heap.size))
        have HPUT : Hid (Calls Tryd.prog 8 #[.pointer (some ⟨sb, 0, none⟩), u.val] (wC.alloc u.obj) fun e w' => e = .returned (.tuple #[.int .i64 (putAll v S).1.1, .int .i64 (putAll v S).1.2]) ∧ ∃ p', Sto w' p' (putAll v S).2 ∧ Step (wC.alloc u.obj) w' p p') := by
          have h := unhide HSD
          have := sput_any u wC.heap.size (wC.alloc u.obj) p S (unhide HU).1 (by simp) (fun k e q => by have h1 := (unhide HU).2.2.1 k e; have h2 := (unhide HOLD).1 k (.inr q); have h3 := unhide HL3; omega) h.sto h.agree.ok
          rw [hsb, putAll_like (unhide HU).2.1] at this
          exact this
        clear x0 x1 x2 x3 HCP hu hul huf hup bC bD HX3
        obtain ⟨x0, x1, x2, x3⟩ := (unhide HXD).z
        obtain ⟨y0, y1, y2, y3⟩ := (unhide HYD).z
        generalize hpr : (putAll v S).1 = pr at HPUT
        go_wp2_with fail
        refine (unhide HPUT).mono ?_
        rintro e w5 ⟨rfl, p2, hs5, st⟩
        have HX5 : Hid (CellsAt w5 wr.heap.size 0 v) := (unhide HXD).turn st.turn (unhide HLD) (fun e => Nat.lt_irrefl _ ((unhide HOLD).1 _ (.inr e)))
        have HY5 : Hid (CellsAt w5 wC.heap.size 0 u) := (unhide HYD).turn st.turn (by simp) (fun e => by have h1 := (unhide HOLD).1 _ (.inr e); have h2 := unhide HL3; have h3 := (unhide HBC).size; omega)
        have HU5 : Hid (u.At wC.heap.size w5 ∧ u.Pl w5) := by
          have hno : ∀ k, u.uses k → ¬ p.own k := fun k e q => by have h1 := (unhide HU).2.2.1 k e; have h2 := (unhide HOLD).1 k (.inr q); have h3 := unhide HL3; omega
          exact ⟨V.At.turn' st.turn u (unhide HU).1 hno, V.Pl.turn st.turn u (unhide HU).2.2.2 hno⟩
        have HS5 := hide hs5
        have HST := hide st
        clear x0 x1 x2 x3 y0 y1 y2 y3 HPUT HXD HYD hs5 st hpr
        obtain ⟨x0, x1, x2, x3⟩ := (unhide HX5).z
        have HRP : Hid (Calls Tryd.prog 9 #[.pointer (some ⟨rb, 0, none⟩), v.val] w5 fun e w' => e = .returned (.tuple #[.int .i64 (rputAll v R).1.1, .int .i64 (rputAll v R).1.2]) ∧ ∃ r', RSto w' r' (rputAll v R).2.xs (rputAll v R).2.cs ∧ RStep w5 w' r r' ∧ (rputAll v R).2.Lie W.heap.size w') := by
          have h := unhide HSD
          have hm := h.mid (unhide HST)
          have hb5 := h.bw.trans (h.step (unhide HST))
          have := rsPut_any v W.heap.size w5 r R ((unhide HAT).below hb5) h.rb (Nat.le_trans h.rle (unhide HST).turn.size) hm.1 hm.2
          rw [hrb] at this
          refine this.mono ?_
          rintro e w' ⟨rfl, r', hr', rst, hl⟩
          exact ⟨rfl, r', hr', rst, hl⟩
        generalize hrp : (rputAll v R).1 = pr2 at HRP
        go_wp2_with fail
        refine (unhide HRP).mono ?_
        rintro e w6 ⟨rfl, r', hr', rst, hl6⟩
        have h5s : (wC.alloc u.obj).heap.size ≤ w5.heap.size := (unhide HST).turn.size
        have HY6 : Hid (CellsAt w6 wC.heap.size 0 u) := (unhide HY5).turn rst.turn (by simp at h5s; omega) (fun e => by have h1 := (unhide HOLD).2 _ e; have h2 := unhide HL3; have h3 := (unhide HBC).size; omega)
        have HSP : Hid (Calls Tryd.prog 10 #[u.val] w6 fun e w' => e = .returned (.tuple #[]) ∧ Turn (fun b => w3.heap.size ≤ b ∧ b < wC.heap.size) w6 w') := by
          have hno : ∀ k, u.uses k → ¬ r.own k := fun k e q => by have h1 := (unhide HU).2.2.1 k e; have h2 := (unhide HOLD).2 k q; have h3 := unhide HL3; omega
          have hat := V.At.turn' rst.turn u (unhide HU5).1 hno
          have hpl := V.Pl.turn rst.turn u (unhide HU5).2 hno
          refine spoil_own u hat hpl (fun k e => ⟨(unhide HU).2.2.1 k e, V.uses_lt u hat k e⟩) (fun b e => ?_)
          have := rst.turn.size
          simp at h5s
          omega
        have HN6 : Hid (∀ w7, Turn (fun b => w3.heap.size ≤ b ∧ b < wC.heap.size) w6 w7 → Both W w7 sb rb) := fun w7 t => by
          have hl3 := unhide HL3
          exact ⟨p2, r', _, _, own_next (unhide HSD) (fun k e => by have := (unhide HOLD).1 k e; omega) (fun k e => by have := (unhide HOLD).2 k e; omega) (unhide HS3).bw.size (unhide HST) (unhide HS5) rst hr' hl6 t, (unhide HST).sb.trans hsb, rst.rb.trans hrb⟩
        clear x0 x1 x2 x3 HRP HX5 HY5 HU5 HU hr' rst hl6 hrp h5s
        obtain ⟨y0, y1, y2, y3⟩ := (unhide HY6).z
        go_wp2_with fail
        refine (unhide HSP).mono ?_
        rintro e w7 ⟨rfl, t7⟩
        have HB7 := hide (unhide HN6 w7 t7)
        clear y0 y1 y2 y3 HSP HN6 HY6 t7
        go_wp2_with fail
        go_roundw
        case rel => exact ⟨k + 1, by omega, by go_num, HB7⟩
        case measure => simp [intOf]; omega
    · have hk2 : k = M := by omega
      subst hk2
      have hg : ¬ ((k : Int) < (k : Int)) := by omega
      have hlen : Calls Tryd.prog 11 #[.pointer (some ⟨sb, 0, none⟩)] wr fun e w' => e = .returned (.int .i64 (R.cs.length : Int)) ∧ w' = wr := by
        have := slen_any hs.sto
        rw [hsb, ← hs.agree.len] at this
        exact this
      have HS := hide hs
      have hcl : R.cs.length ≤ 16384 := hs.rsto.cl
      clear hs
      go_wp2_with fail
      refine hlen.mono ?_
      clear hlen
      rintro e w' ⟨rfl, hw'⟩
      subst hw'
      go_wp2_with fail
      obtain ⟨N, hN⟩ : ∃ N, N = R.cs.length := ⟨_, rfl⟩
      rw [← hN]
      rw [← hN] at hcl
      have HN := hide hN
      clear hN
      go_loopw [49] (fun i wr2 => ∃ j : Nat, j ≤ N ∧ i = .int .i64 j ∧ Hid (Side W wr2 p r S R)) (fun i _ => N - (intOf i).toNat)
      case atStart => exact ⟨0, Nat.zero_le _, rfl, HS⟩
      case round =>
        obtain ⟨j, hj, rfl, hR2⟩ := hrel
        clear HS
        have hs := unhide hR2
        clear hR2
        by_cases hlt2 : j < N
        · have hgj : (j : Int) < (N : Int) := by omega
          have HB1 : Hid (Calls Tryd.prog 12 #[.pointer (some ⟨sb, 0, none⟩), .int .i64 3, .int .i64 (j : Int)] wr fun e w' => ∃ q, e = .returned (.tuple #[q, .bool (rbackV R 3 j).2]) ∧ Got wr w' (rbackV R 3 j).1 q ∧ Below wr.heap.size wr w') := by
            have := sback_agree wr p S R 3 (j : Int) hs.sto hs.agree hs.long hs.thin hs.small (by omega)
            rw [hsb] at this
            exact this
          have HOLD : Hid ((∀ k, (k = p.sb ∨ p.own k) → k < wr.heap.size) ∧ ∀ k, r.own k → k < wr.heap.size) := ⟨fun k e => e.elim (fun e => by rw [e]; exact Sym.lt_of_heap hs.sto.st) (fun e => (hs.sto.own_lt k e).2), fun k e => (hs.rsto.own_lt k e).2⟩
          have HS1 := hide hs
          clear hs
          generalize rbackV R 3 j = y at HB1
          obtain ⟨q, is⟩ := y
          go_wp2_with fail
          refine (unhide HB1).mono ?_
          rintro e w2 ⟨_, rfl, ⟨u, rfl, hu, hul, huf, hup⟩, b2⟩
          have bA : Below wr.heap.size wr (w2.alloc u.obj) := b2.trans ((below_box w2 u.obj).mono b2.size)
          have HS2 := hide ((unhide HS1).later bA)
          have HSP : Hid (Calls Tryd.prog 10 #[u.val] (w2.alloc u.obj) fun e w' => e = .returned (.tuple #[]) ∧ Turn (fun b => wr.heap.size ≤ b ∧ b < w2.heap.size) (w2.alloc u.obj) w') :=
            spoil_own u (hu.below (below_box w2 u.obj)) (hup.below (below_box w2 u.obj)) (fun k e => ⟨huf k e, V.uses_lt u hu k e⟩) (fun b e => by simp; omega)
          have HY := hide (boxed w2 u)
          have HWS := hide (unhide HS1).bw.size
          clear HB1 hu hul huf hup b2 bA HS1
          obtain ⟨y0, y1, y2, y3⟩ := (unhide HY).z
          go_wp2_with fail
          refine (unhide HSP).mono ?_
          rintro e w4 ⟨rfl, t4⟩
          have HS4 : Hid (Side W w4 p r S R) := (unhide HS2).turned t4 (fun k e => by have := unhide HWS; omega) (fun k e q => by have := (unhide HOLD).1 k q; omega) (fun k e q => by have := (unhide HOLD).2 k q; omega)
          clear y0 y1 y2 y3 HSP HY HS2 t4 HOLD HWS
          go_wp2_with fail
          go_roundw
          case rel => exact ⟨j + 1, by omega, by go_num, HS4⟩
          case measure => simp [intOf]; omega
        · have hgj : ¬ ((j : Int) < (N : Int)) := by omega
          have hlen : Calls Tryd.prog 11 #[.pointer (some ⟨sb, 0, none⟩)] wr fun e w' => e = .returned (.int .i64 (N : Int)) ∧ w' = wr := by
            have := slen_any hs.sto
            rw [hsb, ← hs.agree.len, ← unhide HN] at this
            exact this
          have HS := hide hs
          clear hs
          go_wp2_with fail
          refine hlen.mono ?_
          clear hlen
          rintro e w' ⟨rfl, hw'⟩
          subst hw'
          go_wp2_with fail
          go_loopw [63] (fun i wr2 => ∃ j : Nat, j ≤ N ∧ i = .int .i64 j ∧ Hid (Side W wr2 p r S R)) (fun i _ => N - (intOf i).toNat)
          case atStart => exact ⟨0, Nat.zero_le _, rfl, HS⟩
          case round =>
            obtain ⟨j, hj, rfl, hR2⟩ := hrel
            clear HS
            have hs := unhide hR2
            clear hR2
            by_cases hlt2 : j < N
            · have hgj : (j : Int) < (N : Int) := by omega
              have hjb : -9223372036854775808 ≤ (j : Int) ∧ (j : Int) ≤ 9223372036854775807 := by omega
              have HB1 : Hid (Calls Tryd.prog 12 #[.pointer (some ⟨sb, 0, none⟩), .int .i64 3, .int .i64 (j : Int)] wr fun e w' => ∃ q, e = .returned (.tuple #[q, .bool (rbackV R 3 j).2]) ∧ Got wr w' (rbackV R 3 j).1 q ∧ Below wr.heap.size wr w') := by
                have := sback_agree wr p S R 3 (j : Int) hs.sto hs.agree hs.long hs.thin hs.small hjb
                rw [hsb] at this
                exact this
              have HB2 : Hid (∀ w', Below wr.heap.size wr w' → Calls Tryd.prog 13 #[.pointer (some ⟨rb, 0, none⟩), .int .i64 3, .int .i64 (j : Int)] w' fun e w2 => e = .returned (.tuple #[(rbackV R 3 j).1.val, .bool (rbackV R 3 j).2]) ∧ Below w'.heap.size w' w2) := fun w' hw => by
                have := rsBack_any w' r R (hs.later hw).rsto 3 (j : Int)
                rw [hrb] at this
                exact this
              have HQ : Hid (∀ w', Below wr.heap.size wr w' → (rbackV R 3 j).1.At W.heap.size w') := fun w' hw => rback_at (hs.later hw) hjb
              have HBW := hide hs.bw
              have HS1 := hide hs
              clear hs
              generalize rbackV R 3 j = y at HB1 HB2 HQ
              obtain ⟨q, is⟩ := y
              go_wp2_with fail
              refine (unhide HB1).mono ?_
              rintro e w2 ⟨_, rfl, ⟨u, rfl, hu, hul, huf, _⟩, b2⟩
              have bA : Below wr.heap.size wr (w2.alloc u.obj) := b2.trans ((below_box w2 u.obj).mono b2.size)
              have HU : Hid (u.At w2.heap.size w2 ∧ u.ord q = 0) := ⟨hu, hul⟩
              have HBA := hide bA
              clear hu hul huf bA b2 HB1
              go_wp2_with fail
              refine (unhide HB2 _ (unhide HBA)).mono ?_
              rintro e w3 ⟨rfl, b3⟩
              have bq := below_box w3 q.obj
              have b4 : Below (w2.alloc u.obj).heap.size (w2.alloc u.obj) (w3.alloc q.obj) := b3.trans (bq.mono b3.size)
              have b5 : Below wr.heap.size wr (w3.alloc q.obj) := (unhide HBA).trans (b4.mono (unhide HBA).size)
              have HBX : Hid (CellsAt (w3.alloc q.obj) w2.heap.size 0 u) := (boxed w2 u).below b4 (by simp)
              have HBY : Hid (CellsAt (w3.alloc q.obj) w3.heap.size 0 q) := boxed w3 q
              have HRW : Hid (Calls Tryd.prog 14 #[u.val, q.val] (w3.alloc q.obj) fun e w' => e = .returned (.bool true) ∧ Below (w3.alloc q.obj).heap.size (w3.alloc q.obj) w') := by
                have hW : W.heap.size ≤ (w3.alloc q.obj).heap.size := ((unhide HBW).trans (b5.mono (unhide HBW).size)).size
                have h2 : Below w2.heap.size w2 (w3.alloc q.obj) := (below_box w2 u.obj).trans (b4.mono (by simp))
                have := raw_any u q (w3.alloc q.obj).heap.size (w3.alloc q.obj) (((unhide HU).1.below h2).more h2.size _) ((unhide HQ _ b5).more hW _) (Nat.le_refl _)
                rw [(unhide HU).2] at this
                exact this
              obtain ⟨x0, x1, x2, x3⟩ := (unhide HBX).z
              obtain ⟨z0, z1, z2, z3⟩ := (unhide HBY).z
              have HS5 := hide ((unhide HS1).later b5)
              clear b3 bq b4 b5 HBX HBY HB2 HQ HU HBA HBW HS1
              go_wp2_with fail
              refine (unhide HRW).mono ?_
              rintro e w7 ⟨rfl, b7⟩
              have HS7 := hide ((unhide HS5).later b7)
              clear x0 x1 x2 x3 z0 z1 z2 z3 HRW HS5 b7
              go_wp2_with fail
              go_roundw
              case rel => exact ⟨j + 1, by omega, by go_num, HS7⟩
              case measure => simp [intOf]; omega
            · have hgj : ¬ ((j : Int) < (N : Int)) := by omega
              have C : Hid (∀ i : Later wr, Calls Tryd.prog 11 #[.pointer (some ⟨sb, 0, none⟩)] i.val fun e w' => e = .returned (.int .i64 (R.cs.length : Int)) ∧ ∃ z : Later wr, w' = z.val) := fun i => by
                have := slen_any (hs.later i.h).sto
                rw [hsb, ← hs.agree.len] at this
                refine this.mono ?_
                rintro e w' ⟨rfl, rfl⟩
                exact ⟨rfl, i, rfl⟩
              have r1 : ∀ i : Later wr, i.val.cell? ⟨rb, 1, none⟩ = some (.slice r.ca R.cs.length r.cc) := fun i => by
                have := (hs.later i.h).rsto.c1
                rw [hrb] at this
                exact this
              have HE : Hid (∀ i : Later wr, Below W.heap.size W i.val) := fun i => (hs.later i.h).bw
              clear hs
              go_wp2_with fail
              refine region_later (by kernel_rfl) (by kernel_rfl) ?_
              repeat (go_big_quiet_step ((go_at_call 11; exact unhide C _)))
              refine wpQuiet_nil ?_
              intro w7 hw7
              obtain ⟨i, hw8⟩ := hw7
              subst hw8
              have HW := hide (unhide HE i)
              clear r1 C HE
              generalize i.val = w7 at HW ⊢
              go_wp2_with fail
              go_ret
              exact ⟨rfl, unhide HW⟩
end Go.Proofs.YtbfkcfhkccicoaaDoor
