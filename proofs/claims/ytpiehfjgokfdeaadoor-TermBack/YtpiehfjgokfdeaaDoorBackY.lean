/- The walk of TermBack. -/
import Derived.Test.YtpiehfjgokfdeaaDoorBackXP
import Derived.Test.YtpiehfjgokfdeaaDoorFrame
namespace Go.Proofs.YtpiehfjgokfdeaaDoor
open Go.RowKit Go.Maps

theorem min200 (n : Nat) : ∃ M : Nat, min (n : Int) 200 = (M : Int) ∧ M ≤ n ∧ M ≤ 200 := ⟨min n 200, by omega, by omega, by omega⟩

theorem at_eq {B : Nat} {w : World} {L : V} {b o : Nat} (h : L.At B w) (ha : L.addr = some ⟨b, o, none⟩) {j : Nat} (hj : j < L.len) : CellsAt w b (o + j * 4) (L.kid j) := by
  obtain ⟨b', o', e, _, hc⟩ := h.flat.at_ j hj
  rw [ha] at e
  cases e
  exact hc
theorem box_facts_at {X w2 : World} {g : Nat} (b : Below (X.alloc (.cells #[.int .i64 0, .int .i64 0, .string ⟨#[]⟩, .slice none 0 0] 24)).drew.heap.size (X.alloc (.cells #[.int .i64 0, .int .i64 0, .string ⟨#[]⟩, .slice none 0 0] 24)).drew w2) (hg : X.heap.size = g) :
    w2.cell? ⟨g, 0, none⟩ = some (.int .i64 0) ∧ w2.cell? ⟨g, 1, none⟩ = some (.int .i64 0) ∧ w2.cell? ⟨g, 2, none⟩ = some (.string ⟨#[]⟩) ∧ w2.cell? ⟨g, 3, none⟩ = some (.slice none 0 0) ∧ ∀ o, w2.frozen? ⟨g, o, none⟩ = false := by
  subst hg; exact box_facts b
theorem made_before_at {wr w2 : World} {u x : V} {g : Nat} (hg : wr.heap.size = g) (b2 : Below (wr.alloc (.cells #[.int .i64 0, .int .i64 0, .string ⟨#[]⟩, .slice none 0 0] 24)).drew.heap.size (wr.alloc (.cells #[.int .i64 0, .int .i64 0, .string ⟨#[]⟩, .slice none 0 0] 24)).drew w2) (hu : u.At w2.heap.size w2) (hul : u.ord x = 0) (huf : ∀ k, u.uses k → (wr.alloc (.cells #[.int .i64 0, .int .i64 0, .string ⟨#[]⟩, .slice none 0 0] 24)).drew.heap.size ≤ k) :
    Made wr ((((w2.setCell ⟨g, 0, none⟩ (.int .i64 u.kind)).setCell ⟨g, 1, none⟩ (.int .i64 u.num)).setCell ⟨g, 2, none⟩ (.string u.str)).setCell ⟨g, 3, none⟩ (.slice u.addr u.len u.cap)) g u x := by
  subst hg; exact made_before b2 hu hul huf

open Go.BigFrame in
set_option maxRecDepth 100000 in
set_option maxHeartbeats 8000000 in
theorem termBack_walk (W : World) (L : V) (hL : L.At W.heap.size W) (hcap : L.len ≤ L.cap) (hc63 : L.cap ≤ 9223372036854775807) (ht : Tbl W.heap.size W) :
    Calls Tryd.prog 7 #[.slice L.addr L.len L.cap] W fun e w' => e = .returned (.bool true) ∧ Below W.heap.size W w' := by
  have HL := hide hL
  have HT := hide ht
  obtain ⟨i0, hi, hz0, hz1, hz2⟩ := info_parts infoInt
  have HI := hide (And.intro hi (And.intro hz0 (And.intro hz1 hz2)))
  obtain ⟨M, hM, hM1, hM2⟩ := min200 L.len
  have hMc : M ≤ L.cap := by omega
  clear hi hz0 hz1 hz2 ht hL
  generalize hla : L.addr = la
  have HLA := hide hla
  clear hla
  go_enter Tryd.func7, Tryd.ntmps7
  go_wp2_with fail
  refine (storeNew_any W).mono ?_
  rintro e w1 ⟨p, rfl, hp, hS, b1⟩
  have HS := hide hS
  have HP := hide hp
  clear hS hp
  go_wp2_with fail
  refine (alive_any W.heap.size w1 b1.size ((unhide HT).below b1)).mono ?_
  rintro e w2 ⟨rfl, b2⟩
  have c2 : Below W.heap.size W w2 := b1.trans (b2.mono b1.size)
  have S2 := hide ((unhide HS).later b2)
  have hs2 := c2.size
  go_wp2_with (at_make; refine wpList_make_full _ rfl _ _ 49 rfl W.heap.size 3 i0 (.int .i64 0) 1 Tryd.underlying49 (unhide HI).1 (unhide HI).2.1 (unhide HI).2.2.1 _ _ _ _ M rfl rfl rfl rfl (by rw [(unhide HI).2.2.2]; omega) (by unfold maxLen; omega) hs2 ?_; intro w3 hown hgrow)
  have hP : PL W w3 L p p.sb w2.heap.size M 0 := by
    have hb := (unhide S2)
    have c3 : Below w2.heap.size w2 w3 := (Below.refl _ _).grown hgrow (Nat.le_refl _) (fun k e => by cases e)
    have hsb : p.sb < w2.heap.size := Sym.lt_of_heap hb.st
    refine ⟨c2.trans (c3.mono hs2), hb.later c3, putsOk_zero _, Nat.le_of_eq (unhide HP).symm, ?_, fun e => by have := (hb.own_lt _ e).2; omega, by omega, rfl⟩
    rw [numsTo_zero, List.map_replicate]
    have := hown
    rw [show (Value.int .i64 0).cells = #[Value.int .i64 0] from rfl, toList_madeCells_one, Nat.mul_one] at this
    exact this
  generalize w2.heap.size = g at hP ⊢
  obtain ⟨sb, hsb⟩ : ∃ sb, sb = p.sb := ⟨_, rfl⟩
  rw [← hsb] at hP ⊢
  have HPL : Hid (∃ p, PL W w3 L p sb g M 0) := ⟨p, hP⟩
  clear hown hgrow hP hs2 c2 S2 b2 HS HP b1 hsb
  clear p
  go_wp2_with fail
  go_loopw [31] (fun i wr => ∃ k : Nat, k ≤ M ∧ i = .int .i64 k ∧ Hid (∃ p, PL W wr L p sb g M k)) (fun i _ => M - (intOf i).toNat)
  case atStart => exact ⟨0, Nat.zero_le _, rfl, HPL⟩
  case round =>
    obtain ⟨k, hk, rfl, hR⟩ := hrel
    clear HPL
    obtain ⟨p, hp⟩ := unhide hR
    clear hR
    have HPL := hide hp
    by_cases hlt : k < M
    · have hkl : k < L.len := by omega
      have hatk : (L.kid k).At W.heap.size W := (unhide HL).kid k hkl
      have HAT := hide hatk
      obtain ⟨b, o, ha, hb, hc⟩ := ((unhide HL).below hp.bw).flat.at_ k hkl
      rw [unhide HLA] at ha
      subst ha
      have c0 := hc.c0
      have c1 := hc.c1
      have c2 := hc.c2
      have c3 := hc.c3
      have HPUT : Hid (Calls Tryd.prog 20 #[.pointer (some ⟨sb, 0, none⟩), (L.kid k).val] (wr.alloc (L.kid k).obj) fun e w' => e = .returned (.tuple #[.int .i64 (numAt L.kid k), .int .i64 (errAt L.kid k)]) ∧ ∃ p', Sto w' p' (putAll (L.kid k) (putsTo L.kid k)).2 ∧ Step (wr.alloc (L.kid k).obj) w' p p') := by
        have b1 := below_box wr (L.kid k).obj
        have := sput_any (L.kid k) W.heap.size (wr.alloc (L.kid k).obj) p (putsTo L.kid k) ((hatk.below hp.bw).below (b1.mono hp.bw.size)) (by have := hp.bw.size; simp; omega) (hp.uses hatk) (hp.sto.later b1) hp.ok.ok
        rw [hp.sb] at this
        exact this
      have HERR := hide (putAll_err (L.kid k) (putsTo L.kid k))
      clear hp hc hatk
      go_wp2_with fail
      refine (unhide HPUT).mono ?_
      rintro e w2 ⟨rfl, p2, S2, st⟩
      have HS2 := hide S2
      have HST := hide st
      obtain ⟨n, hn⟩ : ∃ n, n = numAt L.kid k := ⟨_, rfl⟩
      have HN := hide hn
      rw [← hn]
      clear c0 c1 c2 c3 HPUT S2 hn
      rcases unhide HERR with he | ⟨he, hr⟩ | he
      · replace he : errAt L.kid k = 0 := he
        have HE := hide he
        rw [he]
        obtain ⟨⟨c, m0⟩, m1⟩ := (unhide HPL).cell_step st hlt
        clear he st
        go_wp2_with fail
        go_roundw
        case rel => exact ⟨k + 1, by omega, by go_num, ⟨p2, by have := (unhide HPL).next (unhide HST) (unhide HS2) (unhide HE); rw [← unhide HN] at this; exact this⟩⟩
        case measure => simp [intOf]; omega
      · replace he : errAt L.kid k = 1 := he
        rw [he]
        have hob := (unhide HPL).box_step st
        have x0 : w2.cell? ⟨wr.heap.size, 0, none⟩ = some (.int .i64 (L.kid k).kind) := by simp [World.cell?, hob, V.obj]
        have x1 : w2.cell? ⟨wr.heap.size, 1, none⟩ = some (.int .i64 (L.kid k).num) := by simp [World.cell?, hob, V.obj]
        have x2 : w2.cell? ⟨wr.heap.size, 2, none⟩ = some (.string (L.kid k).str) := by simp [World.cell?, hob, V.obj]
        have x3 : w2.cell? ⟨wr.heap.size, 3, none⟩ = some (.slice (L.kid k).addr (L.kid k).len (L.kid k).cap) := by simp [World.cell?, hob, V.obj]
        have bw := (unhide HPL).below_step st
        have HR := hide hr
        clear he st hob hr
        go_wp2_with fail
        refine (right_any (L.kid k) W.heap.size w2 ((unhide HAT).below bw) bw.size).mono ?_
        rw [unhide HR]
        rintro e w4 ⟨rfl, b4⟩
        have cw : Below W.heap.size W w4 := bw.trans (b4.mono bw.size)
        clear b4 bw x0 x1 x2 x3
        go_wp2_with fail
        go_ret
        exact ⟨rfl, cw⟩
      · replace he : errAt L.kid k = 18 := he
        rw [he]
        have bw := (unhide HPL).below_step st
        clear he st
        go_wp2_with fail
        go_ret
        exact ⟨rfl, bw⟩
    · have hk2 : k = M := by omega
      subst hk2
      go_wp2_with fail
      obtain ⟨wE, rfl⟩ : ∃ x, x = wr := ⟨_, rfl⟩
      clear hk hlt hp hM
      go_loopw [62] (fun i wr => ∃ q : Nat, q ≤ k ∧ i = .int .i64 q ∧ Below wE.heap.size wE wr) (fun i _ => k - (intOf i).toNat)
      case atStart => exact ⟨0, Nat.zero_le _, rfl, Below.refl _ _⟩
      case round =>
        obtain ⟨q, hq, rfl, hbE⟩ := hrel
        have hpr := (unhide HPL).later hbE
        have HPR := hide hpr
        have HBE := hide hbE
        by_cases hlt : q < k
        · have hql : q < L.len := by omega
          have hatq : (L.kid q).At W.heap.size W := (unhide HL).kid q hql
          have HAT := hide hatq
          obtain ⟨b, o, ha, hb, hc⟩ := ((unhide HL).below hpr.bw).flat.at_ q hql
          rw [unhide HLA] at ha
          subst ha
          have c0 := hc.c0
          have c1 := hc.c1
          have c2 := hc.c2
          have c3 := hc.c3
          obtain ⟨n, hn⟩ : ∃ n, n = numAt L.kid q := ⟨_, rfl⟩
          have HN := hide hn
          have HCALL : Hid (∀ w', Below wr.heap.size wr w' → Calls Tryd.prog 23 #[.pointer (some ⟨sb, 0, none⟩), .int .i64 (L.kid q).kind, .int .i64 n] w' fun e w2 => ∃ r, e = .returned (.tuple #[r, .bool true]) ∧ Got w' w2 (L.kid q) r ∧ Below w'.heap.size w' w2) := fun w' hw => by
            have h1 := hpr.later hw
            have := sback_any (L.kid q) w' p (putsTo L.kid k) 32 (numAt L.kid q) h1.sto h1.ok.long (right_may (h1.ok.right q hlt)) (V.At.small _ hatq) (h1.ok.isIn q hlt)
            rw [h1.sb] at this
            rw [hn]
            exact this
          have n0 : ∀ w', Below wr.heap.size wr w' → w'.cell? ⟨g, q, none⟩ = some (.int .i64 n) := fun w' hw => by rw [hn]; exact (hpr.later hw).num_at hlt
          have b1 := below_box wr (L.kid q).obj
          have HB1 := hide b1
          have bA : Below wr.heap.size wr (wr.alloc (L.kid q).obj).drew := b1.drew
          have bB : Below wr.heap.size wr ((wr.alloc (L.kid q).obj).alloc (.cells #[.int .i64 0, .int .i64 0, .string ⟨#[]⟩, .slice none 0 0] 24)).drew := (b1.alloc b1.size _).drew
          have nA := n0 _ bA
          have nB := n0 _ bB
          have kA : (wr.alloc (L.kid q).obj).drew.cell? ⟨wr.heap.size, 0, none⟩ = some (.int .i64 (L.kid q).kind) := (boxed wr (L.kid q)).c0
          have kB : ((wr.alloc (L.kid q).obj).alloc (.cells #[.int .i64 0, .int .i64 0, .string ⟨#[]⟩, .slice none 0 0] 24)).drew.cell? ⟨wr.heap.size, 0, none⟩ = some (.int .i64 (L.kid q).kind) :=
            (World.cell?_alloc_lt (wr.alloc (L.kid q).obj) _ _ (by show wr.heap.size < _; simp)).trans (boxed wr (L.kid q)).c0
          have HBA := hide bA
          have HBB := hide bB
          clear hpr hc hatq n0 b1 bA bB hn hbE
          go_wp2_with fail
          clear c0 c1 c2 c3
          go_cut [11, 12] from 67 to 77 (fun b c w => c = .bool true ∧ ∃ gu u, b = .pointer (some ⟨gu, 0, none⟩) ∧ Made (wr.alloc (L.kid q).obj) w gu u (L.kid q))
          case first =>
            go_region_with (go_at_call 23; refine (unhide HCALL _ (by first | exact unhide HBA | exact unhide HBB)).mono ?_; rintro e w2 ⟨r, rfl, ⟨u, rfl, hu, hul, huf⟩, b2⟩; first | (have hbf := box_facts_at (g := wr.heap.size + 1) b2 (by simp); obtain ⟨x0, x1, x2, x3, f0⟩ := hbf) | skip)
            all_goals go_wp2_with fail
            all_goals go_meet
            all_goals first
              | exact ⟨rfl, _, u, rfl, made_after b2 hu hul huf⟩
              | exact ⟨rfl, _, u, rfl, made_before_at (g := wr.heap.size + 1) (by simp) b2 hu hul huf⟩
          case rest =>
            obtain ⟨rfl, gu, u, rfl, hMd⟩ := hcut
            have bM : Below wr.heap.size wr wc := (unhide HB1).trans (hMd.below.mono (by simp))
            have hbv : CellsAt wc wr.heap.size 0 (L.kid q) := (boxed wr (L.kid q)).below hMd.below (by simp)
            obtain ⟨x0, x1, x2, x3⟩ := hbv.z
            obtain ⟨y0, y1, y2, y3⟩ := hMd.box.z
            have bWc : Below W.heap.size W wc := (unhide HPR).bw.trans (bM.mono (unhide HPR).bw.size)
            have HRAW : Hid (Calls Tryd.prog 25 #[(L.kid q).val, u.val] wc fun e w' => e = .returned (.bool true) ∧ Below wc.heap.size wc w') := by
              have := raw_any (L.kid q) u wc.heap.size wc (((unhide HAT).below bWc).more bWc.size _) hMd.at_ (Nat.le_refl _)
              rw [ord_back hMd.like] at this
              exact this
            have HBV := hide hbv
            have HBM := hide bM
            clear hMd hbv bM bWc nA nB kA kB HCALL
            go_wp2_with fail
            refine (unhide HRAW).mono ?_
            rintro e w5 ⟨rfl, b5⟩
            have hbv5 := hide ((unhide HBV).below b5 (by
              have h1 := World.block_lt_of_cell? _ _ (unhide HBV).c0
              exact h1))
            have b6 : Below wr.heap.size wr w5 := (unhide HBM).trans (b5.mono (unhide HBM).size)
            have HB6 := hide b6
            clear x0 x1 x2 x3 y0 y1 y2 y3 b5 b6 HRAW HBV HBM
            go_wp2_with fail
            obtain ⟨wR, rfl⟩ : ∃ x, x = wr := ⟨_, rfl⟩
            go_loopw [87] (fun i wr => ∃ j : Nat, j ≤ q ∧ i = .int .i64 j ∧ Below w5.heap.size w5 wr) (fun i _ => q - (intOf i).toNat)
            case atStart => exact ⟨0, Nat.zero_le _, rfl, Below.refl _ _⟩
            case round =>
              obtain ⟨j, hj, rfl, hb5⟩ := hrel
              have b7 : Below wR.heap.size wR wr := (unhide HB6).trans (hb5.mono (unhide HB6).size)
              by_cases hjq : j < q
              · have hjl : j < L.len := by omega
                have hjk : j < k := by omega
                have hi : ∀ i : Later wr, Below wR.heap.size wR i.val := fun i => b7.trans (i.h.mono b7.size)
                have hp : ∀ i : Later wr, PL W i.val L p sb g k k := fun i => (unhide HPR).later (hi i)
                have hcj : ∀ i : Later wr, CellsAt i.val b (o + j * 4) (L.kid j) := fun i => at_eq ((unhide HL).below (hp i).bw) (unhide HLA) hjl
                have hv5 : ∀ i : Later wr, CellsAt i.val wR.heap.size 0 (L.kid q) := fun i => (unhide hbv5).below (hb5.trans (i.h.mono hb5.size)) (World.block_lt_of_cell? _ _ (unhide hbv5).c0)
                obtain ⟨n', hn'⟩ : ∃ n', n' = numAt L.kid j := ⟨_, rfl⟩
                obtain ⟨sm, hsm⟩ : ∃ sm, sm = (ordAll (L.kid j) (L.kid q) == 0) := ⟨_, rfl⟩
                have e0 := fun i : Later wr => (hcj i).c0
                have e1 := fun i : Later wr => (hcj i).c1
                have e2 := fun i : Later wr => (hcj i).c2
                have e3 := fun i : Later wr => (hcj i).c3
                have x0 := fun i : Later wr => (hv5 i).z.1
                have x1 := fun i : Later wr => (hv5 i).z.2.1
                have x2 := fun i : Later wr => (hv5 i).z.2.2.1
                have x3 := fun i : Later wr => (hv5 i).z.2.2.2
                have m0 : ∀ i : Later wr, i.val.cell? ⟨g, j, none⟩ = some (.int .i64 n') := fun i => by rw [hn']; exact (hp i).num_at hjk
                have m1 : ∀ i : Later wr, i.val.cell? ⟨g, q, none⟩ = some (.int .i64 n) := fun i => by rw [unhide HN]; exact (hp i).num_at hlt
                have C : Hid (∀ i : Later wr, Calls Tryd.prog 13 #[(L.kid j).val, (L.kid q).val] i.val fun e w' => e = .returned (.bool sm) ∧ ∃ z : Later wr, w' = z.val) := fun i => by
                  have h1 := (hp i).bw
                  have := same_any (L.kid j) (L.kid q) W.heap.size i.val (((unhide HL).kid j hjl).below h1) ((unhide HAT).below h1) h1.size
                  rw [← hsm] at this
                  exact Calls.later this
                have HSAME : Hid ((L.kid j).kind = (L.kid q).kind → (n' == n) = sm) := fun e => by
                  rw [hn', hsm, unhide HN]
                  exact (unhide HPR).ok.same hlt hjk e
                have HHI : Hid (∀ i : Later wr, Below w5.heap.size w5 i.val) := fun i => hb5.trans (i.h.mono hb5.size)
                clear hi hp hcj hv5 hn' hsm b7 hb5
                cases hkk : ((L.kid j).kind == (L.kid q).kind) with
                | true =>
                  have hsame := unhide HSAME (by simpa using hkk)
                  subst hsame
                  have hne : ((n' == n) != (n' == n)) = false := by simp
                  clear HSAME
                  go_wp2_with fail
                  refine region_later (by kernel_rfl) (by kernel_rfl) ?_
                  repeat (go_big_quiet_step ((go_at_call 13; exact unhide C _)))
                  refine wpQuiet_nil ?_
                  intro w7 hw7
                  obtain ⟨i, hw8⟩ := hw7
                  subst hw8
                  have HW := hide (unhide HHI i)
                  clear e0 e1 e2 e3 x0 x1 x2 x3 m0 m1 C HHI
                  generalize i.val = w7 at HW ⊢
                  go_wp2_with fail
                  go_roundw
                  case rel => exact ⟨j + 1, by omega, by go_num, unhide HW⟩
                  case measure => simp [intOf]; omega
                | false =>
                  clear HSAME
                  go_wp2_with fail
                  refine region_later (by kernel_rfl) (by kernel_rfl) ?_
                  repeat (go_big_quiet_step ((go_at_call 13; exact unhide C _)))
                  refine wpQuiet_nil ?_
                  intro w7 hw7
                  obtain ⟨i, hw8⟩ := hw7
                  subst hw8
                  have HW := hide (unhide HHI i)
                  clear e0 e1 e2 e3 x0 x1 x2 x3 m0 m1 C HHI
                  generalize i.val = w7 at HW ⊢
                  go_wp2_with fail
                  go_roundw
                  case rel => exact ⟨j + 1, by omega, by go_num, unhide HW⟩
                  case measure => simp [intOf]; omega
              · have hw : Below wE.heap.size wE wr := (unhide HBE).trans (b7.mono (unhide HBE).size)
                have HW := hide hw
                clear hw b7 hb5
                go_wp2_with fail
                go_roundw
                case rel => exact ⟨q + 1, by omega, by go_num, unhide HW⟩
                case measure => simp [intOf]; omega
        · have hq2 : q = k := by omega
          subst hq2
          have bw := hpr.bw
          clear hpr hbE
          go_wp2_with fail
          go_ret
          exact ⟨rfl, bw⟩
end Go.Proofs.YtpiehfjgokfdeaaDoor
